import Derived.Test.YtlohbaoigfaneaaGreatLnn
import Derived.Test.YtlohbaoigfaneaaGreatItv
import Derived.Test.YtlohbaoigfaneaaGreatBrk
namespace Go.Proofs.YtlohbaoigfaneaaGreat
open Go.RowKit
set_option linter.unusedVariables false
set_option linter.unusedSimpArgs false
def pluTo (a b : List Int) : Nat → List Int
 | 0 => a.set 0 (wrap64 (a.getD 0 0 + b.getD 0 0))
 | k + 1 => ((pluTo a b k).set (1 + k) (wrap64 ((pluTo a b k).getD (1 + k) 0 + b.getD (1 + k) 0))).set (5 + k) (wrap64 ((pluTo a b k).getD (5 + k) 0 + b.getD (5 + k) 0))
theorem pluTo_len (a b : List Int) : ∀ k, (pluTo a b k).length = a.length
 | 0 => by simp [pluTo]
 | k + 1 => by simp [pluTo, pluTo_len a b k]
set_option maxRecDepth 20000 in
set_option maxHeartbeats 4000000 in
theorem plusAll_any (a b : List Int) (ha : a.length = 9) (hb : b.length = 9) (w : World) :
 Calls Tryz.prog 115 #[Shr.mea a, Shr.mea b] w fun e w' => e = .returned (Shr.mea (pluTo a b 4)) ∧ Below w.heap.size w w' := by
 obtain ⟨R, hR⟩ : ∃ R, R = w.heap.size := ⟨_, rfl⟩
 obtain ⟨W1, hW1⟩ : ∃ W, W = ((w.alloc (.cells (a.map (Value.int .i64)).toArray 116)).alloc (.cells (b.map (Value.int .i64)).toArray 116)).alloc (.cells #[.int .i64 0, .int .i64 0, .int .i64 0, .int .i64 0, .int .i64 0, .int .i64 0, .int .i64 0, .int .i64 0, .int .i64 0] 116) := ⟨_, rfl⟩
 have I0 : Hid (IntsL W1 R 116 a ∧ IntsL W1 (R + 1) 116 b ∧ IntsL W1 (R + 1 + 1) 116 [0, 0, 0, 0, 0, 0, 0, 0, 0] ∧ Below w.heap.size w W1) := hideP (by
  rw [hW1, hR]
  have e1 : IntsL (w.alloc (.cells (a.map (Value.int .i64)).toArray 116)) w.heap.size 116 a := heap_alloc_new w _
  have e2 : IntsL ((w.alloc (.cells (a.map (Value.int .i64)).toArray 116)).alloc (.cells (b.map (Value.int .i64)).toArray 116)) (w.heap.size + 1) 116 b := by
   have := heap_alloc_new (w.alloc (.cells (a.map (Value.int .i64)).toArray 116)) (.cells (b.map (Value.int .i64)).toArray 116)
   unfold IntsL
   simpa using this
  have e3 : IntsL (((w.alloc (.cells (a.map (Value.int .i64)).toArray 116)).alloc (.cells (b.map (Value.int .i64)).toArray 116)).alloc (.cells #[.int .i64 0, .int .i64 0, .int .i64 0, .int .i64 0, .int .i64 0, .int .i64 0, .int .i64 0, .int .i64 0, .int .i64 0] 116)) (w.heap.size + 1 + 1) 116 [0, 0, 0, 0, 0, 0, 0, 0, 0] := by
   have := heap_alloc_new ((w.alloc (.cells (a.map (Value.int .i64)).toArray 116)).alloc (.cells (b.map (Value.int .i64)).toArray 116)) (.cells #[.int .i64 0, .int .i64 0, .int .i64 0, .int .i64 0, .int .i64 0, .int .i64 0, .int .i64 0, .int .i64 0, .int .i64 0] 116)
   unfold IntsL
   simpa using this
  exact ⟨(e1.alloc _).alloc _, e2.alloc _, e3, (((Below.refl _ _).alloc (Nat.le_refl _) _).alloc (by simp) _).alloc (by simp; omega) _⟩)
 have HA := hideP ha
 have HB := hideP hb
 have a0 := I0.out.1.cell 0 (by omega)
 have b0 := I0.out.2.1.cell 0 (by omega)
 obtain ⟨x0, hx0⟩ : ∃ x, x = a.getD 0 0 := ⟨_, rfl⟩
 obtain ⟨y0, hy0⟩ : ∃ x, x = b.getD 0 0 := ⟨_, rfl⟩
 rw [← hx0] at a0
 rw [← hy0] at b0
 have HXY : Hid (pluTo a b 0 = a.set 0 (wrap64 (x0 + y0))) := hideP (by rw [pluTo, hx0, hy0])
 have fa : ∀ j, W1.frozen? ⟨R, j, none⟩ = false := I0.out.1.free
 have HRL : Hid (R = w.heap.size) := hideP hR
 have AC : Hid (∀ (X : World) (ty : Nat), True) := hideP (fun _ _ => trivial)
 clear hx0 hy0
 have hAl : ∃ z0 z1 z2 z3 z4 z5 z6 z7 z8, a = [z0, z1, z2, z3, z4, z5, z6, z7, z8] := mea_nine a ha
 have hBl : ∃ z0 z1 z2 z3 z4 z5 z6 z7 z8, b = [z0, z1, z2, z3, z4, z5, z6, z7, z8] := mea_nine b hb
 obtain ⟨p0, p1, p2, p3, p4, p5, p6, p7, p8, hp⟩ := hAl
 obtain ⟨r0, r1, r2, r3, r4, r5, r6, r7, r8, hr⟩ := hBl
 have hma : Shr.mea a = .agg #[.int .i64 p0, .int .i64 p1, .int .i64 p2, .int .i64 p3, .int .i64 p4, .int .i64 p5, .int .i64 p6, .int .i64 p7, .int .i64 p8] := by rw [hp]; rfl
 have hmb : Shr.mea b = .agg #[.int .i64 r0, .int .i64 r1, .int .i64 r2, .int .i64 r3, .int .i64 r4, .int .i64 r5, .int .i64 r6, .int .i64 r7, .int .i64 r8] := by rw [hr]; rfl
 have hW2 : W1 = ((w.alloc (.cells #[.int .i64 p0, .int .i64 p1, .int .i64 p2, .int .i64 p3, .int .i64 p4, .int .i64 p5, .int .i64 p6, .int .i64 p7, .int .i64 p8] 116)).alloc (.cells #[.int .i64 r0, .int .i64 r1, .int .i64 r2, .int .i64 r3, .int .i64 r4, .int .i64 r5, .int .i64 r6, .int .i64 r7, .int .i64 r8] 116)).alloc (.cells #[.int .i64 0, .int .i64 0, .int .i64 0, .int .i64 0, .int .i64 0, .int .i64 0, .int .i64 0, .int .i64 0, .int .i64 0] 116) := by rw [hW1, hp, hr]; rfl
 rw [hma, hmb]
 have HP : Hid (a = [p0, p1, p2, p3, p4, p5, p6, p7, p8] ∧ b = [r0, r1, r2, r3, r4, r5, r6, r7, r8]) := hideP ⟨hp, hr⟩
 clear hma hmb hp hr hW1 ha hb AC
 go_enter Tryz.func115, Tryz.ntmps115
 go_upto_region 1 with fail
 rw [← hW2, ← hR]
 clear hW2 hR
 go_upto_region 2 with fail
 obtain ⟨W2, hW2⟩ : ∃ W, W = W1.setCell ⟨R, 0, none⟩ (.int .i64 (wrap64 (x0 + y0))) := ⟨_, rfl⟩
 rw [← hW2]
 have J0 : Hid (IntsL W2 R 116 (pluTo a b 0) ∧ IntsL W2 (R + 1) 116 b ∧ Fr R W1 W2) := hideP (by
  rw [hW2, HXY.out]
  refine ⟨I0.out.1.set 0 _, ?_, (Fr.refl _ _).set _ _⟩
  exact (Below.heap_setCell _ _ _ _ (by simp)).trans I0.out.2.1)
 clear hW2 a0 b0 fa
 go_wp2
 go_loopw [12] (fun s wr => ∃ (k : Nat), k ≤ 4 ∧ s = .int .i64 (k : Int) ∧ Hid (IntsL wr R 116 (pluTo a b k) ∧ IntsL wr (R + 1) 116 b ∧ Fr R W1 wr)) (fun s wr => (4 - (intOf s)).toNat)
 case atStart => exact ⟨0, by omega, rfl, J0⟩
 case round =>
  obtain ⟨k, hk, rfl, HJ⟩ := hrel
  by_cases hk4 : k < 4
  ·have hki : (k : Int) < 4 := by omega
   obtain ⟨h1, h2, h3⟩ := HJ.out
   obtain ⟨Z, hZ⟩ : ∃ Z, Z = pluTo a b k := ⟨_, rfl⟩
   have hZl : Z.length = 9 := by rw [hZ, pluTo_len]; exact HA.out
   rw [← hZ] at h1
   have za := h1.cell (1 + k) (by omega)
   have zb := h1.cell (5 + k) (by omega)
   have ba := h2.cell (1 + k) (by have := HB.out; omega)
   have bb := h2.cell (5 + k) (by have := HB.out; omega)
   obtain ⟨xa, hxa⟩ : ∃ x, x = Z.getD (1 + k) 0 := ⟨_, rfl⟩
   obtain ⟨xb, hxb⟩ : ∃ x, x = Z.getD (5 + k) 0 := ⟨_, rfl⟩
   obtain ⟨ya, hya⟩ : ∃ x, x = b.getD (1 + k) 0 := ⟨_, rfl⟩
   obtain ⟨yb, hyb⟩ : ∃ x, x = b.getD (5 + k) 0 := ⟨_, rfl⟩
   rw [← hxa] at za
   rw [← hxb] at zb
   rw [← hya] at ba
   rw [← hyb] at bb
   have HN : Hid (pluTo a b (k + 1) = (Z.set (1 + k) (wrap64 (xa + ya))).set (5 + k) (wrap64 (xb + yb))) := hideP (by
    rw [pluTo, ← hZ, ← hxa, ← hya, ← hyb, ← hxb])
   have fz := h1.free
   have H1 := hideP h1
   have H2 := hideP h2
   have H3 := hideP h3
   have n1 : ¬ 5 + k = 1 + k := by omega
   have n2 : ¬ 1 + k = 5 + k := by omega
   clear h1 h2 h3 hZ hxa hxb hya hyb
   go_wp2
   go_region
   go_wp2
   go_region
   go_wp2
   go_roundw
   case rel =>
    refine ⟨k + 1, by omega, by simp, hideP ⟨?_, ?_, ?_⟩⟩
    ·rw [HN.out]
     have HI2 := H1.out
     repeat (first | with_reducible exact HI2 | with_reducible refine IntsL.set ?_ _ _ | with_reducible refine IntsL.alloc ?_ _ | with_reducible refine IntsL.drew ?_)
    ·have HI2 := H2.out
     repeat (first | with_reducible exact HI2 | with_reducible refine IntsL.far (by omega) ?_ _ _ | with_reducible refine IntsL.drew ?_)
    ·have HF2 := H3.out
     repeat (first | with_reducible exact HF2 | with_reducible refine Fr.set ?_ _ _ | with_reducible refine Fr.alloc ?_ _ | with_reducible refine Fr.drew ?_)
   case measure => simp [intOf]; omega
  ·obtain rfl : k = 4 := by omega
   obtain ⟨h1, h2, h3⟩ := HJ.out
   have hk2 : wr.heap[R + 1 + 1]? = some (.cells #[.int .i64 0, .int .i64 0, .int .i64 0, .int .i64 0, .int .i64 0, .int .i64 0, .int .i64 0, .int .i64 0, .int .i64 0] 116 (0, 0)) := (h3.2.2.2.2 _ I0.out.2.2.1.lt (by omega)).trans I0.out.2.2.1
   obtain ⟨Z, hZ⟩ : ∃ Z, Z = pluTo a b 4 := ⟨_, rfl⟩
   have hZl : Z.length = 9 := by rw [hZ, pluTo_len]; exact HA.out
   obtain ⟨z0, z1, z2, z3, z4, z5, z6, z7, z8, hz⟩ := mea_nine Z hZl
   rw [← hZ, hz] at h1
   have HZ9 := hideP (hZ.symm.trans hz)
   have q0 := h1.cell 0 (by simp)
   have q1 := h1.cell 1 (by simp)
   have q2 := h1.cell 2 (by simp)
   have q3 := h1.cell 3 (by simp)
   have q4 := h1.cell 4 (by simp)
   have q5 := h1.cell 5 (by simp)
   have q6 := h1.cell 6 (by simp)
   have q7 := h1.cell 7 (by simp)
   have q8 := h1.cell 8 (by simp)
   simp only [List.getD_cons_zero, List.getD_cons_succ] at q0 q1 q2 q3 q4 q5 q6 q7 q8
   have fz : ∀ j, wr.frozen? ⟨R + 1 + 1, j, none⟩ = false := fun j => frozen_of_row wr _ j _ 116 hk2
   have hcs : ∀ j, j < 9 → wr.cell? ⟨R + 1 + 1, j, none⟩ = some (.int .i64 0) := fun j hj => by
    rw [cell_of_row wr _ j _ 116 _ hk2]
    rcases (show j = 0 ∨ j = 1 ∨ j = 2 ∨ j = 3 ∨ j = 4 ∨ j = 5 ∨ j = 6 ∨ j = 7 ∨ j = 8 by omega) with rfl | rfl | rfl | rfl | rfl | rfl | rfl | rfl | rfl <;> rfl
   have r0 := hcs 0 (by omega)
   have r1 := hcs 1 (by omega)
   have r2 := hcs 2 (by omega)
   have r3 := hcs 3 (by omega)
   have r4 := hcs 4 (by omega)
   have r5 := hcs 5 (by omega)
   have r6 := hcs 6 (by omega)
   have r7 := hcs 7 (by omega)
   have r8 := hcs 8 (by omega)
   have H3 := hideP h3
   have K2 := hideP hk2
   clear h1 h2 h3 hk2 hZ hz hZl hcs
   go_wp2
   obtain ⟨X, hX⟩ : ∃ X, X = ((((((((wr.setCell ⟨R + 1 + 1, 0, none⟩ (.int .i64 z0)).setCell ⟨R + 1 + 1, 1, none⟩ (.int .i64 z1)).setCell ⟨R + 1 + 1, 2, none⟩ (.int .i64 z2)).setCell ⟨R + 1 + 1, 3, none⟩ (.int .i64 z3)).setCell ⟨R + 1 + 1, 4, none⟩ (.int .i64 z4)).setCell ⟨R + 1 + 1, 5, none⟩ (.int .i64 z5)).setCell ⟨R + 1 + 1, 6, none⟩ (.int .i64 z6)).setCell ⟨R + 1 + 1, 7, none⟩ (.int .i64 z7)).setCell ⟨R + 1 + 1, 8, none⟩ (.int .i64 z8) := ⟨_, rfl⟩
   have RX : X.heap[R + 1 + 1]? = some (.cells #[.int .i64 z0, .int .i64 z1, .int .i64 z2, .int .i64 z3, .int .i64 z4, .int .i64 z5, .int .i64 z6, .int .i64 z7, .int .i64 z8] 116 (0, 0)) := by
    rw [hX]
    have i0 : IntsL wr (R + 1 + 1) 116 [0, 0, 0, 0, 0, 0, 0, 0, 0] := K2.out
    have e8 := ((((((((i0.set 0 z0).set 1 z1).set 2 z2).set 3 z3).set 4 z4).set 5 z5).set 6 z6).set 7 z7).set 8 z8
    simp only [List.set_cons_zero, List.set_cons_succ] at e8
    exact e8
   have BX : Below w.heap.size w X := by
    have hb := I0.out.2.2.2
    have e := HRL.out
    have hf : Shr.Fr R w wr := ⟨H3.out.1.trans hb.os, H3.out.2.1.trans hb.tape, H3.out.2.2.1.trans hb.output, Nat.le_trans hb.size H3.out.2.2.2.1, fun k hk hne => (H3.out.2.2.2.2 k (Nat.lt_of_lt_of_le hk hb.size) hne).trans (hb.block k hk)⟩
    rw [hX]
    have s : ∀ {A : World} (j : Nat) (v : Value), Shr.Fr R w A → Shr.Fr R w (A.setCell ⟨R + 1 + 1, j, none⟩ v) := fun j v h => h.set (.inr (by show w.heap.size ≤ R + 1 + 1; omega)) v
    exact (s 8 _ (s 7 _ (s 6 _ (s 5 _ (s 4 _ (s 3 _ (s 2 _ (s 1 _ (s 0 _ hf))))))))).toBelow (by omega) (Nat.le_refl _)
   rw [← hX, HZ9.out]
   exact bodyPost_ret (v := .agg #[.int .i64 z0, .int .i64 z1, .int .i64 z2, .int .i64 z3, .int .i64 z4, .int .i64 z5, .int .i64 z6, .int .i64 z7, .int .i64 z8]) (results_cell_row rfl _ _ (R + 1 + 1) 116 _ (0, 0) _ rfl RX Tryz.underlying116 rfl (by kernel_rfl)) rfl ⟨rfl, BX⟩
def triP (tt pr co : Int) (em hn : Bool) : List Value := [.int .i64 tt, .int .i64 pr, .int .i64 co, .bool em, .bool hn]
structure TriA (w : World) (B : Nat) (tt pr co : Int) (em hn : Bool) (A L : List Int) (hg : Int) : Prop where
 la : A.length = 10
 ll : L.length = 10
 row : w.heap[B]? = some (.cells (triP tt pr co em hn ++ A.map (Value.int .i64) ++ (L.map (Value.int .i64) ++ [Value.int .i64 hg])).toArray 120 (0, 0))
section
variable {w : World} {B : Nat} {tt pr co hg : Int} {em hn : Bool} {A L : List Int}
theorem TriA.lt (h : TriA w B tt pr co em hn A L hg) : B < w.heap.size := (Array.getElem?_eq_some_iff.1 h.row).1
theorem TriA.above (h : TriA w B tt pr co em hn A L hg) : IntsV w B 120 5 (triP tt pr co em hn) A (L.map (Value.int .i64) ++ [Value.int .i64 hg]) := ⟨rfl, h.row⟩
theorem TriA.of_above {A' : List Int} (h : IntsV w B 120 5 (triP tt pr co em hn) A' (L.map (Value.int .i64) ++ [Value.int .i64 hg])) (h1 : A'.length = 10) (h2 : L.length = 10) : TriA w B tt pr co em hn A' L hg := ⟨h1, h2, h.2⟩
end
theorem ten_of (zs : List Int) (h : zs.length = 10) : ∃ z0 z1 z2 z3 z4 z5 z6 z7 z8 z9, zs = [z0, z1, z2, z3, z4, z5, z6, z7, z8, z9] := by
 match zs, h with
 | [a, b, c, d, e, f, g, i, j, k], _ => exact ⟨_, _, _, _, _, _, _, _, _, _, rfl⟩
theorem row_set {w : World} {B T : Nat} {vs : List Value} (h : w.heap[B]? = some (.cells vs.toArray T (0, 0))) (j : Nat) (v : Value) : (w.setCell ⟨B, j, none⟩ v).heap[B]? = some (.cells (vs.set j v).toArray T (0, 0)) := by
 rw [heap_setCell_same w B _ _ T v h, List.setIfInBounds_toArray]
def lowI (x : Nd) (I L : List Int) : List Int := if 0 < x.kids then pluTo (L.take 9) (I.take 9) 4 ++ [I.getD 9 0] else L
theorem lowI_len (x : Nd) (I L : List Int) (h : L.length = 10) : (lowI x I L).length = 10 := by
 unfold lowI
 split
 ·simp [pluTo_len, h]
 ·exact h
set_option maxRecDepth 20000 in
set_option maxHeartbeats 8000000 in
theorem triAddA_any {w : World} {B : Nat} {tt pr co hg : Int} {em hn : Bool} {A L : List Int} (h : TriA w B tt pr co em hn A L hg) (x : Nd) (hx : Ord x) (h11 : ¬ x.k = 11) (a e : Int) (I : List Int) (hI : I.length = 10) :
 Calls Tryz.prog 94 #[.pointer (some ⟨B, 0, none⟩), .agg #[thV x, .int .i64 a, .int .i64 e], .agg (I.map (Value.int .i64)).toArray] w fun e w' => (∃ v, e = .returned v) ∧ TriA w' B tt pr co em hn (pAdI 0 x A) L hg ∧ Fr B w w' := by
 obtain ⟨n0, n1, n2, hs, _⟩ := ask_note x
 rw [show (x.k == 11) = false by simp [h11]] at hs
 obtain ⟨i0, i1, i2, i3, i4, i5, i6, i7, i8, i9, rfl⟩ := ten_of I hI
 have hsh := thV_shape x
 have GC : Hid (∀ W, IntsV W B 120 5 (triP tt pr co em hn) A (L.map (Value.int .i64) ++ [Value.int .i64 hg]) → Calls Tryz.prog 90 #[.pointer (some ⟨B, 5, none⟩), thV x] W fun e w' => (∃ v, e = .returned v) ∧ IntsV w' B 120 5 (triP tt pr co em hn) (pAdI 0 x A) (L.map (Value.int .i64) ++ [Value.int .i64 hg]) ∧ Fr B W w') := hideP (fun W hW => paddV_any 5 x hW (by have := h.la; omega) hx)
 have HL := hideP (show (pAdI 0 x A).length = 10 ∧ L.length = 10 from ⟨by rw [pAdI_len]; exact h.la, h.ll⟩)
 have HI := hideP h.above
 have hB := h.lt
 have hB1 : B < w.heap.size + 1 := by omega
 have hB2 : B < w.heap.size + 1 + 1 := by omega
 have hB3 : ¬ B = w.heap.size := by omega
 have hB4 : ¬ B = w.heap.size + 1 := by omega
 have hB5 : ¬ B = w.heap.size + 1 + 1 := by omega
 clear h h11 hI
 obtain ⟨v, hv⟩ : ∃ v, v = thV x := ⟨_, rfl⟩
 rw [← hv] at hs hsh GC ⊢
 clear hv
 rcases hsh with rfl | ⟨X, q, rfl⟩
 all_goals
  simp only [List.map_cons, List.map_nil] at *
  go_enter Tryz.func94, Tryz.ntmps94
  go_wp2
  go_region_with (go_at_call 90; refine (GC.out _ (IntsV.drew (((HI.out.alloc _).alloc _).alloc _))).mono ?_; rintro e w5 ⟨⟨vr, rfl⟩, hi5, hf5⟩; have HI5 := hideP hi5; have HF5 := hideP (Fr.trans (Fr.drew ((((Fr.refl B w).alloc _).alloc _).alloc _)) hf5); clear hi5 hf5)
  go_wp2
  refine bodyPost_ret (results_none rfl _ _ _) rfl ?_
  exact ⟨⟨_, rfl⟩, TriA.of_above HI5.out HL.out.1 HL.out.2, HF5.out⟩
set_option maxRecDepth 20000 in
set_option maxHeartbeats 8000000 in
theorem triAddB_any {w : World} {B : Nat} {tt pr co hg : Int} {em hn : Bool} {A L : List Int} (h : TriA w B tt pr co em hn A L hg) (x : Nd) (h11 : x.k = 11) (a e : Int) (I : List Int) (hI : I.length = 10) :
 Calls Tryz.prog 94 #[.pointer (some ⟨B, 0, none⟩), .agg #[thV x, .int .i64 a, .int .i64 e], .agg (I.map (Value.int .i64)).toArray] w fun e w' => (∃ v, e = .returned v) ∧ TriA w' B tt pr co em true A (lowI x I L) (wrap64 (hg + x.ht)) ∧ Fr B w w' := by
 obtain ⟨n0, n1, n2, hs, hse⟩ := ask_note x
 rw [show (x.k == 11) = true by simp [h11]] at hs
 obtain ⟨rfl, rfl, rfl⟩ := hse h11
 have hsh := thV_shape x
 have hB := h.lt
 have hB1 : B < w.heap.size + 1 := by omega
 have hB2 : B < w.heap.size + 1 + 1 := by omega
 have hB3 : ¬ B = w.heap.size := by omega
 have hB4 : ¬ B = w.heap.size + 1 := by omega
 have hB5 : ¬ B = w.heap.size + 1 + 1 := by omega
 obtain ⟨i0, i1, i2, i3, i4, i5, i6, i7, i8, i9, rfl⟩ := ten_of I hI
 obtain ⟨hA, hL, hrow⟩ := h
 obtain ⟨a0, a1, a2, a3, a4, a5, a6, a7, a8, a9, rfl⟩ := ten_of A hA
 obtain ⟨l0, l1, l2, l3, l4, l5, l6, l7, l8, l9, rfl⟩ := ten_of L hL
 have hrow : w.heap[B]? = some (.cells #[.int .i64 tt, .int .i64 pr, .int .i64 co, .bool em, .bool hn, .int .i64 a0, .int .i64 a1, .int .i64 a2, .int .i64 a3, .int .i64 a4, .int .i64 a5, .int .i64 a6, .int .i64 a7, .int .i64 a8, .int .i64 a9, .int .i64 l0, .int .i64 l1, .int .i64 l2, .int .i64 l3, .int .i64 l4, .int .i64 l5, .int .i64 l6, .int .i64 l7, .int .i64 l8, .int .i64 l9, .int .i64 hg] 120 (0, 0)) := hrow
 have q4 : w.cell? ⟨B, 4, none⟩ = some (.bool hn) := by rw [cell_of_row _ _ _ _ 120 _ hrow]; rfl
 have q25 : w.cell? ⟨B, 25, none⟩ = some (.int .i64 hg) := by rw [cell_of_row _ _ _ _ 120 _ hrow]; rfl
 have q15 : w.cell? ⟨B, 15, none⟩ = some (.int .i64 l0) := by rw [cell_of_row _ _ _ _ 120 _ hrow]; rfl
 have q16 : w.cell? ⟨B, 16, none⟩ = some (.int .i64 l1) := by rw [cell_of_row _ _ _ _ 120 _ hrow]; rfl
 have q17 : w.cell? ⟨B, 17, none⟩ = some (.int .i64 l2) := by rw [cell_of_row _ _ _ _ 120 _ hrow]; rfl
 have q18 : w.cell? ⟨B, 18, none⟩ = some (.int .i64 l3) := by rw [cell_of_row _ _ _ _ 120 _ hrow]; rfl
 have q19 : w.cell? ⟨B, 19, none⟩ = some (.int .i64 l4) := by rw [cell_of_row _ _ _ _ 120 _ hrow]; rfl
 have q20 : w.cell? ⟨B, 20, none⟩ = some (.int .i64 l5) := by rw [cell_of_row _ _ _ _ 120 _ hrow]; rfl
 have q21 : w.cell? ⟨B, 21, none⟩ = some (.int .i64 l6) := by rw [cell_of_row _ _ _ _ 120 _ hrow]; rfl
 have q22 : w.cell? ⟨B, 22, none⟩ = some (.int .i64 l7) := by rw [cell_of_row _ _ _ _ 120 _ hrow]; rfl
 have q23 : w.cell? ⟨B, 23, none⟩ = some (.int .i64 l8) := by rw [cell_of_row _ _ _ _ 120 _ hrow]; rfl
 have q24 : w.cell? ⟨B, 24, none⟩ = some (.int .i64 l9) := by rw [cell_of_row _ _ _ _ 120 _ hrow]; rfl
 have fz : ∀ j, w.frozen? ⟨B, j, none⟩ = false := fun j => frozen_of_row _ _ j _ 120 hrow
 have HR := hideP hrow
 have PC : Hid (∀ W, Calls Tryz.prog 115 #[.agg #[.int .i64 l0, .int .i64 l1, .int .i64 l2, .int .i64 l3, .int .i64 l4, .int .i64 l5, .int .i64 l6, .int .i64 l7, .int .i64 l8], .agg #[.int .i64 i0, .int .i64 i1, .int .i64 i2, .int .i64 i3, .int .i64 i4, .int .i64 i5, .int .i64 i6, .int .i64 i7, .int .i64 i8]] W fun e w' => e = .returned (Shr.mea (pluTo [l0, l1, l2, l3, l4, l5, l6, l7, l8] [i0, i1, i2, i3, i4, i5, i6, i7, i8] 4)) ∧ Below W.heap.size W w') := hideP (fun W => plusAll_any [l0, l1, l2, l3, l4, l5, l6, l7, l8] [i0, i1, i2, i3, i4, i5, i6, i7, i8] rfl rfl W)
 have hzl : (pluTo [l0, l1, l2, l3, l4, l5, l6, l7, l8] [i0, i1, i2, i3, i4, i5, i6, i7, i8] 4).length = 9 := by rw [pluTo_len]; rfl
 have HLO : Hid (lowI x [i0, i1, i2, i3, i4, i5, i6, i7, i8, i9] [l0, l1, l2, l3, l4, l5, l6, l7, l8, l9] = if 0 < x.kids then pluTo [l0, l1, l2, l3, l4, l5, l6, l7, l8] [i0, i1, i2, i3, i4, i5, i6, i7, i8] 4 ++ [i9] else [l0, l1, l2, l3, l4, l5, l6, l7, l8, l9]) := hideP rfl
 obtain ⟨Z, hZ⟩ : ∃ Z, Z = pluTo [l0, l1, l2, l3, l4, l5, l6, l7, l8] [i0, i1, i2, i3, i4, i5, i6, i7, i8] 4 := ⟨_, rfl⟩
 rw [← hZ] at PC hzl HLO
 clear hZ
 obtain ⟨z0, z1, z2, z3, z4, z5, z6, z7, z8, rfl⟩ := mea_nine Z hzl
 simp only [Shr.mea, List.map_cons, List.map_nil] at PC
 obtain ⟨v, hv⟩ : ∃ v, v = thV x := ⟨_, rfl⟩
 rw [← hv] at hs hsh ⊢
 clear hv hI hA hL hrow hzl hse h11
 obtain ⟨LO, hLO⟩ : ∃ y, y = lowI x [i0, i1, i2, i3, i4, i5, i6, i7, i8, i9] [l0, l1, l2, l3, l4, l5, l6, l7, l8, l9] := ⟨_, rfl⟩
 rw [← hLO] at HLO ⊢
 clear hLO
 obtain ⟨xh, hxh⟩ : ∃ y, y = x.ht := ⟨_, rfl⟩
 obtain ⟨xk, hxk⟩ : ∃ y, y = x.kids := ⟨_, rfl⟩
 rw [← hxh, ← hxk] at hs
 rw [← hxh]
 rw [← hxk] at HLO
 clear hxh hxk
 obtain ⟨H2, hH2⟩ : ∃ y, y = wrap64 (hg + xh) := ⟨_, rfl⟩
 have HT : Hid (wrap64 (hg + xh) = H2) := hideP hH2.symm
 rw [← hH2]
 clear hH2
 by_cases hk : 0 < xk
 ·have hk1 : xk > 0 := hk
  have HLE : Hid (LO = [z0, z1, z2, z3, z4, z5, z6, z7, z8, i9]) := hideP (by rw [HLO.out, if_pos hk]; rfl)
  clear HLO
  rcases hsh with rfl | ⟨X, q, rfl⟩
  ·simp only [List.map_cons, List.map_nil]
   go_enter Tryz.func94, Tryz.ntmps94
   go_upto_region 5 with fail
   go_region
   go_upto_region 7 with fail
   rw [HT.out]
   obtain ⟨W4, hW4⟩ : ∃ W, ((((w.setCell ⟨B, 4, none⟩ (.bool true)).setCell ⟨B, 25, none⟩ (.int .i64 H2)).alloc (.cells #[.nilIface, .int .i64 a, .int .i64 e] 186)).alloc (.cells #[.int .i64 i0, .int .i64 i1, .int .i64 i2, .int .i64 i3, .int .i64 i4, .int .i64 i5, .int .i64 i6, .int .i64 i7, .int .i64 i8, .int .i64 i9] 118)).alloc (.cells #[.int .i64 x.nn, .int .i64 xh, .int .i64 xk] 188) = W := ⟨_, rfl⟩
   have b4 : W4.heap[B]? = some (.cells #[.int .i64 tt, .int .i64 pr, .int .i64 co, .bool em, .bool true, .int .i64 a0, .int .i64 a1, .int .i64 a2, .int .i64 a3, .int .i64 a4, .int .i64 a5, .int .i64 a6, .int .i64 a7, .int .i64 a8, .int .i64 a9, .int .i64 l0, .int .i64 l1, .int .i64 l2, .int .i64 l3, .int .i64 l4, .int .i64 l5, .int .i64 l6, .int .i64 l7, .int .i64 l8, .int .i64 l9, .int .i64 H2] 120 (0, 0)) := by
    rw [← hW4]
    have e1 := row_set (row_set HR.out 4 (.bool true)) 25 (.int .i64 H2)
    simp only [List.set_cons_zero, List.set_cons_succ] at e1
    have s1 : ((w.setCell ⟨B, 4, none⟩ (.bool true)).setCell ⟨B, 25, none⟩ (.int .i64 H2)).heap.size = w.heap.size := by simp [World.setCell]
    refine (Below.heap_alloc _ _ _ ?_).trans ((Below.heap_alloc _ _ _ ?_).trans ((Below.heap_alloc _ _ _ ?_).trans e1)) <;> simp <;> omega
   have F4 : Fr B w W4 := by
    rw [← hW4]
    exact ((((((Fr.refl B w).set _ _).set _ _).alloc _).alloc _).alloc _)
   have p4 : W4.heap[w.heap.size + 1]? = some (.cells #[.int .i64 i0, .int .i64 i1, .int .i64 i2, .int .i64 i3, .int .i64 i4, .int .i64 i5, .int .i64 i6, .int .i64 i7, .int .i64 i8, .int .i64 i9] 118 (0, 0)) := by
    rw [← hW4]
    refine (Below.heap_alloc _ _ _ (by simp)).trans ?_
    have e1 := heap_alloc_new (((w.setCell ⟨B, 4, none⟩ (.bool true)).setCell ⟨B, 25, none⟩ (.int .i64 H2)).alloc (.cells #[.nilIface, .int .i64 a, .int .i64 e] 186)) (.cells #[.int .i64 i0, .int .i64 i1, .int .i64 i2, .int .i64 i3, .int .i64 i4, .int .i64 i5, .int .i64 i6, .int .i64 i7, .int .i64 i8, .int .i64 i9] 118)
    simpa using e1
   rw [hW4]
   clear hW4
   have HB4' := hideP b4
   have HP4' := hideP p4
   have HF4' := hideP F4
   have t15 : W4.cell? ⟨B, 15, none⟩ = some (.int .i64 l0) := by rw [cell_of_row _ _ _ _ 120 _ b4]; rfl
   have t16 : W4.cell? ⟨B, 16, none⟩ = some (.int .i64 l1) := by rw [cell_of_row _ _ _ _ 120 _ b4]; rfl
   have t17 : W4.cell? ⟨B, 17, none⟩ = some (.int .i64 l2) := by rw [cell_of_row _ _ _ _ 120 _ b4]; rfl
   have t18 : W4.cell? ⟨B, 18, none⟩ = some (.int .i64 l3) := by rw [cell_of_row _ _ _ _ 120 _ b4]; rfl
   have t19 : W4.cell? ⟨B, 19, none⟩ = some (.int .i64 l4) := by rw [cell_of_row _ _ _ _ 120 _ b4]; rfl
   have t20 : W4.cell? ⟨B, 20, none⟩ = some (.int .i64 l5) := by rw [cell_of_row _ _ _ _ 120 _ b4]; rfl
   have t21 : W4.cell? ⟨B, 21, none⟩ = some (.int .i64 l6) := by rw [cell_of_row _ _ _ _ 120 _ b4]; rfl
   have t22 : W4.cell? ⟨B, 22, none⟩ = some (.int .i64 l7) := by rw [cell_of_row _ _ _ _ 120 _ b4]; rfl
   have t23 : W4.cell? ⟨B, 23, none⟩ = some (.int .i64 l8) := by rw [cell_of_row _ _ _ _ 120 _ b4]; rfl
   have t24 : W4.cell? ⟨B, 24, none⟩ = some (.int .i64 l9) := by rw [cell_of_row _ _ _ _ 120 _ b4]; rfl
   have u0 : W4.cell? ⟨w.heap.size + 1, 0, none⟩ = some (.int .i64 i0) := by rw [cell_of_row _ _ _ _ 118 _ p4]; rfl
   have u1 : W4.cell? ⟨w.heap.size + 1, 1, none⟩ = some (.int .i64 i1) := by rw [cell_of_row _ _ _ _ 118 _ p4]; rfl
   have u2 : W4.cell? ⟨w.heap.size + 1, 2, none⟩ = some (.int .i64 i2) := by rw [cell_of_row _ _ _ _ 118 _ p4]; rfl
   have u3 : W4.cell? ⟨w.heap.size + 1, 3, none⟩ = some (.int .i64 i3) := by rw [cell_of_row _ _ _ _ 118 _ p4]; rfl
   have u4 : W4.cell? ⟨w.heap.size + 1, 4, none⟩ = some (.int .i64 i4) := by rw [cell_of_row _ _ _ _ 118 _ p4]; rfl
   have u5 : W4.cell? ⟨w.heap.size + 1, 5, none⟩ = some (.int .i64 i5) := by rw [cell_of_row _ _ _ _ 118 _ p4]; rfl
   have u6 : W4.cell? ⟨w.heap.size + 1, 6, none⟩ = some (.int .i64 i6) := by rw [cell_of_row _ _ _ _ 118 _ p4]; rfl
   have u7 : W4.cell? ⟨w.heap.size + 1, 7, none⟩ = some (.int .i64 i7) := by rw [cell_of_row _ _ _ _ 118 _ p4]; rfl
   have u8 : W4.cell? ⟨w.heap.size + 1, 8, none⟩ = some (.int .i64 i8) := by rw [cell_of_row _ _ _ _ 118 _ p4]; rfl
   have u9 : W4.cell? ⟨w.heap.size + 1, 9, none⟩ = some (.int .i64 i9) := by rw [cell_of_row _ _ _ _ 118 _ p4]; rfl
   clear q4 q15 q16 q17 q18 q19 q20 q21 q22 q23 q24 q25 fz b4 p4 F4 HR hs
   go_region_with (go_at_call 115; refine (PC.out _).mono ?_; rintro e5 w5 ⟨rfl, hb5⟩; have b5 : w5.heap[B]? = some (.cells #[.int .i64 tt, .int .i64 pr, .int .i64 co, .bool em, .bool true, .int .i64 a0, .int .i64 a1, .int .i64 a2, .int .i64 a3, .int .i64 a4, .int .i64 a5, .int .i64 a6, .int .i64 a7, .int .i64 a8, .int .i64 a9, .int .i64 l0, .int .i64 l1, .int .i64 l2, .int .i64 l3, .int .i64 l4, .int .i64 l5, .int .i64 l6, .int .i64 l7, .int .i64 l8, .int .i64 l9, .int .i64 H2] 120 (0, 0)) := (hb5.block B (Array.getElem?_eq_some_iff.1 HB4'.out).1).trans HB4'.out; have p5 : w5.heap[w.heap.size + 1]? = some (.cells #[.int .i64 i0, .int .i64 i1, .int .i64 i2, .int .i64 i3, .int .i64 i4, .int .i64 i5, .int .i64 i6, .int .i64 i7, .int .i64 i8, .int .i64 i9] 118 (0, 0)) := (hb5.block _ (Array.getElem?_eq_some_iff.1 HP4'.out).1).trans HP4'.out; have v15 : w5.cell? ⟨B, 15, none⟩ = some (.int .i64 l0) := (by rw [cell_of_row _ _ _ _ 120 _ b5]; rfl); have v16 : w5.cell? ⟨B, 16, none⟩ = some (.int .i64 l1) := (by rw [cell_of_row _ _ _ _ 120 _ b5]; rfl); have v17 : w5.cell? ⟨B, 17, none⟩ = some (.int .i64 l2) := (by rw [cell_of_row _ _ _ _ 120 _ b5]; rfl); have v18 : w5.cell? ⟨B, 18, none⟩ = some (.int .i64 l3) := (by rw [cell_of_row _ _ _ _ 120 _ b5]; rfl); have v19 : w5.cell? ⟨B, 19, none⟩ = some (.int .i64 l4) := (by rw [cell_of_row _ _ _ _ 120 _ b5]; rfl); have v20 : w5.cell? ⟨B, 20, none⟩ = some (.int .i64 l5) := (by rw [cell_of_row _ _ _ _ 120 _ b5]; rfl); have v21 : w5.cell? ⟨B, 21, none⟩ = some (.int .i64 l6) := (by rw [cell_of_row _ _ _ _ 120 _ b5]; rfl); have v22 : w5.cell? ⟨B, 22, none⟩ = some (.int .i64 l7) := (by rw [cell_of_row _ _ _ _ 120 _ b5]; rfl); have v23 : w5.cell? ⟨B, 23, none⟩ = some (.int .i64 l8) := (by rw [cell_of_row _ _ _ _ 120 _ b5]; rfl); have v24 : w5.cell? ⟨B, 24, none⟩ = some (.int .i64 l9) := (by rw [cell_of_row _ _ _ _ 120 _ b5]; rfl); have y9 : w5.cell? ⟨w.heap.size + 1, 9, none⟩ = some (.int .i64 i9) := (by rw [cell_of_row _ _ _ _ 118 _ p5]; rfl); have fz : ∀ j, w5.frozen? ⟨B, j, none⟩ = false := fun j => frozen_of_row _ _ j _ 120 b5; have F5 : Hid (Fr B w w5) := hideP (Fr.below HF4'.out.drew.drew hb5); have HB5' := hideP b5; clear t15 t16 t17 t18 t19 t20 t21 t22 t23 t24 u0 u1 u2 u3 u4 u5 u6 u7 u8 u9 b5 p5 hb5)
   go_wp2
   all_goals
    go_end0
    refine ⟨⟨_, rfl⟩, ⟨rfl, by rw [HLE.out]; rfl, ?_⟩, ?_⟩
    ·rw [HLE.out]
     have e1 := row_set (row_set (row_set (row_set (row_set (row_set (row_set (row_set (row_set (row_set HB5'.out 15 (.int .i64 z0)) 16 (.int .i64 z1)) 17 (.int .i64 z2)) 18 (.int .i64 z3)) 19 (.int .i64 z4)) 20 (.int .i64 z5)) 21 (.int .i64 z6)) 22 (.int .i64 z7)) 23 (.int .i64 z8)) 24 (.int .i64 i9)
     simp only [List.set_cons_zero, List.set_cons_succ] at e1
     exact e1
    ·have HF2 := F5.out
     repeat (first | with_reducible exact HF2 | with_reducible refine Fr.set ?_ _ _ | with_reducible refine Fr.alloc ?_ _ | with_reducible refine Fr.drew ?_)
  ·simp only [List.map_cons, List.map_nil]
   go_enter Tryz.func94, Tryz.ntmps94
   go_upto_region 5 with fail
   go_region
   go_upto_region 7 with fail
   rw [HT.out]
   obtain ⟨W4, hW4⟩ : ∃ W, ((((w.setCell ⟨B, 4, none⟩ (.bool true)).setCell ⟨B, 25, none⟩ (.int .i64 H2)).alloc (.cells #[.iface X q, .int .i64 a, .int .i64 e] 186)).alloc (.cells #[.int .i64 i0, .int .i64 i1, .int .i64 i2, .int .i64 i3, .int .i64 i4, .int .i64 i5, .int .i64 i6, .int .i64 i7, .int .i64 i8, .int .i64 i9] 118)).alloc (.cells #[.int .i64 x.nn, .int .i64 xh, .int .i64 xk] 188) = W := ⟨_, rfl⟩
   have b4 : W4.heap[B]? = some (.cells #[.int .i64 tt, .int .i64 pr, .int .i64 co, .bool em, .bool true, .int .i64 a0, .int .i64 a1, .int .i64 a2, .int .i64 a3, .int .i64 a4, .int .i64 a5, .int .i64 a6, .int .i64 a7, .int .i64 a8, .int .i64 a9, .int .i64 l0, .int .i64 l1, .int .i64 l2, .int .i64 l3, .int .i64 l4, .int .i64 l5, .int .i64 l6, .int .i64 l7, .int .i64 l8, .int .i64 l9, .int .i64 H2] 120 (0, 0)) := by
    rw [← hW4]
    have e1 := row_set (row_set HR.out 4 (.bool true)) 25 (.int .i64 H2)
    simp only [List.set_cons_zero, List.set_cons_succ] at e1
    have s1 : ((w.setCell ⟨B, 4, none⟩ (.bool true)).setCell ⟨B, 25, none⟩ (.int .i64 H2)).heap.size = w.heap.size := by simp [World.setCell]
    refine (Below.heap_alloc _ _ _ ?_).trans ((Below.heap_alloc _ _ _ ?_).trans ((Below.heap_alloc _ _ _ ?_).trans e1)) <;> simp <;> omega
   have F4 : Fr B w W4 := by
    rw [← hW4]
    exact ((((((Fr.refl B w).set _ _).set _ _).alloc _).alloc _).alloc _)
   have p4 : W4.heap[w.heap.size + 1]? = some (.cells #[.int .i64 i0, .int .i64 i1, .int .i64 i2, .int .i64 i3, .int .i64 i4, .int .i64 i5, .int .i64 i6, .int .i64 i7, .int .i64 i8, .int .i64 i9] 118 (0, 0)) := by
    rw [← hW4]
    refine (Below.heap_alloc _ _ _ (by simp)).trans ?_
    have e1 := heap_alloc_new (((w.setCell ⟨B, 4, none⟩ (.bool true)).setCell ⟨B, 25, none⟩ (.int .i64 H2)).alloc (.cells #[.iface X q, .int .i64 a, .int .i64 e] 186)) (.cells #[.int .i64 i0, .int .i64 i1, .int .i64 i2, .int .i64 i3, .int .i64 i4, .int .i64 i5, .int .i64 i6, .int .i64 i7, .int .i64 i8, .int .i64 i9] 118)
    simpa using e1
   rw [hW4]
   clear hW4
   have HB4' := hideP b4
   have HP4' := hideP p4
   have HF4' := hideP F4
   have t15 : W4.cell? ⟨B, 15, none⟩ = some (.int .i64 l0) := by rw [cell_of_row _ _ _ _ 120 _ b4]; rfl
   have t16 : W4.cell? ⟨B, 16, none⟩ = some (.int .i64 l1) := by rw [cell_of_row _ _ _ _ 120 _ b4]; rfl
   have t17 : W4.cell? ⟨B, 17, none⟩ = some (.int .i64 l2) := by rw [cell_of_row _ _ _ _ 120 _ b4]; rfl
   have t18 : W4.cell? ⟨B, 18, none⟩ = some (.int .i64 l3) := by rw [cell_of_row _ _ _ _ 120 _ b4]; rfl
   have t19 : W4.cell? ⟨B, 19, none⟩ = some (.int .i64 l4) := by rw [cell_of_row _ _ _ _ 120 _ b4]; rfl
   have t20 : W4.cell? ⟨B, 20, none⟩ = some (.int .i64 l5) := by rw [cell_of_row _ _ _ _ 120 _ b4]; rfl
   have t21 : W4.cell? ⟨B, 21, none⟩ = some (.int .i64 l6) := by rw [cell_of_row _ _ _ _ 120 _ b4]; rfl
   have t22 : W4.cell? ⟨B, 22, none⟩ = some (.int .i64 l7) := by rw [cell_of_row _ _ _ _ 120 _ b4]; rfl
   have t23 : W4.cell? ⟨B, 23, none⟩ = some (.int .i64 l8) := by rw [cell_of_row _ _ _ _ 120 _ b4]; rfl
   have t24 : W4.cell? ⟨B, 24, none⟩ = some (.int .i64 l9) := by rw [cell_of_row _ _ _ _ 120 _ b4]; rfl
   have u0 : W4.cell? ⟨w.heap.size + 1, 0, none⟩ = some (.int .i64 i0) := by rw [cell_of_row _ _ _ _ 118 _ p4]; rfl
   have u1 : W4.cell? ⟨w.heap.size + 1, 1, none⟩ = some (.int .i64 i1) := by rw [cell_of_row _ _ _ _ 118 _ p4]; rfl
   have u2 : W4.cell? ⟨w.heap.size + 1, 2, none⟩ = some (.int .i64 i2) := by rw [cell_of_row _ _ _ _ 118 _ p4]; rfl
   have u3 : W4.cell? ⟨w.heap.size + 1, 3, none⟩ = some (.int .i64 i3) := by rw [cell_of_row _ _ _ _ 118 _ p4]; rfl
   have u4 : W4.cell? ⟨w.heap.size + 1, 4, none⟩ = some (.int .i64 i4) := by rw [cell_of_row _ _ _ _ 118 _ p4]; rfl
   have u5 : W4.cell? ⟨w.heap.size + 1, 5, none⟩ = some (.int .i64 i5) := by rw [cell_of_row _ _ _ _ 118 _ p4]; rfl
   have u6 : W4.cell? ⟨w.heap.size + 1, 6, none⟩ = some (.int .i64 i6) := by rw [cell_of_row _ _ _ _ 118 _ p4]; rfl
   have u7 : W4.cell? ⟨w.heap.size + 1, 7, none⟩ = some (.int .i64 i7) := by rw [cell_of_row _ _ _ _ 118 _ p4]; rfl
   have u8 : W4.cell? ⟨w.heap.size + 1, 8, none⟩ = some (.int .i64 i8) := by rw [cell_of_row _ _ _ _ 118 _ p4]; rfl
   have u9 : W4.cell? ⟨w.heap.size + 1, 9, none⟩ = some (.int .i64 i9) := by rw [cell_of_row _ _ _ _ 118 _ p4]; rfl
   clear q4 q15 q16 q17 q18 q19 q20 q21 q22 q23 q24 q25 fz b4 p4 F4 HR hs
   go_region_with (go_at_call 115; refine (PC.out _).mono ?_; rintro e5 w5 ⟨rfl, hb5⟩; have b5 : w5.heap[B]? = some (.cells #[.int .i64 tt, .int .i64 pr, .int .i64 co, .bool em, .bool true, .int .i64 a0, .int .i64 a1, .int .i64 a2, .int .i64 a3, .int .i64 a4, .int .i64 a5, .int .i64 a6, .int .i64 a7, .int .i64 a8, .int .i64 a9, .int .i64 l0, .int .i64 l1, .int .i64 l2, .int .i64 l3, .int .i64 l4, .int .i64 l5, .int .i64 l6, .int .i64 l7, .int .i64 l8, .int .i64 l9, .int .i64 H2] 120 (0, 0)) := (hb5.block B (Array.getElem?_eq_some_iff.1 HB4'.out).1).trans HB4'.out; have p5 : w5.heap[w.heap.size + 1]? = some (.cells #[.int .i64 i0, .int .i64 i1, .int .i64 i2, .int .i64 i3, .int .i64 i4, .int .i64 i5, .int .i64 i6, .int .i64 i7, .int .i64 i8, .int .i64 i9] 118 (0, 0)) := (hb5.block _ (Array.getElem?_eq_some_iff.1 HP4'.out).1).trans HP4'.out; have v15 : w5.cell? ⟨B, 15, none⟩ = some (.int .i64 l0) := (by rw [cell_of_row _ _ _ _ 120 _ b5]; rfl); have v16 : w5.cell? ⟨B, 16, none⟩ = some (.int .i64 l1) := (by rw [cell_of_row _ _ _ _ 120 _ b5]; rfl); have v17 : w5.cell? ⟨B, 17, none⟩ = some (.int .i64 l2) := (by rw [cell_of_row _ _ _ _ 120 _ b5]; rfl); have v18 : w5.cell? ⟨B, 18, none⟩ = some (.int .i64 l3) := (by rw [cell_of_row _ _ _ _ 120 _ b5]; rfl); have v19 : w5.cell? ⟨B, 19, none⟩ = some (.int .i64 l4) := (by rw [cell_of_row _ _ _ _ 120 _ b5]; rfl); have v20 : w5.cell? ⟨B, 20, none⟩ = some (.int .i64 l5) := (by rw [cell_of_row _ _ _ _ 120 _ b5]; rfl); have v21 : w5.cell? ⟨B, 21, none⟩ = some (.int .i64 l6) := (by rw [cell_of_row _ _ _ _ 120 _ b5]; rfl); have v22 : w5.cell? ⟨B, 22, none⟩ = some (.int .i64 l7) := (by rw [cell_of_row _ _ _ _ 120 _ b5]; rfl); have v23 : w5.cell? ⟨B, 23, none⟩ = some (.int .i64 l8) := (by rw [cell_of_row _ _ _ _ 120 _ b5]; rfl); have v24 : w5.cell? ⟨B, 24, none⟩ = some (.int .i64 l9) := (by rw [cell_of_row _ _ _ _ 120 _ b5]; rfl); have y9 : w5.cell? ⟨w.heap.size + 1, 9, none⟩ = some (.int .i64 i9) := (by rw [cell_of_row _ _ _ _ 118 _ p5]; rfl); have fz : ∀ j, w5.frozen? ⟨B, j, none⟩ = false := fun j => frozen_of_row _ _ j _ 120 b5; have F5 : Hid (Fr B w w5) := hideP (Fr.below HF4'.out.drew.drew hb5); have HB5' := hideP b5; clear t15 t16 t17 t18 t19 t20 t21 t22 t23 t24 u0 u1 u2 u3 u4 u5 u6 u7 u8 u9 b5 p5 hb5)
   go_wp2
   all_goals
    go_end0
    refine ⟨⟨_, rfl⟩, ⟨rfl, by rw [HLE.out]; rfl, ?_⟩, ?_⟩
    ·rw [HLE.out]
     have e1 := row_set (row_set (row_set (row_set (row_set (row_set (row_set (row_set (row_set (row_set HB5'.out 15 (.int .i64 z0)) 16 (.int .i64 z1)) 17 (.int .i64 z2)) 18 (.int .i64 z3)) 19 (.int .i64 z4)) 20 (.int .i64 z5)) 21 (.int .i64 z6)) 22 (.int .i64 z7)) 23 (.int .i64 z8)) 24 (.int .i64 i9)
     simp only [List.set_cons_zero, List.set_cons_succ] at e1
     exact e1
    ·have HF2 := F5.out
     repeat (first | with_reducible exact HF2 | with_reducible refine Fr.set ?_ _ _ | with_reducible refine Fr.alloc ?_ _ | with_reducible refine Fr.drew ?_)
 ·have hk1 : ¬ xk > 0 := hk
  have HLE : Hid (LO = [l0, l1, l2, l3, l4, l5, l6, l7, l8, l9]) := hideP (by rw [HLO.out, if_neg hk])
  clear HLO PC
  rcases hsh with rfl | ⟨X, q, rfl⟩
  ·simp only [List.map_cons, List.map_nil]
   go_enter Tryz.func94, Tryz.ntmps94
   go_upto_region 5 with fail
   go_region
   go_wp2
   go_end0
   rw [HT.out]
   obtain ⟨W4, hW4⟩ : ∃ W, ((((w.setCell ⟨B, 4, none⟩ (.bool true)).setCell ⟨B, 25, none⟩ (.int .i64 H2)).alloc (.cells #[.nilIface, .int .i64 a, .int .i64 e] 186)).alloc (.cells #[.int .i64 i0, .int .i64 i1, .int .i64 i2, .int .i64 i3, .int .i64 i4, .int .i64 i5, .int .i64 i6, .int .i64 i7, .int .i64 i8, .int .i64 i9] 118)).alloc (.cells #[.int .i64 x.nn, .int .i64 xh, .int .i64 xk] 188) = W := ⟨_, rfl⟩
   have b4 : W4.heap[B]? = some (.cells #[.int .i64 tt, .int .i64 pr, .int .i64 co, .bool em, .bool true, .int .i64 a0, .int .i64 a1, .int .i64 a2, .int .i64 a3, .int .i64 a4, .int .i64 a5, .int .i64 a6, .int .i64 a7, .int .i64 a8, .int .i64 a9, .int .i64 l0, .int .i64 l1, .int .i64 l2, .int .i64 l3, .int .i64 l4, .int .i64 l5, .int .i64 l6, .int .i64 l7, .int .i64 l8, .int .i64 l9, .int .i64 H2] 120 (0, 0)) := by
    rw [← hW4]
    have e1 := row_set (row_set HR.out 4 (.bool true)) 25 (.int .i64 H2)
    simp only [List.set_cons_zero, List.set_cons_succ] at e1
    have s1 : ((w.setCell ⟨B, 4, none⟩ (.bool true)).setCell ⟨B, 25, none⟩ (.int .i64 H2)).heap.size = w.heap.size := by simp [World.setCell]
    refine (Below.heap_alloc _ _ _ ?_).trans ((Below.heap_alloc _ _ _ ?_).trans ((Below.heap_alloc _ _ _ ?_).trans e1)) <;> simp <;> omega
   have F4 : Fr B w W4 := by
    rw [← hW4]
    exact ((((((Fr.refl B w).set _ _).set _ _).alloc _).alloc _).alloc _)
   rw [hW4]
   clear hW4
   refine ⟨⟨_, rfl⟩, ⟨rfl, by rw [HLE.out]; rfl, ?_⟩, ?_⟩
   ·rw [HLE.out]
    exact b4
   ·exact F4.drew
  ·simp only [List.map_cons, List.map_nil]
   go_enter Tryz.func94, Tryz.ntmps94
   go_upto_region 5 with fail
   go_region
   go_wp2
   go_end0
   rw [HT.out]
   obtain ⟨W4, hW4⟩ : ∃ W, ((((w.setCell ⟨B, 4, none⟩ (.bool true)).setCell ⟨B, 25, none⟩ (.int .i64 H2)).alloc (.cells #[.iface X q, .int .i64 a, .int .i64 e] 186)).alloc (.cells #[.int .i64 i0, .int .i64 i1, .int .i64 i2, .int .i64 i3, .int .i64 i4, .int .i64 i5, .int .i64 i6, .int .i64 i7, .int .i64 i8, .int .i64 i9] 118)).alloc (.cells #[.int .i64 x.nn, .int .i64 xh, .int .i64 xk] 188) = W := ⟨_, rfl⟩
   have b4 : W4.heap[B]? = some (.cells #[.int .i64 tt, .int .i64 pr, .int .i64 co, .bool em, .bool true, .int .i64 a0, .int .i64 a1, .int .i64 a2, .int .i64 a3, .int .i64 a4, .int .i64 a5, .int .i64 a6, .int .i64 a7, .int .i64 a8, .int .i64 a9, .int .i64 l0, .int .i64 l1, .int .i64 l2, .int .i64 l3, .int .i64 l4, .int .i64 l5, .int .i64 l6, .int .i64 l7, .int .i64 l8, .int .i64 l9, .int .i64 H2] 120 (0, 0)) := by
    rw [← hW4]
    have e1 := row_set (row_set HR.out 4 (.bool true)) 25 (.int .i64 H2)
    simp only [List.set_cons_zero, List.set_cons_succ] at e1
    have s1 : ((w.setCell ⟨B, 4, none⟩ (.bool true)).setCell ⟨B, 25, none⟩ (.int .i64 H2)).heap.size = w.heap.size := by simp [World.setCell]
    refine (Below.heap_alloc _ _ _ ?_).trans ((Below.heap_alloc _ _ _ ?_).trans ((Below.heap_alloc _ _ _ ?_).trans e1)) <;> simp <;> omega
   have F4 : Fr B w W4 := by
    rw [← hW4]
    exact ((((((Fr.refl B w).set _ _).set _ _).alloc _).alloc _).alloc _)
   rw [hW4]
   clear hW4
   refine ⟨⟨_, rfl⟩, ⟨rfl, by rw [HLE.out]; rfl, ?_⟩, ?_⟩
   ·rw [HLE.out]
    exact b4
   ·exact F4.drew
end Go.Proofs.YtlohbaoigfaneaaGreat
