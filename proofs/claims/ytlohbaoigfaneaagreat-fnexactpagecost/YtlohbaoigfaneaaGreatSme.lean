import Derived.Test.YtlohbaoigfaneaaGreatBdt
import Derived.Test.YtlohbaoigfaneaaGreatHlp
import Derived.Test.YtlohbaoigfaneaaGreatAdl
namespace Go.Proofs.YtlohbaoigfaneaaGreat.Shr
open Go.RowKit
set_option linter.unusedVariables false
set_option linter.unusedSimpArgs false
abbrev fourV (a b c d : Int) : Value := .agg #[.int .i64 a, .int .i64 b, .int .i64 c, .int .i64 d]
def SetQ (q bd : Int) (e : Ending) : Prop := ∃ sg x1 x2 x3 x5 : Int, e = .returned (setV sg x1 x2 x3 bd x5) ∧ (sg < 0 ↔ q < 0)
theorem upQ_any (q p0 p1 p2 p3 : Int) (m : List Int) (w : World) (h0 : 0 < q) (hw1 : q ≤ 4611686018427387904) (hb : ([p0, p1, p2, p3] : List Int).getD (top [p0, p1, p2, p3]) 0 ≤ 60000000000000) :
 Calls Tryz.prog 112 #[.int .i64 q, fourV p0 p1 p2 p3] w fun e w' => SetQ q (badT q [p0, p1, p2, p3] m) e ∧ Below w.heap.size w w' := by
 have hE : badT q [p0, p1, p2, p3] m = if ([p0, p1, p2, p3] : List Int).getD (top [p0, p1, p2, p3]) 0 ≤ 0 then 10000 else if 0 < (top [p0, p1, p2, p3] : Int) then 0 else badV q (([p0, p1, p2, p3] : List Int).getD (top [p0, p1, p2, p3]) 0) := by
  unfold badT
  rw [if_neg (by omega), if_pos h0]
  have e1 : (0 < ((top [p0, p1, p2, p3] : Nat) : Int)) = (0 < top [p0, p1, p2, p3]) := by simp
  simp only [e1]
 rw [hE]
 refine (stretchT_any q p0 p1 p2 p3 _ _ w rfl rfl (by omega) (by omega)).mono ?_
 rintro e w' ⟨rfl, hb'⟩
 exact ⟨⟨1, _, _, _, _, rfl, by omega⟩, hb'⟩
theorem downQ_any (q m0 m1 m2 m3 : Int) (p : List Int) (w : World) (h0 : q < 0) (hw1 : -4611686018427387904 ≤ q) (hb0 : -60000000000000 ≤ ([m0, m1, m2, m3] : List Int).getD (top [m0, m1, m2, m3]) 0) (hb : ([m0, m1, m2, m3] : List Int).getD (top [m0, m1, m2, m3]) 0 ≤ 60000000000000) :
 Calls Tryz.prog 113 #[.int .i64 (-q), fourV m0 m1 m2 m3] w fun e w' => SetQ q (badT q p [m0, m1, m2, m3]) e ∧ Below w.heap.size w w' := by
 have hE : badT q p [m0, m1, m2, m3] = if ([m0, m1, m2, m3] : List Int).getD (top [m0, m1, m2, m3]) 0 ≤ 0 ∨ (top [m0, m1, m2, m3] = 0 ∧ ([m0, m1, m2, m3] : List Int).getD (top [m0, m1, m2, m3]) 0 < -q) then 1000000 else if 0 < top [m0, m1, m2, m3] then 0 else badV (-q) (([m0, m1, m2, m3] : List Int).getD (top [m0, m1, m2, m3]) 0) := by
  unfold badT
  rw [if_neg (by omega), if_neg (by omega)]
 rw [hE]
 clear hE
 obtain ⟨o, ho⟩ : ∃ o, o = top [m0, m1, m2, m3] := ⟨_, rfl⟩
 obtain ⟨hv, hhv⟩ : ∃ h, h = ([m0, m1, m2, m3] : List Int).getD (top [m0, m1, m2, m3]) 0 := ⟨_, rfl⟩
 have ho1 : (o : Int) = (top [m0, m1, m2, m3] : Int) := by rw [ho]
 rw [← hhv] at hb0 hb ⊢
 rw [← ho]
 by_cases hno : hv ≤ 0
 ·refine (shrinkT_none (-q) m0 m1 m2 m3 _ _ w ho1 hhv (by omega) (by omega) hb0 hb hno).mono ?_
  rintro e w' ⟨rfl, hb'⟩
  rw [if_pos (.inl hno)]
  exact ⟨⟨-1, _, _, _, _, rfl, by omega⟩, hb'⟩
 ·by_cases hov : o = 0 ∧ hv < -q
  ·refine (shrinkT_over (-q) m0 m1 m2 m3 _ _ w ho1 hhv (by omega) (by omega) hb0 hb (by omega) (by omega) hov.2).mono ?_
   rintro e w' ⟨rfl, hb'⟩
   rw [if_pos (.inr hov)]
   exact ⟨⟨-1, _, _, _, _, rfl, by omega⟩, hb'⟩
  ·rw [if_neg (fun h => h.elim hno hov)]
   by_cases h1 : o = 0
   ·refine (shrinkT_zero (-q) m0 m1 m2 m3 _ _ w ho1 hhv (by omega) (by omega) hb0 hb (by omega) (by omega) (by omega) _ rfl).mono ?_
    rintro e w' ⟨rfl, hb'⟩
    rw [if_neg (by omega), if_neg (by omega)]
    exact ⟨⟨-1, _, _, _, _, rfl, by omega⟩, hb'⟩
   ·refine (shrinkT_high (-q) m0 m1 m2 m3 _ _ w ho1 hhv (by omega) (by omega) hb0 hb (by omega) (by omega) _ rfl).mono ?_
    rintro e w' ⟨rfl, hb'⟩
    rw [if_pos (by omega), if_pos (by omega)]
    exact ⟨⟨-1, _, _, _, _, rfl, by omega⟩, hb'⟩
set_option maxRecDepth 20000 in
set_option maxHeartbeats 4000000 in
theorem settleQ_any (q p0 p1 p2 p3 m0 m1 m2 m3 : Int) (w : World) (hw0 : -4611686018427387904 ≤ q) (hw1 : q ≤ 4611686018427387904) (hpb : ([p0, p1, p2, p3] : List Int).getD (top [p0, p1, p2, p3]) 0 ≤ 60000000000000)
 (hb0 : -60000000000000 ≤ ([m0, m1, m2, m3] : List Int).getD (top [m0, m1, m2, m3]) 0) (hb : ([m0, m1, m2, m3] : List Int).getD (top [m0, m1, m2, m3]) 0 ≤ 60000000000000) :
 Calls Tryz.prog 81 #[.int .i64 q, fourV p0 p1 p2 p3, fourV m0 m1 m2 m3] w fun e w' => SetQ q (badT q [p0, p1, p2, p3] [m0, m1, m2, m3]) e ∧ Below w.heap.size w w' := by
 obtain ⟨bd, hbd⟩ : ∃ b, b = badT q [p0, p1, p2, p3] [m0, m1, m2, m3] := ⟨_, rfl⟩
 rw [← hbd]
 have hwn : IntKind.i64.wrap (-q) = -q := by rw [IntKind.wrap_i64]; omega
 rcases Int.lt_trichotomy q 0 with h0 | h0 | h0
 ·have HU : Hid (∀ W, Calls Tryz.prog 113 #[.int .i64 (-q), fourV m0 m1 m2 m3] W fun e w' => SetQ q bd e ∧ Below W.heap.size W w') := hideP (fun W => by rw [hbd]; exact downQ_any q m0 m1 m2 m3 _ W h0 (by omega) hb0 hb)
  have hq1 : ¬ 0 < q := by omega
  clear hpb hb0 hb hbd
  simp only [fourV, SetQ] at HU ⊢
  go_enter Tryz.func81, Tryz.ntmps81
  go_wp2_with fail
  refine (HU.out _).mono ?_
  rintro e w2 ⟨⟨sg, x1, x2, x3, x5, rfl, hsg⟩, hb2⟩
  have R2 : w2.heap[w.heap.size + 2]? = some (setO 0 0 0 0 0 0) := block_keep (by have := heap_alloc_new ((w.alloc (.cells #[.int .i64 p0, .int .i64 p1, .int .i64 p2, .int .i64 p3] 114)).alloc (.cells #[.int .i64 m0, .int .i64 m1, .int .i64 m2, .int .i64 m3] 114)) (setO 0 0 0 0 0 0); simpa using this) hb2
  have B2 : Below w.heap.size w w2 := ((((Below.refl _ _).alloc (Nat.le_refl _) _).alloc (by simp) _).alloc (by simp; omega) _).trans (hb2.mono (by simp; omega))
  obtain ⟨R, hR⟩ : ∃ R, R = w.heap.size + 2 := ⟨_, rfl⟩
  have hR' : w.heap.size + 1 + 1 = R := by omega
  rw [hR']
  rw [← hR] at R2
  have HF : Hid ((six w2 R sg x1 x2 x3 bd x5).heap[R]? = some (setO sg x1 x2 x3 bd x5) ∧ Below w.heap.size w (six w2 R sg x1 x2 x3 bd x5)) := by
   refine ⟨six_heap R2 _ _ _ _ _ _, ?_⟩
   have hf : Fr w2.heap.size w w2 := ⟨B2.os, B2.tape, B2.output, B2.size, fun b hb _ => B2.block b hb⟩
   exact (six_fr hf (by omega) _ _ _ _ _ _).toBelow B2.size (Nat.le_refl _)
  have hRl : R < w2.heap.size := (Array.getElem?_eq_some_iff.1 R2).1
  obtain ⟨q0, q1, q2, q3, q4, q5⟩ := set_cells R2
  have fr : ∀ j, w2.frozen? ⟨R, j, none⟩ = false := fun j => frozen_of_row w2 R j _ _ R2
  have HSG := hideP hsg
  clear hb2 R2 B2 hR hR' HU hsg
  go_wp2
  exact bodyPost_ret (v := setV sg x1 x2 x3 bd x5) (results_cell_row rfl _ _ R 174 _ (0, 0) _ rfl HF.1 Tryz.underlying174 rfl (by kernel_rfl)) rfl ⟨⟨sg, x1, x2, x3, x5, rfl, HSG.out⟩, HF.2⟩
 ·have HE : Hid (bd = 0) := hideP (by rw [hbd]; unfold badT; rw [if_pos h0])
  subst h0
  clear hpb hb0 hb hbd hwn hw0 hw1
  simp only [fourV, SetQ]
  go_enter Tryz.func81, Tryz.ntmps81
  go_wp2
  have hz := HE.out
  subst hz
  obtain ⟨W3, hW3⟩ : ∃ W, W = ((w.alloc (.cells #[.int .i64 p0, .int .i64 p1, .int .i64 p2, .int .i64 p3] 114)).alloc (.cells #[.int .i64 m0, .int .i64 m1, .int .i64 m2, .int .i64 m3] 114)).alloc (setO 0 0 0 0 0 0) := ⟨_, rfl⟩
  have R2 : W3.heap[w.heap.size + 1 + 1]? = some (setO 0 0 0 0 0 0) := by rw [hW3]; have := heap_alloc_new ((w.alloc (.cells #[.int .i64 p0, .int .i64 p1, .int .i64 p2, .int .i64 p3] 114)).alloc (.cells #[.int .i64 m0, .int .i64 m1, .int .i64 m2, .int .i64 m3] 114)) (setO 0 0 0 0 0 0); simpa using this
  have B2 : Below w.heap.size w W3 := by rw [hW3]; exact (((Below.refl _ _).alloc (Nat.le_refl _) _).alloc (by simp) _).alloc (by simp; omega) _
  simp only [setO] at hW3
  rw [← hW3]
  exact bodyPost_ret (v := setV 0 0 0 0 0 0) (results_cell_row rfl _ _ (w.heap.size + 1 + 1) 174 _ (0, 0) _ rfl R2 Tryz.underlying174 rfl (by kernel_rfl)) rfl ⟨⟨0, 0, 0, 0, 0, rfl, by omega⟩, B2⟩
 ·have HU : Hid (∀ W, Calls Tryz.prog 112 #[.int .i64 q, fourV p0 p1 p2 p3] W fun e w' => SetQ q bd e ∧ Below W.heap.size W w') := hideP (fun W => by rw [hbd]; exact upQ_any q p0 p1 p2 p3 _ W h0 hw1 hpb)
  have hq1 : ¬ q < 0 := by omega
  clear hpb hb0 hb hbd
  simp only [fourV, SetQ] at HU ⊢
  go_enter Tryz.func81, Tryz.ntmps81
  go_wp2_with fail
  refine (HU.out _).mono ?_
  rintro e w2 ⟨⟨sg, x1, x2, x3, x5, rfl, hsg⟩, hb2⟩
  have R2 : w2.heap[w.heap.size + 2]? = some (setO 0 0 0 0 0 0) := block_keep (by have := heap_alloc_new ((w.alloc (.cells #[.int .i64 p0, .int .i64 p1, .int .i64 p2, .int .i64 p3] 114)).alloc (.cells #[.int .i64 m0, .int .i64 m1, .int .i64 m2, .int .i64 m3] 114)) (setO 0 0 0 0 0 0); simpa using this) hb2
  have B2 : Below w.heap.size w w2 := ((((Below.refl _ _).alloc (Nat.le_refl _) _).alloc (by simp) _).alloc (by simp; omega) _).trans (hb2.mono (by simp; omega))
  obtain ⟨R, hR⟩ : ∃ R, R = w.heap.size + 2 := ⟨_, rfl⟩
  have hR' : w.heap.size + 1 + 1 = R := by omega
  rw [hR']
  rw [← hR] at R2
  have HF : Hid ((six w2 R sg x1 x2 x3 bd x5).heap[R]? = some (setO sg x1 x2 x3 bd x5) ∧ Below w.heap.size w (six w2 R sg x1 x2 x3 bd x5)) := by
   refine ⟨six_heap R2 _ _ _ _ _ _, ?_⟩
   have hf : Fr w2.heap.size w w2 := ⟨B2.os, B2.tape, B2.output, B2.size, fun b hb _ => B2.block b hb⟩
   exact (six_fr hf (by omega) _ _ _ _ _ _).toBelow B2.size (Nat.le_refl _)
  have hRl : R < w2.heap.size := (Array.getElem?_eq_some_iff.1 R2).1
  obtain ⟨q0, q1, q2, q3, q4, q5⟩ := set_cells R2
  have fr : ∀ j, w2.frozen? ⟨R, j, none⟩ = false := fun j => frozen_of_row w2 R j _ _ R2
  have HSG := hideP hsg
  clear hb2 R2 B2 hR hR' HU hsg
  go_wp2
  exact bodyPost_ret (v := setV sg x1 x2 x3 bd x5) (results_cell_row rfl _ _ R 174 _ (0, 0) _ rfl HF.1 Tryz.underlying174 rfl (by kernel_rfl)) rfl ⟨⟨sg, x1, x2, x3, x5, rfl, HSG.out⟩, HF.2⟩
def mea (zs : List Int) : Value := .agg (zs.map (Value.int .i64)).toArray
def pl4 (zs : List Int) : List Int := [zs.getD 1 0, zs.getD 2 0, zs.getD 3 0, zs.getD 4 0]
def mi4 (zs : List Int) : List Int := [zs.getD 5 0, zs.getD 6 0, zs.getD 7 0, zs.getD 8 0]
end Go.Proofs.YtlohbaoigfaneaaGreat.Shr
namespace Go.Proofs.YtlohbaoigfaneaaGreat
open Go.RowKit
set_option linter.unusedVariables false
set_option linter.unusedSimpArgs false
structure SmP (W : World) (A P M : Nat) (x : Int) (p m : List Int) : Prop where
 hA : W.heap[A]? = some (.cells #[.int .i64 x, .slice (some ⟨P, 0, none⟩) 4 4, .slice (some ⟨M, 0, none⟩) 4 4] 65 (0, 0))
 hP : IntsL W P 2 p
 hM : IntsL W M 2 m
 ne : A ≠ P ∧ A ≠ M ∧ P ≠ M
 pl : p.length = 4
 ml : m.length = 4
theorem blk_set (w : World) (T o : Nat) (v : Value) {k : Nat} (hk : k < w.heap.size) (hn : k ≠ T) : (w.setCell ⟨T, o, none⟩ v).heap[k]? = w.heap[k]? := ((Fr.refl T w).set o v).2.2.2.2 k hk hn
theorem SmP.alt {W : World} {A P M : Nat} {x : Int} {p m : List Int} (h : SmP W A P M x p m) : A < W.heap.size := (Array.getElem?_eq_some_iff.1 h.hA).1
theorem SmP.setA {W : World} {A P M : Nat} {x : Int} {p m : List Int} (h : SmP W A P M x p m) (y : Int) : SmP (W.setCell ⟨A, 0, none⟩ (.int .i64 y)) A P M y p m :=
 ⟨heap_setCell_same _ _ 0 _ 65 _ h.hA, (blk_set W A 0 _ h.hP.lt (Ne.symm h.ne.1)).trans h.hP, (blk_set W A 0 _ h.hM.lt (Ne.symm h.ne.2.1)).trans h.hM, h.ne, h.pl, h.ml⟩
theorem SmP.setP {W : World} {A P M : Nat} {x : Int} {p m : List Int} (h : SmP W A P M x p m) (o : Nat) (y : Int) : SmP (W.setCell ⟨P, o, none⟩ (.int .i64 y)) A P M x (p.set o y) m :=
 ⟨(blk_set W P o _ h.alt h.ne.1).trans h.hA, h.hP.set o y, (blk_set W P o _ h.hM.lt (Ne.symm h.ne.2.2)).trans h.hM, h.ne, by rw [List.length_set]; exact h.pl, h.ml⟩
theorem SmP.setM {W : World} {A P M : Nat} {x : Int} {p m : List Int} (h : SmP W A P M x p m) (o : Nat) (y : Int) : SmP (W.setCell ⟨M, o, none⟩ (.int .i64 y)) A P M x p (m.set o y) :=
 ⟨(blk_set W M o _ h.alt h.ne.2.1).trans h.hA, (blk_set W M o _ h.hP.lt h.ne.2.2).trans h.hP, h.hM.set o y, h.ne, h.pl, by rw [List.length_set]; exact h.ml⟩
theorem SmP.alloc {W : World} {A P M : Nat} {x : Int} {p m : List Int} (h : SmP W A P M x p m) (o : Obj) : SmP (W.alloc o) A P M x p m :=
 ⟨(Below.heap_alloc _ _ _ h.alt).trans h.hA, h.hP.alloc o, h.hM.alloc o, h.ne, h.pl, h.ml⟩
theorem SmP.drew {W : World} {A P M : Nat} {x : Int} {p m : List Int} (h : SmP W A P M x p m) : SmP W.drew A P M x p m := ⟨h.hA, h.hP, h.hM, h.ne, h.pl, h.ml⟩
theorem SmP.below {W X : World} {A P M : Nat} {x : Int} {p m : List Int} (h : SmP W A P M x p m) (hb : Below W.heap.size W X) : SmP X A P M x p m :=
 ⟨(hb.block _ h.alt).trans h.hA, h.hP.below hb, h.hM.below hb, h.ne, h.pl, h.ml⟩
def Fr3 (A P M : Nat) (w W : World) : Prop := W.os = w.os ∧ W.tape = w.tape ∧ W.output = w.output ∧ w.heap.size ≤ W.heap.size ∧ ∀ k, k < w.heap.size → k ≠ A → k ≠ P → k ≠ M → W.heap[k]? = w.heap[k]?
theorem Fr3.refl (A P M : Nat) (w : World) : Fr3 A P M w w := ⟨rfl, rfl, rfl, Nat.le_refl _, fun _ _ _ _ _ => rfl⟩
theorem Fr3.fr {A P M T : Nat} {w W X : World} (h : Fr3 A P M w W) (hf : Fr T W X) (hT : T = A ∨ T = P ∨ T = M) : Fr3 A P M w X :=
 ⟨hf.1.trans h.1, hf.2.1.trans h.2.1, hf.2.2.1.trans h.2.2.1, Nat.le_trans h.2.2.2.1 hf.2.2.2.1, fun k hk h1 h2 h3 => (hf.2.2.2.2 k (Nat.lt_of_lt_of_le hk h.2.2.2.1) (by omega)).trans (h.2.2.2.2 k hk h1 h2 h3)⟩
theorem Fr3.set {A P M T : Nat} {w W : World} (h : Fr3 A P M w W) (o : Nat) (v : Value) (hT : T = A ∨ T = P ∨ T = M) : Fr3 A P M w (W.setCell ⟨T, o, none⟩ v) := h.fr ((Fr.refl T W).set o v) hT
theorem Fr3.alloc {A P M : Nat} {w W : World} (h : Fr3 A P M w W) (o : Obj) : Fr3 A P M w (W.alloc o) := h.fr ((Fr.refl A W).alloc o) (.inl rfl)
theorem Fr3.drew {A P M : Nat} {w W : World} (h : Fr3 A P M w W) : Fr3 A P M w W.drew := h
theorem Fr3.toB {A P M lo : Nat} {w W : World} (h : Fr3 A P M w W) (h1 : lo ≤ A ∧ lo ≤ P ∧ lo ≤ M) (h2 : lo ≤ w.heap.size) : Below lo w W := ⟨h.1, h.2.1, h.2.2.1, h.2.2.2.1, fun k hk => h.2.2.2.2 k (by omega) (by omega) (by omega) (by omega)⟩
theorem nine_of (zs : List Int) (h : zs.length = 9) : ∃ a b c d e f g i j, zs = [a, b, c, d, e, f, g, i, j] := by
 match zs, h with
 | [a, b, c, d, e, f, g, i, j], _ => exact ⟨a, b, c, d, e, f, g, i, j, rfl⟩
theorem pl4_glA {zs : List Int} (h : zs.length = 9) {pn mn : Nat} (hp : pn < 4) (hm : mn < 4) (s p q : Int) : Shr.pl4 (glA 0 pn mn s p q zs) = (Shr.pl4 zs).set pn (wrap64 ((Shr.pl4 zs).getD pn 0 + p)) := by
 obtain ⟨a, b, c, d, e, f, g, i, j, rfl⟩ := nine_of zs h
 rcases (show pn = 0 ∨ pn = 1 ∨ pn = 2 ∨ pn = 3 by omega) with rfl | rfl | rfl | rfl <;> rcases (show mn = 0 ∨ mn = 1 ∨ mn = 2 ∨ mn = 3 by omega) with rfl | rfl | rfl | rfl <;> rfl
theorem mi4_glA {zs : List Int} (h : zs.length = 9) {pn mn : Nat} (hp : pn < 4) (hm : mn < 4) (s p q : Int) : Shr.mi4 (glA 0 pn mn s p q zs) = (Shr.mi4 zs).set mn (wrap64 ((Shr.mi4 zs).getD mn 0 + q)) := by
 obtain ⟨a, b, c, d, e, f, g, i, j, rfl⟩ := nine_of zs h
 rcases (show pn = 0 ∨ pn = 1 ∨ pn = 2 ∨ pn = 3 by omega) with rfl | rfl | rfl | rfl <;> rcases (show mn = 0 ∨ mn = 1 ∨ mn = 2 ∨ mn = 3 by omega) with rfl | rfl | rfl | rfl <;> rfl
theorem w_glA {zs : List Int} (h : zs.length = 9) {pn mn : Nat} (hp : pn < 4) (hm : mn < 4) (s p q : Int) : (glA 0 pn mn s p q zs).getD 0 0 = wrap64 (zs.getD 0 0 + s) := by
 obtain ⟨a, b, c, d, e, f, g, i, j, rfl⟩ := nine_of zs h
 rcases (show pn = 0 ∨ pn = 1 ∨ pn = 2 ∨ pn = 3 by omega) with rfl | rfl | rfl | rfl <;> rcases (show mn = 0 ∨ mn = 1 ∨ mn = 2 ∨ mn = 3 by omega) with rfl | rfl | rfl | rfl <;> rfl
theorem SmP.cells {W : World} {A P M : Nat} {x : Int} {p m : List Int} (h : SmP W A P M x p m) : W.cell? ⟨A, 0, none⟩ = some (.int .i64 x) ∧ W.cell? ⟨A, 1, none⟩ = some (.slice (some ⟨P, 0, none⟩) 4 4) ∧ W.cell? ⟨A, 2, none⟩ = some (.slice (some ⟨M, 0, none⟩) 4 4) :=
 ⟨by rw [cell_of_row _ _ _ _ _ _ h.hA]; rfl, by rw [cell_of_row _ _ _ _ _ _ h.hA]; rfl, by rw [cell_of_row _ _ _ _ _ _ h.hA]; rfl⟩
end Go.Proofs.YtlohbaoigfaneaaGreat
