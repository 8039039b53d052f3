import Derived.Test.YtlohbaoigfaneaaGreatAdl
import Derived.Test.YtlohbaoigfaneaaGreatFlo
import Derived.Test.YtlohbaoigfaneaaGreatInts
import Derived.Test.YtlohbaoigfaneaaGreatBrk
import Derived.Test.YtlohbaoigfaneaaGreatIts
namespace Go.Proofs.YtlohbaoigfaneaaGreat
open Go.RowKit
set_option linter.unusedVariables false
set_option linter.unusedSimpArgs false
structure SmP (W : World) (A P M : Nat) (x : Int) (p m : List Int) : Prop where
 hA : W.heap[A]? = some (.cells #[.int .i64 x, .slice (some ⟨P, 0, none⟩) 4 4, .slice (some ⟨M, 0, none⟩) 4 4] 65 (0, 0))
 hP : IntsL W P 2 p
 hM : IntsL W M 2 m
 ne : A ≠ P ∧ A ≠ M ∧ P ≠ M
 pl : p.length = 4
 ml : m.length = 4
theorem blk_set (w : World) (T o : Nat) (v : Value) {k : Nat} (hk : k < w.heap.size) (hn : k ≠ T) : (w.setCell ⟨T, o, none⟩ v).heap[k]? = w.heap[k]? := ((Fr.refl T w).set o v).2.2.2.2 k hk hn
theorem SmP.alt {W : World} {A P M : Nat} {x : Int} {p m : List Int} (h : SmP W A P M x p m) : A < W.heap.size := (Array.getElem?_eq_some_iff.1 h.hA).1
theorem SmP.setA {W : World} {A P M : Nat} {x : Int} {p m : List Int} (h : SmP W A P M x p m) (y : Int) : SmP (W.setCell ⟨A, 0, none⟩ (.int .i64 y)) A P M y p m :=
 ⟨heap_setCell_same _ _ 0 _ 65 _ h.hA, (blk_set W A 0 _ h.hP.lt (Ne.symm h.ne.1)).trans h.hP, (blk_set W A 0 _ h.hM.lt (Ne.symm h.ne.2.1)).trans h.hM, h.ne, h.pl, h.ml⟩
theorem SmP.setP {W : World} {A P M : Nat} {x : Int} {p m : List Int} (h : SmP W A P M x p m) (o : Nat) (y : Int) : SmP (W.setCell ⟨P, o, none⟩ (.int .i64 y)) A P M x (p.set o y) m :=
 ⟨(blk_set W P o _ h.alt h.ne.1).trans h.hA, h.hP.set o y, (blk_set W P o _ h.hM.lt (Ne.symm h.ne.2.2)).trans h.hM, h.ne, by rw [List.length_set]; exact h.pl, h.ml⟩
theorem SmP.setM {W : World} {A P M : Nat} {x : Int} {p m : List Int} (h : SmP W A P M x p m) (o : Nat) (y : Int) : SmP (W.setCell ⟨M, o, none⟩ (.int .i64 y)) A P M x p (m.set o y) :=
 ⟨(blk_set W M o _ h.alt h.ne.2.1).trans h.hA, (blk_set W M o _ h.hP.lt h.ne.2.2).trans h.hP, h.hM.set o y, h.ne, h.pl, by rw [List.length_set]; exact h.ml⟩
theorem SmP.alloc {W : World} {A P M : Nat} {x : Int} {p m : List Int} (h : SmP W A P M x p m) (o : Obj) : SmP (W.alloc o) A P M x p m :=
 ⟨(Below.heap_alloc _ _ _ h.alt).trans h.hA, h.hP.alloc o, h.hM.alloc o, h.ne, h.pl, h.ml⟩
theorem SmP.drew {W : World} {A P M : Nat} {x : Int} {p m : List Int} (h : SmP W A P M x p m) : SmP W.drew A P M x p m := ⟨h.hA, h.hP, h.hM, h.ne, h.pl, h.ml⟩
theorem SmP.below {W X : World} {A P M : Nat} {x : Int} {p m : List Int} (h : SmP W A P M x p m) (hb : Below W.heap.size W X) : SmP X A P M x p m :=
 ⟨(hb.block _ h.alt).trans h.hA, h.hP.below hb, h.hM.below hb, h.ne, h.pl, h.ml⟩
def Fr3 (A P M : Nat) (w W : World) : Prop := W.os = w.os ∧ W.tape = w.tape ∧ W.output = w.output ∧ w.heap.size ≤ W.heap.size ∧ ∀ k, k < w.heap.size → k ≠ A → k ≠ P → k ≠ M → W.heap[k]? = w.heap[k]?
theorem Fr3.refl (A P M : Nat) (w : World) : Fr3 A P M w w := ⟨rfl, rfl, rfl, Nat.le_refl _, fun _ _ _ _ _ => rfl⟩
theorem Fr3.fr {A P M T : Nat} {w W X : World} (h : Fr3 A P M w W) (hf : Fr T W X) (hT : T = A ∨ T = P ∨ T = M) : Fr3 A P M w X :=
 ⟨hf.1.trans h.1, hf.2.1.trans h.2.1, hf.2.2.1.trans h.2.2.1, Nat.le_trans h.2.2.2.1 hf.2.2.2.1, fun k hk h1 h2 h3 => (hf.2.2.2.2 k (Nat.lt_of_lt_of_le hk h.2.2.2.1) (by omega)).trans (h.2.2.2.2 k hk h1 h2 h3)⟩
theorem Fr3.set {A P M T : Nat} {w W : World} (h : Fr3 A P M w W) (o : Nat) (v : Value) (hT : T = A ∨ T = P ∨ T = M) : Fr3 A P M w (W.setCell ⟨T, o, none⟩ v) := h.fr ((Fr.refl T W).set o v) hT
theorem Fr3.alloc {A P M : Nat} {w W : World} (h : Fr3 A P M w W) (o : Obj) : Fr3 A P M w (W.alloc o) := h.fr ((Fr.refl A W).alloc o) (.inl rfl)
theorem Fr3.drew {A P M : Nat} {w W : World} (h : Fr3 A P M w W) : Fr3 A P M w W.drew := h
theorem Fr3.toB {A P M lo : Nat} {w W : World} (h : Fr3 A P M w W) (h1 : lo ≤ A ∧ lo ≤ P ∧ lo ≤ M) (h2 : lo ≤ w.heap.size) : Below lo w W := ⟨h.1, h.2.1, h.2.2.1, h.2.2.2.1, fun k hk => h.2.2.2.2 k (by omega) (by omega) (by omega) (by omega)⟩
theorem nine_of (zs : List Int) (h : zs.length = 9) : ∃ a b c d e f g i j, zs = [a, b, c, d, e, f, g, i, j] := by
 match zs, h with
 | [a, b, c, d, e, f, g, i, j], _ => exact ⟨a, b, c, d, e, f, g, i, j, rfl⟩
theorem pl4_glA {zs : List Int} (h : zs.length = 9) {pn mn : Nat} (hp : pn < 4) (hm : mn < 4) (s p q : Int) : Shr.pl4 (glA 0 pn mn s p q zs) = (Shr.pl4 zs).set pn (wrap64 ((Shr.pl4 zs).getD pn 0 + p)) := by
 obtain ⟨a, b, c, d, e, f, g, i, j, rfl⟩ := nine_of zs h
 rcases (show pn = 0 ∨ pn = 1 ∨ pn = 2 ∨ pn = 3 by omega) with rfl | rfl | rfl | rfl <;> rcases (show mn = 0 ∨ mn = 1 ∨ mn = 2 ∨ mn = 3 by omega) with rfl | rfl | rfl | rfl <;> rfl
theorem mi4_glA {zs : List Int} (h : zs.length = 9) {pn mn : Nat} (hp : pn < 4) (hm : mn < 4) (s p q : Int) : Shr.mi4 (glA 0 pn mn s p q zs) = (Shr.mi4 zs).set mn (wrap64 ((Shr.mi4 zs).getD mn 0 + q)) := by
 obtain ⟨a, b, c, d, e, f, g, i, j, rfl⟩ := nine_of zs h
 rcases (show pn = 0 ∨ pn = 1 ∨ pn = 2 ∨ pn = 3 by omega) with rfl | rfl | rfl | rfl <;> rcases (show mn = 0 ∨ mn = 1 ∨ mn = 2 ∨ mn = 3 by omega) with rfl | rfl | rfl | rfl <;> rfl
theorem w_glA {zs : List Int} (h : zs.length = 9) {pn mn : Nat} (hp : pn < 4) (hm : mn < 4) (s p q : Int) : (glA 0 pn mn s p q zs).getD 0 0 = wrap64 (zs.getD 0 0 + s) := by
 obtain ⟨a, b, c, d, e, f, g, i, j, rfl⟩ := nine_of zs h
 rcases (show pn = 0 ∨ pn = 1 ∨ pn = 2 ∨ pn = 3 by omega) with rfl | rfl | rfl | rfl <;> rcases (show mn = 0 ∨ mn = 1 ∨ mn = 2 ∨ mn = 3 by omega) with rfl | rfl | rfl | rfl <;> rfl
theorem SmP.cells {W : World} {A P M : Nat} {x : Int} {p m : List Int} (h : SmP W A P M x p m) : W.cell? ⟨A, 0, none⟩ = some (.int .i64 x) ∧ W.cell? ⟨A, 1, none⟩ = some (.slice (some ⟨P, 0, none⟩) 4 4) ∧ W.cell? ⟨A, 2, none⟩ = some (.slice (some ⟨M, 0, none⟩) 4 4) :=
 ⟨by rw [cell_of_row _ _ _ _ _ _ h.hA]; rfl, by rw [cell_of_row _ _ _ _ _ _ h.hA]; rfl, by rw [cell_of_row _ _ _ _ _ _ h.hA]; rfl⟩
set_option maxRecDepth 20000 in
set_option maxHeartbeats 8000000 in
theorem addGlueS_any {W : World} {A P M : Nat} {x : Int} {pl ml : List Int} (pn mn : Nat) (s p q : Int) (h : SmP W A P M x pl ml) (hp : pn < 4) (hm : mn < 4) :
 Calls Tryz.prog 61 #[.pointer (some ⟨A, 0, none⟩), glueV s p (pn : Int) q (mn : Int)] W fun e w' => (∃ v, e = .returned v) ∧ SmP w' A P M (wrap64 (x + s)) (pl.set pn (wrap64 (pl.getD pn 0 + p))) (ml.set mn (wrap64 (ml.getD mn 0 + q))) ∧ Fr3 A P M W w' := by
 have n1 := h.ne.1
 have n2 := h.ne.2.1
 have n3 := h.ne.2.2
 have n1' := Ne.symm n1
 have n2' := Ne.symm n2
 have n3' := Ne.symm n3
 have hpi : (pn : Int) < 4 := by omega
 have hmi : (mn : Int) < 4 := by omega
 have hAl := h.alt
 have hPl := h.hP.lt
 have hMl := h.hM.lt
 have hpL := h.pl
 have hmL := h.ml
 obtain ⟨z3, hz3⟩ : ∃ z, z = pl.getD pn 0 := ⟨_, rfl⟩
 obtain ⟨z4, hz4⟩ : ∃ z, z = ml.getD mn 0 := ⟨_, rfl⟩
 rw [← hz3, ← hz4]
 have HZ3 := hideP hz3
 have HZ4 := hideP hz4
 have HI := hideP h
 clear h hz3 hz4
 simp only [glueV]
 go_enter Tryz.func61, Tryz.ntmps61
 go_upto_region 1 with fail
 obtain ⟨G, hG⟩ : ∃ G, G = W.heap.size := ⟨_, rfl⟩
 have gA : G ≠ A := by omega
 have gP : G ≠ P := by omega
 have gM : G ≠ M := by omega
 obtain ⟨W1, hW1⟩ : ∃ X, X = W.alloc (.cells #[.int .i64 s, .int .i64 p, .int .i64 (pn : Int), .int .i64 q, .int .i64 (mn : Int)] 33) := ⟨_, rfl⟩
 have F1 : Hid (SmP W1 A P M x pl ml ∧ Fr3 A P M W W1 ∧ W1.heap[G]? = some (.cells #[.int .i64 s, .int .i64 p, .int .i64 (pn : Int), .int .i64 q, .int .i64 (mn : Int)] 33 (0, 0))) := hideP (by rw [hW1, hG]; exact ⟨HI.out.alloc _, (Fr3.refl _ _ _ _).alloc _, heap_alloc_new W _⟩)
 rw [← hW1, ← hG]
 have HG := hideP hG
 clear hW1 hG HI
 have ST : Hid (∀ (X : World) (x2 : Int) (p2 m2 : List Int), SmP X A P M x2 p2 m2 → X.heap[G]? = some (.cells #[.int .i64 s, .int .i64 p, .int .i64 (pn : Int), .int .i64 q, .int .i64 (mn : Int)] 33 (0, 0)) → ((X.cell? ⟨A, 0, none⟩ = some (.int .i64 x2) ∧ X.cell? ⟨A, 1, none⟩ = some (.slice (some ⟨P, 0, none⟩) 4 4) ∧ X.cell? ⟨A, 2, none⟩ = some (.slice (some ⟨M, 0, none⟩) 4 4)) ∧ X.cell? ⟨P, pn, none⟩ = some (.int .i64 (p2.getD pn 0)) ∧ X.cell? ⟨M, mn, none⟩ = some (.int .i64 (m2.getD mn 0)) ∧ (X.cell? ⟨G, 0, none⟩ = some (.int .i64 s) ∧ X.cell? ⟨G, 1, none⟩ = some (.int .i64 p) ∧ X.cell? ⟨G, 2, none⟩ = some (.int .i64 (pn : Int)) ∧ X.cell? ⟨G, 3, none⟩ = some (.int .i64 q) ∧ X.cell? ⟨G, 4, none⟩ = some (.int .i64 (mn : Int))) ∧ (∀ j, X.frozen? ⟨A, j, none⟩ = false) ∧ (∀ j, X.frozen? ⟨P, j, none⟩ = false) ∧ (∀ j, X.frozen? ⟨M, j, none⟩ = false))) := hideP (fun X x2 p2 m2 hX hB => ⟨hX.cells, hX.hP.cell pn (by rw [hX.pl]; exact hp), hX.hM.cell mn (by rw [hX.ml]; exact hm), ⟨by rw [cell_of_row _ _ _ _ _ _ hB]; rfl, by rw [cell_of_row _ _ _ _ _ _ hB]; rfl, by rw [cell_of_row _ _ _ _ _ _ hB]; rfl, by rw [cell_of_row _ _ _ _ _ _ hB]; rfl, by rw [cell_of_row _ _ _ _ _ _ hB]; rfl⟩, fun j => frozen_of_row _ _ j _ 65 hX.hA, hX.hP.free, hX.hM.free⟩)
 obtain ⟨⟨a0, a1, a2⟩, -, -, ⟨b0, b1, b2, b3, b4⟩, fA, -, -⟩ := ST.out W1 _ _ _ F1.out.1 F1.out.2.2
 go_cut [] (fun wc => Hid (SmP wc A P M (wrap64 (x + s)) pl ml ∧ Fr3 A P M W wc ∧ wc.heap[G]? = some (.cells #[.int .i64 s, .int .i64 p, .int .i64 (pn : Int), .int .i64 q, .int .i64 (mn : Int)] 33 (0, 0))))
 case first =>
  go_region
  go_wp2_with fail
  go_meet
  case rel =>
   obtain ⟨f1, f2, f3⟩ := F1.out
   refine hideP ⟨?_, ?_, ?_⟩
   ·repeat (first | with_reducible exact f1.setA _ | with_reducible exact f1 | with_reducible refine SmP.drew ?_)
   ·repeat (first | with_reducible exact f2 | with_reducible refine Fr3.set ?_ _ _ (.inl rfl) | with_reducible refine Fr3.drew ?_)
   ·exact (blk_set _ A 0 _ (show G < W1.heap.size from (Array.getElem?_eq_some_iff.1 f3).1) gA).trans f3
 case rest =>
  clear a0 a1 a2 b0 b1 b2 b3 b4 fA F1
  have F2 := hcut
  clear hcut
  obtain ⟨⟨a0, a1, a2⟩, p0, -, ⟨b0, b1, b2, b3, b4⟩, -, fP, -⟩ := ST.out wc _ _ _ F2.out.1 F2.out.2.2
  rw [← HZ3.out] at p0
  obtain ⟨W2, rfl⟩ : ∃ X, X = wc := ⟨_, rfl⟩
  go_upto_region 2 with fail
  go_cut [] (fun wc => Hid (SmP wc A P M (wrap64 (x + s)) (pl.set pn (wrap64 (z3 + p))) ml ∧ Fr3 A P M W wc ∧ wc.heap[G]? = some (.cells #[.int .i64 s, .int .i64 p, .int .i64 (pn : Int), .int .i64 q, .int .i64 (mn : Int)] 33 (0, 0))))
  case first =>
   go_region
   go_wp2_with fail
   go_meet
   case rel =>
    obtain ⟨f1, f2, f3⟩ := F2.out
    refine hideP ⟨?_, ?_, ?_⟩
    ·repeat (first | with_reducible exact f1 | with_reducible refine SmP.setP ?_ _ _ | with_reducible refine SmP.drew ?_)
    ·repeat (first | with_reducible exact f2 | with_reducible refine Fr3.set ?_ _ _ (.inr (.inl rfl)) | with_reducible refine Fr3.drew ?_)
    ·exact (blk_set _ P pn _ (show G < W2.heap.size from (Array.getElem?_eq_some_iff.1 f3).1) gP).trans f3
  case rest =>
   clear a0 a1 a2 p0 b0 b1 b2 b3 b4 fP F2
   have F3 := hcut
   clear hcut
   obtain ⟨⟨a0, a1, a2⟩, -, m0, ⟨b0, b1, b2, b3, b4⟩, -, -, fM⟩ := ST.out wc _ _ _ F3.out.1 F3.out.2.2
   rw [← HZ4.out] at m0
   obtain ⟨W3, rfl⟩ : ∃ X, X = wc := ⟨_, rfl⟩
   go_upto_region 3 with fail
   go_region
   go_wp2
   go_end0
   obtain ⟨f1, f2, f3⟩ := F3.out
   refine ⟨⟨_, rfl⟩, ?_, ?_⟩
   ·repeat (first | with_reducible exact f1 | with_reducible refine SmP.setM ?_ _ _ | with_reducible refine SmP.drew ?_)
   ·repeat (first | with_reducible exact f2 | with_reducible refine Fr3.set ?_ _ _ (.inr (.inr rfl)) | with_reducible refine Fr3.drew ?_)
def lenV : Value → Nat
 | .slice _ n _ => n
 | _ => 0
def begF (ys : List It) : Nat → Nat → Nat
 | 0, a => a
 | f + 1, a => if discB (ys.getD a It.none).1 = true then begF ys f (a + 1) else a
def begI (ys : List It) (a b : Nat) : Nat := begF ys (b - a) a
theorem begI_end (ys : List It) (a : Nat) : begI ys a a = a := by simp [begI, begF]
theorem begI_step (ys : List It) (a b : Nat) (h : a < b) : begI ys a b = if discB (ys.getD a It.none).1 = true then begI ys (a + 1) b else a := by
 unfold begI
 rw [show b - a = (b - (a + 1)) + 1 by omega, begF]
theorem ownG_cap {w : World} {base e s n cap : Nat} {ao : Option Addr} {xs : List Value} (h : w.ownsRow base e s (.slice ao n cap) n xs) : n ≤ cap ∧ cap ≤ maxLen := by
 obtain ⟨_, ⟨e1, rfl⟩ | ⟨g, c, cur, e1, _, _, h1, h2, _⟩⟩ := h
 ·simp only [Value.slice.injEq] at e1
  omega
 ·simp only [Value.slice.injEq] at e1
  omega
def gapN (g0 g1 g2 g3 g4 : Int) : Nd := ⟨3, 0, 0, 0, 0, 0, 0, 0, g0, g1, g2, g3, g4, ⟨#[]⟩, 0⟩
structure Rws (lo : Nat) (w : World) (v : Value) (L : List (List Nd)) : Prop where
 is : ∃ ao cap, v = .slice ao L.length cap ∧ (0 < L.length → ∃ b off, ao = some ⟨b, off, none⟩ ∧ lo ≤ b ∧ b < w.heap.size ∧ ∀ i, i < L.length → ∃ u, w.cell? ⟨b, off + i, none⟩ = some u ∧ w.ownsRow lo 61 15 u (L.getD i []).length (flatN (L.getD i [])))
theorem Rws.abv {lo : Nat} {w w' : World} {v : Value} {L : List (List Nd)} (h : Rws lo w v L) (ha : Abv lo w w') : Rws lo w' v L := by
 obtain ⟨ao, cap, rfl, hc⟩ := h.is
 refine ⟨ao, cap, rfl, fun hp => ?_⟩
 obtain ⟨b, off, rfl, hlo, hlt, hcell⟩ := hc hp
 refine ⟨b, off, rfl, hlo, Nat.lt_of_lt_of_le hlt ha.size, fun i hi => ?_⟩
 obtain ⟨u, h1, h2⟩ := hcell i hi
 refine ⟨u, (World.cell?_of_block (w := w) (a := ⟨b, off + i, none⟩) (ha.block b hlo hlt)).trans h1, ?_⟩
 obtain ⟨h0, h | ⟨g, cap', cur, e, hg, hb, hr⟩⟩ := h2
 ·exact ⟨h0, .inl h⟩
 ·exact ⟨h0, .inr ⟨g, cap', cur, e, hg, (ha.block g hg (Array.getElem?_eq_some_iff.1 hb).1).trans hb, hr⟩⟩
theorem Rws.mono {lo lo' : Nat} {w : World} {v : Value} {L : List (List Nd)} (h : Rws lo w v L) (hl : lo' ≤ lo) : Rws lo' w v L := by
 obtain ⟨ao, cap, rfl, hc⟩ := h.is
 refine ⟨ao, cap, rfl, fun hp => ?_⟩
 obtain ⟨b, off, rfl, hlo, hlt, hcell⟩ := hc hp
 refine ⟨b, off, rfl, Nat.le_trans hl hlo, hlt, fun i hi => ?_⟩
 obtain ⟨u, h1, h2⟩ := hcell i hi
 exact ⟨u, h1, ownG_mono h2 hl⟩
structure HR (lo : Nat) (w : World) (v : Value) (xs : List Nd) : Prop where
 hd : Heads lo w v (its xs)
 rs : Rws lo w v (itemsOf xs)
theorem HR.abv {lo : Nat} {w w' : World} {v : Value} {xs : List Nd} (h : HR lo w v xs) (ha : Abv lo w w') : HR lo w' v xs := ⟨h.hd.abv ha, h.rs.abv ha⟩
theorem HR.mono {lo lo' : Nat} {w : World} {v : Value} {xs : List Nd} (h : HR lo w v xs) (hl : lo' ≤ lo) : HR lo' w v xs := ⟨h.hd.mono hl, h.rs.mono hl⟩
theorem begI_range (ys : List It) (a b : Nat) (h : a ≤ b) : a ≤ begI ys a b ∧ begI ys a b ≤ b := by
 obtain ⟨n, hn⟩ : ∃ n, n = b - a := ⟨_, rfl⟩
 induction n generalizing a with
 | zero =>
  obtain rfl : a = b := by omega
  rw [begI_end]
  omega
 | succ n ih =>
  rw [begI_step ys a b (by omega)]
  split
  ·have := ih (a + 1) (by omega) (by omega)
   omega
  ·omega
theorem heap_alloc_new2 (w : World) (a b : Obj) : ((w.alloc a).alloc b).heap[w.heap.size + 1]? = some b := by
 have h := heap_alloc_new (w.alloc a) b
 rwa [show (w.alloc a).heap.size = w.heap.size + 1 by simp] at h
theorem ask_hyph (x : Nd) : ∃ c0 c1 c2 c3 c4 : Int, (∀ W : World, (Instr.typeAssert (thV x) 150 241 true).run Tryz.prog W = .ok (.tuple #[.agg #[.int .i64 c0, .int .i64 c1, .int .i64 c2, .int .i64 c3, .int .i64 c4], .bool (x.k == 8)]) W) ∧ (x.k = 8 → c0 = x.fo ∧ c1 = x.ch ∧ c2 = x.wd ∧ c3 = x.ht ∧ c4 = x.dp) := by
 obtain ⟨k, wd, ht, dp, sh, fo, ch, nn, gs, gp, gpo, gm, gmo, tx, kids⟩ := x
 by_cases hk : 1 ≤ k ∧ k ≤ 11
 ·rcases kinds hk.1 hk.2 with rfl | rfl | rfl | rfl | rfl | rfl | rfl | rfl | rfl | rfl | rfl
  ·exact ⟨0, 0, 0, 0, 0, fun _ => by kernel_rfl, fun h => by simp at h⟩
  ·exact ⟨0, 0, 0, 0, 0, fun _ => by kernel_rfl, fun h => by simp at h⟩
  ·exact ⟨0, 0, 0, 0, 0, fun _ => by kernel_rfl, fun h => by simp at h⟩
  ·exact ⟨0, 0, 0, 0, 0, fun _ => by kernel_rfl, fun h => by simp at h⟩
  ·exact ⟨0, 0, 0, 0, 0, fun _ => by kernel_rfl, fun h => by simp at h⟩
  ·exact ⟨0, 0, 0, 0, 0, fun _ => by kernel_rfl, fun h => by simp at h⟩
  ·exact ⟨0, 0, 0, 0, 0, fun _ => by kernel_rfl, fun h => by simp at h⟩
  ·exact ⟨fo, ch, wd, ht, dp, fun _ => by kernel_rfl, fun _ => ⟨rfl, rfl, rfl, rfl, rfl⟩⟩
  ·exact ⟨0, 0, 0, 0, 0, fun _ => by kernel_rfl, fun h => by simp at h⟩
  ·exact ⟨0, 0, 0, 0, 0, fun _ => by kernel_rfl, fun h => by simp at h⟩
  ·exact ⟨0, 0, 0, 0, 0, fun _ => by kernel_rfl, fun h => by simp at h⟩
 ·exact ⟨0, 0, 0, 0, 0, fun _ => by rw [thV_0 _ hk, show (k == 8) = false by simp; omega]; kernel_rfl, fun h => absurd (show 1 ≤ k ∧ k ≤ 11 by have h2 : k = 8 := h; omega) hk⟩
def trnB (ys : List It) (a : Nat) : Bool := (ys.getD a It.none).1.k == 8 || brkB ys a
def trnC (hy : Int) (ys : List It) (a : Nat) : Int := if (ys.getD a It.none).1.k = 8 then hy else brkC ys a
def ShowN (x : Nd) (q : Option Addr) (W : World) : Prop := if x.k = 8 then ∃ b, q = some ⟨b, 0, none⟩ ∧ W.heap[b]? = some (.cells #[.int .i64 x.fo, .int .i64 x.ch, .int .i64 x.wd, .int .i64 x.ht, .int .i64 x.dp] 241 (0, 0)) else q = none
def KeepH (w w' : World) : Prop := ∀ (b : Nat) (cs : Array Value), w.heap[b]? = some (.cells cs 241 (0, 0)) → w'.heap[b]? = some (.cells cs 241 (0, 0))
theorem KeepH.refl (w : World) : KeepH w w := fun _ _ h => h
theorem KeepH.trans {a b c : World} (h : KeepH a b) (g : KeepH b c) : KeepH a c := fun x cs e => g x cs (h x cs e)
theorem KeepH.below {w w' : World} (h : Below w.heap.size w w') : KeepH w w' := fun b cs e => (h.block b (Array.getElem?_eq_some_iff.1 e).1).trans e
theorem ShowN.keep {x : Nd} {q : Option Addr} {w w' : World} (h : ShowN x q w) (hk : KeepH w w') : ShowN x q w' := by
 unfold ShowN at h ⊢
 by_cases hx : x.k = 8
 ·rw [if_pos hx] at h ⊢
  obtain ⟨b, h1, h2⟩ := h
  exact ⟨b, h1, hk _ _ h2⟩
 ·rw [if_neg hx] at h ⊢
  exact h
set_option maxRecDepth 20000 in
set_option maxHeartbeats 8000000 in
theorem turnAt_any {w : World} {PB B cap n : Nat} {ys : List It} {z5 : Int} (a : Nat) (h24 : w.cell? ⟨PB, 24, none⟩ = some (.slice (some ⟨B, 0, none⟩) n cap)) (h5 : w.cell? ⟨PB, 5, none⟩ = some (.int .i64 z5)) (h : ItR w B ys) (hl : ys.length = n) (hB : B < w.heap.size) (ha : a < n) (hn : n ≤ 20003) (hn2 : n ≤ 20000) :
 Calls Tryz.prog 109 #[.pointer (some ⟨PB, 0, none⟩), .int .i64 (a : Int)] w fun e w' => (∃ (q : Option Addr), e = .returned (.tuple #[.agg #[.int .i64 (a : Int), .int .i64 (trnC z5 ys a), .pointer q, .int .i64 0], .bool (trnB ys a)]) ∧ ShowN (ys.getD a It.none).1 q w') ∧ Below w.heap.size w w' := by
 have ha' : a < ys.length := by omega
 have hai : (a : Int) < (n : Int) := by omega
 have hPB : PB < w.heap.size := World.block_lt_of_cell? w _ h24
 have g0 := h.c0 a ha'
 have g1 := h.c1 a ha'
 have g2 := h.c2 a ha'
 obtain ⟨x, hx⟩ : ∃ x, x = (ys.getD a It.none).1 := ⟨_, rfl⟩
 rw [← hx] at g0
 obtain ⟨c0, c1, c2, c3, c4, hs, hcc⟩ := ask_hyph x
 have hsh := thV_shape x
 have BC : Hid (∀ W, Below w.heap.size w W → Calls Tryz.prog 114 #[.slice (some ⟨B, 0, none⟩) n cap, .int .i64 (a : Int)] W fun e w' => e = .returned (.tuple #[.int .i64 (brkC ys a), .bool (brkB ys a)]) ∧ Below W.heap.size W w') := hideP (fun W hW => breakAt_any a (h.block (hW.block B hB)) hl (Nat.lt_of_lt_of_le hB hW.size) ha hn2)
 obtain ⟨R, hR⟩ : ∃ R, R = trnB ys a := ⟨_, rfl⟩
 rw [← hR]
 have HR : Hid (R = (x.k == 8 || brkB ys a)) := hideP (by rw [hR, hx]; rfl)
 obtain ⟨bb, hbb⟩ : ∃ b, b = brkB ys a := ⟨_, rfl⟩
 rw [← hbb] at BC HR
 obtain ⟨cb, hcb⟩ : ∃ b, b = brkC ys a := ⟨_, rfl⟩
 rw [← hcb] at BC
 obtain ⟨ct, hct⟩ : ∃ b, b = trnC z5 ys a := ⟨_, rfl⟩
 rw [← hct]
 unfold trnC at hct
 rw [← hx, ← hcb] at hct
 have HCT := hideP hct
 clear hcb hct
 have HSHOW : Hid (∀ W' : World, (x.k = 8 → W'.heap[w.heap.size + 1]? = some (.cells #[.int .i64 c0, .int .i64 c1, .int .i64 c2, .int .i64 c3, .int .i64 c4] 241 (0, 0))) → ShowN (ys.getD a It.none).1 (if x.k = 8 then some ⟨w.heap.size + 1, 0, none⟩ else none) W') := hideP (fun W' h8 => by
  rw [← hx]
  unfold ShowN
  split
  ·rename_i hk
   obtain ⟨rfl, rfl, rfl, rfl, rfl⟩ := hcc hk
   exact ⟨_, rfl, h8 hk⟩
  ·rfl)
 obtain ⟨yy, hyy⟩ : ∃ yy, yy = (ys.getD a It.none).1 := ⟨_, rfl⟩
 rw [← hyy] at HSHOW
 rw [← hyy]
 clear hyy hcc
 obtain ⟨v, hv⟩ : ∃ v, v = thV x := ⟨_, rfl⟩
 rw [← hv] at hs hsh g0
 clear hv hR hbb h hl
 by_cases h8 : x.k = 8
 ·rw [show (x.k == 8) = true by simp [h8]] at hs HR
  have HE : Hid (R = true) := hideP (by rw [HR.out]; rfl)
  have HCE : Hid (ct = z5) := hideP (by rw [HCT.out, if_pos h8])
  have HSW : Hid (∀ W' : World, (W'.heap[w.heap.size + 1]? = some (.cells #[.int .i64 c0, .int .i64 c1, .int .i64 c2, .int .i64 c3, .int .i64 c4] 241 (0, 0))) → ShowN yy (some ⟨w.heap.size + 1, 0, none⟩) W') := hideP (fun W' hW => by
   have h := HSHOW.out W' (fun _ => hW)
   rw [if_pos h8] at h
   exact h)
  clear hx h8 HR BC HSHOW HCT
  rcases hsh with rfl | ⟨X, q, rfl⟩
  all_goals
   go_enter Tryz.func109, Tryz.ntmps109
   go_wp2
   refine bodyPost_ret (v := .tuple #[.agg #[.int .i64 (a : Int), .int .i64 z5, .pointer (some ⟨w.heap.size + 1, 0, none⟩), .int .i64 0], .bool true]) (by simp [results, Tryz.results109, go_sem]) rfl ⟨⟨_, by rw [HE.out, HCE.out], HSW.out _ ?_⟩, ?_⟩
   ·first | exact (heap_alloc_new2 w _ _) | exact (show _ from heap_alloc_new2 w _ _)
   ·first | exact below2 _ _ _ | exact Below.drew (below2 _ _ _)
 ·rw [show (x.k == 8) = false by simp [h8]] at hs HR
  have HE : Hid (R = bb) := hideP (by rw [HR.out]; rfl)
  have HCE : Hid (ct = cb) := hideP (by rw [HCT.out, if_neg h8])
  have HSW : Hid (∀ W' : World, ShowN yy none W') := hideP (fun W' => by
   have h := HSHOW.out W' (fun h => absurd h h8)
   rw [if_neg h8] at h
   exact h)
  clear hx h8 HR HSHOW HCT
  rcases hsh with rfl | ⟨X, q, rfl⟩
  all_goals
   go_enter Tryz.func109, Tryz.ntmps109
   go_wp2_with fail
   refine (BC.out _ (below2 _ _ _)).mono ?_
   rintro e w5 ⟨rfl, hb5⟩
   have B5 : Hid (Below w.heap.size w w5) := hideP (below_more (below2 _ _ _) hb5 (by simp; omega))
   have hq : w5.heap[w.heap.size]? = some (.cells #[.int .i64 0, .int .i64 0, .pointer none, .int .i64 0] 85 (0, 0)) := (hb5.block _ (by simp; omega)).trans (((below1 (w.alloc _) _).block _ (by simp)).trans (heap_alloc_new _ _))
   have t0 : w5.cell? ⟨w.heap.size, 0, none⟩ = some (.int .i64 0) := by rw [cell_of_row w5 _ _ _ _ _ hq]; rfl
   have t1 : w5.cell? ⟨w.heap.size, 1, none⟩ = some (.int .i64 0) := by rw [cell_of_row w5 _ _ _ _ _ hq]; rfl
   have t2 : w5.cell? ⟨w.heap.size, 2, none⟩ = some (.pointer none) := by rw [cell_of_row w5 _ _ _ _ _ hq]; rfl
   have t3 : w5.cell? ⟨w.heap.size, 3, none⟩ = some (.int .i64 0) := by rw [cell_of_row w5 _ _ _ _ _ hq]; rfl
   have tf : ∀ o, w5.frozen? ⟨w.heap.size, o, none⟩ = false := fun o => by rw [World.frozen?, hq]; rfl
   have hsz : w.heap.size < w5.heap.size := (Array.getElem?_eq_some_iff.1 hq).1
   have HQ := hideP hq
   clear hq hb5
   go_wp2
   obtain ⟨W6, hW6⟩ : ∃ W6, W6 = putC w5 w.heap.size 0 [.int .i64 (a : Int), .int .i64 cb, .pointer none, .int .i64 0] := ⟨_, rfl⟩
   have B6 : Below w.heap.size w W6 := by rw [hW6]; exact putC_below (Nat.le_refl _) _ _ _ B5.out
   obtain ⟨cur, q1, q2, _, q4⟩ := putC_block [.int .i64 (a : Int), .int .i64 cb, .pointer none, .int .i64 0] 0 w5 _ HQ.out (by simp)
   rw [← hW6] at q1
   simp only [putC] at hW6
   rw [← hW6]
   have y0 : W6.cell? ⟨w.heap.size, 0, none⟩ = some (.int .i64 (a : Int)) := by rw [cell_of_row W6 _ _ _ _ _ q1]; exact q4 0 (by simp)
   have y1 : W6.cell? ⟨w.heap.size, 1, none⟩ = some (.int .i64 cb) := by rw [cell_of_row W6 _ _ _ _ _ q1]; exact q4 1 (by simp)
   have y2 : W6.cell? ⟨w.heap.size, 2, none⟩ = some (.pointer none) := by rw [cell_of_row W6 _ _ _ _ _ q1]; exact q4 2 (by simp)
   have y3 : W6.cell? ⟨w.heap.size, 3, none⟩ = some (.int .i64 0) := by rw [cell_of_row W6 _ _ _ _ _ q1]; exact q4 3 (by simp)
   exact bodyPost_ret (v := .tuple #[.agg #[.int .i64 (a : Int), .int .i64 cb, .pointer none, .int .i64 0], .bool bb]) (by simp [results, Tryz.results109, go_sem, y0, y1, y2, y3]) rfl ⟨⟨_, by rw [HE.out, HCE.out], HSW.out _⟩, B6⟩
end Go.Proofs.YtlohbaoigfaneaaGreat
