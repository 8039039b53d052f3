import Derived.Test.YtlohbaoigfaneaaGreatSme
import Derived.Test.YtlohbaoigfaneaaGreatMak
import Derived.Test.YtlohbaoigfaneaaGreatGlue
import Derived.Test.YtlohbaoigfaneaaGreatAdl
import Derived.Test.YtlohbaoigfaneaaGreatBrk
import Derived.Test.YtlohbaoigfaneaaGreatItx
namespace Go.Proofs.YtlohbaoigfaneaaGreat
open Go.RowKit
set_option linter.unusedVariables false
set_option linter.unusedSimpArgs false
structure SmT (c3 c4 c5 : Value) (W : World) (A P M : Nat) (x : Int) (p m : List Int) : Prop where
 hA : W.heap[A]? = some (.cells #[.int .i64 x, .slice (some ⟨P, 0, none⟩) 4 4, .slice (some ⟨M, 0, none⟩) 4 4, c3, c4, c5] 104 (0, 0))
 hP : IntsL W P 2 p
 hM : IntsL W M 2 m
 ne : A ≠ P ∧ A ≠ M ∧ P ≠ M
 pl : p.length = 4
 ml : m.length = 4
theorem SmT.alt {c3 c4 c5 : Value} {W : World} {A P M : Nat} {x : Int} {p m : List Int} (h : SmT c3 c4 c5 W A P M x p m) : A < W.heap.size := (Array.getElem?_eq_some_iff.1 h.hA).1
theorem SmT.setA {c3 c4 c5 : Value} {W : World} {A P M : Nat} {x : Int} {p m : List Int} (h : SmT c3 c4 c5 W A P M x p m) (y : Int) : SmT c3 c4 c5 (W.setCell ⟨A, 0, none⟩ (.int .i64 y)) A P M y p m :=
 ⟨heap_setCell_same _ _ 0 _ 104 _ h.hA, (blk_set W A 0 _ h.hP.lt (Ne.symm h.ne.1)).trans h.hP, (blk_set W A 0 _ h.hM.lt (Ne.symm h.ne.2.1)).trans h.hM, h.ne, h.pl, h.ml⟩
theorem SmT.setP {c3 c4 c5 : Value} {W : World} {A P M : Nat} {x : Int} {p m : List Int} (h : SmT c3 c4 c5 W A P M x p m) (o : Nat) (y : Int) : SmT c3 c4 c5 (W.setCell ⟨P, o, none⟩ (.int .i64 y)) A P M x (p.set o y) m :=
 ⟨(blk_set W P o _ h.alt h.ne.1).trans h.hA, h.hP.set o y, (blk_set W P o _ h.hM.lt (Ne.symm h.ne.2.2)).trans h.hM, h.ne, by rw [List.length_set]; exact h.pl, h.ml⟩
theorem SmT.setM {c3 c4 c5 : Value} {W : World} {A P M : Nat} {x : Int} {p m : List Int} (h : SmT c3 c4 c5 W A P M x p m) (o : Nat) (y : Int) : SmT c3 c4 c5 (W.setCell ⟨M, o, none⟩ (.int .i64 y)) A P M x p (m.set o y) :=
 ⟨(blk_set W M o _ h.alt h.ne.2.1).trans h.hA, (blk_set W M o _ h.hP.lt h.ne.2.2).trans h.hP, h.hM.set o y, h.ne, h.pl, by rw [List.length_set]; exact h.ml⟩
theorem SmT.alloc {c3 c4 c5 : Value} {W : World} {A P M : Nat} {x : Int} {p m : List Int} (h : SmT c3 c4 c5 W A P M x p m) (o : Obj) : SmT c3 c4 c5 (W.alloc o) A P M x p m :=
 ⟨(Below.heap_alloc _ _ _ h.alt).trans h.hA, h.hP.alloc o, h.hM.alloc o, h.ne, h.pl, h.ml⟩
theorem SmT.drew {c3 c4 c5 : Value} {W : World} {A P M : Nat} {x : Int} {p m : List Int} (h : SmT c3 c4 c5 W A P M x p m) : SmT c3 c4 c5 W.drew A P M x p m := ⟨h.hA, h.hP, h.hM, h.ne, h.pl, h.ml⟩
theorem SmT.below {c3 c4 c5 : Value} {W X : World} {A P M : Nat} {x : Int} {p m : List Int} (h : SmT c3 c4 c5 W A P M x p m) (hb : Below W.heap.size W X) : SmT c3 c4 c5 X A P M x p m :=
 ⟨(hb.block _ h.alt).trans h.hA, h.hP.below hb, h.hM.below hb, h.ne, h.pl, h.ml⟩
theorem SmT.cells {c3 c4 c5 : Value} {W : World} {A P M : Nat} {x : Int} {p m : List Int} (h : SmT c3 c4 c5 W A P M x p m) : W.cell? ⟨A, 0, none⟩ = some (.int .i64 x) ∧ W.cell? ⟨A, 1, none⟩ = some (.slice (some ⟨P, 0, none⟩) 4 4) ∧ W.cell? ⟨A, 2, none⟩ = some (.slice (some ⟨M, 0, none⟩) 4 4) :=
 ⟨by rw [cell_of_row _ _ _ _ _ _ h.hA]; rfl, by rw [cell_of_row _ _ _ _ _ _ h.hA]; rfl, by rw [cell_of_row _ _ _ _ _ _ h.hA]; rfl⟩
set_option maxRecDepth 20000 in
set_option maxHeartbeats 8000000 in
theorem addGlueT_any {c3 c4 c5 : Value} {W : World} {A P M : Nat} {x : Int} {pl ml : List Int} (pn mn : Nat) (s p q : Int) (h : SmT c3 c4 c5 W A P M x pl ml) (hp : pn < 4) (hm : mn < 4) :
 Calls Tryz.prog 61 #[.pointer (some ⟨A, 0, none⟩), glueV s p (pn : Int) q (mn : Int)] W fun e w' => (∃ v, e = .returned v) ∧ SmT c3 c4 c5 w' A P M (wrap64 (x + s)) (pl.set pn (wrap64 (pl.getD pn 0 + p))) (ml.set mn (wrap64 (ml.getD mn 0 + q))) ∧ Fr3 A P M W w' := by
 have n1 := h.ne.1
 have n2 := h.ne.2.1
 have n3 := h.ne.2.2
 have n1' := Ne.symm n1
 have n2' := Ne.symm n2
 have n3' := Ne.symm n3
 have hpi : (pn : Int) < 4 := by omega
 have hmi : (mn : Int) < 4 := by omega
 have hAl := h.alt
 have hPl := h.hP.lt
 have hMl := h.hM.lt
 have hpL := h.pl
 have hmL := h.ml
 obtain ⟨z3, hz3⟩ : ∃ z, z = pl.getD pn 0 := ⟨_, rfl⟩
 obtain ⟨z4, hz4⟩ : ∃ z, z = ml.getD mn 0 := ⟨_, rfl⟩
 rw [← hz3, ← hz4]
 have HZ3 := hideP hz3
 have HZ4 := hideP hz4
 have HI := hideP h
 clear h hz3 hz4
 simp only [glueV]
 go_enter Tryz.func61, Tryz.ntmps61
 go_upto_region 1 with fail
 obtain ⟨G, hG⟩ : ∃ G, G = W.heap.size := ⟨_, rfl⟩
 have gA : G ≠ A := by omega
 have gP : G ≠ P := by omega
 have gM : G ≠ M := by omega
 obtain ⟨W1, hW1⟩ : ∃ X, X = W.alloc (.cells #[.int .i64 s, .int .i64 p, .int .i64 (pn : Int), .int .i64 q, .int .i64 (mn : Int)] 33) := ⟨_, rfl⟩
 have F1 : Hid (SmT c3 c4 c5 W1 A P M x pl ml ∧ Fr3 A P M W W1 ∧ W1.heap[G]? = some (.cells #[.int .i64 s, .int .i64 p, .int .i64 (pn : Int), .int .i64 q, .int .i64 (mn : Int)] 33 (0, 0))) := hideP (by rw [hW1, hG]; exact ⟨HI.out.alloc _, (Fr3.refl _ _ _ _).alloc _, heap_alloc_new W _⟩)
 rw [← hW1, ← hG]
 have HG := hideP hG
 clear hW1 hG HI
 have ST : Hid (∀ (X : World) (x2 : Int) (p2 m2 : List Int), SmT c3 c4 c5 X A P M x2 p2 m2 → X.heap[G]? = some (.cells #[.int .i64 s, .int .i64 p, .int .i64 (pn : Int), .int .i64 q, .int .i64 (mn : Int)] 33 (0, 0)) → ((X.cell? ⟨A, 0, none⟩ = some (.int .i64 x2) ∧ X.cell? ⟨A, 1, none⟩ = some (.slice (some ⟨P, 0, none⟩) 4 4) ∧ X.cell? ⟨A, 2, none⟩ = some (.slice (some ⟨M, 0, none⟩) 4 4)) ∧ X.cell? ⟨P, pn, none⟩ = some (.int .i64 (p2.getD pn 0)) ∧ X.cell? ⟨M, mn, none⟩ = some (.int .i64 (m2.getD mn 0)) ∧ (X.cell? ⟨G, 0, none⟩ = some (.int .i64 s) ∧ X.cell? ⟨G, 1, none⟩ = some (.int .i64 p) ∧ X.cell? ⟨G, 2, none⟩ = some (.int .i64 (pn : Int)) ∧ X.cell? ⟨G, 3, none⟩ = some (.int .i64 q) ∧ X.cell? ⟨G, 4, none⟩ = some (.int .i64 (mn : Int))) ∧ (∀ j, X.frozen? ⟨A, j, none⟩ = false) ∧ (∀ j, X.frozen? ⟨P, j, none⟩ = false) ∧ (∀ j, X.frozen? ⟨M, j, none⟩ = false))) := hideP (fun X x2 p2 m2 hX hB => ⟨hX.cells, hX.hP.cell pn (by rw [hX.pl]; exact hp), hX.hM.cell mn (by rw [hX.ml]; exact hm), ⟨by rw [cell_of_row _ _ _ _ _ _ hB]; rfl, by rw [cell_of_row _ _ _ _ _ _ hB]; rfl, by rw [cell_of_row _ _ _ _ _ _ hB]; rfl, by rw [cell_of_row _ _ _ _ _ _ hB]; rfl, by rw [cell_of_row _ _ _ _ _ _ hB]; rfl⟩, fun j => frozen_of_row _ _ j _ 104 hX.hA, hX.hP.free, hX.hM.free⟩)
 obtain ⟨⟨a0, a1, a2⟩, -, -, ⟨b0, b1, b2, b3, b4⟩, fA, -, -⟩ := ST.out W1 _ _ _ F1.out.1 F1.out.2.2
 go_cut [] (fun wc => Hid (SmT c3 c4 c5 wc A P M (wrap64 (x + s)) pl ml ∧ Fr3 A P M W wc ∧ wc.heap[G]? = some (.cells #[.int .i64 s, .int .i64 p, .int .i64 (pn : Int), .int .i64 q, .int .i64 (mn : Int)] 33 (0, 0))))
 case first =>
  go_region
  go_wp2_with fail
  go_meet
  case rel =>
   obtain ⟨f1, f2, f3⟩ := F1.out
   refine hideP ⟨?_, ?_, ?_⟩
   ·repeat (first | with_reducible exact f1.setA _ | with_reducible exact f1 | with_reducible refine SmT.drew ?_)
   ·repeat (first | with_reducible exact f2 | with_reducible refine Fr3.set ?_ _ _ (.inl rfl) | with_reducible refine Fr3.drew ?_)
   ·exact (blk_set _ A 0 _ (show G < W1.heap.size from (Array.getElem?_eq_some_iff.1 f3).1) gA).trans f3
 case rest =>
  clear a0 a1 a2 b0 b1 b2 b3 b4 fA F1
  have F2 := hcut
  clear hcut
  obtain ⟨⟨a0, a1, a2⟩, p0, -, ⟨b0, b1, b2, b3, b4⟩, -, fP, -⟩ := ST.out wc _ _ _ F2.out.1 F2.out.2.2
  rw [← HZ3.out] at p0
  obtain ⟨W2, rfl⟩ : ∃ X, X = wc := ⟨_, rfl⟩
  go_upto_region 2 with fail
  go_cut [] (fun wc => Hid (SmT c3 c4 c5 wc A P M (wrap64 (x + s)) (pl.set pn (wrap64 (z3 + p))) ml ∧ Fr3 A P M W wc ∧ wc.heap[G]? = some (.cells #[.int .i64 s, .int .i64 p, .int .i64 (pn : Int), .int .i64 q, .int .i64 (mn : Int)] 33 (0, 0))))
  case first =>
   go_region
   go_wp2_with fail
   go_meet
   case rel =>
    obtain ⟨f1, f2, f3⟩ := F2.out
    refine hideP ⟨?_, ?_, ?_⟩
    ·repeat (first | with_reducible exact f1 | with_reducible refine SmT.setP ?_ _ _ | with_reducible refine SmT.drew ?_)
    ·repeat (first | with_reducible exact f2 | with_reducible refine Fr3.set ?_ _ _ (.inr (.inl rfl)) | with_reducible refine Fr3.drew ?_)
    ·exact (blk_set _ P pn _ (show G < W2.heap.size from (Array.getElem?_eq_some_iff.1 f3).1) gP).trans f3
  case rest =>
   clear a0 a1 a2 p0 b0 b1 b2 b3 b4 fP F2
   have F3 := hcut
   clear hcut
   obtain ⟨⟨a0, a1, a2⟩, -, m0, ⟨b0, b1, b2, b3, b4⟩, -, -, fM⟩ := ST.out wc _ _ _ F3.out.1 F3.out.2.2
   rw [← HZ4.out] at m0
   obtain ⟨W3, rfl⟩ : ∃ X, X = wc := ⟨_, rfl⟩
   go_upto_region 3 with fail
   go_region
   go_wp2
   go_end0
   obtain ⟨f1, f2, f3⟩ := F3.out
   refine ⟨⟨_, rfl⟩, ?_, ?_⟩
   ·repeat (first | with_reducible exact f1 | with_reducible refine SmT.setM ?_ _ _ | with_reducible refine SmT.drew ?_)
   ·repeat (first | with_reducible exact f2 | with_reducible refine Fr3.set ?_ _ _ (.inr (.inr rfl)) | with_reducible refine Fr3.drew ?_)
def endsB (ys : List It) (a b : Int) : Bool := decide (0 ≤ a ∧ a ≤ b ∧ b ≤ (ys.length : Int)) && pbB ys b.toNat
def begF (ys : List It) : Nat → Nat → Nat
 | 0, a => a
 | f + 1, a => if discB (ys.getD a It.none).1 = true then begF ys f (a + 1) else a
def begI (ys : List It) (a b : Nat) : Nat := begF ys (b - a) a
theorem begI_end (ys : List It) (a : Nat) : begI ys a a = a := by simp [begI, begF]
theorem begI_step (ys : List It) (a b : Nat) (h : a < b) : begI ys a b = if discB (ys.getD a It.none).1 = true then begI ys (a + 1) b else a := by
 unfold begI
 rw [show b - a = (b - (a + 1)) + 1 by omega, begF]
theorem ownG_cap {w : World} {base e s n cap : Nat} {ao : Option Addr} {xs : List Value} (h : w.ownsRow base e s (.slice ao n cap) n xs) : n ≤ cap ∧ cap ≤ maxLen := by
 obtain ⟨_, ⟨e1, rfl⟩ | ⟨g, c, cur, e1, _, _, h1, h2, _⟩⟩ := h
 ·simp only [Value.slice.injEq] at e1
  omega
 ·simp only [Value.slice.injEq] at e1
  omega
def segA (xs : List Nd) (y : It) : List Nd := if y.1.k = 11 then [] else (xs.drop y.2.1.toNat).take (y.2.2 - y.2.1).toNat
def segB (xs : List Nd) (y : It) : List Nd := if y.1.k = 11 then (xs.drop (y.2.1.toNat + 1)).take (y.2.2 - y.2.1 - 1).toNat else []
def noteB (ys : List It) : Bool := ys.any (fun y => y.1.k == 11)
def gapN (g0 g1 g2 g3 g4 : Int) : Nd := ⟨3, 0, 0, 0, 0, 0, 0, 0, g0, g1, g2, g3, g4, ⟨#[]⟩, 0⟩
structure Rws (lo : Nat) (w : World) (v : Value) (L : List (List Nd)) : Prop where
 is : ∃ ao cap, v = .slice ao L.length cap ∧ (0 < L.length → ∃ b off, ao = some ⟨b, off, none⟩ ∧ lo ≤ b ∧ b < w.heap.size ∧ ∀ i, i < L.length → ∃ u, w.cell? ⟨b, off + i, none⟩ = some u ∧ w.ownsRow lo 61 15 u (L.getD i []).length (flatN (L.getD i [])))
theorem Rws.abv {lo : Nat} {w w' : World} {v : Value} {L : List (List Nd)} (h : Rws lo w v L) (ha : Abv lo w w') : Rws lo w' v L := by
 obtain ⟨ao, cap, rfl, hc⟩ := h.is
 refine ⟨ao, cap, rfl, fun hp => ?_⟩
 obtain ⟨b, off, rfl, hlo, hlt, hcell⟩ := hc hp
 refine ⟨b, off, rfl, hlo, Nat.lt_of_lt_of_le hlt ha.size, fun i hi => ?_⟩
 obtain ⟨u, h1, h2⟩ := hcell i hi
 refine ⟨u, (World.cell?_of_block (w := w) (a := ⟨b, off + i, none⟩) (ha.block b hlo hlt)).trans h1, ?_⟩
 obtain ⟨h0, h | ⟨g, cap', cur, e, hg, hb, hr⟩⟩ := h2
 ·exact ⟨h0, .inl h⟩
 ·exact ⟨h0, .inr ⟨g, cap', cur, e, hg, (ha.block g hg (Array.getElem?_eq_some_iff.1 hb).1).trans hb, hr⟩⟩
theorem Rws.mono {lo lo' : Nat} {w : World} {v : Value} {L : List (List Nd)} (h : Rws lo w v L) (hl : lo' ≤ lo) : Rws lo' w v L := by
 obtain ⟨ao, cap, rfl, hc⟩ := h.is
 refine ⟨ao, cap, rfl, fun hp => ?_⟩
 obtain ⟨b, off, rfl, hlo, hlt, hcell⟩ := hc hp
 refine ⟨b, off, rfl, Nat.le_trans hl hlo, hlt, fun i hi => ?_⟩
 obtain ⟨u, h1, h2⟩ := hcell i hi
 exact ⟨u, h1, ownG_mono h2 hl⟩
theorem rws_of {w : World} {base n : Nat} {u : Value} {vs : List Value} {L : List (List Nd)} (ho : w.ownsRow base 31 1 u n vs) (hn : L.length = n) (hL : Lsts base w vs (fun i => L.getD i [])) : Rws base w u L := by
 have hvl := own25_len ho
 obtain ⟨ao, cap, rfl, hg⟩ := own25_shape ho
 refine ⟨⟨ao, cap, by rw [hn], fun hp => ?_⟩⟩
 obtain ⟨g, rfl, hgb, hlt⟩ := hg (by omega)
 refine ⟨g, 0, rfl, hgb, hlt, fun i hi => ?_⟩
 have hu : vs[i]? = some (vs[i]'(by omega)) := List.getElem?_eq_getElem (by omega)
 have h1 : w.cell? ⟨g, 0 + i, none⟩ = some (vs[i]'(by omega)) := by rw [Nat.zero_add]; exact (own25_cell ho hu).1
 exact ⟨_, h1, hL.own i _ hu⟩
structure HR (lo : Nat) (w : World) (v : Value) (xs : List Nd) : Prop where
 hd : Heads lo w v (its xs)
 rs : Rws lo w v (itemsOf xs)
theorem HR.abv {lo : Nat} {w w' : World} {v : Value} {xs : List Nd} (h : HR lo w v xs) (ha : Abv lo w w') : HR lo w' v xs := ⟨h.hd.abv ha, h.rs.abv ha⟩
theorem HR.mono {lo lo' : Nat} {w : World} {v : Value} {xs : List Nd} (h : HR lo w v xs) (hl : lo' ≤ lo) : HR lo' w v xs := ⟨h.hd.mono hl, h.rs.mono hl⟩
theorem begI_range (ys : List It) (a b : Nat) (h : a ≤ b) : a ≤ begI ys a b ∧ begI ys a b ≤ b := by
 obtain ⟨n, hn⟩ : ∃ n, n = b - a := ⟨_, rfl⟩
 induction n generalizing a with
 | zero =>
  obtain rfl : a = b := by omega
  rw [begI_end]
  omega
 | succ n ih =>
  rw [begI_step ys a b (by omega)]
  split
  ·have := ih (a + 1) (by omega) (by omega)
   omega
  ·omega
def trnB (ys : List It) (a : Nat) : Bool := (ys.getD a It.none).1.k == 8 || brkB ys a
def trnC (hy : Int) (ys : List It) (a : Nat) : Int := if (ys.getD a It.none).1.k = 8 then hy else brkC ys a
def ShowN (x : Nd) (q : Option Addr) (W : World) : Prop := if x.k = 8 then ∃ b, q = some ⟨b, 0, none⟩ ∧ W.heap[b]? = some (.cells #[.int .i64 x.fo, .int .i64 x.ch, .int .i64 x.wd, .int .i64 x.ht, .int .i64 x.dp] 241 (0, 0)) else q = none
def KeepH (w w' : World) : Prop := ∀ (b : Nat) (cs : Array Value), w.heap[b]? = some (.cells cs 241 (0, 0)) → w'.heap[b]? = some (.cells cs 241 (0, 0))
theorem KeepH.refl (w : World) : KeepH w w := fun _ _ h => h
theorem KeepH.trans {a b c : World} (h : KeepH a b) (g : KeepH b c) : KeepH a c := fun x cs e => g x cs (h x cs e)
theorem KeepH.below {w w' : World} (h : Below w.heap.size w w') : KeepH w w' := fun b cs e => (h.block b (Array.getElem?_eq_some_iff.1 e).1).trans e
theorem ShowN.keep {x : Nd} {q : Option Addr} {w w' : World} (h : ShowN x q w) (hk : KeepH w w') : ShowN x q w' := by
 unfold ShowN at h ⊢
 by_cases hx : x.k = 8
 ·rw [if_pos hx] at h ⊢
  obtain ⟨b, h1, h2⟩ := h
  exact ⟨b, h1, hk _ _ h2⟩
 ·rw [if_neg hx] at h ⊢
  exact h
end Go.Proofs.YtlohbaoigfaneaaGreat
