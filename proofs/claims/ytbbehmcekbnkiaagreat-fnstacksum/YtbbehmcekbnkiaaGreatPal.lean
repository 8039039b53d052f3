import Derived.Test.YtbbehmcekbnkiaaGreatBsl
import Derived.Deep.DeepCutAuto
namespace Go.Proofs.YtbbehmcekbnkiaaGreat
open Go.RowKit
set_option linter.unusedVariables false
set_option linter.unusedSimpArgs false
theorem Tryz.info24 : (Tryz.prog.info? 24).map (fun i => (i.zero, i.size, i.bytes)) = some (some (.slice none 0 0), 1, 24) := by kernel_rfl
theorem pb_six {w W : World} {T : Nat} (h : PB w W) (hT : w.heap.size < T) (a b c d e f : Int) : PB w (Shr.six W T a b c d e f) :=
 ⟨Shr.six_other h.box (by omega) _ _ _ _ _ _, by
  have h0 := h.bel
  repeat (first | with_reducible exact h0 | (with_reducible refine Below.setCell ?_ ?_ _; rotate_left; focus (show w.heap.size ≤ T; omega)))⟩
theorem own_six {W : World} {base e s n T : Nat} {v : Value} {ys : List Value} {a0 b0 c0 d0 e0 f0 : Int} (h : W.ownsRow base e s v n ys) (hT : W.heap[T]? = some (Shr.setO a0 b0 c0 d0 e0 f0)) (he : e ≠ 28) (a b c d e' f : Int) : (Shr.six W T a b c d e' f).ownsRow base e s v n ys :=
 ownG_same h (fun g hg => Shr.six_same (fun q => by
  subst q
  obtain ⟨cs, hc⟩ := own_cells_block h hg
  rw [hT] at hc
  cases hc
  exact he rfl) _ _ _ _ _ _)
theorem nn_below {w W : World} {v : Value} {xs : List Nd} (h : NN 0 w v xs) (hb : Below w.heap.size w W) : NN 0 W v xs := by
 rcases h with h | ⟨b, off, cap, h1, h2, h3, h4, h5⟩
 ·exact .inl h
 ·refine .inr ⟨b, off, cap, h1, h2, h3, fun hp => Nat.lt_of_lt_of_le (h4 hp) hb.size, fun j u hj => ?_⟩
  have hlt : j < (flatN xs).length := (List.getElem?_eq_some_iff.1 hj).1
  rw [flatN_len] at hlt
  exact (hb.cell (p := ⟨b, off + j, none⟩) (h4 (by omega))).trans (h5 j u hj)
theorem put_own {w : World} {base n : Nat} {ao : Option Addr} {cap : Nat} {L : List Value} (h : w.ownsRow base 36 15 (.slice ao n cap) n L) (h1 : ∀ u ∈ L, u.oneCell' = true) : Put w (.slice ao n cap) n L := by
 refine ⟨ao, cap, rfl, h.1, h1, ?_⟩
 rcases h.2 with ⟨e, h0⟩ | ⟨g, c, cur, e, _, hh, _⟩
 ·cases e
  exact .inl ⟨rfl, rfl, rfl⟩
 ·cases e
  exact .inr ⟨g, 0, rfl, (Array.getElem?_eq_some_iff.1 hh).1, fun j u hj => by rw [Nat.zero_add]; exact (own_cell h hj).1⟩
theorem set_next {xs : List Nd} {ps : List Nat} {ls : List Int} {j : Nat} (hj : j < ps.length) (hl : ls.length = ps.length) (b : Nd) : b :: setL (ps.take (j + 1)) (ls.take (j + 1)) xs = (b :: setL (ps.take j) (ls.take j) xs).set (ps.getD j 0 + 1) (((b :: setL (ps.take j) (ls.take j) xs).getD (ps.getD j 0 + 1) Nd.none).wide (ls.getD j 0)) := by
 have h1 : ps.take (j + 1) = ps.take j ++ [ps.getD j 0] := by rw [List.take_succ_eq_append_getElem hj]; simp [List.getD, List.getElem?_eq_getElem hj]
 have h2 : ls.take (j + 1) = ls.take j ++ [ls.getD j 0] := by rw [List.take_succ_eq_append_getElem (by omega)]; simp [List.getD, List.getElem?_eq_getElem (show j < ls.length by omega)]
 rw [h1, h2, setL_snoc _ _ _ _ _ (by rw [List.length_take, List.length_take]; omega), List.set_cons_succ]
 rfl
structure PInv (w wr : World) (T O g N uc m : Nat) (X : List Nd) (L : List Value) (z0 z1 z2 z3 z4 z5 : Int) : Prop where
 pb : PB w wr
 set : wr.heap[T]? = some (Shr.setO z0 z1 z2 z3 z4 z5)
 wid : wr.ownsRow w.heap.size 2 1 (.slice (some ⟨O, 0, none⟩) m m) m L
 own : wr.ownsRow w.heap.size 36 15 (.slice (some ⟨g, 0, none⟩) N uc) N (flatN X)
theorem PInv.put {w wr : World} {T O g N uc m : Nat} {X : List Nd} {L : List Value} {z0 z1 z2 z3 z4 z5 : Int} (h : PInv w wr T O g N uc m X L z0 z1 z2 z3 z4 z5) (hX : X.length = N) {q : Nat} (hq : q < N) (hg : w.heap.size ≤ g) (l : Int) : PInv w (wr.setCell ⟨g, q * 15 + 1, none⟩ (.int .i64 l)) T O g N uc m (X.set q ((X.getD q Nd.none).wide l)) L z0 z1 z2 z3 z4 z5 := by
 have hne : ∀ {e : Nat} {cs : Array Value} {k : Nat}, wr.heap[k]? = some (.cells cs e (0, 0)) → e ≠ 36 → k ≠ g := by
  intro e cs k hk he hkg
  subst hkg
  obtain ⟨cs', hc⟩ := own_cells_block h.own rfl
  rw [hk] at hc
  cases hc
  exact he rfl
 refine ⟨⟨(Below.heap_setCell _ _ _ _ (hne h.pb.box (by decide))).trans h.pb.box, h.pb.bel.setCell hg _⟩, (Below.heap_setCell _ _ _ _ (hne h.set (by decide))).trans h.set, ?_, ?_⟩
 ·refine ownG_same h.wid (fun b hb => Below.heap_setCell _ _ _ _ ?_)
  obtain ⟨cs, hc⟩ := own_cells_block h.wid hb
  exact hne hc (by decide)
 ·rw [flatN_wide _ _ _ (by rw [hX]; exact hq)]
  exact own_set h.own _ _
end Go.Proofs.YtbbehmcekbnkiaaGreat
