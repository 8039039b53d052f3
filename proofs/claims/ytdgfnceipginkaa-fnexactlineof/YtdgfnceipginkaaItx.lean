/-
  Rows of items, read; what a list has that can be.
-/
import Derived.Test.YtdgfnceipginkaaTal
import Derived.Test.YtdgfnceipginkaaItf
import Derived.Test.YtdgfnceipginkaaLok
namespace Go.Proofs.Ytdgfnceipginkaa
open Go.RowKit
set_option linter.unusedVariables false
set_option linter.unusedSimpArgs false

/-- The orders of a node's glue are ones. -/
def Ord (x : Nd) : Prop := 0 ≤ x.gpo ∧ x.gpo ≤ 3 ∧ 0 ≤ x.gmo ∧ x.gmo ≤ 3

end Go.Proofs.Ytdgfnceipginkaa
namespace Go.Proofs.Ytdgfnceipginkaa
open Go.RowKit Go.Shelf
set_option linter.unusedVariables false
set_option linter.unusedSimpArgs false

/-- What the loop's round leaves in its frame. -/
structure Temps where
  u7 : Value
  u8 : Value
  u9 : Value
  u10 : Value
  u11 : Value
  u12 : Value
  u42 : Value
  u43 : Value
  u44 : Value
  u45 : Value
  u46 : Value
  u47 : Value
  u48 : Value
  u49 : Value
  u50 : Value
  u51 : Value
  u52 : Value
  u53 : Value
  u54 : Value
  u55 : Value
  u56 : Value
  u57 : Value
  u58 : Value
  u59 : Value
  u60 : Value
  u61 : Value
  u62 : Value
  u63 : Value
  u64 : Value
  u65 : Value
  u66 : Value
  u67 : Value
  u68 : Value
  u69 : Value
  u70 : Value
  u71 : Value
  u72 : Value
  u73 : Value
  u74 : Value
  u75 : Value
  u76 : Value
  u77 : Value
  u78 : Value
theorem starts_le (xs : List Nd) : ∀ (f i : Nat), (starts xs f i).length ≤ f
  | 0, _ => by simp [starts]
  | f + 1, i => by
    unfold starts
    split
    · have := starts_le xs f (i + 1 + (xs.getD i Nd.none).kids.toNat)
      simp only [List.length_cons]
      omega
    · simp
theorem its_le {xs : List Nd} (h : AllOk xs) : (its xs).length ≤ 20001 := by
  unfold its
  rw [List.length_map]
  have := starts_le xs (xs.length + 1) 0
  have := h.len
  omega
theorem flatI_get (ys : List It) (i : Nat) (h : i < ys.length) : (flatI ys)[i * 3]? = some (thV (ys.getD i It.none).1) ∧ (flatI ys)[i * 3 + 1]? = some (.int .i64 (ys.getD i It.none).2.1) ∧ (flatI ys)[i * 3 + 2]? = some (.int .i64 (ys.getD i It.none).2.2) := by
  induction ys generalizing i with
  | nil => simp at h
  | cons y ys ih =>
    have e : flatI (y :: ys) = thV y.1 :: .int .i64 y.2.1 :: .int .i64 y.2.2 :: flatI ys := rfl
    rw [e]
    cases i with
    | zero => simp
    | succ i =>
      have h2 := ih i (by simpa using h)
      rw [show (i + 1) * 3 = i * 3 + 3 by omega]
      simpa using h2
theorem its_row {w : World} {base N uc : Nat} {ua : Option Addr} {ys : List It} (h : w.ownsRow base 93 3 (.slice ua N uc) N (flatI ys)) (hl : ys.length = N) (hN : 0 < N) : ∃ g, ua = some ⟨g, 0, none⟩ ∧ base ≤ g ∧ g < w.heap.size ∧ ItR w g ys := by
  obtain ⟨h0, ⟨e, hz⟩ | ⟨g, cap, cur, e, hg, hb, hn, hm, hs, hx⟩⟩ := h
  · simp only [Value.slice.injEq] at e
    omega
  · simp only [Value.slice.injEq] at e
    obtain ⟨rfl, _, rfl⟩ := e
    have hc : ∀ j u, (flatI ys)[j]? = some u → w.cell? ⟨g, j, none⟩ = some u := fun j u hj => by
      rw [cell_of_row w g _ cur 93 _ hb, ← Array.getElem?_toList]
      rw [← hx, List.getElem?_take] at hj
      split at hj
      · exact hj
      · simp at hj
    exact ⟨g, rfl, hg, (Array.getElem?_eq_some_iff.1 hb).1, ⟨fun i hi => hc _ _ (flatI_get ys i hi).1, fun i hi => hc _ _ (flatI_get ys i hi).2.1, fun i hi => hc _ _ (flatI_get ys i hi).2.2⟩⟩
theorem ItR.block {w w' : World} {g : Nat} {ys : List It} (h : ItR w g ys) (hb : w'.heap[g]? = w.heap[g]?) : ItR w' g ys :=
  ⟨fun i hi => (World.cell?_of_block (w := w) (a := ⟨g, i * 3, none⟩) hb).trans (h.c0 i hi), fun i hi => (World.cell?_of_block (w := w) (a := ⟨g, i * 3 + 1, none⟩) hb).trans (h.c1 i hi), fun i hi => (World.cell?_of_block (w := w) (a := ⟨g, i * 3 + 2, none⟩) hb).trans (h.c2 i hi)⟩
theorem list_ord {xs : List Nd} (h : listB xs = true) : ∀ i, i < xs.length → Ord (xs.getD i Nd.none) := fun i hi => by
  unfold listB at h
  simp only [Bool.and_eq_true, decide_eq_true_eq] at h
  have hmem : xs.getD i Nd.none ∈ xs := by simp [List.getD, List.getElem?_eq_getElem hi]
  have hg := (ok_all xs 0 [] (by omega) (by simp) h.2 _ hmem).1
  unfold goodB specB glB uptoB at hg
  simp only [Bool.and_eq_true, decide_eq_true_eq] at hg
  unfold Ord
  omega
theorem its_get {xs : List Nd} {k : Nat} (h : k < (its xs).length) : ∃ a, a < xs.length ∧ (its xs).getD k It.none = itAt xs a := by
  have h2 : k < (starts xs (xs.length + 1) 0).length := by simpa [its] using h
  refine ⟨(starts xs (xs.length + 1) 0)[k], starts_lt xs _ _ _ (List.getElem_mem h2), ?_⟩
  simp [its, List.getD, List.getElem?_map, List.getElem?_eq_getElem h2]
theorem ownG_other {base e s n C : Nat} {w : World} {v : Value} {xs : List Value} (h : w.ownsRow base e s v n xs) (hne : v.ownBlock ≠ some C) (o : Nat) (x : Value) : (w.setCell ⟨C, o, none⟩ x).ownsRow base e s v n xs := by
  obtain ⟨hl, h | ⟨g, cap, cur, rfl, hg, hb, hr⟩⟩ := h
  · exact ⟨hl, .inl h⟩
  · exact ⟨hl, .inr ⟨g, cap, cur, rfl, hg, (Below.heap_setCell _ _ _ _ (by intro e; exact hne (by simp [Value.ownBlock]; exact e))).trans hb, hr⟩⟩
theorem ownG_mono {base base' e s n : Nat} {w : World} {v : Value} {xs : List Value} (h : w.ownsRow base e s v n xs) (hb : base' ≤ base) : w.ownsRow base' e s v n xs := by
  obtain ⟨hl, h | ⟨g, cap, cur, rfl, hg, hr⟩⟩ := h
  · exact ⟨hl, .inl h⟩
  · exact ⟨hl, .inr ⟨g, cap, cur, rfl, by omega, hr⟩⟩
end Go.Proofs.Ytdgfnceipginkaa
