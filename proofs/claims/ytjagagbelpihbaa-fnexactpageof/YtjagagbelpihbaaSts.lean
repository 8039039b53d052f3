/-
  The specification's way through a list: the ends of what is open, without the list's own, and how deep it was.
-/
import Derived.Test.YtjagagbelpihbaaStk
namespace Go.Proofs.Ytjagagbelpihbaa
open Go.RowKit
set_option linter.unusedVariables false
set_option linter.unusedSimpArgs false

theorem rev_top {w : World} {base g q c : Nat} {a : Int} {U : List Int} (h : IR w base (.slice (some ⟨g, 0, none⟩) (q + 1) c) (q + 1) (a :: U).reverse) (hU : U.length = q) : w.cell? ⟨g, q, none⟩ = some (.int .i64 a) := by
  rw [World.ownsRow.cellAt h q (by omega), List.getElem?_map]
  have : ((a :: U).reverse)[q]? = some a := by
    subst hU
    rw [List.getElem?_reverse (by simp)]
    simp
  rw [this]
  rfl
theorem rev_pop {w : World} {base g q c : Nat} {a : Int} {U : List Int} (h : IR w base (.slice (some ⟨g, 0, none⟩) (q + 1) c) (q + 1) (a :: U).reverse) (hU : U.length = q) : IR w base (.slice (some ⟨g, 0, none⟩) q c) q U.reverse := by
  rw [List.reverse_cons, IR, List.map_append] at h
  exact ownsRow_pop (by simp [hU]) h

structure LeftS (xs : List Nd) (k : Nat) (T : List Int) (m : Int) : Prop where
  opn : Open k T
  most : ∀ y ∈ T, y ≤ xs.length
  len : T.length ≤ k
  pos : 0 ≤ m
  small : m ≤ k + 1
  same : okFrom xs.length 0 [] xs = (decide (m ≤ 41) && okFrom xs.length k T (xs.drop k))
theorem LeftS.start (xs : List Nd) : LeftS xs 0 [] 0 := ⟨⟨by simp, by simp⟩, by simp, by simp, by omega, by omega, by simp⟩
theorem LeftS.done {xs : List Nd} {T : List Int} {m : Int} (h : LeftS xs xs.length T m) : okFrom xs.length 0 [] xs = decide (m ≤ 41) := by
  rw [h.same]
  simp [okFrom]
theorem LeftS.step {xs : List Nd} {k : Nat} {T : List Int} {m : Int} (h : LeftS xs k T m) (hk : k < xs.length) : okFrom xs.length 0 [] xs = (decide (m ≤ 41) &&
    (goodB (xs.getD k Nd.none) && decide ((xs.getD k Nd.none).kids ≤ (T.dropWhile (· == (k : Int))).headD xs.length - k - 1) && (!deepB (xs.getD k Nd.none) || decide ((T.dropWhile (· == (k : Int))).length ≤ 40)) &&
      okFrom xs.length (k + 1) (if deepB (xs.getD k Nd.none) then ((k : Int) + 1 + (xs.getD k Nd.none).kids) :: T.dropWhile (· == (k : Int)) else T.dropWhile (· == (k : Int))) (xs.drop (k + 1)))) := by
  rw [h.same, drop_at hk]
  rfl
theorem LeftS.top {xs : List Nd} {k : Nat} {T : List Int} {m : Int} (h : LeftS xs k T m) (hk : k < xs.length) : (k : Int) + 1 ≤ (T.dropWhile (· == (k : Int))).headD xs.length ∧ (T.dropWhile (· == (k : Int))).headD xs.length ≤ xs.length := by
  refine ⟨h.opn.pop.head (by omega), ?_⟩
  cases he : T.dropWhile (· == (k : Int)) with
  | nil => simp
  | cons a U =>
    have := h.most a (drop_mem (by rw [he]; exact List.mem_cons_self ..))
    simpa using this
theorem LeftS.bad {xs : List Nd} {k : Nat} {T : List Int} {m : Int} (h : LeftS xs k T m) (hk : k < xs.length) (hg : goodB (xs.getD k Nd.none) = false) : okFrom xs.length 0 [] xs = false := by
  rw [h.step hk, hg]
  simp
theorem LeftS.over {xs : List Nd} {k : Nat} {T : List Int} {m : Int} (h : LeftS xs k T m) (hk : k < xs.length) (hg : ¬ (xs.getD k Nd.none).kids ≤ (T.dropWhile (· == (k : Int))).headD xs.length - k - 1) : okFrom xs.length 0 [] xs = false := by
  rw [h.step hk, decide_eq_false hg]
  simp
theorem drop_len {p : Int → Bool} (T : List Int) : (T.dropWhile p).length ≤ T.length := (List.dropWhile_sublist p).length_le
theorem LeftS.flat {xs : List Nd} {k : Nat} {T : List Int} {m : Int} (h : LeftS xs k T m) (hk : k < xs.length) (hg : goodB (xs.getD k Nd.none) = true) (hd : deepB (xs.getD k Nd.none) = false) : LeftS xs (k + 1) (T.dropWhile (· == (k : Int))) m := by
  have h0 := flat_kids hg hd
  have ht := h.top hk
  refine ⟨by simpa using h.opn.pop, fun y hy => h.most y (drop_mem hy), Nat.le_trans (drop_len T) (Nat.le_succ_of_le h.len), h.pos, by have := h.small; push_cast; omega, ?_⟩
  rw [h.step hk, hg, hd, h0, decide_eq_true (p := (0 : Int) ≤ (T.dropWhile (· == (k : Int))).headD xs.length - k - 1) (by omega)]
  simp
def mostOf (m : Int) (q : Nat) : Int := if m < (q : Int) + 1 then (q : Int) + 1 else m
theorem mostOf_le (m : Int) (q : Nat) (r : Bool) : (decide (m ≤ 41) && (decide (q ≤ 40) && r)) = (decide (mostOf m q ≤ 41) && r) := by
  unfold mostOf
  cases r <;> simp
  split
  · rw [Bool.eq_iff_iff]; simp; omega
  · rw [Bool.eq_iff_iff]; simp; omega
theorem LeftS.deep {xs : List Nd} {k : Nat} {T : List Int} {m : Int} (h : LeftS xs k T m) (hk : k < xs.length) (hg : goodB (xs.getD k Nd.none) = true) (hd : deepB (xs.getD k Nd.none) = true) (hle : (xs.getD k Nd.none).kids ≤ (T.dropWhile (· == (k : Int))).headD xs.length - k - 1) :
    LeftS xs (k + 1) (((k : Int) + 1 + (xs.getD k Nd.none).kids) :: T.dropWhile (· == (k : Int))) (mostOf m (T.dropWhile (· == (k : Int))).length) := by
  have hk0 : 0 ≤ (xs.getD k Nd.none).kids := by
    unfold goodB at hg
    simp at hg
    exact hg.2
  have ht := h.top hk
  have hl := drop_len (p := (· == (k : Int))) T
  have hl2 := h.len
  have hs := h.small
  have hp := h.pos
  refine ⟨Open.push (by simpa using h.opn.pop) (by push_cast; omega) fun len => ?_, fun y hy => ?_, by simp; omega, by unfold mostOf; split <;> omega, by unfold mostOf; push_cast; split <;> omega, ?_⟩
  · cases he : T.dropWhile (· == (k : Int)) with
    | nil => exact .inr rfl
    | cons a U =>
      rw [he] at hle
      simp at hle ⊢
      omega
  · rcases List.mem_cons.1 hy with rfl | hy
    · omega
    · exact h.most y (drop_mem hy)
  · rw [h.step hk, hg, hd, decide_eq_true hle]
    simp only [Bool.true_and, Bool.not_true, Bool.false_or, if_true]
    rw [mostOf_le]
    push_cast
    rfl
theorem LeftS.empty {xs : List Nd} {k : Nat} {U : List Int} {m : Int} (h : LeftS xs (k + 1) (((k : Int) + 1) :: U) m) : LeftS xs (k + 1) U m := by
  refine ⟨⟨fun y hy => h.opn.1 y (List.mem_cons_of_mem _ hy), (List.pairwise_cons.1 h.opn.2).2⟩, fun y hy => h.most y (List.mem_cons_of_mem _ hy), by have := h.len; simp at this; omega, h.pos, h.small, ?_⟩
  rw [h.same]
  have := okFrom_pad xs.length ((k : Int) + 1) U (xs.drop (k + 1))
  push_cast
  rw [this]
end Go.Proofs.Ytjagagbelpihbaa
