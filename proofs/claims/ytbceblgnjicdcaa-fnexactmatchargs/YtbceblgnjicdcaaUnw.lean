/-
  Two ways to say that all of a list is one group: no stop before its end, or a balanced list between its ends.
-/
import Derived.Test.YtbceblgnjicdcaaTai
namespace Go.Proofs.Ytbceblgnjicdcaa
open Go.RowKit
set_option linter.unusedVariables false
set_option linter.unusedSimpArgs false

theorem dep_cons (t : Tk) (ts : List Tk) : dep (t :: ts) = dl t + dep ts := by simp [dep]
theorem dep_nil : dep [] = 0 := rfl
theorem bal_iff : ∀ (ts : List Tk) (o m : Int), 0 ≤ o → (ts.foldl balStep (some o) = some m ↔ ((∀ j, j ≤ ts.length → 0 ≤ o + dep (ts.take j)) ∧ o + dep ts = m))
  | [], o, m, h => by
    simp only [List.foldl_nil, Option.some.injEq, List.length_nil, List.take_nil, dep_nil]
    constructor
    · intro e; exact ⟨fun j _ => by omega, by omega⟩
    · intro e; omega
  | t :: ts, o, m, h => by
    rw [List.foldl_cons]
    by_cases hd : o + dl t < 0
    · have e : balStep (some o) t = none := by unfold balStep; dsimp only; rw [if_pos hd]
      rw [e, fold_none balStep (fun _ => rfl)]
      constructor
      · intro h; cases h
      · intro ⟨h1, _⟩
        have := h1 1 (by simp)
        simp [dep_cons, dep_nil] at this
        omega
    · have e : balStep (some o) t = some (o + dl t) := by unfold balStep; dsimp only; rw [if_neg hd]
      rw [e, bal_iff ts (o + dl t) m (by omega), dep_cons]
      constructor
      · intro ⟨h1, h2⟩
        refine ⟨fun j hj => ?_, by omega⟩
        cases j with
        | zero => simp [dep_nil]; exact h
        | succ j =>
          have := h1 j (by simpa using hj)
          rw [List.take_succ_cons, dep_cons]
          omega
      · intro ⟨h1, h2⟩
        refine ⟨fun j hj => ?_, by omega⟩
        have := h1 (j + 1) (by simpa using hj)
        rw [List.take_succ_cons, dep_cons] at this
        omega

def unwB (ts : List Tk) : Bool := decide (2 ≤ ts.length ∧ (ts.getD 0 Tk.none).c = 1 ∧ (ts.getD (ts.length - 1) Tk.none).c = 2) && decide (((ts.take (ts.length - 1)).drop 1).foldl balStep (some 0) = some 0)

theorem dl_two {t : Tk} (h : dl t = -1) : t.c = 2 := by
  unfold dl at h
  by_cases h1 : t.c = 1
  · rw [if_pos h1] at h; omega
  · rw [if_neg h1] at h
    by_cases h2 : t.c = 2
    · exact h2
    · rw [if_neg h2] at h; omega

theorem strip_unw {ts : List Tk} (hp : ∀ j, j ≤ ts.length → 0 ≤ dep (ts.take j)) (h0 : dep ts = 0) : stripB ts = unwB ts := by
  have key : (2 ≤ ts.length ∧ (ts.getD 0 Tk.none).c = 1) → ((∀ i, i < ts.length - 1 → dep (ts.take (i + 1)) ≠ 0) ↔ ((ts.getD (ts.length - 1) Tk.none).c = 2 ∧ ((ts.take (ts.length - 1)).drop 1).foldl balStep (some 0) = some 0)) := by
    intro ⟨h2, hc⟩
    obtain ⟨t, us, rfl⟩ : ∃ t us, ts = t :: us := by
      cases ts with
      | nil => simp at h2
      | cons t us => exact ⟨t, us, rfl⟩
    have ht : dl t = 1 := by simp at hc; unfold dl; rw [if_pos hc]
    simp only [List.length_cons] at h2 hp ⊢
    have hlast : dep (t :: us) = dep ((t :: us).take us.length) + dl ((t :: us).getD us.length Tk.none) := by
      have := dep_take (ts := t :: us) (k := us.length) (by simp)
      rw [← this]
      congr 1
      exact (List.take_of_length_le (by simp)).symm
    have hin : ((t :: us).take (us.length + 1 - 1)).drop 1 = us.take (us.length - 1) := by
      obtain ⟨m, hm⟩ : ∃ m, us.length = m + 1 := ⟨us.length - 1, by omega⟩
      rw [hm]
      simp [List.take_succ_cons]
    rw [hin, bal_iff _ 0 0 (Int.le_refl _)]
    have hlen : (us.take (us.length - 1)).length = us.length - 1 := by rw [List.length_take]; omega
    have step : ∀ i, dep ((t :: us).take (i + 1)) = 1 + dep (us.take i) := fun i => by rw [List.take_succ_cons, dep_cons, ht]
    have tt : ∀ j, j ≤ us.length - 1 → (us.take (us.length - 1)).take j = us.take j := fun j hj => by rw [List.take_take, Nat.min_eq_left hj]
    rw [hlen, h0] at *
    constructor
    · intro h
      have hz := h (us.length - 1) (by omega)
      have hn := hp us.length (by omega)
      rw [show us.length = us.length - 1 + 1 by omega, step] at hn
      rw [step] at hz
      have hl2 : dep ((t :: us).take us.length) = 1 + dep (us.take (us.length - 1)) := by
        conv => lhs; rw [show us.length = us.length - 1 + 1 by omega]
        exact step _
      have hb := dl_le ((t :: us).getD us.length Tk.none)
      have hd1 : dl ((t :: us).getD us.length Tk.none) = -1 := by omega
      refine ⟨dl_two (by simpa using hd1), fun j hj => ?_, by omega⟩
      rw [tt j hj]
      have a := h j (by omega)
      have b := hp (j + 1) (by omega)
      rw [step] at a b
      omega
    · intro ⟨_, hb, _⟩ i hi
      have a := hb i (by omega)
      rw [tt i (by omega)] at a
      rw [step]
      omega
  unfold stripB unwB
  by_cases h : 2 ≤ ts.length ∧ (ts.getD 0 Tk.none).c = 1
  · rw [decide_eq_true h, Bool.true_and]
    have k := key h
    by_cases ha : ∀ i, i < ts.length - 1 → dep (ts.take (i + 1)) ≠ 0
    · obtain ⟨k1, k2⟩ := k.1 ha
      rw [decide_eq_true ⟨h.1, h.2, k1⟩, decide_eq_true k2, List.all_eq_true.2 (fun x hx => decide_eq_true (ha x (List.mem_range.1 hx)))]
      rfl
    · have hf : (List.range (ts.length - 1)).all (fun i => decide (dep (ts.take (i + 1)) ≠ 0)) = false := by
        cases hx : (List.range (ts.length - 1)).all (fun i => decide (dep (ts.take (i + 1)) ≠ 0)) with
        | false => rfl
        | true => exact absurd (fun i hi => of_decide_eq_true (List.all_eq_true.1 hx i (List.mem_range.2 hi))) ha
      rw [hf]
      by_cases k1 : (ts.getD (ts.length - 1) Tk.none).c = 2
      · have k2 : ¬ ((ts.take (ts.length - 1)).drop 1).foldl balStep (some 0) = some 0 := fun k2 => ha (k.2 ⟨k1, k2⟩)
        rw [decide_eq_false k2, Bool.and_false]
      · rw [decide_eq_false (fun hh => k1 hh.2.2)]; rfl
  · rw [decide_eq_false h, decide_eq_false (fun hh => h ⟨hh.1, hh.2.1⟩)]; rfl
end Go.Proofs.Ytbceblgnjicdcaa
