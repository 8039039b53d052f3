/-
  The small functions on an atom: counts, kids, what can be.
-/
import Derived.Test.YtfcfihlkckdmbaaFrm
namespace Go.Proofs.Ytfcfihlkckdmbaa
open Go.RowKit
set_option linter.unusedVariables false
set_option linter.unusedSimpArgs false

theorem count_any (x : Int) (w : World) : Calls Try.prog 34 #[.int .i64 x] w fun e w' => e = .returned (.bool (cntB x)) ∧ w' = w := by
  by_cases h1 : 0 ≤ x
  · by_cases h2 : x ≤ 2000
    · rw [show cntB x = true by simp [cntB, h1, h2]]
      go_enter Try.func34, Try.ntmps34
      go_wp2
      go_ret
      exact ⟨rfl, rfl⟩
    · rw [show cntB x = false by simp [cntB]; omega]
      go_enter Try.func34, Try.ntmps34
      go_wp2
      go_ret
      exact ⟨rfl, rfl⟩
  · rw [show cntB x = false by simp [cntB]; omega]
    go_enter Try.func34, Try.ntmps34
    go_wp2
    go_ret
    exact ⟨rfl, rfl⟩

theorem kids_any (a : At) (w : World) (h0 : -1 ≤ a.b ∧ a.b ≤ 1000000 ∧ -1 ≤ a.u ∧ a.u ≤ 1000000 ∧ -1 ≤ a.d ∧ a.d ≤ 1000000) : Calls Try.prog 28 #[atV a] w fun e w' => e = .returned (.int .i64 a.kids) ∧ Below w.heap.size w w' := by
  obtain ⟨k, c, ch, b, u, d⟩ := a
  simp only [At.kids, atV] at *
  obtain ⟨h1, h2, h3, h4, h5, h6⟩ := h0
  go_enter Try.func28, Try.ntmps28
  go_wp2
  go_ret
  exact ⟨rfl, below1 _ _⟩

theorem bcAtomB {k c ch b u d : Int} : atomB ⟨k, c, ch, b, u, d⟩ = (decide (0 ≤ c) && decide (c ≤ 7) && cntB b && cntB u && cntB d && (if k = 1 then decide (33 ≤ ch) && decide (ch ≤ 126) && decide (b = 0) else decide (2 ≤ k) && decide (k ≤ 4) && decide (ch = 0))) := by
  simp only [atomB, Bool.decide_and]
  by_cases h : k = 1 <;> simp [h, Bool.and_assoc]

set_option maxHeartbeats 4000000 in
theorem atomOk_any (a : At) (w : World) : Calls Try.prog 27 #[atV a] w fun e w' => e = .returned (.bool (atomB a)) ∧ Below w.heap.size w w' := by
  obtain ⟨k, c, ch, b, u, d⟩ := a
  simp only [atV]
  obtain ⟨R, hR⟩ : ∃ R, atomB ⟨k, c, ch, b, u, d⟩ = R := ⟨_, rfl⟩
  obtain ⟨x1, e1⟩ : ∃ x1, cntB b = x1 := ⟨_, rfl⟩
  obtain ⟨x2, e2⟩ : ∃ x1, cntB u = x1 := ⟨_, rfl⟩
  obtain ⟨x3, e3⟩ : ∃ x1, cntB d = x1 := ⟨_, rfl⟩
  have q1 : Hid (∀ W, Calls Try.prog 34 #[.int .i64 b] W fun e w' => e = .returned (.bool x1) ∧ w' = W) := hideP (by rw [← e1]; exact count_any b)
  have q2 : Hid (∀ W, Calls Try.prog 34 #[.int .i64 u] W fun e w' => e = .returned (.bool x2) ∧ w' = W) := hideP (by rw [← e2]; exact count_any u)
  have q3 : Hid (∀ W, Calls Try.prog 34 #[.int .i64 d] W fun e w' => e = .returned (.bool x3) ∧ w' = W) := hideP (by rw [← e3]; exact count_any d)
  rw [hR]
  rw [bcAtomB, e1, e2, e3] at hR
  have HR := hideP hR
  clear hR e1 e2 e3
  go_enter Try.func27, Try.ntmps27
  go_wp2_with (go_at_call 34; first | (refine (q1.out _).mono ?_; rintro e w' ⟨rfl, rfl⟩) | (refine (q2.out _).mono ?_; rintro e w' ⟨rfl, rfl⟩) | (refine (q3.out _).mono ?_; rintro e w' ⟨rfl, rfl⟩))
  all_goals clear q1 q2 q3
  all_goals
    go_ret
    refine ⟨retB ?_, below1 _ _⟩
    have hR := HR.out
    clear HR
    subst hR
    by_cases hk : k = 1 <;> cases x1 <;> cases x2 <;> cases x3 <;> rw [Bool.eq_iff_iff] <;> first | (simp_all; done) | (simp_all; omega)

theorem upTo_any (x m : Int) (w : World) : Calls Try.prog 37 #[.int .i64 x, .int .i64 m] w fun e w' => e = .returned (.bool (decide (0 ≤ x ∧ x ≤ m))) ∧ w' = w := by
  by_cases h1 : 0 ≤ x
  · by_cases h2 : x ≤ m
    · rw [show decide (0 ≤ x ∧ x ≤ m) = true by simp [h1, h2]]
      go_enter Try.func37, Try.ntmps37
      go_wp2
      go_ret
      exact ⟨rfl, rfl⟩
    · rw [show decide (0 ≤ x ∧ x ≤ m) = false by simp; omega]
      go_enter Try.func37, Try.ntmps37
      go_wp2
      go_ret
      exact ⟨rfl, rfl⟩
  · rw [show decide (0 ≤ x ∧ x ≤ m) = false by simp; omega]
    go_enter Try.func37, Try.ntmps37
    go_wp2
    go_ret
    exact ⟨rfl, rfl⟩

theorem visible_any (x : Int) (w : World) : Calls Try.prog 38 #[.int .i64 x] w fun e w' => e = .returned (.bool (decide (33 ≤ x ∧ x ≤ 126))) ∧ w' = w := by
  by_cases h1 : 33 ≤ x
  · by_cases h2 : x ≤ 126
    · rw [show decide (33 ≤ x ∧ x ≤ 126) = true by simp [h1, h2]]
      go_enter Try.func38, Try.ntmps38
      go_wp2
      go_ret
      exact ⟨rfl, rfl⟩
    · rw [show decide (33 ≤ x ∧ x ≤ 126) = false by simp; omega]
      go_enter Try.func38, Try.ntmps38
      go_wp2
      go_ret
      exact ⟨rfl, rfl⟩
  · rw [show decide (33 ≤ x ∧ x ≤ 126) = false by simp; omega]
    go_enter Try.func38, Try.ntmps38
    go_wp2
    go_ret
    exact ⟨rfl, rfl⟩
end Go.Proofs.Ytfcfihlkckdmbaa
