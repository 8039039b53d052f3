/-
  The walks of the glue functions: what each Go function that tells or adds glues returns.
-/
import Derived.Test.YtflpjfgodkodiaaTok
import Derived.WalkKit
import Derived.WalkSpells
import Derived.RowKit3
import Derived.Below
import Derived.Outline
namespace Go.Proofs.Ytflpjfgodkodiaa
open Go.RowKit
set_option linter.unusedVariables false
set_option linter.unusedSimpArgs false

def fitsB (x : Int) : Bool := decide (-1073741823 ≤ x ∧ x ≤ 1073741823)
def orderB (x : Int) : Bool := decide (0 ≤ x ∧ x ≤ 3)
theorem fits_yes {x : Int} (h1 : -1073741823 ≤ x) (h2 : x ≤ 1073741823) : fitsB x = true := by simp [fitsB, h1, h2]
theorem fits_no {x : Int} (h : ¬ (-1073741823 ≤ x ∧ x ≤ 1073741823)) : fitsB x = false := by simp [fitsB]; omega
theorem order_no {x : Int} (h : ¬ (0 ≤ x ∧ x ≤ 3)) : orderB x = false := by simp [orderB]; omega

theorem specFits_any (x : Int) (w : World) : Calls Try.prog 85 #[.int .i64 x] w fun e w' => e = .returned (.bool (fitsB x)) ∧ w' = w := by
  by_cases h1 : -1073741823 ≤ x
  · by_cases h2 : x ≤ 1073741823
    · rw [fits_yes h1 h2]
      go_enter Try.func85, Try.ntmps85
      go_wp2
      go_ret
      exact ⟨rfl, rfl⟩
    · rw [fits_no (by omega)]
      go_enter Try.func85, Try.ntmps85
      go_wp2
      go_ret
      exact ⟨rfl, rfl⟩
  · rw [fits_no (by omega)]
    go_enter Try.func85, Try.ntmps85
    go_wp2
    go_ret
    exact ⟨rfl, rfl⟩

theorem implFits_any (x : Int) (w : World) : Calls Try.prog 92 #[.int .i64 x] w fun e w' => e = .returned (.bool (fitsB x)) ∧ w' = w := by
  by_cases h1 : -1073741823 ≤ x
  · by_cases h2 : x ≤ 1073741823
    · rw [fits_yes h1 h2]
      go_enter Try.func92, Try.ntmps92
      go_wp2
      go_ret
      exact ⟨rfl, rfl⟩
    · rw [fits_no (by omega)]
      go_enter Try.func92, Try.ntmps92
      go_wp2
      go_ret
      exact ⟨rfl, rfl⟩
  · rw [fits_no (by omega)]
    go_enter Try.func92, Try.ntmps92
    go_wp2
    go_ret
    exact ⟨rfl, rfl⟩

theorem specOrder_any (x : Int) (w : World) : Calls Try.prog 119 #[.int .i64 x] w fun e w' => e = .returned (.bool (orderB x)) ∧ w' = w := by
  by_cases h1 : 0 ≤ x
  · by_cases h2 : x ≤ 3
    · rw [show orderB x = true by simp [orderB, h1, h2]]
      go_enter Try.func119, Try.ntmps119
      go_wp2
      go_ret
      exact ⟨rfl, rfl⟩
    · rw [order_no (by omega)]
      go_enter Try.func119, Try.ntmps119
      go_wp2
      go_ret
      exact ⟨rfl, rfl⟩
  · rw [order_no (by omega)]
    go_enter Try.func119, Try.ntmps119
    go_wp2
    go_ret
    exact ⟨rfl, rfl⟩

theorem implOrder_any (x : Int) (w : World) : Calls Try.prog 125 #[.int .i64 x] w fun e w' => e = .returned (.bool (orderB x)) ∧ w' = w := by
  by_cases h1 : 0 ≤ x
  · by_cases h2 : x ≤ 3
    · rw [show orderB x = true by simp [orderB, h1, h2]]
      go_enter Try.func125, Try.ntmps125
      go_wp2
      go_ret
      exact ⟨rfl, rfl⟩
    · rw [order_no (by omega)]
      go_enter Try.func125, Try.ntmps125
      go_wp2
      go_ret
      exact ⟨rfl, rfl⟩
  · rw [order_no (by omega)]
    go_enter Try.func125, Try.ntmps125
    go_wp2
    go_ret
    exact ⟨rfl, rfl⟩

/-- A glue that can be. -/
def okB (s p po m mo : Int) : Bool := fitsB s && fitsB p && fitsB m && orderB po && orderB mo

abbrev glueV (s p po m mo : Int) : Value := .agg #[.int .i64 s, .int .i64 p, .int .i64 po, .int .i64 m, .int .i64 mo]

theorem specGlueOk_ex (s p po m mo : Int) (w : World) : Calls Try.prog 86 #[glueV s p po m mo] w fun e w' => e = .returned (.bool (okB s p po m mo)) ∧ ∃ c : Array Value, w' = w.alloc (.cells c 130) := by
  unfold okB
  cases h1 : fitsB s <;> cases h2 : fitsB p <;> cases h3 : fitsB m <;> cases h4 : orderB po <;> cases h5 : orderB mo
  all_goals
    go_enter Try.func86, Try.ntmps86
    go_wp2_with (first
      | (go_at_call 85; refine (specFits_any _ _).mono ?_; rintro e w' ⟨rfl, rfl⟩)
      | (go_at_call 119; refine (specOrder_any _ _).mono ?_; rintro e w' ⟨rfl, rfl⟩))
    go_ret
    exact ⟨rfl, _, rfl⟩
theorem specGlueOk_any (s p po m mo : Int) (w : World) : Calls Try.prog 86 #[glueV s p po m mo] w fun e w' => e = .returned (.bool (okB s p po m mo)) ∧ Below w.heap.size w w' := by
  refine (specGlueOk_ex s p po m mo w).mono ?_
  rintro e w' ⟨rfl, c, rfl⟩
  exact ⟨rfl, (Below.refl _ _).alloc (Nat.le_refl _) _⟩

theorem implGlueOk_ex (s p po m mo : Int) (w : World) : Calls Try.prog 94 #[glueV s p po m mo] w fun e w' => e = .returned (.bool (okB s p po m mo)) ∧ ∃ c : Array Value, w' = w.alloc (.cells c 130) := by
  unfold okB
  cases h1 : fitsB s <;> cases h2 : fitsB p <;> cases h3 : fitsB m <;> cases h4 : orderB po <;> cases h5 : orderB mo
  all_goals
    go_enter Try.func94, Try.ntmps94
    go_wp2_with (first
      | (go_at_call 92; refine (implFits_any _ _).mono ?_; rintro e w' ⟨rfl, rfl⟩)
      | (go_at_call 125; refine (implOrder_any _ _).mono ?_; rintro e w' ⟨rfl, rfl⟩))
    go_ret
    exact ⟨rfl, _, rfl⟩
theorem implGlueOk_any (s p po m mo : Int) (w : World) : Calls Try.prog 94 #[glueV s p po m mo] w fun e w' => e = .returned (.bool (okB s p po m mo)) ∧ Below w.heap.size w w' := by
  refine (implGlueOk_ex s p po m mo w).mono ?_
  rintro e w' ⟨rfl, c, rfl⟩
  exact ⟨rfl, (Below.refl _ _).alloc (Nat.le_refl _) _⟩

set_option maxHeartbeats 1000000 in
theorem toGlue_ex (s p po m mo : Int) (w : World) : Calls Try.prog 146 #[glueV s p po m mo] w fun e w' => e = .returned (glueV s p po m mo) ∧ ∃ c1 c2 c3 : Array Value, w' = ((w.alloc (.cells c1 182)).alloc (.cells c2 130)).alloc (.cells c3 130) := by
  go_enter Try.func146, Try.ntmps146
  go_wp2
  exact bodyPost_ret (v := glueV s p po m mo) (by simp [results, Try.results146, go_sem]) rfl ⟨rfl, _, _, _, rfl⟩

theorem toGlue_any (s p po m mo : Int) (w : World) : Calls Try.prog 146 #[glueV s p po m mo] w fun e w' => e = .returned (glueV s p po m mo) ∧ Below w.heap.size w w' := by
  refine (toGlue_ex s p po m mo w).mono ?_
  rintro e w' ⟨rfl, c1, c2, c3, rfl⟩
  exact ⟨rfl, (((Below.refl _ _).alloc (Nat.le_refl _) _).alloc (by simp) _).alloc (by simp; omega) _⟩

end Go.Proofs.Ytflpjfgodkodiaa
