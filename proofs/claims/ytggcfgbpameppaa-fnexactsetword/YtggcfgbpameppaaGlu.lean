/-
  Glues: what one is, the copy of one, and whether it can be.
-/
import Derived.Test.YtggcfgbpameppaaBas
import Derived.Deep.RegionWith
namespace Go.Proofs.Ytggcfgbpameppaa
open Go.RowKit
set_option linter.unusedVariables false
set_option linter.unusedSimpArgs false

theorem below3 (w : World) (o o2 o3 : Obj) : Below w.heap.size w (((w.alloc o).alloc o2).alloc o3) := (below2 w o o2).alloc (by simp; omega) _
abbrev glueV (s p po m mo : Int) : Value := .agg #[.int .i64 s, .int .i64 p, .int .i64 po, .int .i64 m, .int .i64 mo]
theorem toGlue_any (a b c d e : Int) (w : World) : Calls Try.prog 35 #[glueV a b c d e] w fun r w' => r = .returned (glueV a b c d e) ∧ Below w.heap.size w w' := by
  go_enter Try.func35, Try.ntmps35
  go_wp2
  refine bodyPost_ret (v := glueV a b c d e) (by simp [results, Try.results35, go_sem]) rfl ⟨rfl, ?_⟩
  repeat (first | exact below3 _ _ _ _ | refine Below.setCell ?_ (by first | (simp; done) | (simp; omega)) _)


def fitsB (x : Int) : Bool := decide (-1073741823 ≤ x ∧ x ≤ 1073741823)
def uptoB (x m : Int) : Bool := decide (0 ≤ x ∧ x ≤ m)
def glB (s p po m mo : Int) : Bool := fitsB s && fitsB p && fitsB m && uptoB po 3 && uptoB mo 3
theorem fits_yes {x : Int} (h1 : -1073741823 ≤ x) (h2 : x ≤ 1073741823) : fitsB x = true := by simp [fitsB, h1, h2]
theorem fits_no {x : Int} (h : ¬ (-1073741823 ≤ x ∧ x ≤ 1073741823)) : fitsB x = false := by simp [fitsB]; omega
theorem upto_yes {x m : Int} (h1 : 0 ≤ x) (h2 : x ≤ m) : uptoB x m = true := by simp [uptoB, h1, h2]
theorem upto_no {x m : Int} (h : ¬ (0 ≤ x ∧ x ≤ m)) : uptoB x m = false := by simp [uptoB]; omega

theorem specFits_any (x : Int) (w : World) : Calls Try.prog 47 #[.int .i64 x] w fun e w' => e = .returned (.bool (fitsB x)) ∧ w' = w := by
  by_cases h1 : -1073741823 ≤ x
  · by_cases h2 : x ≤ 1073741823
    · rw [fits_yes h1 h2]
      go_enter Try.func47, Try.ntmps47
      go_wp2
      go_ret
      exact ⟨rfl, rfl⟩
    · rw [fits_no (by omega)]
      go_enter Try.func47, Try.ntmps47
      go_wp2
      go_ret
      exact ⟨rfl, rfl⟩
  · rw [fits_no (by omega)]
    go_enter Try.func47, Try.ntmps47
    go_wp2
    go_ret
    exact ⟨rfl, rfl⟩

theorem implFits_any (x : Int) (w : World) : Calls Try.prog 70 #[.int .i64 x] w fun e w' => e = .returned (.bool (fitsB x)) ∧ w' = w := by
  by_cases h1 : -1073741823 ≤ x
  · by_cases h2 : x ≤ 1073741823
    · rw [fits_yes h1 h2]
      go_enter Try.func70, Try.ntmps70
      go_wp2
      go_ret
      exact ⟨rfl, rfl⟩
    · rw [fits_no (by omega)]
      go_enter Try.func70, Try.ntmps70
      go_wp2
      go_ret
      exact ⟨rfl, rfl⟩
  · rw [fits_no (by omega)]
    go_enter Try.func70, Try.ntmps70
    go_wp2
    go_ret
    exact ⟨rfl, rfl⟩

theorem specOrder_any (x : Int) (w : World) : Calls Try.prog 48 #[.int .i64 x] w fun e w' => e = .returned (.bool (uptoB x 3)) ∧ w' = w := by
  by_cases h1 : 0 ≤ x
  · by_cases h2 : x ≤ 3
    · rw [upto_yes h1 h2]
      go_enter Try.func48, Try.ntmps48
      go_wp2
      go_ret
      exact ⟨rfl, rfl⟩
    · rw [upto_no (by omega)]
      go_enter Try.func48, Try.ntmps48
      go_wp2
      go_ret
      exact ⟨rfl, rfl⟩
  · rw [upto_no (by omega)]
    go_enter Try.func48, Try.ntmps48
    go_wp2
    go_ret
    exact ⟨rfl, rfl⟩

theorem implOrder_any (x : Int) (w : World) : Calls Try.prog 71 #[.int .i64 x] w fun e w' => e = .returned (.bool (uptoB x 3)) ∧ w' = w := by
  by_cases h1 : 0 ≤ x
  · by_cases h2 : x ≤ 3
    · rw [upto_yes h1 h2]
      go_enter Try.func71, Try.ntmps71
      go_wp2
      go_ret
      exact ⟨rfl, rfl⟩
    · rw [upto_no (by omega)]
      go_enter Try.func71, Try.ntmps71
      go_wp2
      go_ret
      exact ⟨rfl, rfl⟩
  · rw [upto_no (by omega)]
    go_enter Try.func71, Try.ntmps71
    go_wp2
    go_ret
    exact ⟨rfl, rfl⟩

theorem specGlueOk_any (s p po m mo : Int) (w : World) : Calls Try.prog 30 #[glueV s p po m mo] w fun e w' => e = .returned (.bool (glB s p po m mo)) ∧ Below w.heap.size w w' := by
  unfold glB
  cases h1 : fitsB s <;> cases h2 : fitsB p <;> cases h3 : fitsB m <;> cases h4 : uptoB po 3 <;> cases h5 : uptoB mo 3
  all_goals
    go_enter Try.func30, Try.ntmps30
    go_wp2_with (first
      | (go_at_call 47; refine (specFits_any _ _).mono ?_; rintro e w' ⟨rfl, rfl⟩)
      | (go_at_call 48; refine (specOrder_any _ _).mono ?_; rintro e w' ⟨rfl, rfl⟩))
    go_ret
    exact ⟨rfl, below1 _ _⟩

theorem implGlueOk_any (s p po m mo : Int) (w : World) : Calls Try.prog 67 #[glueV s p po m mo] w fun e w' => e = .returned (.bool (glB s p po m mo)) ∧ Below w.heap.size w w' := by
  unfold glB
  cases h1 : fitsB s <;> cases h2 : fitsB p <;> cases h3 : fitsB m <;> cases h4 : uptoB po 3 <;> cases h5 : uptoB mo 3
  all_goals
    go_enter Try.func67, Try.ntmps67
    go_wp2_with (first
      | (go_at_call 70; refine (implFits_any _ _).mono ?_; rintro e w' ⟨rfl, rfl⟩)
      | (go_at_call 71; refine (implOrder_any _ _).mono ?_; rintro e w' ⟨rfl, rfl⟩))
    go_ret
    exact ⟨rfl, below1 _ _⟩
end Go.Proofs.Ytggcfgbpameppaa
