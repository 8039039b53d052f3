/-
  The walks of the glue functions: what each Go function that tells or adds glues returns.
-/
import Derived.Test.YtojoehdmjkgnnaaGreatProg
import Derived.WalkKit
import Derived.WalkSpells
import Derived.RowKit3
import Derived.Below
import Derived.Outline
namespace Go.Proofs.YtojoehdmjkgnnaaGreat.Shr
open Go.RowKit
set_option linter.unusedVariables false
set_option linter.unusedSimpArgs false

def fitsB (x : Int) : Bool := decide (-1073741823 ≤ x ∧ x ≤ 1073741823)
def orderB (x : Int) : Bool := decide (0 ≤ x ∧ x ≤ 3)
theorem fits_yes {x : Int} (h1 : -1073741823 ≤ x) (h2 : x ≤ 1073741823) : fitsB x = true := by simp [fitsB, h1, h2]
theorem fits_no {x : Int} (h : ¬ (-1073741823 ≤ x ∧ x ≤ 1073741823)) : fitsB x = false := by simp [fitsB]; omega
theorem order_no {x : Int} (h : ¬ (0 ≤ x ∧ x ≤ 3)) : orderB x = false := by simp [orderB]; omega

theorem specFits_any (x : Int) (w : World) : Calls Tryz.prog 103 #[.int .i64 x] w fun e w' => e = .returned (.bool (fitsB x)) ∧ w' = w := by
  by_cases h1 : -1073741823 ≤ x
  · by_cases h2 : x ≤ 1073741823
    · rw [fits_yes h1 h2]
      go_enter Tryz.func103, Tryz.ntmps103
      go_wp2
      go_ret
      exact ⟨rfl, rfl⟩
    · rw [fits_no (by omega)]
      go_enter Tryz.func103, Tryz.ntmps103
      go_wp2
      go_ret
      exact ⟨rfl, rfl⟩
  · rw [fits_no (by omega)]
    go_enter Tryz.func103, Tryz.ntmps103
    go_wp2
    go_ret
    exact ⟨rfl, rfl⟩

theorem implFits_any (x : Int) (w : World) : Calls Tryz.prog 58 #[.int .i64 x] w fun e w' => e = .returned (.bool (fitsB x)) ∧ w' = w := by
  by_cases h1 : -1073741823 ≤ x
  · by_cases h2 : x ≤ 1073741823
    · rw [fits_yes h1 h2]
      go_enter Tryz.func58, Tryz.ntmps58
      go_wp2
      go_ret
      exact ⟨rfl, rfl⟩
    · rw [fits_no (by omega)]
      go_enter Tryz.func58, Tryz.ntmps58
      go_wp2
      go_ret
      exact ⟨rfl, rfl⟩
  · rw [fits_no (by omega)]
    go_enter Tryz.func58, Tryz.ntmps58
    go_wp2
    go_ret
    exact ⟨rfl, rfl⟩

theorem specOrder_any (x : Int) (w : World) : Calls Tryz.prog 126 #[.int .i64 x] w fun e w' => e = .returned (.bool (orderB x)) ∧ w' = w := by
  by_cases h1 : 0 ≤ x
  · by_cases h2 : x ≤ 3
    · rw [show orderB x = true by simp [orderB, h1, h2]]
      go_enter Tryz.func126, Tryz.ntmps126
      go_wp2
      go_ret
      exact ⟨rfl, rfl⟩
    · rw [order_no (by omega)]
      go_enter Tryz.func126, Tryz.ntmps126
      go_wp2
      go_ret
      exact ⟨rfl, rfl⟩
  · rw [order_no (by omega)]
    go_enter Tryz.func126, Tryz.ntmps126
    go_wp2
    go_ret
    exact ⟨rfl, rfl⟩

theorem implOrder_any (x : Int) (w : World) : Calls Tryz.prog 118 #[.int .i64 x] w fun e w' => e = .returned (.bool (orderB x)) ∧ w' = w := by
  by_cases h1 : 0 ≤ x
  · by_cases h2 : x ≤ 3
    · rw [show orderB x = true by simp [orderB, h1, h2]]
      go_enter Tryz.func118, Tryz.ntmps118
      go_wp2
      go_ret
      exact ⟨rfl, rfl⟩
    · rw [order_no (by omega)]
      go_enter Tryz.func118, Tryz.ntmps118
      go_wp2
      go_ret
      exact ⟨rfl, rfl⟩
  · rw [order_no (by omega)]
    go_enter Tryz.func118, Tryz.ntmps118
    go_wp2
    go_ret
    exact ⟨rfl, rfl⟩

/-- A glue that can be. -/
def okB (s p po m mo : Int) : Bool := fitsB s && fitsB p && fitsB m && orderB po && orderB mo

abbrev glueV (s p po m mo : Int) : Value := .agg #[.int .i64 s, .int .i64 p, .int .i64 po, .int .i64 m, .int .i64 mo]

theorem specGlueOk_ex (s p po m mo : Int) (w : World) : Calls Tryz.prog 100 #[glueV s p po m mo] w fun e w' => e = .returned (.bool (okB s p po m mo)) ∧ ∃ c : Array Value, w' = w.alloc (.cells c 34) := by
  unfold okB
  cases h1 : fitsB s <;> cases h2 : fitsB p <;> cases h3 : fitsB m <;> cases h4 : orderB po <;> cases h5 : orderB mo
  all_goals
    go_enter Tryz.func100, Tryz.ntmps100
    go_wp2_with (first
      | (go_at_call 103; refine (specFits_any _ _).mono ?_; rintro e w' ⟨rfl, rfl⟩)
      | (go_at_call 126; refine (specOrder_any _ _).mono ?_; rintro e w' ⟨rfl, rfl⟩))
    go_ret
    exact ⟨rfl, _, rfl⟩
theorem specGlueOk_any (s p po m mo : Int) (w : World) : Calls Tryz.prog 100 #[glueV s p po m mo] w fun e w' => e = .returned (.bool (okB s p po m mo)) ∧ Below w.heap.size w w' := by
  refine (specGlueOk_ex s p po m mo w).mono ?_
  rintro e w' ⟨rfl, c, rfl⟩
  exact ⟨rfl, (Below.refl _ _).alloc (Nat.le_refl _) _⟩

theorem implGlueOk_ex (s p po m mo : Int) (w : World) : Calls Tryz.prog 89 #[glueV s p po m mo] w fun e w' => e = .returned (.bool (okB s p po m mo)) ∧ ∃ c : Array Value, w' = w.alloc (.cells c 34) := by
  unfold okB
  cases h1 : fitsB s <;> cases h2 : fitsB p <;> cases h3 : fitsB m <;> cases h4 : orderB po <;> cases h5 : orderB mo
  all_goals
    go_enter Tryz.func89, Tryz.ntmps89
    go_wp2_with (first
      | (go_at_call 58; refine (implFits_any _ _).mono ?_; rintro e w' ⟨rfl, rfl⟩)
      | (go_at_call 118; refine (implOrder_any _ _).mono ?_; rintro e w' ⟨rfl, rfl⟩))
    go_ret
    exact ⟨rfl, _, rfl⟩
theorem implGlueOk_any (s p po m mo : Int) (w : World) : Calls Tryz.prog 89 #[glueV s p po m mo] w fun e w' => e = .returned (.bool (okB s p po m mo)) ∧ Below w.heap.size w w' := by
  refine (implGlueOk_ex s p po m mo w).mono ?_
  rintro e w' ⟨rfl, c, rfl⟩
  exact ⟨rfl, (Below.refl _ _).alloc (Nat.le_refl _) _⟩

set_option maxHeartbeats 1000000 in
theorem toGlue_ex (s p po m mo : Int) (w : World) : Calls Tryz.prog 62 #[glueV s p po m mo] w fun e w' => e = .returned (glueV s p po m mo) ∧ ∃ c1 c2 c3 : Array Value, w' = ((w.alloc (.cells c1 61)).alloc (.cells c2 34)).alloc (.cells c3 34) := by
  go_enter Tryz.func62, Tryz.ntmps62
  go_wp2
  exact bodyPost_ret (v := glueV s p po m mo) (by simp [results, Tryz.results62, go_sem]) rfl ⟨rfl, _, _, _, rfl⟩

theorem toGlue_any (s p po m mo : Int) (w : World) : Calls Tryz.prog 62 #[glueV s p po m mo] w fun e w' => e = .returned (glueV s p po m mo) ∧ Below w.heap.size w w' := by
  refine (toGlue_ex s p po m mo w).mono ?_
  rintro e w' ⟨rfl, c1, c2, c3, rfl⟩
  exact ⟨rfl, (((Below.refl _ _).alloc (Nat.le_refl _) _).alloc (by simp) _).alloc (by simp; omega) _⟩

/-- Behind a call that only made memory, every old cell and every old mark reads as before. -/
theorem bcell {W w1 : World} (hb : Below W.heap.size W w1) : (∀ b o, b < W.heap.size → w1.cell? ⟨b, o, none⟩ = W.cell? ⟨b, o, none⟩) ∧ (∀ b o, b < W.heap.size → w1.frozen? ⟨b, o, none⟩ = W.frozen? ⟨b, o, none⟩) :=
  ⟨fun b o h => hb.cell (p := ⟨b, o, none⟩) h, fun b o h => hb.frozen (p := ⟨b, o, none⟩) h⟩
end Go.Proofs.YtojoehdmjkgnnaaGreat.Shr

