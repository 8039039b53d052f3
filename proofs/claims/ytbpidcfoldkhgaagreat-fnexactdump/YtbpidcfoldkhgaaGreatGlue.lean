import Derived.Test.YtbpidcfoldkhgaaGreatTok
import Derived.WalkKit
import Derived.WalkSpells
import Derived.RowKit3
import Derived.Below
import Derived.Outline
namespace Go.Proofs.YtbpidcfoldkhgaaGreat
open Go.RowKit
set_option linter.unusedVariables false
set_option linter.unusedSimpArgs false
def fitsB (x : Int) : Bool := decide (-1073741823 ≤ x ∧ x ≤ 1073741823)
def orderB (x : Int) : Bool := decide (0 ≤ x ∧ x ≤ 3)
theorem fits_yes {x : Int} (h1 : -1073741823 ≤ x) (h2 : x ≤ 1073741823) : fitsB x = true := by simp [fitsB, h1, h2]
theorem fits_no {x : Int} (h : ¬ (-1073741823 ≤ x ∧ x ≤ 1073741823)) : fitsB x = false := by simp [fitsB]; omega
theorem order_no {x : Int} (h : ¬ (0 ≤ x ∧ x ≤ 3)) : orderB x = false := by simp [orderB]; omega
theorem specFits_any (x : Int) (w : World) : Calls Tryz.prog 61 #[.int .i64 x] w fun e w' => e = .returned (.bool (fitsB x)) ∧ w' = w := by
 by_cases h1 : -1073741823 ≤ x
 ·by_cases h2 : x ≤ 1073741823
  ·rw [fits_yes h1 h2]
   go_enter Tryz.func61, Tryz.ntmps61
   go_wp2
   go_ret
   exact ⟨rfl, rfl⟩
  ·rw [fits_no (by omega)]
   go_enter Tryz.func61, Tryz.ntmps61
   go_wp2
   go_ret
   exact ⟨rfl, rfl⟩
 ·rw [fits_no (by omega)]
  go_enter Tryz.func61, Tryz.ntmps61
  go_wp2
  go_ret
  exact ⟨rfl, rfl⟩
theorem implFits_any (x : Int) (w : World) : Calls Tryz.prog 98 #[.int .i64 x] w fun e w' => e = .returned (.bool (fitsB x)) ∧ w' = w := by
 by_cases h1 : -1073741823 ≤ x
 ·by_cases h2 : x ≤ 1073741823
  ·rw [fits_yes h1 h2]
   go_enter Tryz.func98, Tryz.ntmps98
   go_wp2
   go_ret
   exact ⟨rfl, rfl⟩
  ·rw [fits_no (by omega)]
   go_enter Tryz.func98, Tryz.ntmps98
   go_wp2
   go_ret
   exact ⟨rfl, rfl⟩
 ·rw [fits_no (by omega)]
  go_enter Tryz.func98, Tryz.ntmps98
  go_wp2
  go_ret
  exact ⟨rfl, rfl⟩
theorem specOrder_any (x : Int) (w : World) : Calls Tryz.prog 90 #[.int .i64 x] w fun e w' => e = .returned (.bool (orderB x)) ∧ w' = w := by
 by_cases h1 : 0 ≤ x
 ·by_cases h2 : x ≤ 3
  ·rw [show orderB x = true by simp [orderB, h1, h2]]
   go_enter Tryz.func90, Tryz.ntmps90
   go_wp2
   go_ret
   exact ⟨rfl, rfl⟩
  ·rw [order_no (by omega)]
   go_enter Tryz.func90, Tryz.ntmps90
   go_wp2
   go_ret
   exact ⟨rfl, rfl⟩
 ·rw [order_no (by omega)]
  go_enter Tryz.func90, Tryz.ntmps90
  go_wp2
  go_ret
  exact ⟨rfl, rfl⟩
theorem implOrder_any (x : Int) (w : World) : Calls Tryz.prog 121 #[.int .i64 x] w fun e w' => e = .returned (.bool (orderB x)) ∧ w' = w := by
 by_cases h1 : 0 ≤ x
 ·by_cases h2 : x ≤ 3
  ·rw [show orderB x = true by simp [orderB, h1, h2]]
   go_enter Tryz.func121, Tryz.ntmps121
   go_wp2
   go_ret
   exact ⟨rfl, rfl⟩
  ·rw [order_no (by omega)]
   go_enter Tryz.func121, Tryz.ntmps121
   go_wp2
   go_ret
   exact ⟨rfl, rfl⟩
 ·rw [order_no (by omega)]
  go_enter Tryz.func121, Tryz.ntmps121
  go_wp2
  go_ret
  exact ⟨rfl, rfl⟩
def okB (s p po m mo : Int) : Bool := fitsB s && fitsB p && fitsB m && orderB po && orderB mo
abbrev glueV (s p po m mo : Int) : Value := .agg #[.int .i64 s, .int .i64 p, .int .i64 po, .int .i64 m, .int .i64 mo]
theorem specGlueOk_ex (s p po m mo : Int) (w : World) : Calls Tryz.prog 62 #[glueV s p po m mo] w fun e w' => e = .returned (.bool (okB s p po m mo)) ∧ ∃ c : Array Value, w' = w.alloc (.cells c 61) := by
 unfold okB
 cases h1 : fitsB s <;> cases h2 : fitsB p <;> cases h3 : fitsB m <;> cases h4 : orderB po <;> cases h5 : orderB mo
 all_goals
  go_enter Tryz.func62, Tryz.ntmps62
  go_wp2_with (first
   | (go_at_call 61; refine (specFits_any _ _).mono ?_; rintro e w' ⟨rfl, rfl⟩)
   | (go_at_call 90; refine (specOrder_any _ _).mono ?_; rintro e w' ⟨rfl, rfl⟩))
  go_ret
  exact ⟨rfl, _, rfl⟩
theorem specGlueOk_any (s p po m mo : Int) (w : World) : Calls Tryz.prog 62 #[glueV s p po m mo] w fun e w' => e = .returned (.bool (okB s p po m mo)) ∧ Below w.heap.size w w' := by
 refine (specGlueOk_ex s p po m mo w).mono ?_
 rintro e w' ⟨rfl, c, rfl⟩
 exact ⟨rfl, (Below.refl _ _).alloc (Nat.le_refl _) _⟩
theorem implGlueOk_ex (s p po m mo : Int) (w : World) : Calls Tryz.prog 100 #[glueV s p po m mo] w fun e w' => e = .returned (.bool (okB s p po m mo)) ∧ ∃ c : Array Value, w' = w.alloc (.cells c 61) := by
 unfold okB
 cases h1 : fitsB s <;> cases h2 : fitsB p <;> cases h3 : fitsB m <;> cases h4 : orderB po <;> cases h5 : orderB mo
 all_goals
  go_enter Tryz.func100, Tryz.ntmps100
  go_wp2_with (first
   | (go_at_call 98; refine (implFits_any _ _).mono ?_; rintro e w' ⟨rfl, rfl⟩)
   | (go_at_call 121; refine (implOrder_any _ _).mono ?_; rintro e w' ⟨rfl, rfl⟩))
  go_ret
  exact ⟨rfl, _, rfl⟩
theorem implGlueOk_any (s p po m mo : Int) (w : World) : Calls Tryz.prog 100 #[glueV s p po m mo] w fun e w' => e = .returned (.bool (okB s p po m mo)) ∧ Below w.heap.size w w' := by
 refine (implGlueOk_ex s p po m mo w).mono ?_
 rintro e w' ⟨rfl, c, rfl⟩
 exact ⟨rfl, (Below.refl _ _).alloc (Nat.le_refl _) _⟩
set_option maxHeartbeats 1000000 in
theorem toGlue_ex (s p po m mo : Int) (w : World) : Calls Tryz.prog 92 #[glueV s p po m mo] w fun e w' => e = .returned (glueV s p po m mo) ∧ ∃ c1 c2 c3 : Array Value, w' = ((w.alloc (.cells c1 145)).alloc (.cells c2 61)).alloc (.cells c3 61) := by
 go_enter Tryz.func92, Tryz.ntmps92
 go_wp2
 exact bodyPost_ret (v := glueV s p po m mo) (by simp [results, Tryz.results92, go_sem]) rfl ⟨rfl, _, _, _, rfl⟩
theorem toGlue_any (s p po m mo : Int) (w : World) : Calls Tryz.prog 92 #[glueV s p po m mo] w fun e w' => e = .returned (glueV s p po m mo) ∧ Below w.heap.size w w' := by
 refine (toGlue_ex s p po m mo w).mono ?_
 rintro e w' ⟨rfl, c1, c2, c3, rfl⟩
 exact ⟨rfl, (((Below.refl _ _).alloc (Nat.le_refl _) _).alloc (by simp) _).alloc (by simp; omega) _⟩
end Go.Proofs.YtbpidcfoldkhgaaGreat
