/-
  The walks of the plain table of categories: of a byte, letters, impl.PlainCats.
-/
import Derived.Test.YtkiiiahljlkjnaaTable
namespace Go.Proofs.Ytkiiiahljlkjnaa
open Go.RowKit
set_option linter.unusedVariables false
set_option linter.unusedSimpArgs false

theorem retI {a b : Int} (h : a = b) : Ending.returned (Value.int .i64 a) = Ending.returned (Value.int .i64 b) := by rw [h]

def letB (c : Int) : Bool := decide ((97 ≤ c ∧ c ≤ 122) ∨ (65 ≤ c ∧ c ≤ 90))

set_option maxHeartbeats 1000000 in
theorem specLetter_any (c : Int) (w : World) : Calls Try.prog 51 #[.int .u8 c] w fun e w' => e = .returned (.bool (letB c)) ∧ w' = w := by
  go_enter Try.func51, Try.ntmps51
  go_wp2
  all_goals (go_ret; go_light; refine ⟨retB ?_, rfl⟩; unfold letB; first | exact decide_eq_decide.2 (by omega) | (rw [← Bool.decide_or]; exact decide_eq_decide.2 (by omega)) | exact (decide_eq_false (by omega)).symm | exact (decide_eq_true (by omega)).symm)
set_option maxHeartbeats 1000000 in
theorem implLetter_any (c : Int) (w : World) : Calls Try.prog 46 #[.int .u8 c] w fun e w' => e = .returned (.bool (letB c)) ∧ w' = w := by
  go_enter Try.func46, Try.ntmps46
  go_wp2
  all_goals (go_ret; go_light; refine ⟨retB ?_, rfl⟩; unfold letB; first | exact decide_eq_decide.2 (by omega) | (rw [← Bool.decide_or]; exact decide_eq_decide.2 (by omega)) | exact (decide_eq_false (by omega)).symm | exact (decide_eq_true (by omega)).symm)

/-- The plain category of a byte. -/
def catOf (c : Int) : Int :=
  if c = 92 then 0 else if c = 123 then 1 else if c = 125 then 2 else if c = 32 ∨ c = 9 then 3 else if c = 10 then 6 else if c = 35 then 7 else if c = 37 then 8 else if c = 0 then 9 else
  if c = 36 then 10 else if c = 94 then 11 else if c = 95 then 12 else if c = 38 then 13 else if c = 126 then 14 else if c = 127 then 15 else if letB c then 4 else 5

set_option maxHeartbeats 4000000 in
theorem plainCat_any (c : Int) (w : World) : Calls Try.prog 30 #[.int .u8 c] w fun e w' => e = .returned (.int .i64 (catOf c)) ∧ w' = w := by
  obtain ⟨lb, hlb⟩ : ∃ lb, lb = letB c := ⟨_, rfl⟩
  have hcall : ∀ w : World, Calls Try.prog 46 #[.int .u8 c] w fun e w' => e = .returned (.bool lb) ∧ w' = w := by rw [hlb]; exact implLetter_any c
  have HL : Hid (lb = letB c) := hlb
  clear hlb
  cases lb
  all_goals
    go_enter Try.func30, Try.ntmps30
    go_wp2_with (go_at_call 46; refine (hcall _).mono ?_; rintro e w' ⟨rfl, rfl⟩)
    all_goals (go_ret; go_light; refine ⟨retI ?_, rfl⟩; have hl := Eq.symm (show _ = letB c from HL); simp only [beq_iff_eq, beq_eq_false_iff_ne] at *; simp [catOf, *])
end Go.Proofs.Ytkiiiahljlkjnaa
