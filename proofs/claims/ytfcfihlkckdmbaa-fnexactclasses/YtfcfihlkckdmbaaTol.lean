/-
  The class that an atom tells, and what a Bin can bind.
-/
import Derived.Test.YtfcfihlkckdmbaaFoL
namespace Go.Proofs.Ytfcfihlkckdmbaa
open Go.RowKit
set_option linter.unusedVariables false
set_option linter.unusedSimpArgs false

theorem told_any {w : World} {p : Nat} {h : Hd} {ab : Option Addr} {cb : Nat} (H : HdAt w p h ab cb) : Calls Try.prog 26 #[.pointer (some ⟨p, 0, none⟩)] w fun e w' => e = .returned (.int .i64 h.c) ∧ w' = w := by
  obtain ⟨h1, h2, h3, au, cu, ad, cd, hh⟩ := H
  have g1 : w.cell? ⟨p, 1, none⟩ = some (.int .i64 h.c) := by rw [cell_of_row w _ _ _ 56 _ hh]; rfl
  clear hh
  go_enter Try.func26, Try.ntmps26
  go_wp2
  go_ret
  exact ⟨rfl, rfl⟩

def behB (c : Int) : Bool := decide (c = 0 ∨ c = 5 ∨ c = 7)
def ahdB (c : Int) : Bool := decide (c ≠ 3 ∧ c ≠ 5 ∧ c ≠ 6)
theorem beh_any (c : Int) (w : World) : Calls Try.prog 32 #[.int .i64 c] w fun e w' => e = .returned (.bool (behB c)) ∧ w' = w := by
  obtain ⟨R, hR⟩ : ∃ R, R = behB c := ⟨_, rfl⟩
  rw [← hR]
  unfold behB at hR
  have HR := hideP hR
  clear hR
  go_enter Try.func32, Try.ntmps32
  go_wp2
  all_goals
    go_ret
    refine ⟨retB ?_, rfl⟩
    rw [HR.out, Bool.eq_iff_iff]
    clear HR
    first | (simp_all; done) | (simp_all; omega)
theorem ahd_any (c : Int) (w : World) : Calls Try.prog 33 #[.int .i64 c] w fun e w' => e = .returned (.bool (ahdB c)) ∧ w' = w := by
  obtain ⟨R, hR⟩ : ∃ R, R = ahdB c := ⟨_, rfl⟩
  rw [← hR]
  unfold ahdB at hR
  have HR := hideP hR
  clear hR
  go_enter Try.func33, Try.ntmps33
  go_wp2
  all_goals
    go_ret
    refine ⟨retB ?_, rfl⟩
    rw [HR.out, Bool.eq_iff_iff]
    clear HR
    first | (simp_all; done) | (simp_all; omega)

/-- The classes that atoms of these classes count as, when the one ahead counts as p. -/
def count : Option Int → List Int → List Int
  | _, [] => []
  | p, c :: r =>
    let d := if c = 2 ∧ (p = none ∨ r = [] ∨ behB (p.getD 0) = false ∨ ahdB (r.headD 0) = false) then 0 else c
    d :: count (some d) r
end Go.Proofs.Ytfcfihlkckdmbaa
