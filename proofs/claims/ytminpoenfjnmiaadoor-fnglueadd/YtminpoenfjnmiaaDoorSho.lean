/-
  ShowLen.
-/
import Derived.Test.YtminpoenfjnmiaaDoorShn
namespace Go.Proofs.YtminpoenfjnmiaaDoor
open Go.RowKit
set_option linter.unusedVariables false
set_option linter.unusedSimpArgs false

/-- The table of the orders' names lies as it was laid. -/
def Names (w : World) : Prop := 0 < w.heap.size ∧ w.cell? ⟨0, 0, none⟩ = some (.string ⟨#[112, 116]⟩) ∧ w.cell? ⟨0, 1, none⟩ = some (.string ⟨#[102, 105, 108]⟩) ∧ w.cell? ⟨0, 2, none⟩ = some (.string ⟨#[102, 105, 108, 108]⟩) ∧ w.cell? ⟨0, 3, none⟩ = some (.string ⟨#[102, 105, 108, 108, 108]⟩)
theorem Names.kept {w w' : World} (h : Names w) (hb : Below w.heap.size w w') : Names w' := ⟨Nat.lt_of_lt_of_le h.1 hb.size, (hb.cell (p := ⟨0, 0, none⟩) h.1).trans h.2.1, (hb.cell (p := ⟨0, 1, none⟩) h.1).trans h.2.2.1, (hb.cell (p := ⟨0, 2, none⟩) h.1).trans h.2.2.2.1, (hb.cell (p := ⟨0, 3, none⟩) h.1).trans h.2.2.2.2⟩

theorem showLen_out (x : Int) (w : World) (h1 : -9223372036854775808 ≤ x) (h2 : x ≤ 9223372036854775807) (hx : ¬ (-1073741823 ≤ x ∧ x ≤ 1073741823)) :
    Calls Tryd.prog 17 #[.int .i64 x] w fun e w' => e = .returned (.string ⟨#[]⟩) ∧ Below w.heap.size w w' := by
  have F := hideP (fits_any x)
  rw [show decide (-1073741823 ≤ x ∧ x ≤ 1073741823) = false by simp only [hx, decide_false]] at F
  clear hx
  go_enter Tryd.func17, Tryd.ntmps17
  go_wp2_with fail
  refine (F.out _ h1 h2).mono ?_
  rintro e w1 ⟨rfl, rfl⟩
  go_wp2
  go_ret
  exact ⟨rfl, Below.refl _ _⟩

theorem showLen_in (x : Int) (s : ByteArray) (w : World) (hx : -1073741823 ≤ x ∧ x ≤ 1073741823) (hs : s.size ≤ 100) (hP : Pows w) (hO : Names w)
    (SD : ∀ w, Pows w → Calls Tryd.prog 21 #[.int .i64 x] w fun e w' => e = .returned (.string s) ∧ Below w.heap.size w w') :
    Calls Tryd.prog 17 #[.int .i64 x] w fun e w' => e = .returned (.string (s ++ ⟨#[112, 116]⟩)) ∧ Below w.heap.size w w' := by
  have F := hideP (fun w => fits_any x w (by omega) (by omega))
  rw [show decide (-1073741823 ≤ x ∧ x ≤ 1073741823) = true by simp [hx]] at F
  have HD := hideP SD
  have HP := hideP hP
  have HO := hideP hO
  clear SD hP hO
  go_enter Tryd.func17, Tryd.ntmps17
  go_wp2_with fail
  refine (F.out _).mono ?_
  rintro e w1 ⟨rfl, rfl⟩
  have c0 := HO.out.2.1
  have z0 := HO.out.1
  have D1 : Hid (∀ w' : World, Below w1.heap.size w1 w' → Pows w') := fun w' h => HP.out.kept h
  go_wp2_with fail
  go_region_with (go_at_call 21; refine (HD.out _ (D1.out _ (Below.drew (Below.refl _ _)))).mono ?_; rintro e w2 ⟨rfl, hb2⟩; have c2 := (hb2.cell (p := ⟨0, 0, none⟩) (by exact z0)).trans (show w1.drew.cell? ⟨0, 0, none⟩ = _ from c0); have HW2 := hideP ((Below.drew (Below.refl w1.heap.size w1)).trans hb2); clear hb2)
  all_goals
    go_wp2
    go_ret
    exact ⟨rfl, HW2.out⟩
end Go.Proofs.YtminpoenfjnmiaaDoor
