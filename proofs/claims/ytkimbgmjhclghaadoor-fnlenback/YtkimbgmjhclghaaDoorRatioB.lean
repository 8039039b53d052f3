/-
  The walks of Ratio: the program's.
-/
import Derived.Test.YtkimbgmjhclghaaDoorRatio
namespace Go.Proofs.YtkimbgmjhclghaaDoor
open Go.RowKit
set_option linter.unusedVariables false
set_option linter.unusedSimpArgs false

/-- The nearest quotient, if it fits. -/
def ratioN (x num den : Int) : Nat := scaleN x.natAbs num.natAbs den.natAbs 1073741823
def ratioV (x num den : Int) : Int := if ratioN x num den ≤ 1073741823 then (if negB x num den then -((ratioN x num den : Nat) : Int) else ((ratioN x num den : Nat) : Int)) else 0
def ratioB (x num den : Int) : Bool := decide (ratioN x num den ≤ 1073741823)

theorem implRatio_zero (x num : Int) (w : World) : Calls Tryd.prog 17 #[.int .i64 x, .int .i64 num, .int .i64 0] w fun e w' => e = .returned (.tuple #[.int .i64 0, .bool false]) ∧ Below w.heap.size w w' := by
  go_enter Tryd.func17, Tryd.ntmps17
  go_wp2
  go_ret2
  exact ⟨rfl, Below.refl _ _⟩

set_option maxHeartbeats 1000000 in
theorem implRatio_any (x num den : Int) (w : World) (hx1 : -9223372036854775808 ≤ x) (hx2 : x ≤ 9223372036854775807) (hn1 : -9223372036854775808 ≤ num) (hn2 : num ≤ 9223372036854775807) (hd1 : -9223372036854775808 ≤ den) (hd2 : den ≤ 9223372036854775807)
    (hd0 : den ≠ 0) (hdiv : x.natAbs * num.natAbs / 18446744073709551616 < den.natAbs → DivAt (x.natAbs * num.natAbs / 18446744073709551616) (x.natAbs * num.natAbs % 18446744073709551616) den.natAbs) :
    Calls Tryd.prog 17 #[.int .i64 x, .int .i64 num, .int .i64 den] w fun e w' => e = .returned (.tuple #[.int .i64 (ratioV x num den), .bool (ratioB x num den)]) ∧ Below w.heap.size w w' := by
  have S := hideR (fun w => scaled_any x num den 1073741823 w hx1 hx2 hn1 hn2 hd1 hd2 hd0 (by omega) hdiv)
  clear hdiv
  have e0 : (den == 0) = false := by simp [hd0]
  have E : Hid (ratioN x num den = scaleN x.natAbs num.natAbs den.natAbs 1073741823) := rfl
  rw [← E.out] at S
  clear E
  by_cases h : ratioN x num den ≤ 1073741823
  · have e1 : ratioB x num den = true := by simp [ratioB, h]
    have e2 : ratioV x num den = if negB x num den then -((min (ratioN x num den) 1073741823 : Nat) : Int) else ((min (ratioN x num den) 1073741823 : Nat) : Int) := by
      unfold ratioV
      rw [if_pos h, show min (ratioN x num den) 1073741823 = ratioN x num den by omega]
    rw [e1, e2]
    rw [show decide (ratioN x num den ≤ 1073741823) = true by simp [h]] at S
    clear e1 e2
    generalize (if negB x num den then -((min (ratioN x num den) 1073741823 : Nat) : Int) else ((min (ratioN x num den) 1073741823 : Nat) : Int)) = v at *
    clear h
    go_enter Tryd.func17, Tryd.ntmps17
    go_wp2_with fail
    refine (S.out _).mono ?_
    rintro e w1 ⟨rfl, hb1⟩
    have B1 := hideR hb1
    clear hb1
    go_wp2
    go_ret2
    exact ⟨rfl, B1.out⟩
  · have e1 : ratioB x num den = false := by simp [ratioB, h]
    have e2 : ratioV x num den = 0 := by simp [ratioV, h]
    rw [e1, e2]
    rw [show decide (ratioN x num den ≤ 1073741823) = false by simp [h]] at S
    clear e1 e2
    generalize (if negB x num den then -((min (ratioN x num den) 1073741823 : Nat) : Int) else ((min (ratioN x num den) 1073741823 : Nat) : Int)) = v at *
    clear h
    go_enter Tryd.func17, Tryd.ntmps17
    go_wp2_with fail
    refine (S.out _).mono ?_
    rintro e w1 ⟨rfl, hb1⟩
    have B1 := hideR hb1
    clear hb1
    go_wp2
    go_ret2
    exact ⟨rfl, B1.out⟩
end Go.Proofs.YtkimbgmjhclghaaDoor
