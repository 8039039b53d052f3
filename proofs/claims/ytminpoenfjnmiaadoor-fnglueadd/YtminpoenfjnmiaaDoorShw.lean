/-
  The walks of ShowLen's numbers.
-/
import Derived.Test.YtminpoenfjnmiaaDoorBas
namespace Go.Proofs.YtminpoenfjnmiaaDoor
open Go.RowKit
set_option linter.unusedVariables false
set_option linter.unusedSimpArgs false

theorem fits_any (x : Int) (w : World) (h1 : -9223372036854775808 ≤ x) (h2 : x ≤ 9223372036854775807) :
    Calls Tryd.prog 15 #[.int .i64 x] w fun e w' => e = .returned (.bool (decide (-1073741823 ≤ x ∧ x ≤ 1073741823))) ∧ w' = w := by
  by_cases h : -1073741823 ≤ x
  · by_cases h' : x ≤ 1073741823
    · rw [show decide (-1073741823 ≤ x ∧ x ≤ 1073741823) = true by simp [h, h']]
      go_enter Tryd.func15, Tryd.ntmps15
      go_wp2
      go_ret
      exact ⟨rfl, rfl⟩
    · rw [show decide (-1073741823 ≤ x ∧ x ≤ 1073741823) = false by simp [h, h']]
      go_enter Tryd.func15, Tryd.ntmps15
      go_wp2
      go_ret
      exact ⟨rfl, rfl⟩
  · rw [show decide (-1073741823 ≤ x ∧ x ≤ 1073741823) = false by simp [h]]
    go_enter Tryd.func15, Tryd.ntmps15
    go_wp2
    go_ret
    exact ⟨rfl, rfl⟩

theorem lower_core (X q r : Int) (w : World) (h1 : -1000000000000000 ≤ X) (h2 : X ≤ 1000000000000000) (e1 : (X + 32768 - 1).tdiv 65536 = q) (e2 : (X + 32768 - 1).tmod 65536 = r) (hq : -1000000000000000 ≤ q ∧ q ≤ 1000000000000000) :
    Calls Tryd.prog 23 #[.int .i64 X, .int .i64 65536] w fun e w' => e = .returned (.int .i64 (if r < 0 then q - 1 else q)) ∧ w' = w := by
  by_cases hr : r < 0
  · rw [if_pos hr]
    have hd : decide (r < 0) = true := by simp [hr]
    clear hr
    go_enter Tryd.func23, Tryd.ntmps23
    go_wp2
    go_ret
    exact ⟨rfl, rfl⟩
  · rw [if_neg hr]
    have hd : decide (r < 0) = false := by simp [hr]
    clear hr
    go_enter Tryd.func23, Tryd.ntmps23
    go_wp2
    go_ret
    exact ⟨rfl, rfl⟩

/-- To the nearest of 65536 parts, of two the lesser: a number that is not below 0. -/
theorem lower_pos (y : Nat) (w : World) (hy : y ≤ 1000000000000000) :
    Calls Tryd.prog 23 #[.int .i64 (y : Int), .int .i64 65536] w fun e w' => e = .returned (.int .i64 (((y + 32767) / 65536 : Nat) : Int)) ∧ w' = w := by
  have hY : (y : Int) + 32768 - 1 = ((y + 32767 : Nat) : Int) := by omega
  have e1 : ((y : Int) + 32768 - 1).tdiv 65536 = (((y + 32767) / 65536 : Nat) : Int) := by rw [hY, Int.tdiv_eq_ediv_of_nonneg (by omega)]; rfl
  have e2 : ((y : Int) + 32768 - 1).tmod 65536 = (((y + 32767) % 65536 : Nat) : Int) := by rw [hY, Int.tmod_eq_emod_of_nonneg (by omega)]; rfl
  refine (lower_core y _ _ w (by omega) (by omega) e1 e2 (by omega)).mono ?_
  rintro e w' ⟨rfl, rfl⟩
  exact ⟨by rw [if_neg (by omega)], rfl⟩

theorem lower_neg (y : Nat) (w : World) (hy : y ≤ 1000000000000000) :
    Calls Tryd.prog 23 #[.int .i64 (-(y : Int)), .int .i64 65536] w fun e w' => e = .returned (.int .i64 (-(((y + 32768) / 65536 : Nat) : Int))) ∧ w' = w := by
  by_cases h : y ≤ 32767
  · have hY : -(y : Int) + 32768 - 1 = ((32767 - y : Nat) : Int) := by omega
    have e1 : (-(y : Int) + 32768 - 1).tdiv 65536 = (((32767 - y) / 65536 : Nat) : Int) := by rw [hY, Int.tdiv_eq_ediv_of_nonneg (by omega)]; rfl
    have e2 : (-(y : Int) + 32768 - 1).tmod 65536 = (((32767 - y) % 65536 : Nat) : Int) := by rw [hY, Int.tmod_eq_emod_of_nonneg (by omega)]; rfl
    refine (lower_core (-(y : Int)) _ _ w (by omega) (by omega) e1 e2 (by omega)).mono ?_
    rintro e w' ⟨rfl, rfl⟩
    refine ⟨?_, rfl⟩
    rw [if_neg (by omega)]
    congr 2
    omega
  · obtain ⟨m, hm⟩ : ∃ m, m = y - 32767 := ⟨_, rfl⟩
    have hY : -(y : Int) + 32768 - 1 = -(m : Int) := by omega
    have e1 : (-(y : Int) + 32768 - 1).tdiv 65536 = -((m / 65536 : Nat) : Int) := by rw [hY, Int.neg_tdiv, Int.tdiv_eq_ediv_of_nonneg (by omega)]; rfl
    have e2 : (-(y : Int) + 32768 - 1).tmod 65536 = -((m % 65536 : Nat) : Int) := by rw [hY, Int.neg_tmod, Int.tmod_eq_emod_of_nonneg (by omega)]; rfl
    refine (lower_core (-(y : Int)) _ _ w (by omega) (by omega) e1 e2 (by omega)).mono ?_
    rintro e w' ⟨rfl, rfl⟩
    refine ⟨?_, rfl⟩
    congr 2
    split <;> omega

theorem near_core (X q r S : Int) (w : World) (h1 : -1000000000000000 ≤ X) (h2 : X ≤ 1000000000000000) (hS : 0 < S) (hS2 : S ≤ 100000) (e1 : X.tdiv S = q) (e2 : X.tmod S = r) (hq : -1000000000000000 ≤ q ∧ q ≤ 1000000000000000) (hr1 : -100000 ≤ r ∧ r ≤ 100000) :
    Calls Tryd.prog 24 #[.int .i64 X, .int .i64 S] w fun e w' => e = .returned (.int .i64 (if r < 0 then (if r + (S + r) ≤ 0 then q - 1 else q) else (if S - r ≤ r then q + 1 else q))) ∧ Below w.heap.size w w' := by
  have s0 : decide (S < 0) = false := by simp; omega
  have s1 : decide (0 < S) = true := by simp; omega
  have sn : (S == 0) = false := by simp; omega
  have s2 : decide (0 ≤ S) = true := by simp; omega
  by_cases hr : r < 0
  · rw [if_pos hr]
    have hd : decide (r < 0) = true := by simp [hr]
    have hd' : decide (0 < r) = false := by simp; omega
    by_cases hm : r + (S + r) ≤ 0
    · rw [if_pos hm]
      have hd2 : decide (r + (S + r) ≤ 0) = true := by simp [hm]
      clear hm hr
      go_enter Tryd.func24, Tryd.ntmps24
      go_wp2
      go_quiet (fail)
      go_wp2
      go_ret
      exact ⟨rfl, below_drewN (Below.refl _ _) _⟩
    · rw [if_neg hm]
      have hd2 : decide (r + (S + r) ≤ 0) = false := by simp only [hm, decide_false]
      clear hm hr
      go_enter Tryd.func24, Tryd.ntmps24
      go_wp2
      go_quiet (fail)
      go_wp2
      go_ret
      exact ⟨rfl, below_drewN (Below.refl _ _) _⟩
  · rw [if_neg hr]
    have hd : decide (r < 0) = false := by simp only [hr, decide_false]
    by_cases hm : S - r ≤ r
    · rw [if_pos hm]
      have hd2 : decide (S - r ≤ r) = true := by simp [hm]
      clear hm hr
      go_enter Tryd.func24, Tryd.ntmps24
      go_wp2
      go_quiet (fail)
      go_wp2
      go_ret
      exact ⟨rfl, below_drewN (Below.refl _ _) _⟩
    · rw [if_neg hm]
      have hd2 : decide (S - r ≤ r) = false := by simp only [hm, decide_false]
      clear hm hr
      go_enter Tryd.func24, Tryd.ntmps24
      go_wp2
      go_quiet (fail)
      go_wp2
      go_ret
      exact ⟨rfl, below_drewN (Below.refl _ _) _⟩

theorem half_div (y S : Nat) (hS : 0 < S) : (2 * y + S) / (2 * S) = y / S + if S ≤ 2 * (y % S) then 1 else 0 := by
  have hr := Nat.mod_lt y hS
  have e : 2 * y + S = (2 * (y % S) + S) + (2 * S) * (y / S) := by
    have := Nat.div_add_mod y S
    have h2 : 2 * S * (y / S) = 2 * (S * (y / S)) := Nat.mul_assoc 2 S (y / S)
    omega
  rw [e, Nat.add_mul_div_left _ _ (by omega)]
  by_cases h : S ≤ 2 * (y % S)
  · rw [if_pos h, show (2 * (y % S) + S) / (2 * S) = 1 from Nat.div_eq_of_lt_le (by omega) (by omega)]
    omega
  · rw [if_neg h, Nat.div_eq_of_lt (by omega)]
    omega

theorem near_pos (y S : Nat) (w : World) (hy : y ≤ 1000000000000000) (hS : 0 < S) (hS2 : S ≤ 100000) :
    Calls Tryd.prog 24 #[.int .i64 (y : Int), .int .i64 (S : Int)] w fun e w' => e = .returned (.int .i64 (((2 * y + S) / (2 * S) : Nat) : Int)) ∧ Below w.heap.size w w' := by
  have hr := Nat.mod_lt y hS
  have hq : y / S ≤ y := Nat.div_le_self y S
  have e1 : (y : Int).tdiv (S : Int) = ((y / S : Nat) : Int) := by rw [Int.tdiv_eq_ediv_of_nonneg (by omega)]; rfl
  have e2 : (y : Int).tmod (S : Int) = ((y % S : Nat) : Int) := by rw [Int.tmod_eq_emod_of_nonneg (by omega)]; rfl
  have hh := half_div y S hS
  generalize y / S = q at *
  generalize y % S = r at *
  refine (near_core y _ _ S w (by omega) (by omega) (by omega) (by omega) e1 e2 (by omega) (by omega)).mono ?_
  rintro e w' ⟨rfl, hb⟩
  refine ⟨?_, hb⟩
  rw [hh, if_neg (by omega)]
  congr 2
  split <;> split <;> omega

theorem near_neg (y S : Nat) (w : World) (hy : y ≤ 1000000000000000) (hS : 0 < S) (hS2 : S ≤ 100000) :
    Calls Tryd.prog 24 #[.int .i64 (-(y : Int)), .int .i64 (S : Int)] w fun e w' => e = .returned (.int .i64 (-(((2 * y + S) / (2 * S) : Nat) : Int))) ∧ Below w.heap.size w w' := by
  have hr := Nat.mod_lt y hS
  have hq : y / S ≤ y := Nat.div_le_self y S
  have e1 : (-(y : Int)).tdiv (S : Int) = -((y / S : Nat) : Int) := by rw [Int.neg_tdiv, Int.tdiv_eq_ediv_of_nonneg (by omega)]; rfl
  have e2 : (-(y : Int)).tmod (S : Int) = -((y % S : Nat) : Int) := by rw [Int.neg_tmod, Int.tmod_eq_emod_of_nonneg (by omega)]; rfl
  have hh := half_div y S hS
  generalize y / S = q at *
  generalize y % S = r at *
  refine (near_core (-(y : Int)) _ _ S w (by omega) (by omega) (by omega) (by omega) e1 e2 (by omega) (by omega)).mono ?_
  rintro e w' ⟨rfl, hb⟩
  refine ⟨?_, hb⟩
  rw [hh]
  congr 2
  split <;> split <;> split <;> omega
end Go.Proofs.YtminpoenfjnmiaaDoor
