/-
  Plain arithmetic: the digits of a long division to the base 4294967296, by guess and correction. No Go text is spoken of here.
-/
namespace Go.Proofs.Ytgfphgbemfmkfaa.DivN
set_option linter.unusedVariables false

/-- What holds of a guessed digit q with its rest r: never too small. -/
def Guess (u d yn1 yn0 q r : Nat) : Prop := q * yn1 + r = u ∧ (u * 4294967296 + d) / (yn1 * 4294967296 + yn0) ≤ q ∧ q ≤ 4294967297

theorem test_iff {u d yn1 yn0 q r : Nat} (h : q * yn1 + r = u) : q * (yn1 * 4294967296 + yn0) ≤ u * 4294967296 + d ↔ q * yn0 ≤ 4294967296 * r + d := by
  have e1 : q * (yn1 * 4294967296 + yn0) = q * yn1 * 4294967296 + q * yn0 := by rw [Nat.mul_add, Nat.mul_assoc]
  have e2 : u * 4294967296 = q * yn1 * 4294967296 + 4294967296 * r := by rw [← h, Nat.add_mul, Nat.mul_comm r]
  rw [e1, e2]
  omega

theorem top_lt {u d yn1 yn0 : Nat} (hu : u < yn1 * 4294967296 + yn0) (hd : d < 4294967296) : (u * 4294967296 + d) / (yn1 * 4294967296 + yn0) < 4294967296 := by
  rw [Nat.div_lt_iff_lt_mul (by omega)]
  have : (u + 1) * 4294967296 ≤ (yn1 * 4294967296 + yn0) * 4294967296 := Nat.mul_le_mul_right _ hu
  rw [Nat.mul_comm 4294967296]
  omega

theorem le_top {u d yn1 yn0 q : Nat} (hy : 0 < yn1 * 4294967296 + yn0) : q ≤ (u * 4294967296 + d) / (yn1 * 4294967296 + yn0) ↔ q * (yn1 * 4294967296 + yn0) ≤ u * 4294967296 + d := Nat.le_div_iff_mul_le hy

theorem guess_init {u d yn1 yn0 : Nat} (h1 : 2147483648 ≤ yn1) (h0 : yn0 < 4294967296) (hu : u < yn1 * 4294967296 + yn0) (hd : d < 4294967296) : Guess u d yn1 yn0 (u / yn1) (u % yn1) := by
  have hdm := Nat.div_add_mod u yn1
  refine ⟨by rw [Nat.mul_comm]; exact hdm, ?_, ?_⟩
  · have h2 : (u * 4294967296 + d) / (yn1 * 4294967296 + yn0) ≤ (u * 4294967296 + d) / (yn1 * 4294967296) := Nat.div_le_div_left (by omega) (by omega)
    have h3 : (u * 4294967296 + d) / (yn1 * 4294967296) = u / yn1 := by
      rw [Nat.mul_comm yn1, ← Nat.div_div_eq_div_mul]
      congr 1
      omega
    omega
  · have : u / yn1 < 4294967298 := by
      rw [Nat.div_lt_iff_lt_mul (by omega)]
      omega
    omega

/-- The digit. -/
def digit (u d y : Nat) : Nat := (u * 4294967296 + d) / y

theorem guess_end {u d yn1 yn0 q r : Nat} (h1 : 2147483648 ≤ yn1) (h : Guess u d yn1 yn0 q r) (ht : q * yn0 ≤ 4294967296 * r + d) : q = digit u d (yn1 * 4294967296 + yn0) := by
  have h2 := (test_iff (d := d) (yn0 := yn0) h.1).2 ht
  have h3 := (le_top (u := u) (d := d) (q := q) (show 0 < yn1 * 4294967296 + yn0 by omega)).2 h2
  have := h.2.1
  unfold digit
  omega

theorem guess_next {u d yn1 yn0 q r : Nat} (h1 : 2147483648 ≤ yn1) (hu : u < yn1 * 4294967296 + yn0) (hd : d < 4294967296) (h : Guess u d yn1 yn0 q r) (ht : 4294967296 ≤ q ∨ 4294967296 * r + d < q * yn0) :
    0 < q ∧ Guess u d yn1 yn0 (q - 1) (r + yn1) ∧ q - 1 ≤ 4294967296 := by
  have hlt : (u * 4294967296 + d) / (yn1 * 4294967296 + yn0) < q := by
    rcases ht with ht | ht
    · have := top_lt hu hd
      omega
    · by_cases hh : q ≤ (u * 4294967296 + d) / (yn1 * 4294967296 + yn0)
      · have h2 := (le_top (u := u) (d := d) (q := q) (show 0 < yn1 * 4294967296 + yn0 by omega)).1 hh
        have h3 := (test_iff (d := d) (yn0 := yn0) h.1).1 h2
        omega
      · omega
  have hq : 0 < q := Nat.lt_of_le_of_lt (Nat.zero_le _) hlt
  have h3 := h.1
  have h4 := h.2.2
  refine ⟨hq, ⟨?_, by omega, by omega⟩, by omega⟩
  have e : q * yn1 = (q - 1) * yn1 + yn1 := by
    rw [← Nat.succ_mul]
    congr 1
    omega
  omega

theorem guess_break {u d yn1 yn0 q r : Nat} (h1 : 2147483648 ≤ yn1) (h0 : yn0 < 4294967296) (h : Guess u d yn1 yn0 q r) (hq : q ≤ 4294967296) (hr : 4294967296 ≤ r) : q = digit u d (yn1 * 4294967296 + yn0) := by
  refine guess_end h1 h ?_
  have h2 : q * yn0 ≤ 18446744069414584320 := by
    have := Nat.mul_le_mul hq (show yn0 ≤ 4294967295 by omega)
    simpa using this
  omega

/-- The whole quotient out of two digits. -/
theorem two_digits {u v0 v1 y q1 r1 q0 r0 : Nat} (h1 : y * q1 + r1 = u * 4294967296 + v1) (h2 : y * q0 + r0 = r1 * 4294967296 + v0) : (u * 4294967296 + v1) * 4294967296 + v0 = (q1 * 4294967296 + q0) * y + r0 := by
  rw [← h1, Nat.add_mul (q1 * 4294967296) q0 y]
  have e : q1 * 4294967296 * y = y * q1 * 4294967296 := by rw [Nat.mul_comm y q1, Nat.mul_right_comm]
  rw [e, Nat.add_mul, Nat.mul_comm q0 y]
  generalize y * q1 = A at *
  generalize y * q0 = B at *
  omega

theorem quot_of {U q r y : Nat} (h : U = q * y + r) (hr : r < y) : U / y = q ∧ U % y = r := by
  have e : U = r + q * y := by omega
  constructor
  · rw [e, Nat.add_mul_div_right _ _ (by omega), Nat.div_eq_of_lt hr]; omega
  · rw [e, Nat.add_mul_mod_self_right, Nat.mod_eq_of_lt hr]
end Go.Proofs.Ytgfphgbemfmkfaa.DivN
