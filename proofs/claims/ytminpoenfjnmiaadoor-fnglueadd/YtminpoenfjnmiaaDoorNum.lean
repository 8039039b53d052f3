/-
  The numbers of ShowLen and ParseLen: which decimal is read as which length; and texts of digits.
-/
import Derived.Test.YtminpoenfjnmiaaDoorBas
import Derived.Lib.ItoaNum
import Derived.Lib.Repeat
namespace Go.Proofs.YtminpoenfjnmiaaDoor
open Go.RowKit
set_option linter.unusedVariables false
set_option linter.unusedSimpArgs false

/-- The decimal of a length a with so many parts to the point, e = 1 below 0: to the nearest, of two the lesser. -/
def numOf (e a S : Nat) : Nat := (a * S + 32767 + e) / 65536
/-- The length that it is read as. -/
def rd (N S : Nat) : Nat := (2 * (N * 65536) + S) / (2 * S)

/-- p places do, and no fewer. -/
def Shown (e a p : Nat) : Prop := 1 ≤ p ∧ p ≤ 5 ∧ rd (numOf e a (10 ^ p)) (10 ^ p) = a ∧ ∀ q, 1 ≤ q → q < p → rd (numOf e a (10 ^ q)) (10 ^ q) ≠ a

theorem five (e a : Nat) (he : e ≤ 1) : rd (numOf e a 100000) 100000 = a := by
  unfold rd numOf
  omega

theorem rd_pos {N S a : Nat} (h : rd N S = a) (ha : 0 < a) : 0 < N := by
  by_cases h0 : N = 0
  · subst h0
    unfold rd at h
    rw [Nat.div_eq_of_lt] at h
    · omega
    · by_cases hs : S = 0
      · subst hs; simp at h; omega
      · omega
  · omega

theorem last_off {e a p : Nat} (he : e ≤ 1) (h : Shown e a p) (hp : 2 ≤ p) : rd (numOf e a (10 ^ p) / 10) (10 ^ (p - 1)) ≠ a ∧ rd (numOf e a (10 ^ p) / 10) (10 ^ (p - 1)) ≤ a := by
  obtain ⟨h1, h2, h3, h4⟩ := h
  have h5 := h4 (p - 1) (by omega) (by omega)
  clear h4
  obtain rfl | rfl | rfl | rfl : p = 2 ∨ p = 3 ∨ p = 4 ∨ p = 5 := by omega
  · simp only [Nat.reducePow, Nat.reduceSub] at h3 h5 ⊢
    generalize numOf e a 100 = N at h3 ⊢
    generalize hM : N / 10 = M
    refine ⟨fun hz => ?_, ?_⟩
    · have : numOf e a 10 = M := by
        clear h3 h5
        unfold rd at hz
        unfold numOf
        omega
      rw [this] at h5
      exact h5 hz
    · unfold rd at *
      omega
  · simp only [Nat.reducePow, Nat.reduceSub] at h3 h5 ⊢
    generalize numOf e a 1000 = N at h3 ⊢
    generalize hM : N / 10 = M
    refine ⟨fun hz => ?_, ?_⟩
    · have : numOf e a 100 = M := by
        clear h3 h5
        unfold rd at hz
        unfold numOf
        omega
      rw [this] at h5
      exact h5 hz
    · unfold rd at *
      omega
  · simp only [Nat.reducePow, Nat.reduceSub] at h3 h5 ⊢
    generalize numOf e a 10000 = N at h3 ⊢
    generalize hM : N / 10 = M
    refine ⟨fun hz => ?_, ?_⟩
    · have : numOf e a 1000 = M := by
        clear h3 h5
        unfold rd at hz
        unfold numOf
        omega
      rw [this] at h5
      exact h5 hz
    · unfold rd at *
      omega
  · simp only [Nat.reducePow, Nat.reduceSub] at h3 h5 ⊢
    generalize numOf e a 100000 = N at h3 ⊢
    generalize hM : N / 10 = M
    refine ⟨fun hz => ?_, ?_⟩
    · have : numOf e a 10000 = M := by
        clear h3 h5
        unfold rd at hz
        unfold numOf
        omega
      rw [this] at h5
      exact h5 hz
    · unfold rd at *
      omega

theorem num_bound {e a p : Nat} (he : e ≤ 1) (ha : a ≤ 1073741823) (h1 : 1 ≤ p) (h2 : p ≤ 5) : numOf e a (10 ^ p) ≤ 1638400000 ∧ numOf e a (10 ^ p) / 10 ^ p < 100000 := by
  obtain rfl | rfl | rfl | rfl | rfl : p = 1 ∨ p = 2 ∨ p = 3 ∨ p = 4 ∨ p = 5 := by omega
  all_goals
    simp only [Nat.reducePow]
    unfold numOf
    omega

/-- Digits alone. -/
def DigL (l : List UInt8) : Prop := ∀ c ∈ l, 48 ≤ c.toNat ∧ c.toNat ≤ 57
def valL (n : Nat) : List UInt8 → Nat
  | [] => n
  | c :: r => valL (n * 10 + (c.toNat - 48)) r

theorem valL_append (n : Nat) (A B : List UInt8) : valL n (A ++ B) = valL (valL n A) B := by
  induction A generalizing n with
  | nil => rfl
  | cons c r ih => exact ih _

theorem digit_byte (u : Nat) (h : u < 10) : (UInt8.ofNat (48 + u)).toNat = 48 + u := by
  rw [UInt8.toNat_ofNat']
  exact Nat.mod_eq_of_lt (by omega)

theorem dec_dig (u : Nat) : DigL (Lib.decDigits u) := by
  induction u using Nat.strongRecOn with
  | _ u ih =>
    intro c hc
    rw [Lib.decDigits] at hc
    split at hc
    · rename_i h
      simp only [List.mem_singleton] at hc
      subst hc
      rw [digit_byte u h]; omega
    · rename_i h
      rcases List.mem_append.1 hc with hc | hc
      · exact ih (u / 10) (by omega) c hc
      · simp only [List.mem_singleton] at hc
        subst hc
        rw [digit_byte _ (by omega)]; omega

theorem dec_more {u : Nat} (h : ¬ u < 10) : Lib.decDigits u = Lib.decDigits (u / 10) ++ [UInt8.ofNat (48 + u % 10)] := by
  rw [Lib.decDigits, dif_neg h]

theorem valL_one (n : Nat) (c : UInt8) : valL n [c] = n * 10 + (c.toNat - 48) := rfl

theorem dec_val_step (n z k u : Nat) : (n * 10 ^ k + u / 10) * 10 + (48 + u % 10 - 48) = n * 10 ^ (k + 1) + u := by
  rw [Nat.pow_succ, ← Nat.mul_assoc]
  generalize n * 10 ^ k = y
  omega

theorem dec_val (u n : Nat) : valL n (Lib.decDigits u) = n * 10 ^ (Lib.decDigits u).length + u := by
  induction u using Nat.strongRecOn generalizing n with
  | _ u ih =>
    by_cases h : u < 10
    · have e := Lib.decDigits_one h
      rw [e, valL_one, digit_byte u h, List.length_singleton, Nat.pow_one]
      omega
    · have e := dec_more h
      rw [e, valL_append, ih (u / 10) (by omega) n, valL_one, digit_byte _ (by omega), List.length_append, List.length_singleton]
      exact dec_val_step n 0 _ u

theorem dec_len (k : Nat) : ∀ u, u < 10 ^ (k + 1) → (Lib.decDigits u).length ≤ k + 1 := by
  induction k with
  | zero =>
    intro u hu
    rw [Lib.decDigits, dif_pos (by simpa using hu)]
    simp
  | succ k ih =>
    intro u hu
    by_cases h : u < 10
    · rw [Lib.decDigits, dif_pos h]
      simp only [List.length_cons, List.length_nil]
      omega
    · rw [Lib.decDigits, dif_neg h]
      have := ih (u / 10) (by rw [Nat.pow_succ] at hu; omega)
      simp only [List.length_append, List.length_cons, List.length_nil]
      omega

theorem dec_ne (u : Nat) : 0 < (Lib.decDigits u).length := by
  rw [Lib.decDigits]
  split <;> simp

theorem zeros_dig (z : Nat) : DigL (Lib.repeatL [48] z) := by
  induction z with
  | zero => intro c hc; simp [Lib.repeatL] at hc
  | succ z ih =>
    intro c hc
    simp only [Lib.repeatL, List.mem_append, List.mem_singleton] at hc
    rcases hc with rfl | hc
    · decide
    · exact ih c hc

theorem zero_byte : (48 : UInt8).toNat - 48 = 0 := by decide

theorem zeros_val (z : Nat) : ∀ n : Nat, valL n (Lib.repeatL [48] z) = n * 10 ^ z := by
  induction z with
  | zero =>
    intro n
    rw [Nat.pow_zero, Nat.mul_one]
    rfl
  | succ z ih =>
    intro n
    have e : Lib.repeatL [48] (z + 1) = [48] ++ Lib.repeatL [48] z := rfl
    rw [e, valL_append, valL_one, zero_byte, Nat.add_zero, ih, Nat.pow_succ, Nat.mul_assoc, Nat.mul_comm 10]

/-- The digits of a number with so many places: the whole, and the places, zeros ahead. -/
theorem parts_facts (N p : Nat) (h1 : 1 ≤ p) (hN : N / 10 ^ p < 100000) :
    let A := Lib.decDigits (N / 10 ^ p)
    let B := Lib.repeatL [48] (p - (Lib.decDigits (N % 10 ^ p)).length) ++ Lib.decDigits (N % 10 ^ p)
    DigL A ∧ DigL B ∧ 0 < A.length ∧ A.length ≤ 5 ∧ B.length = p ∧ valL 0 (A ++ B) = N := by
  intro A B
  have hpos : 0 < 10 ^ p := Nat.pow_pos (by decide)
  have hm := Nat.mod_lt N hpos
  have hl : (Lib.decDigits (N % 10 ^ p)).length ≤ p := by
    obtain ⟨k, rfl⟩ : ∃ k, p = k + 1 := ⟨p - 1, by omega⟩
    exact dec_len k _ hm
  refine ⟨dec_dig _, ?_, dec_ne _, dec_len 4 _ hN, ?_, ?_⟩
  · intro c hc
    rcases List.mem_append.1 hc with hc | hc
    · exact zeros_dig _ c hc
    · exact dec_dig _ c hc
  · show (Lib.repeatL [48] _ ++ _).length = p
    rw [List.length_append, Lib.repeatL_length]
    simp only [List.length_cons, List.length_nil]
    omega
  · show valL 0 (_ ++ (Lib.repeatL [48] _ ++ _)) = N
    rw [valL_append, valL_append, dec_val, zeros_val, dec_val, Nat.zero_mul, Nat.zero_add, Nat.mul_assoc, ← Nat.pow_add, Nat.sub_add_cancel hl]
    have := Nat.div_add_mod N (10 ^ p)
    rw [Nat.mul_comm] at this
    exact this
end Go.Proofs.YtminpoenfjnmiaaDoor
