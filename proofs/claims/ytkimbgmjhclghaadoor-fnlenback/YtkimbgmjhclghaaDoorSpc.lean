/-
  The specification's reading of a length.
-/
import Derived.Test.YtkimbgmjhclghaaDoorDec
import Derived.Test.YtkimbgmjhclghaaDoorRat
import Derived.Deep.Light
namespace Go.Proofs.YtkimbgmjhclghaaDoor
open Go.RowKit
set_option linter.unusedVariables false
set_option linter.unusedSimpArgs false

def signOff (s : ByteArray) : Nat := if 0 < s.size ∧ (byteAt s 0 = 45 ∨ byteAt s 0 = 43) then 1 else 0
def signNeg (s : ByteArray) : Bool := decide (0 < s.size) && decide (byteAt s 0 = 45)

theorem digit_any (c : Nat) (w : World) (hc : c ≤ 255) : Calls Tryd.prog 18 #[.int .u8 (c : Int)] w fun e w' => e = .returned (.bool (decide (48 ≤ c ∧ c ≤ 57))) ∧ Below w.heap.size w w' := by
  obtain ⟨x, hx⟩ : ∃ x : Int, x = (c : Int) := ⟨_, rfl⟩
  rw [← hx]
  by_cases h1 : 48 ≤ c
  · by_cases h2 : c ≤ 57
    · rw [show decide (48 ≤ c ∧ c ≤ 57) = true by simp [h1, h2]]
      have e1 : decide (48 ≤ x) = true := by simp; omega
      have e2 : decide (x ≤ 57) = true := by simp; omega
      clear h1 h2 hc hx
      go_enter Tryd.func18, Tryd.ntmps18
      go_wp2
      go_ret
      exact ⟨rfl, Below.refl _ _⟩
    · rw [show decide (48 ≤ c ∧ c ≤ 57) = false by simp [h1, h2]]
      have e1 : decide (48 ≤ x) = true := by simp; omega
      have e2 : decide (x ≤ 57) = false := by simp; omega
      clear h1 h2 hc hx
      go_enter Tryd.func18, Tryd.ntmps18
      go_wp2
      go_ret
      exact ⟨rfl, Below.refl _ _⟩
  · rw [show decide (48 ≤ c ∧ c ≤ 57) = false by simp [h1]]
    have e1 : decide (48 ≤ x) = false := by simp; omega
    clear h1 hc hx
    go_enter Tryd.func18, Tryd.ntmps18
    go_wp2
    go_ret
    exact ⟨rfl, Below.refl _ _⟩

/-- The unit of that name: how many of the least, over how many; 0: none. -/
def unitN (l : List UInt8) : Nat := if l == [112, 116] then 65536 else if l == [112, 99] then 786432 else if l == [105, 110] then 473628672 else if l == [109, 109] then 473628672 else if l == [115, 112] then 1 else 0
def unitD (l : List UInt8) : Nat := if l == [105, 110] then 100 else if l == [109, 109] then 2540 else 1

theorem unitN_le (l : List UInt8) : unitN l ≤ 473628672 := by unfold unitN; repeat' split <;> try omega
theorem unitD_le (l : List UInt8) : unitD l ≤ 2540 ∧ 0 < unitD l := by unfold unitD; repeat' split <;> try omega

theorem unit_any (s : ByteArray) (w : World) : Calls Tryd.prog 19 #[.string s] w fun e w' => e = .returned (.tuple #[.int .u64 (unitN s.toList : Int), .int .u64 (unitD s.toList : Int)]) ∧ Below w.heap.size w w' := by
  obtain ⟨l, hl⟩ : ∃ l, l = s.toList := ⟨_, rfl⟩
  by_cases h1 : (l == [112, 116]) = true
  · have hn : unitN l = 65536 := by simp [unitN, h1]
    have hd : unitD l = 1 := by
      have := eq_of_beq h1
      subst this; rfl
    rw [← hl, hn, hd]; rw [hl] at h1; clear hn hd hl
    go_enter Tryd.func19, Tryd.ntmps19
    go_wp2
    go_ret2
    exact ⟨rfl, Below.refl _ _⟩
  by_cases h2 : (l == [112, 99]) = true
  · have hn : unitN l = 786432 := by simp [unitN, h1, h2]
    have hd : unitD l = 1 := by
      have := eq_of_beq h2
      subst this; rfl
    rw [← hl, hn, hd]; rw [hl] at h1 h2; clear hn hd hl
    simp only [Bool.not_eq_true] at h1
    go_enter Tryd.func19, Tryd.ntmps19
    go_wp2
    go_ret2
    exact ⟨rfl, Below.refl _ _⟩
  by_cases h3 : (l == [105, 110]) = true
  · have hn : unitN l = 473628672 := by simp [unitN, h1, h2, h3]
    have hd : unitD l = 100 := by simp [unitD, h3]
    rw [← hl, hn, hd]; rw [hl] at h1 h2 h3; clear hn hd hl
    simp only [Bool.not_eq_true] at h1 h2
    go_enter Tryd.func19, Tryd.ntmps19
    go_wp2
    go_ret2
    exact ⟨rfl, Below.refl _ _⟩
  by_cases h4 : (l == [109, 109]) = true
  · have hn : unitN l = 473628672 := by simp [unitN, h1, h2, h3, h4]
    have hd : unitD l = 2540 := by simp [unitD, h3, h4]
    rw [← hl, hn, hd]; rw [hl] at h1 h2 h3 h4; clear hn hd hl
    simp only [Bool.not_eq_true] at h1 h2 h3
    go_enter Tryd.func19, Tryd.ntmps19
    go_wp2
    go_ret2
    exact ⟨rfl, Below.refl _ _⟩
  by_cases h5 : (l == [115, 112]) = true
  · have hn : unitN l = 1 := by simp [unitN, h1, h2, h3, h4, h5]
    have hd : unitD l = 1 := by simp [unitD, h3, h4]
    rw [← hl, hn, hd]; rw [hl] at h1 h2 h3 h4 h5; clear hn hd hl
    simp only [Bool.not_eq_true] at h1 h2 h3 h4
    go_enter Tryd.func19, Tryd.ntmps19
    go_wp2
    go_ret2
    exact ⟨rfl, Below.refl _ _⟩
  · have hn : unitN l = 0 := by simp [unitN, h1, h2, h3, h4, h5]
    have hd : unitD l = 1 := by simp [unitD, h3, h4]
    rw [← hl, hn, hd]; rw [hl] at h1 h2 h3 h4 h5; clear hn hd hl
    simp only [Bool.not_eq_true] at h1 h2 h3 h4 h5
    go_enter Tryd.func19, Tryd.ntmps19
    go_wp2
    go_ret2
    exact ⟨rfl, Below.refl _ _⟩

/-- The length that a number of that sign and a unit's name make, if it fits. -/
def parseQ (R : Dec) (l : List UInt8) : Nat := BigN.near R.num (unitN l) (unitD l * R.ten) 1073741824
def parseGood (R : Dec) (l : List UInt8) : Bool := decide (0 < R.count) && decide (R.count ≤ 15) && decide (0 < unitN l) && decide (parseQ R l ≤ 1073741823)
def parseV (neg : Bool) (R : Dec) (l : List UInt8) : Int := if parseGood R l then (if neg then -((parseQ R l : Nat) : Int) else ((parseQ R l : Nat) : Int)) else 0
end Go.Proofs.YtkimbgmjhclghaaDoor
