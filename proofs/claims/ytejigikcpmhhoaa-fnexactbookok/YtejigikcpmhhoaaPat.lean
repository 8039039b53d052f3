/-
  Patterns: what a pattern that can be is, and the walks of the functions that ask it.
-/
import Derived.Test.YtejigikcpmhhoaaInts
import Derived.Lib.OthersKept
namespace Go.Proofs.Ytejigikcpmhhoaa
open Go.RowKit
set_option linter.unusedVariables false
set_option linter.unusedSimpArgs false

def byteAt (s : ByteArray) (i : Nat) : Nat := (s.data.toList.getD i 0).toNat

theorem byteAt_le (s : ByteArray) (i : Nat) : byteAt s i ≤ 255 := by
  unfold byteAt
  have := (s.data.toList.getD i 0).toNat_lt
  omega

theorem byteAt_get (s : ByteArray) (i : Nat) (h : i < s.size) : (s[i]'h).toNat = byteAt s i := by
  unfold byteAt
  have h2 : i < s.data.toList.length := by simpa using h
  rw [List.getD, List.getElem?_eq_getElem h2]
  rfl

abbrev Low (c : Nat) : Prop := 97 ≤ c ∧ c ≤ 122

/-- Letters of a pattern: small ones, a dot at the edges alone, and not dots alone. -/
abbrev LetP (s : ByteArray) : Prop := (∀ i, i < s.size → Low (byteAt s i) ∨ (byteAt s i = 46 ∧ (i = 0 ∨ i + 1 = s.size))) ∧ ∃ i, i < s.size ∧ Low (byteAt s i)
abbrev MarksP (zs : List Int) : Prop := ∀ j, j < zs.length → 0 ≤ zs.getD j 0 ∧ zs.getD j 0 ≤ 9
abbrev PatP (s : ByteArray) (zs : List Int) : Prop := s.size ≤ 20 ∧ LetP s ∧ zs.length = s.size + 1 ∧ MarksP zs
def patB (s : ByteArray) (zs : List Int) : Bool := decide (PatP s zs)

theorem low_any (c : Nat) (w : World) (hc : c ≤ 255) : Calls Try.prog 36 #[.int .u8 (c : Int)] w fun e w' => e = .returned (.bool (decide (Low c))) ∧ w' = w := by
  obtain ⟨x, hx⟩ : ∃ x : Int, x = (c : Int) := ⟨_, rfl⟩
  rw [← hx]
  by_cases h1 : 97 ≤ c
  · by_cases h2 : c ≤ 122
    · rw [show decide (Low c) = true by simp [Low, h1, h2]]
      have e1 : decide (97 ≤ x) = true := by simp; omega
      have e2 : decide (x ≤ 122) = true := by simp; omega
      clear h1 h2 hc hx
      go_enter Try.func36, Try.ntmps36
      go_wp2
      go_ret
      exact ⟨rfl, rfl⟩
    · rw [show decide (Low c) = false by simp [Low, h1, h2]]
      have e1 : decide (97 ≤ x) = true := by simp; omega
      have e2 : decide (x ≤ 122) = false := by simp; omega
      clear h1 h2 hc hx
      go_enter Try.func36, Try.ntmps36
      go_wp2
      go_ret
      exact ⟨rfl, rfl⟩
  · rw [show decide (Low c) = false by simp [Low, h1]]
    have e1 : decide (97 ≤ x) = false := by simp; omega
    clear h1 hc hx
    go_enter Try.func36, Try.ntmps36
    go_wp2
    go_ret
    exact ⟨rfl, rfl⟩
end Go.Proofs.Ytejigikcpmhhoaa
