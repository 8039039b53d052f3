/-
  Rows that ascend: the comparisons, and the program's own ascending at both its types.
-/
import Derived.Test.YtejigikcpmhhoaaLet
import Derived.Test.YtejigikcpmhhoaaPts
import Derived.Laws.Cover1
namespace Go.Proofs.Ytejigikcpmhhoaa
open Go.RowKit
set_option linter.unusedVariables false
set_option linter.unusedSimpArgs false

/-- The comparison of two texts: is the first less? -/
def ltS (s t : ByteArray) : Bool := Op.bytesLess s.toList t.toList
def cmpC (s t : ByteArray) : Int := if ltS s t then -1 else if s.toList == t.toList then 0 else 1
theorem cmpC_ge (s t : ByteArray) : decide (0 ≤ cmpC s t) = !ltS s t := by
  unfold cmpC
  cases ltS s t
  · simp only [Bool.false_eq_true, if_false]
    split <;> simp
  · simp

set_option maxHeartbeats 1000000 in
theorem cmpS_any (s t : ByteArray) (w : World) : Calls Try.prog 64 #[.string s, .string t] w fun e w' => e = .returned (.int .i64 (cmpC s t)) ∧ w' = w := by
  cases h1 : Op.bytesLess s.toList t.toList
  · cases h2 : s.toList == t.toList
    · have h3 : (!s.toList == t.toList) = true := by rw [h2]; rfl
      have hc : cmpC s t = 1 := by simp only [cmpC, ltS, h1, h2]; rfl
      rw [hc]
      clear hc
      go_enter Try.func64, Try.ntmps64
      go_wp2
      go_ret
      exact ⟨rfl, rfl⟩
    · have h3 : (!s.toList == t.toList) = false := by rw [h2]; rfl
      have hc : cmpC s t = 0 := by simp only [cmpC, ltS, h1, h2]; rfl
      rw [hc]
      clear hc
      go_enter Try.func64, Try.ntmps64
      go_wp2
      go_ret
      exact ⟨rfl, rfl⟩
  · have hc : cmpC s t = -1 := by simp only [cmpC, ltS, h1]; rfl
    rw [hc]
    clear hc
    go_enter Try.func64, Try.ntmps64
    go_wp2
    go_ret
    exact ⟨rfl, rfl⟩

def cmpN (a b : Int) : Int := if a < b then -1 else if a = b then 0 else 1
theorem cmpN_ge (a b : Int) : decide (0 ≤ cmpN a b) = !decide (a < b) := by
  unfold cmpN
  by_cases h : a < b
  · simp [h]
  · simp only [h, if_false]
    split <;> simp
theorem cmpI_any (a b : Int) (w : World) : Calls Try.prog 72 #[.int .i64 a, .int .i64 b] w fun e w' => e = .returned (.int .i64 (cmpN a b)) ∧ w' = w := by
  by_cases h1 : a < b
  · rw [show cmpN a b = -1 by simp [cmpN, h1]]
    go_enter Try.func72, Try.ntmps72
    go_wp2
    go_ret
    exact ⟨rfl, rfl⟩
  · by_cases h2 : a = b
    · subst h2
      rw [show cmpN a a = 0 by simp [cmpN]]
      go_enter Try.func72, Try.ntmps72
      go_wp2
      go_ret
      exact ⟨rfl, rfl⟩
    · rw [show cmpN a b = 1 by simp [cmpN, h1, h2]]
      have h3 : b < a := by omega
      go_enter Try.func72, Try.ntmps72
      go_wp2
      go_ret
      exact ⟨rfl, rfl⟩

set_option maxHeartbeats 1000000 in
theorem cmpW_any (s t : ByteArray) (a1 a2 : Option Addr) (n1 n2 c1 c2 : Nat) (w : World) : Calls Try.prog 50 #[patV s (.slice a1 n1 c1), patV t (.slice a2 n2 c2)] w fun e w' => e = .returned (.int .i64 (cmpC s t)) ∧ Below w.heap.size w w' := by
  go_enter Try.func50, Try.ntmps50
  go_wp2_with fail
  refine (cmpS_any s t _).mono ?_
  rintro e w1 ⟨rfl, hw⟩
  have hw2 := hw.symm
  subst hw2
  go_wp2
  go_ret
  exact ⟨rfl, below2 _ _ _⟩

abbrev AscI (zs : List Int) : Prop := ∀ j, j < zs.length - 1 → zs.getD j 0 < zs.getD (j + 1) 0
abbrev AscS (xs : List Pt) : Prop := ∀ j, j < xs.length - 1 → ltS (xs.getD j Pt.none).s (xs.getD (j + 1) Pt.none).s = true
theorem ascI_no {zs : List Int} {j : Nat} (hj : j < zs.length - 1) (h : ¬ zs.getD j 0 < zs.getD (j + 1) 0) : decide (AscI zs) = false := decide_eq_false fun ha => h (ha j hj)
theorem ascS_no {xs : List Pt} {j : Nat} (hj : j < xs.length - 1) (h : ltS (xs.getD j Pt.none).s (xs.getD (j + 1) Pt.none).s = false) : decide (AscS xs) = false := decide_eq_false fun ha => by rw [ha j hj] at h; cases h

end Go.Proofs.Ytejigikcpmhhoaa
