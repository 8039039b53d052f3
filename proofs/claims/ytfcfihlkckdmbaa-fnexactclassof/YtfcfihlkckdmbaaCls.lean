/-
  The class of a byte: the specification's and the program's.
-/
import Derived.Test.YtfcfihlkckdmbaaBas
namespace Go.Proofs.Ytfcfihlkckdmbaa
open Go.RowKit
set_option linter.unusedVariables false
set_option linter.unusedSimpArgs false

def byteAt (s : ByteArray) (i : Nat) : Nat := (s.data.toList.getD i 0).toNat
theorem byteAt_get (s : ByteArray) (i : Nat) (h : i < s.size) : ((s[i]'h).toNat : Int) = (byteAt s i : Int) := by
  unfold byteAt
  congr 2
  have h2 : i < s.data.size := h
  rw [List.getD_eq_getElem?_getD, List.getElem?_eq_getElem (by simpa using h2)]
  simp only [Option.getD_some, Array.getElem_toList]
  rfl

def inB (s : ByteArray) (b : Int) : Bool := s.data.toList.any fun c => decide ((c.toNat : Int) = b)

theorem inB_yes {s : ByteArray} {b : Int} {i : Nat} (h : i < s.size) (e : (byteAt s i : Int) = b) : inB s b = true := by
  unfold inB
  have h2 : i < s.data.toList.length := by simpa using h
  rw [List.any_eq_true]
  refine ⟨s.data.toList[i], List.getElem_mem h2, ?_⟩
  unfold byteAt at e
  rw [List.getD_eq_getElem?_getD, List.getElem?_eq_getElem h2] at e
  simpa using e
theorem inB_no {s : ByteArray} {b : Int} (h : ∀ i, i < s.size → (byteAt s i : Int) ≠ b) : inB s b = false := by
  unfold inB
  rw [List.any_eq_false]
  intro c hc
  obtain ⟨i, hi, rfl⟩ := List.getElem_of_mem hc
  have := h i (by simpa using hi)
  unfold byteAt at this
  rw [List.getD_eq_getElem?_getD, List.getElem?_eq_getElem hi] at this
  simpa using this

set_option maxHeartbeats 1000000 in
theorem l6In_any (s : ByteArray) (b : Int) (w : World) (hs : s.size ≤ 1000) : Calls Try.prog 23 #[.string s, .int .i64 b] w fun e w' => e = .returned (.bool (inB s b)) ∧ w' = w := by
  go_enter Try.func23, Try.ntmps23
  go_wp2
  go_loop [5] (fun i => ∃ k : Nat, k ≤ s.size ∧ i = .int .i64 k ∧ Hid (∀ j, j < k → (byteAt s j : Int) ≠ b)) (fun i => s.size - (intOf i).toNat)
  case atStart => exact ⟨0, Nat.zero_le _, rfl, hideP (fun j hj => by omega)⟩
  case round =>
    obtain ⟨k, hk, rfl, HJ⟩ := hrel
    by_cases hlt : k < s.size
    · have hki : (k : Int) < (s.size : Int) := by omega
      obtain ⟨c, hc⟩ : ∃ c : Nat, c = byteAt s k := ⟨_, rfl⟩
      have hb : ((s[k]'hlt).toNat : Int) = (c : Int) := by rw [hc, byteAt_get s k hlt]
      have hc1 : (c : Int) ≤ 255 := by rw [← hb]; have := (s[k]'hlt).toNat_lt; omega
      have HC := hideP hc
      clear hc
      by_cases he : (c : Int) = b
      · have HE := hideP he
        have e1 : ((c : Int) == b) = true := by simp [he]
        clear he
        go_wp2
        go_ret
        exact ⟨retB (inB_yes hlt (by rw [← HC.out]; exact HE.out)).symm, rfl⟩
      · have HE := hideP he
        have e1 : ((c : Int) == b) = false := by simp [he]
        clear he
        go_wp2
        go_round
        case rel =>
          refine ⟨k + 1, by omega, by go_num, hideP (fun j hj => ?_)⟩
          by_cases hjk : j = k
          · subst hjk; rw [← HC.out]; exact HE.out
          · exact HJ.out j (by omega)
        case measure => simp [intOf]; omega
    · have hki : ¬ ((k : Int) < (s.size : Int)) := by omega
      obtain rfl : k = s.size := by omega
      go_wp2
      go_ret
      exact ⟨retB (inB_no HJ.out).symm, rfl⟩

def clsB (x : Int) : Int := if x = 43 ∨ x = 45 ∨ x = 42 then 2 else if x = 60 ∨ x = 61 ∨ x = 62 ∨ x = 58 then 3 else if x = 40 ∨ x = 91 then 4 else if x = 41 ∨ x = 93 ∨ x = 33 ∨ x = 63 then 5 else if x = 44 ∨ x = 59 then 6 else 0

set_option maxHeartbeats 1000000 in
theorem specCls_any (x : Int) (w : World) : Calls Try.prog 11 #[.int .i64 x] w fun e w' => e = .returned (.int .i64 (clsB x)) ∧ w' = w := by
  have q1 : inB ⟨#[43, 45, 42]⟩ x = decide (x = 43 ∨ x = 45 ∨ x = 42) := by simp [inB, eq_comm, or_assoc]
  have q2 : inB ⟨#[60, 61, 62, 58]⟩ x = decide (x = 60 ∨ x = 61 ∨ x = 62 ∨ x = 58) := by simp [inB, eq_comm, or_assoc]
  have q3 : inB ⟨#[40, 91]⟩ x = decide (x = 40 ∨ x = 91) := by simp [inB, eq_comm]
  have q4 : inB ⟨#[41, 93, 33, 63]⟩ x = decide (x = 41 ∨ x = 93 ∨ x = 33 ∨ x = 63) := by simp [inB, eq_comm, or_assoc]
  have q5 : inB ⟨#[44, 59]⟩ x = decide (x = 44 ∨ x = 59) := by simp [inB, eq_comm]
  have H : clsB x = if inB ⟨#[43, 45, 42]⟩ x then 2 else if inB ⟨#[60, 61, 62, 58]⟩ x then 3 else if inB ⟨#[40, 91]⟩ x then 4 else if inB ⟨#[41, 93, 33, 63]⟩ x then 5 else if inB ⟨#[44, 59]⟩ x then 6 else 0 := by
    rw [q1, q2, q3, q4, q5]; simp [clsB]
  rw [H]
  clear q1 q2 q3 q4 q5 H
  cases h1 : inB ⟨#[43, 45, 42]⟩ x <;> cases h2 : inB ⟨#[60, 61, 62, 58]⟩ x <;> cases h3 : inB ⟨#[40, 91]⟩ x <;> cases h4 : inB ⟨#[41, 93, 33, 63]⟩ x <;> cases h5 : inB ⟨#[44, 59]⟩ x
  all_goals
    go_enter Try.func11, Try.ntmps11
    go_wp2_with (go_at_call 23; refine (l6In_any _ _ _ (by decide)).mono ?_; rintro e w' ⟨rfl, rfl⟩)
    go_ret
    exact ⟨rfl, rfl⟩

set_option maxHeartbeats 1000000 in
theorem implCls_any (x : Int) (w : World) : Calls Try.prog 12 #[.int .i64 x] w fun e w' => e = .returned (.int .i64 (clsB x)) ∧ w' = w := by
  by_cases hx : x ∈ [43, 45, 42, 60, 61, 62, 58, 40, 91, 41, 93, 33, 63, 44, 59]
  · simp only [List.mem_cons, List.not_mem_nil, or_false] at hx
    rcases hx with rfl | rfl | rfl | rfl | rfl | rfl | rfl | rfl | rfl | rfl | rfl | rfl | rfl | rfl | rfl
    all_goals
      go_enter Try.func12, Try.ntmps12
      go_wp2
      go_ret
      exact ⟨rfl, rfl⟩
  · simp only [List.mem_cons, List.not_mem_nil, or_false, not_or] at hx
    obtain ⟨a1, a2, a3, a4, a5, a6, a7, a8, a9, b1, b2, b3, b4, b5, b6⟩ := hx
    have hz : clsB x = 0 := by simp [clsB, *]
    rw [hz]
    clear hz
    go_enter Try.func12, Try.ntmps12
    go_wp2
    go_ret
    exact ⟨rfl, rfl⟩
end Go.Proofs.Ytfcfihlkckdmbaa
