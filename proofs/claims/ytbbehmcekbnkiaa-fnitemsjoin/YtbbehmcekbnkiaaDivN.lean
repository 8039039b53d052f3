/-
  Plain arithmetic: the digits of a long division to the base 4294967296, by guess and correction. No Go text is spoken of here.
-/
import Derived.Test.YtbbehmcekbnkiaaProg
import Derived.WalkKit
import Derived.WalkSpells
import Derived.WalkLawsBesides
import Derived.Laws.MathBits
import Derived.Below
import Derived.Outline
import Derived.Deep.QuietTactic
import Derived.BigQuiet
import Derived.WalkSmall
import Derived.Test.YtbbehmcekbnkiaaBigB
import Derived.Deep.RegionHeld3
import Derived.Deep.DeepCutAuto
import Derived.Test.YtbbehmcekbnkiaaBigE
import Derived.ProofKit
import Derived.OpenShut
import Derived.ShutString
import Derived.ChangeOld
import Derived.Shelf.Small.Bits
import Derived.Shelf.Strconv.Itoa0
namespace Go.Proofs.Ytbbehmcekbnkiaa.Shr
open Go.RowKit
set_option linter.unusedVariables false
set_option linter.unusedSimpArgs false




theorem sq_lt {x : Nat} (hx : x < 9223372036854775808) : x * x ≤ 85070591730234615865843651857942052864 ∧ x * x * x ≤ 784637716923335095479473677900958302012794430558004314112 := by
  have h1 := Nat.mul_le_mul (Nat.le_of_lt hx) (Nat.le_of_lt hx)
  have h2 := Nat.mul_le_mul h1 (Nat.le_of_lt hx)
  have e1 : (9223372036854775808 : Nat) * 9223372036854775808 = 85070591730234615865843651857942052864 := by decide
  have e2 : (85070591730234615865843651857942052864 : Nat) * 9223372036854775808 = 784637716923335095479473677900958302012794430558004314112 := by decide
  omega

/-- How bad: the least of 10000 and 100 times the third power of s / c, to the nearest. -/
def badN (s c : Nat) : Nat := BigN.part (s * s * s * 200 + c * c * c) (c * c * c * 2) 10000

/-- The program's Badness at every two whole numbers. -/
def badV (s c : Int) : Int := if s ≤ 0 then 0 else if c ≤ 0 then 10000 else ((badN s.toNat c.toNat : Nat) : Int)

end Go.Proofs.Ytbbehmcekbnkiaa.Shr
namespace Go.Proofs.Ytbbehmcekbnkiaa.Shr
open Go.ChangeShapes Go.WideShapes Go.ChangeAt Go.RowKit
set_option linter.unusedVariables false
set_option linter.unusedSimpArgs false

theorem lid_cube {x : Nat} (hx : x < 9223372036854775808) : x * x < lid ∧ x * x * x < lid ∧ x * x * x * 200 < lid ∧ x * x * x * 2 < 16777216 ^ 30 := by
  have := sq_lt hx
  have e : (784637716923335095479473677900958302012794430558004314112 : Nat) * 200 < 16777216 ^ 40 := by decide +kernel
  have e' : (784637716923335095479473677900958302012794430558004314112 : Nat) * 200 < 16777216 ^ 30 := by decide +kernel
  unfold lid
  omega
theorem lid_both {x y : Nat} (hx : x < 9223372036854775808) (hy : y < 9223372036854775808) : x * x * x * 200 + y * y * y < lid := by
  have h1 := sq_lt hx
  have h2 := sq_lt hy
  have e : (784637716923335095479473677900958302012794430558004314112 : Nat) * 201 < 16777216 ^ 40 := by decide +kernel
  unfold lid
  omega

/-- Five times as much missing: as bad as can be. -/
theorem badN_top {s c : Nat} (hc : 0 < c) (h : c ≤ s / 5) : badN s c = 10000 := by
  have h5 : 5 * c ≤ s := by omega
  have h1 : 5 * c * (5 * c) * (5 * c) ≤ s * s * s := Nat.mul_le_mul (Nat.mul_le_mul h5 h5) h5
  have e : 5 * c * (5 * c) * (5 * c) = 125 * (c * c * c) := by
    simp only [Nat.mul_assoc, Nat.mul_left_comm, Nat.mul_comm]
  have h2 := (BigN.part_iff (s * s * s * 200 + c * c * c) (c * c * c * 2) 10000 10000 (Nat.le_refl _)).1 (by omega)
  have h3 := BigN.part_le (s * s * s * 200 + c * c * c) (c * c * c * 2) 10000
  unfold badN
  omega

set_option maxHeartbeats 2000000 in
theorem specBad_main (s c : Nat) (w : World) (hs : s < 9223372036854775808) (hc : c < 9223372036854775808) (hs0 : 0 < s) (hc0 : 0 < c) (hno : ¬ c ≤ s / 5) :
    Calls Try.prog 44 #[.int .i64 (s : Int), .int .i64 (c : Int)] w fun e w' => e = .returned (.int .i64 ((badN s c : Nat) : Int)) ∧ Below w.heap.size w w' := by
  have LS := hideB (lid_cube hs)
  have LC := hideB (lid_cube hc)
  have LB := hideB (lid_both hs hc)
  have P4 := BigN.part_le (s * s * s * 200 + c * c * c) (c * c * c * 2) 10000
  go_enter Try.func44, Try.ntmps44
  go_wp2_with fail
  refine (big_any s _ (by omega)).mono ?_
  rintro e w1 ⟨v1, rfl, hv1, hb1⟩
  have H1 := hideB hb1
  have V1 := hideB hv1
  clear hv1 hb1 
  go_wp2_with fail
  refine (big_any c _ (by omega)).mono ?_
  rintro e w2 ⟨v2, rfl, hv2, hb2⟩
  have H2 := hideB (H1.out.trans (hb2.mono H1.out.size))
  have S2 := hideB (V1.out.kept hb2)
  have V2 := hideB hv2
  clear hv2 hb2 V1
  go_wp2_with fail
  refine (times_any v1 v1 s s _ S2.out S2.out (lid_small (by omega)) (lid_small (by omega))).mono ?_
  rintro e w3 ⟨v3, rfl, hv3, hb3⟩
  have H3 := hideB (H2.out.trans (hb3.mono H2.out.size))
  have S3 := hideB (S2.out.kept hb3)
  have C3 := hideB (V2.out.kept hb3)
  have V3 := hideB hv3
  clear hv3 hb3 S2 V2
  go_wp2_with fail
  refine (times_any v3 v1 (s * s) (s) _ V3.out S3.out LS.out.1 (lid_small (by omega))).mono ?_
  rintro e w4 ⟨v4, rfl, hv4, hb4⟩
  have H4 := hideB (H3.out.trans (hb4.mono H3.out.size))
  have C4 := hideB (C3.out.kept hb4)
  have V4 := hideB hv4
  clear hv4 hb4 C3
  go_wp2_with fail
  refine (times_any v2 v2 c c _ C4.out C4.out (lid_small (by omega)) (lid_small (by omega))).mono ?_
  rintro e w5 ⟨v5, rfl, hv5, hb5⟩
  have H5 := hideB (H4.out.trans (hb5.mono H4.out.size))
  have C5 := hideB (C4.out.kept hb5)
  have S5 := hideB (V4.out.kept hb5)
  have V5 := hideB hv5
  clear hv5 hb5 C4 V4
  go_wp2_with fail
  refine (times_any v5 v2 (c * c) (c) _ V5.out C5.out LC.out.1 (lid_small (by omega))).mono ?_
  rintro e w6 ⟨v6, rfl, hv6, hb6⟩
  have H6 := hideB (H5.out.trans (hb6.mono H5.out.size))
  have S6 := hideB (S5.out.kept hb6)
  have V6 := hideB hv6
  clear hv6 hb6 S5
  go_wp2_with fail
  refine (big_any 200 _ (by decide)).mono ?_
  rintro e w7 ⟨v7, rfl, hv7, hb7⟩
  have H7 := hideB (H6.out.trans (hb7.mono H6.out.size))
  have S7 := hideB (S6.out.kept hb7)
  have C7 := hideB (V6.out.kept hb7)
  have V7 := hideB hv7
  clear hv7 hb7 S6 V6
  go_wp2_with fail
  refine (times_any v4 v7 (s * s * s) (200) _ S7.out V7.out LS.out.2.1 (lid_small (by decide))).mono ?_
  rintro e w8 ⟨v8, rfl, hv8, hb8⟩
  have H8 := hideB (H7.out.trans (hb8.mono H7.out.size))
  have C8 := hideB (C7.out.kept hb8)
  have V8 := hideB hv8
  clear hv8 hb8 C7
  go_wp2_with fail
  refine (sum_any v8 v6 (s * s * s * 200) (c * c * c) _ V8.out C8.out LS.out.2.2.1 LC.out.2.1).mono ?_
  rintro e w9 ⟨v9, rfl, hv9, hb9⟩
  have H9 := hideB (H8.out.trans (hb9.mono H8.out.size))
  have C9 := hideB (C8.out.kept hb9)
  have V9 := hideB hv9
  clear hv9 hb9 C8
  go_wp2_with fail
  refine (big_any 2 _ (by decide)).mono ?_
  rintro e w10 ⟨v10, rfl, hv10, hb10⟩
  have H10 := hideB (H9.out.trans (hb10.mono H9.out.size))
  have C10 := hideB (C9.out.kept hb10)
  have M10 := hideB (V9.out.kept hb10)
  have V10 := hideB hv10
  clear hv10 hb10 C9 V9
  go_wp2_with fail
  refine (times_any v6 v10 (c * c * c) (2) _ C10.out V10.out LC.out.2.1 (lid_small (by decide))).mono ?_
  rintro e w11 ⟨v11, rfl, hv11, hb11⟩
  have H11 := hideB (H10.out.trans (hb11.mono H10.out.size))
  have M11 := hideB (M10.out.kept hb11)
  have V11 := hideB hv11
  clear hv11 hb11 M10
  go_wp2_with fail
  refine (part_any v9 v11 (s * s * s * 200 + c * c * c) (c * c * c * 2) 10000 _ M11.out V11.out LB.out LC.out.2.2.2 (by decide)).mono ?_
  rintro e w12 ⟨rfl, hb12⟩
  go_wp2
  go_ret
  exact ⟨rfl, H11.out.trans (hb12.mono H11.out.size)⟩

theorem specBad_any (s c : Int) (w : World) (hs : s ≤ 9223372036854775807) (hc : c ≤ 9223372036854775807) :
    Calls Try.prog 44 #[.int .i64 s, .int .i64 c] w fun e w' => e = .returned (.int .i64 (badV s c)) ∧ Below w.heap.size w w' := by
  by_cases h1 : s ≤ 0
  · rw [show badV s c = 0 by simp [badV, h1]]
    go_enter Try.func44, Try.ntmps44
    go_wp2
    go_ret
    exact ⟨rfl, Below.refl _ _⟩
  · by_cases h2 : c ≤ 0
    · rw [show badV s c = 10000 by simp [badV, h1, h2]]
      go_enter Try.func44, Try.ntmps44
      go_wp2
      go_ret
      exact ⟨rfl, Below.refl _ _⟩
    · obtain ⟨s, rfl⟩ := Int.eq_ofNat_of_zero_le (show 0 ≤ s by omega)
      obtain ⟨c, rfl⟩ := Int.eq_ofNat_of_zero_le (show 0 ≤ c by omega)
      have e : badV (s : Int) (c : Int) = ((badN s c : Nat) : Int) := by simp only [badV, h1, h2, if_false, Int.toNat_natCast]
      by_cases h3 : c ≤ s / 5
      · rw [e, badN_top (by omega) h3]
        have h4 : (c : Int) ≤ (s : Int) / 5 := by omega
        clear e
        go_enter Try.func44, Try.ntmps44
        go_wp2
        go_ret
        exact ⟨rfl, Below.refl _ _⟩
      · rw [e]
        exact specBad_main s c w (by omega) (by omega) (by omega) (by omega) h3
end Go.Proofs.Ytbbehmcekbnkiaa.Shr
namespace Go.Proofs.Ytbbehmcekbnkiaa.Shr
open Go.Shelf
set_option linter.unusedVariables false
end Go.Proofs.Ytbbehmcekbnkiaa.Shr
namespace Go.Proofs.Ytbbehmcekbnkiaa.DivN
set_option linter.unusedVariables false

/-- The digit. -/
def digit (u d y : Nat) : Nat := (u * 4294967296 + d) / y

end Go.Proofs.Ytbbehmcekbnkiaa.DivN
