/-
  Proved: for every two int64, laws.FnExactBadness returns true and its arguments read behind the call as before them; no condition.
-/
import Derived.Test.YtobghlaoflfflaaBigE
import Derived.Test.YtobghlaoflfflaaBadB
import Derived.ProofKit
import Derived.OpenShut
import Derived.ShutString
import Derived.ChangeOld
namespace Go.Proofs.Ytobghlaoflfflaa
open Go.ChangeShapes Go.WideShapes Go.ChangeAt Go.RowKit
set_option linter.unusedVariables false
set_option linter.unusedSimpArgs false

theorem lid_cube {x : Nat} (hx : x < 9223372036854775808) : x * x < lid ∧ x * x * x < lid ∧ x * x * x * 200 < lid ∧ x * x * x * 2 < 16777216 ^ 30 := by
  have := sq_lt hx
  have e : (784637716923335095479473677900958302012794430558004314112 : Nat) * 200 < 16777216 ^ 40 := by decide +kernel
  have e' : (784637716923335095479473677900958302012794430558004314112 : Nat) * 200 < 16777216 ^ 30 := by decide +kernel
  unfold lid
  omega
theorem lid_both {x y : Nat} (hx : x < 9223372036854775808) (hy : y < 9223372036854775808) : x * x * x * 200 + y * y * y < lid := by
  have h1 := sq_lt hx
  have h2 := sq_lt hy
  have e : (784637716923335095479473677900958302012794430558004314112 : Nat) * 201 < 16777216 ^ 40 := by decide +kernel
  unfold lid
  omega

/-- Five times as much missing: as bad as can be. -/
theorem badN_top {s c : Nat} (hc : 0 < c) (h : c ≤ s / 5) : badN s c = 10000 := by
  have h5 : 5 * c ≤ s := by omega
  have h1 : 5 * c * (5 * c) * (5 * c) ≤ s * s * s := Nat.mul_le_mul (Nat.mul_le_mul h5 h5) h5
  have e : 5 * c * (5 * c) * (5 * c) = 125 * (c * c * c) := by
    simp only [Nat.mul_assoc, Nat.mul_left_comm, Nat.mul_comm]
  have h2 := (BigN.part_iff (s * s * s * 200 + c * c * c) (c * c * c * 2) 10000 10000 (Nat.le_refl _)).1 (by omega)
  have h3 := BigN.part_le (s * s * s * 200 + c * c * c) (c * c * c * 2) 10000
  unfold badN
  omega

set_option maxHeartbeats 2000000 in
theorem specBad_main (s c : Nat) (w : World) (hs : s < 9223372036854775808) (hc : c < 9223372036854775808) (hs0 : 0 < s) (hc0 : 0 < c) (hno : ¬ c ≤ s / 5) :
    Calls Try.prog 23 #[.int .i64 (s : Int), .int .i64 (c : Int)] w fun e w' => e = .returned (.int .i64 ((badN s c : Nat) : Int)) ∧ Below w.heap.size w w' := by
  have LS := hideB (lid_cube hs)
  have LC := hideB (lid_cube hc)
  have LB := hideB (lid_both hs hc)
  have P4 := BigN.part_le (s * s * s * 200 + c * c * c) (c * c * c * 2) 10000
  go_enter Try.func23, Try.ntmps23
  go_wp2_with fail
  refine (big_any s _ (by omega)).mono ?_
  rintro e w1 ⟨v1, rfl, hv1, hb1⟩
  have H1 := hideB hb1
  have V1 := hideB hv1
  clear hv1 hb1 
  go_wp2_with fail
  refine (big_any c _ (by omega)).mono ?_
  rintro e w2 ⟨v2, rfl, hv2, hb2⟩
  have H2 := hideB (H1.out.trans (hb2.mono H1.out.size))
  have S2 := hideB (V1.out.kept hb2)
  have V2 := hideB hv2
  clear hv2 hb2 V1
  go_wp2_with fail
  refine (times_any v1 v1 s s _ S2.out S2.out (lid_small (by omega)) (lid_small (by omega))).mono ?_
  rintro e w3 ⟨v3, rfl, hv3, hb3⟩
  have H3 := hideB (H2.out.trans (hb3.mono H2.out.size))
  have S3 := hideB (S2.out.kept hb3)
  have C3 := hideB (V2.out.kept hb3)
  have V3 := hideB hv3
  clear hv3 hb3 S2 V2
  go_wp2_with fail
  refine (times_any v3 v1 (s * s) (s) _ V3.out S3.out LS.out.1 (lid_small (by omega))).mono ?_
  rintro e w4 ⟨v4, rfl, hv4, hb4⟩
  have H4 := hideB (H3.out.trans (hb4.mono H3.out.size))
  have C4 := hideB (C3.out.kept hb4)
  have V4 := hideB hv4
  clear hv4 hb4 C3
  go_wp2_with fail
  refine (times_any v2 v2 c c _ C4.out C4.out (lid_small (by omega)) (lid_small (by omega))).mono ?_
  rintro e w5 ⟨v5, rfl, hv5, hb5⟩
  have H5 := hideB (H4.out.trans (hb5.mono H4.out.size))
  have C5 := hideB (C4.out.kept hb5)
  have S5 := hideB (V4.out.kept hb5)
  have V5 := hideB hv5
  clear hv5 hb5 C4 V4
  go_wp2_with fail
  refine (times_any v5 v2 (c * c) (c) _ V5.out C5.out LC.out.1 (lid_small (by omega))).mono ?_
  rintro e w6 ⟨v6, rfl, hv6, hb6⟩
  have H6 := hideB (H5.out.trans (hb6.mono H5.out.size))
  have S6 := hideB (S5.out.kept hb6)
  have V6 := hideB hv6
  clear hv6 hb6 S5
  go_wp2_with fail
  refine (big_any 200 _ (by decide)).mono ?_
  rintro e w7 ⟨v7, rfl, hv7, hb7⟩
  have H7 := hideB (H6.out.trans (hb7.mono H6.out.size))
  have S7 := hideB (S6.out.kept hb7)
  have C7 := hideB (V6.out.kept hb7)
  have V7 := hideB hv7
  clear hv7 hb7 S6 V6
  go_wp2_with fail
  refine (times_any v4 v7 (s * s * s) (200) _ S7.out V7.out LS.out.2.1 (lid_small (by decide))).mono ?_
  rintro e w8 ⟨v8, rfl, hv8, hb8⟩
  have H8 := hideB (H7.out.trans (hb8.mono H7.out.size))
  have C8 := hideB (C7.out.kept hb8)
  have V8 := hideB hv8
  clear hv8 hb8 C7
  go_wp2_with fail
  refine (sum_any v8 v6 (s * s * s * 200) (c * c * c) _ V8.out C8.out LS.out.2.2.1 LC.out.2.1).mono ?_
  rintro e w9 ⟨v9, rfl, hv9, hb9⟩
  have H9 := hideB (H8.out.trans (hb9.mono H8.out.size))
  have C9 := hideB (C8.out.kept hb9)
  have V9 := hideB hv9
  clear hv9 hb9 C8
  go_wp2_with fail
  refine (big_any 2 _ (by decide)).mono ?_
  rintro e w10 ⟨v10, rfl, hv10, hb10⟩
  have H10 := hideB (H9.out.trans (hb10.mono H9.out.size))
  have C10 := hideB (C9.out.kept hb10)
  have M10 := hideB (V9.out.kept hb10)
  have V10 := hideB hv10
  clear hv10 hb10 C9 V9
  go_wp2_with fail
  refine (times_any v6 v10 (c * c * c) (2) _ C10.out V10.out LC.out.2.1 (lid_small (by decide))).mono ?_
  rintro e w11 ⟨v11, rfl, hv11, hb11⟩
  have H11 := hideB (H10.out.trans (hb11.mono H10.out.size))
  have M11 := hideB (M10.out.kept hb11)
  have V11 := hideB hv11
  clear hv11 hb11 M10
  go_wp2_with fail
  refine (part_any v9 v11 (s * s * s * 200 + c * c * c) (c * c * c * 2) 10000 _ M11.out V11.out LB.out LC.out.2.2.2 (by decide)).mono ?_
  rintro e w12 ⟨rfl, hb12⟩
  go_wp2
  go_ret
  exact ⟨rfl, H11.out.trans (hb12.mono H11.out.size)⟩

theorem specBad_any (s c : Int) (w : World) (hs : s ≤ 9223372036854775807) (hc : c ≤ 9223372036854775807) :
    Calls Try.prog 23 #[.int .i64 s, .int .i64 c] w fun e w' => e = .returned (.int .i64 (badV s c)) ∧ Below w.heap.size w w' := by
  by_cases h1 : s ≤ 0
  · rw [show badV s c = 0 by simp [badV, h1]]
    go_enter Try.func23, Try.ntmps23
    go_wp2
    go_ret
    exact ⟨rfl, Below.refl _ _⟩
  · by_cases h2 : c ≤ 0
    · rw [show badV s c = 10000 by simp [badV, h1, h2]]
      go_enter Try.func23, Try.ntmps23
      go_wp2
      go_ret
      exact ⟨rfl, Below.refl _ _⟩
    · obtain ⟨s, rfl⟩ := Int.eq_ofNat_of_zero_le (show 0 ≤ s by omega)
      obtain ⟨c, rfl⟩ := Int.eq_ofNat_of_zero_le (show 0 ≤ c by omega)
      have e : badV (s : Int) (c : Int) = ((badN s c : Nat) : Int) := by simp only [badV, h1, h2, if_false, Int.toNat_natCast]
      by_cases h3 : c ≤ s / 5
      · rw [e, badN_top (by omega) h3]
        have h4 : (c : Int) ≤ (s : Int) / 5 := by omega
        clear e
        go_enter Try.func23, Try.ntmps23
        go_wp2
        go_ret
        exact ⟨rfl, Below.refl _ _⟩
      · rw [e]
        exact specBad_main s c w (by omega) (by omega) (by omega) (by omega) h3

set_option maxHeartbeats 1000000 in
theorem lawBad_any (s c : Int) (w : World) (hs : s ≤ 9223372036854775807) (hc : c ≤ 9223372036854775807) :
    Calls Try.prog 8 #[.int .i64 s, .int .i64 c] w fun e w' => e = .returned (.bool true) ∧ Below w.heap.size w w' := by
  have C1 := hideB (specBad_any s c)
  have C2 := hideB (implBad_any s c)
  generalize badV s c = r at C1 C2
  go_enter Try.func8, Try.ntmps8
  go_wp2_with fail
  refine (C1.out _ hs hc).mono ?_
  rintro e w1 ⟨rfl, hb1⟩
  have H1 := hideB hb1
  clear hb1
  go_wp2_with fail
  refine (C2.out _ hs hc).mono ?_
  rintro e w2 ⟨rfl, hb2⟩
  have H2 := hideB (H1.out.trans (hb2.mono H1.out.size))
  clear hb2
  go_wp2
  go_ret
  exact ⟨rfl, H2.out⟩

theorem ownB : ownKnob Try.prog.godebug = none := by kernel_rfl
theorem laidOutB' : laidOutB Try.prog = true := by kernel_rfl

set_option maxRecDepth 100000 in
theorem bad_lifted (os : Os) (started : os.Started) (H : Type) (enc : TypeId × Value → H) :
    ReturnsInHanded {} Try.checked os 8 .any (Rows.fnExactBadnessSpec.pre6 enc Try.prog Try.f8 Rows.fnExactBadnessRow.domain false) (Rows.fnExactBadnessSpec.post enc Try.prog Try.f8 false true false false) := by
  refine returnsInHanded_of_change (C := Try.checked) ownB started (by kernel_rfl) Try.func8
    (ChangeSpec.witness6 (enc := enc) (C := Try.checked) false ⟨#[], #[.int .i64 0, .int .i64 0], []⟩ 8 (by kernel_rfl) (by kernel_rfl) (by kernel_rfl) (by kernel_rfl)) ?_
  intro W base args ds gs before hval0 hW hcnd _
  have hval : ∀ (j : Nat) t v, Try.f8.params[j]? = some t → args[j]? = some v → Value.okWide Try.prog W .any base t v := hval0
  have hW' := hW
  obtain ⟨p, q, hA0, hV, rfl, hfz, hnd⟩ := hW
  have hA : DataW.TrodAll enc Try.prog W 0 (fun _ => true) true Try.f8.params.toList args.toList ds p := hA0
  rw [Try.params8] at hA hval
  obtain ⟨v0, v1, d0, d1, p0, p1, rfl, rfl, rfl, h0, h1⟩ := trodAll_two hA
  obtain ⟨rfl, rfl⟩ := trodVars_none hV
  obtain ⟨a0, rfl, rfl, rfl, w0⟩ := open_int Try.underlying2 (hval 0 2 v0 rfl rfl) h0
  obtain ⟨a1, rfl, rfl, rfl, w1⟩ := open_int Try.underlying2 (hval 1 2 v1 rfl rfl) h1
  clear hA0 hval0
  simp only [List.append_nil] at hW'
  have b0 := bounds_i64 w0
  have b1 := bounds_i64 w1
  refine (lawBad_any a0 a1 W b0.2 b1.2).mono fun e W' ⟨he, bel⟩ => ?_
  subst he
  exact ⟨_, rfl, _, _, _, [], _, [], hW', trodAll_mk1 (shut_bool Try.underlying4 _), (trodAll_cons_mk (shut_int Try.underlying2 w0) (trodAll_cons_mk (shut_int Try.underlying2 w1) trodAll_mk0)), rfl, bel.frame _, fun h => by cases h⟩

theorem badness_holds : Rows.FnExactBadnessSaid :=
  OpenClaim.holds_of_wide 8 Try.f8 rfl rfl rfl rfl rfl rfl rfl ⟨rfl, rfl, rfl, rfl, rfl⟩ rfl rfl rfl rfl rfl (by kernel_rfl) Try.func8 (by kernel_rfl)
    (of_decide_eq_true (by kernel_rfl)) (by unfold Func.isWrapper; first | (rw [if_pos (by decide +kernel)]; kernel_rfl) | (rw [if_neg (by decide +kernel)]; exact ⟨rfl, rfl⟩))
    (fun os started H enc _ => bad_lifted os started H enc)
#print axioms badness_holds
end Go.Proofs.Ytobghlaoflfflaa
