/-
  Proved: for every three int64, laws.FnExactRatio returns true and its arguments read behind the call as before them; no condition.
-/
import Derived.Test.YtobghlaoflfflaaDiv
import Derived.Test.YtobghlaoflfflaaRatioB
import Derived.Test.YtobghlaoflfflaaBigE
import Derived.ProofKit
import Derived.OpenShut
import Derived.ShutString
import Derived.ChangeOld
namespace Go.Proofs.Ytobghlaoflfflaa
open Go.ChangeShapes Go.WideShapes Go.ChangeAt Go.RowKit
set_option linter.unusedVariables false
set_option linter.unusedSimpArgs false

theorem div_all (hi lo y : Nat) (hhy : hi < y) (hl : lo < 18446744073709551616) (hy' : y < 18446744073709551616) : DivAt hi lo y := by
  by_cases h : hi = 0
  · subst h
    exact div_zero lo y hl hhy hy'
  · exact div_high hi lo y (by omega) hhy hl hy'

theorem implRatio_all (x num den : Int) (w : World) (hx1 : -9223372036854775808 ≤ x) (hx2 : x ≤ 9223372036854775807) (hn1 : -9223372036854775808 ≤ num) (hn2 : num ≤ 9223372036854775807) (hd1 : -9223372036854775808 ≤ den) (hd2 : den ≤ 9223372036854775807) (hd0 : den ≠ 0) :
    Calls Try.prog 12 #[.int .i64 x, .int .i64 num, .int .i64 den] w fun e w' => e = .returned (.tuple #[.int .i64 (ratioV x num den), .bool (ratioB x num den)]) ∧ Below w.heap.size w w' :=
  implRatio_any x num den w hx1 hx2 hn1 hn2 hd1 hd2 hd0 (fun h => div_all _ _ _ h (Nat.mod_lt _ (by decide)) (by omega))

theorem specAbs_any (x : Int) (w : World) (h1 : -9223372036854775808 ≤ x) (h2 : x ≤ 9223372036854775807) :
    Calls Try.prog 34 #[.int .i64 x] w fun e w' => e = .returned (.int .u64 ((x.natAbs : Nat) : Int)) ∧ w' = w := by
  by_cases h : x < 0
  · have e : ((x.natAbs : Nat) : Int) = -(x + 1) + 1 := by omega
    rw [e]
    clear e
    go_enter Try.func34, Try.ntmps34
    go_wp2
    go_ret
    exact ⟨rfl, rfl⟩
  · have e : ((x.natAbs : Nat) : Int) = x := by omega
    rw [e]
    clear e
    go_enter Try.func34, Try.ntmps34
    go_wp2
    go_ret
    exact ⟨rfl, rfl⟩

theorem signed_any (n : Nat) (below : Bool) (w : World) (hn : n ≤ 1073741824) :
    Calls Try.prog 32 #[.int .u64 (n : Int), .bool below] w fun e w' => e = .returned (.tuple #[.int .i64 (if n ≤ 1073741823 then (if below then -(n : Int) else (n : Int)) else 0), .bool (decide (n ≤ 1073741823))]) ∧ w' = w := by
  obtain ⟨ni, hni⟩ : ∃ ni : Int, ni = (n : Int) := ⟨_, rfl⟩
  rw [← hni]
  have n0 : 0 ≤ ni := by omega
  have n1 : ni ≤ 1073741824 := by omega
  by_cases h : n ≤ 1073741823
  · rw [if_pos h, show decide (n ≤ 1073741823) = true by simp [h]]
    have n2 : ni ≤ 1073741823 := by omega
    clear h hni hn
    cases below
    · go_enter Try.func32, Try.ntmps32
      go_wp2
      go_ret2
      exact ⟨rfl, rfl⟩
    · go_enter Try.func32, Try.ntmps32
      go_wp2
      go_ret2
      exact ⟨rfl, rfl⟩
  · rw [if_neg h, show decide (n ≤ 1073741823) = false by simp [h]]
    have n2 : 1073741823 < ni := by omega
    clear h hni hn
    go_enter Try.func32, Try.ntmps32
    go_wp2
    go_ret2
    exact ⟨rfl, rfl⟩

theorem specRatio_zero (x num : Int) (w : World) : Calls Try.prog 16 #[.int .i64 x, .int .i64 num, .int .i64 0] w fun e w' => e = .returned (.tuple #[.int .i64 0, .bool false]) ∧ Below w.heap.size w w' := by
  go_enter Try.func16, Try.ntmps16
  go_wp2
  go_ret2
  exact ⟨rfl, Below.refl _ _⟩

set_option maxHeartbeats 1000000 in
theorem specRatio_any (x num den : Int) (w : World) (hx1 : -9223372036854775808 ≤ x) (hx2 : x ≤ 9223372036854775807) (hn1 : -9223372036854775808 ≤ num) (hn2 : num ≤ 9223372036854775807) (hd1 : -9223372036854775808 ≤ den) (hd2 : den ≤ 9223372036854775807) (hd0 : den ≠ 0) :
    Calls Try.prog 16 #[.int .i64 x, .int .i64 num, .int .i64 den] w fun e w' => e = .returned (.tuple #[.int .i64 (ratioV x num den), .bool (ratioB x num den)]) ∧ Below w.heap.size w w' := by
  have e0 : (den == 0) = false := by simp [hd0]
  have A1 := hideR (specAbs_any x)
  have A2 := hideR (specAbs_any num)
  have A3 := hideR (specAbs_any den)
  have NR := hideR (fun w => near_any x.natAbs num.natAbs den.natAbs 1073741824 w (by omega) (by omega) (by omega) (by decide))
  have hle : ratioN x num den ≤ 1073741824 := BigN.part_le _ _ _
  have E : Hid (BigN.near x.natAbs num.natAbs den.natAbs 1073741824 = ratioN x num den) := rfl
  rw [E.out] at NR
  have hV : ratioV x num den = if ratioN x num den ≤ 1073741823 then (if negB x num den then -((ratioN x num den : Nat) : Int) else ((ratioN x num den : Nat) : Int)) else 0 := rfl
  have hB : ratioB x num den = decide (ratioN x num den ≤ 1073741823) := rfl
  rw [hV, hB]
  clear hV hB E
  have SG := hideR (fun b w => signed_any (ratioN x num den) b w hle)
  generalize ratioN x num den = n at *
  generalize x.natAbs = a at *
  generalize num.natAbs = b at *
  generalize den.natAbs = c at *
  clear hle
  have S2 := hideR (SG.out (negB x num den))
  clear SG
  have HN : Hid (negB x num den = !((!(decide (x < 0) == decide (num < 0))) == decide (den < 0))) := rfl
  rw [HN.out] at S2 ⊢
  clear HN
  go_enter Try.func16, Try.ntmps16
  go_wp2_with fail
  refine (A1.out _ hx1 hx2).mono ?_
  rintro e w1 ⟨rfl, rfl⟩
  go_wp2_with fail
  refine (A2.out _ hn1 hn2).mono ?_
  rintro e w1 ⟨rfl, rfl⟩
  go_wp2_with fail
  refine (A3.out _ hd1 hd2).mono ?_
  rintro e w1 ⟨rfl, rfl⟩
  go_wp2_with fail
  refine (NR.out _).mono ?_
  rintro e w2 ⟨rfl, hb2⟩
  have B2 := hideR hb2
  clear hb2
  go_wp2_with fail
  refine (S2.out _).mono ?_
  rintro e w3 ⟨rfl, rfl⟩
  go_wp2
  all_goals go_ret2
  all_goals exact ⟨rfl, B2.out⟩

set_option maxHeartbeats 1000000 in
theorem lawRatio_any (x num den : Int) (w : World) (hx1 : -9223372036854775808 ≤ x) (hx2 : x ≤ 9223372036854775807) (hn1 : -9223372036854775808 ≤ num) (hn2 : num ≤ 9223372036854775807) (hd1 : -9223372036854775808 ≤ den) (hd2 : den ≤ 9223372036854775807) :
    Calls Try.prog 5 #[.int .i64 x, .int .i64 num, .int .i64 den] w fun e w' => e = .returned (.bool true) ∧ Below w.heap.size w w' := by
  obtain ⟨v, b, C1, C2⟩ : ∃ v b, Hid (∀ w, Calls Try.prog 16 #[.int .i64 x, .int .i64 num, .int .i64 den] w fun e w' => e = .returned (.tuple #[.int .i64 v, .bool b]) ∧ Below w.heap.size w w') ∧
      Hid (∀ w, Calls Try.prog 12 #[.int .i64 x, .int .i64 num, .int .i64 den] w fun e w' => e = .returned (.tuple #[.int .i64 v, .bool b]) ∧ Below w.heap.size w w') := by
    by_cases h : den = 0
    · subst h
      exact ⟨0, false, fun w => specRatio_zero x num w, fun w => implRatio_zero x num w⟩
    · exact ⟨_, _, fun w => specRatio_any x num den w hx1 hx2 hn1 hn2 hd1 hd2 h, fun w => implRatio_all x num den w hx1 hx2 hn1 hn2 hd1 hd2 h⟩
  cases b
  all_goals
    go_enter Try.func5, Try.ntmps5
    go_wp2_with fail
    refine (C1.out _).mono ?_
    rintro e w1 ⟨rfl, hb1⟩
    have H1 := hideR hb1
    clear hb1
    go_wp2_with fail
    refine (C2.out _).mono ?_
    rintro e w2 ⟨rfl, hb2⟩
    have H2 := hideR (H1.out.trans (hb2.mono H1.out.size))
    clear hb2
    go_wp2
    go_ret
    exact ⟨rfl, H2.out⟩

theorem ownQ : ownKnob Try.prog.godebug = none := by kernel_rfl

set_option maxRecDepth 100000 in
theorem ratio_lifted (os : Os) (started : os.Started) (H : Type) (enc : TypeId × Value → H) :
    ReturnsInHanded {} Try.checked os 5 .any (Rows.fnExactRatioSpec.pre6 enc Try.prog Try.f5 Rows.fnExactRatioRow.domain false) (Rows.fnExactRatioSpec.post enc Try.prog Try.f5 false true false false) := by
  refine returnsInHanded_of_change (C := Try.checked) ownQ started (by kernel_rfl) Try.func5
    (ChangeSpec.witness6 (enc := enc) (C := Try.checked) false ⟨#[], #[.int .i64 0, .int .i64 0, .int .i64 0], []⟩ 8 (by kernel_rfl) (by kernel_rfl) (by kernel_rfl) (by kernel_rfl)) ?_
  intro W base args ds gs before hval0 hW hcnd _
  have hval : ∀ (j : Nat) t v, Try.f5.params[j]? = some t → args[j]? = some v → Value.okWide Try.prog W .any base t v := hval0
  have hW' := hW
  obtain ⟨p, q, hA0, hV, rfl, hfz, hnd⟩ := hW
  have hA : DataW.TrodAll enc Try.prog W 0 (fun _ => true) true Try.f5.params.toList args.toList ds p := hA0
  rw [Try.params5] at hA hval
  obtain ⟨v0, v1, v2, d0, d1, d2, p0, p1, p2, rfl, rfl, rfl, h0, h1, h2⟩ := trodAll_three hA
  obtain ⟨rfl, rfl⟩ := trodVars_none hV
  obtain ⟨a0, rfl, rfl, rfl, w0⟩ := open_int Try.underlying2 (hval 0 2 v0 rfl rfl) h0
  obtain ⟨a1, rfl, rfl, rfl, w1⟩ := open_int Try.underlying2 (hval 1 2 v1 rfl rfl) h1
  obtain ⟨a2, rfl, rfl, rfl, w2⟩ := open_int Try.underlying2 (hval 2 2 v2 rfl rfl) h2
  clear hA0 hval0
  simp only [List.append_nil] at hW'
  have b0 := bounds_i64 w0
  have b1 := bounds_i64 w1
  have b2 := bounds_i64 w2
  refine (lawRatio_any a0 a1 a2 W b0.1 b0.2 b1.1 b1.2 b2.1 b2.2).mono fun e W' ⟨he, bel⟩ => ?_
  subst he
  exact ⟨_, rfl, _, _, _, [], _, [], hW', trodAll_mk1 (shut_bool Try.underlying4 _), (trodAll_cons_mk (shut_int Try.underlying2 w0) (trodAll_cons_mk (shut_int Try.underlying2 w1) (trodAll_cons_mk (shut_int Try.underlying2 w2) trodAll_mk0))), rfl, bel.frame _, fun h => by cases h⟩

theorem exactRatio_holds : Rows.FnExactRatioSaid :=
  OpenClaim.holds_of_wide 5 Try.f5 rfl rfl rfl rfl rfl rfl rfl ⟨rfl, rfl, rfl, rfl, rfl⟩ rfl rfl rfl rfl rfl (by kernel_rfl) Try.func5 (by kernel_rfl)
    (of_decide_eq_true (by kernel_rfl)) (by unfold Func.isWrapper; first | (rw [if_pos (by decide +kernel)]; kernel_rfl) | (rw [if_neg (by decide +kernel)]; exact ⟨rfl, rfl⟩))
    (fun os started H enc _ => ratio_lifted os started H enc)
#print axioms exactRatio_holds
end Go.Proofs.Ytobghlaoflfflaa
