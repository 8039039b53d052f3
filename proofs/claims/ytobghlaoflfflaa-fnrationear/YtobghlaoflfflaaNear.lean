/-
  Proved: for every bytes, laws.FnRatioNear returns true and its argument reads behind the call as before it; no condition.
-/
import Derived.Test.YtobghlaoflfflaaRatioB
import Derived.Test.YtobghlaoflfflaaRise
namespace Go.Proofs.Ytobghlaoflfflaa
open Go.ChangeShapes Go.WideShapes Go.ChangeAt Go.RowKit
set_option linter.unusedVariables false
set_option linter.unusedSimpArgs false

set_option maxHeartbeats 2000000 in
theorem drawRatio_any (ao : Option Addr) (len cap : Nat) (w : World) (hB : Bytes w ao len cap) :
    Calls Try.prog 10 #[.slice ao len cap] w fun e w' => ∃ a b c : Int, e = .returned (.tuple #[.int .i64 a, .int .i64 b, .int .i64 c]) ∧ I64 a ∧ I64 b ∧ I64 c ∧ Below w.heap.size w w' := by
  have HB := hideD hB
  clear hB
  go_enter Try.func10, Try.ntmps10
  go_wp2_with fail
  refine (new_any ao len cap w HB.out).mono ?_
  rintro e w1 ⟨rfl, c1⟩
  have C1 := hideD c1
  clear c1
  go_wp2_with fail
  refine (drawLen_any ao len cap w _ HB.out C1.out).mono ?_
  rintro e w2 ⟨a, rfl, ha, c2⟩
  have C2 := hideD c2
  have HA := hideD ha
  clear c2 ha C1
  go_wp2_with fail
  refine (drawLen_any ao len cap w _ HB.out C2.out).mono ?_
  rintro e w3 ⟨b, rfl, hb, c3⟩
  have C3 := hideD c3
  have HBb := hideD hb
  clear c3 hb C2
  go_wp2_with fail
  refine (drawLen_any ao len cap w _ HB.out C3.out).mono ?_
  rintro e w4 ⟨c, rfl, hc, c4⟩
  have C4 := hideD c4
  have HC := hideD hc
  clear c4 hc C3
  go_wp2_with fail
  refine (once_any 3 ao len cap w _ HB.out C4.out (by omega) (by omega)).mono ?_
  rintro e w5 ⟨b1, rfl, c5, _⟩
  have C5 := hideD c5
  clear c5 C4
  cases b1
  · go_wp2
    go_ret3
    exact ⟨_, _, _, rfl, HA.out, HBb.out, HC.out, C5.out.bel⟩
  · go_wp2_with fail
    refine (below_any 7 ao len cap w _ HB.out C5.out (by omega) (by omega)).mono ?_
    rintro e w6 ⟨y, rfl, y0, y1, c6, _⟩
    have C6 := hideD c6
    clear c6 C5
    go_wp2_with fail
    refine (below_any 7 ao len cap w _ HB.out C6.out (by omega) (by omega)).mono ?_
    rintro e w7 ⟨z, rfl, z0, z1, c7, _⟩
    have C7 := hideD c7
    clear c7 C6
    go_wp2
    go_ret3
    exact ⟨_, _, _, rfl, HA.out, by unfold I64; omega, by unfold I64; omega, C7.out.bel⟩

def fitB (x : Int) : Bool := decide (-1073741823 ≤ x ∧ x ≤ 1073741823)
theorem lawFits_any (x : Int) (w : World) : Calls Try.prog 11 #[.int .i64 x] w fun e w' => e = .returned (.bool (fitB x)) ∧ w' = w := by
  by_cases h1 : -1073741823 ≤ x
  · by_cases h2 : x ≤ 1073741823
    · rw [show fitB x = true by simp [fitB, h1, h2]]
      go_enter Try.func11, Try.ntmps11
      go_wp2
      go_ret
      exact ⟨rfl, rfl⟩
    · rw [show fitB x = false by simp [fitB]; omega]
      go_enter Try.func11, Try.ntmps11
      go_wp2
      go_ret
      exact ⟨rfl, rfl⟩
  · rw [show fitB x = false by simp [fitB]; omega]
    go_enter Try.func11, Try.ntmps11
    go_wp2
    go_ret
    exact ⟨rfl, rfl⟩
theorem lawAbs_any (x : Int) (w : World) (h : -9223372036854775808 < x) : Calls Try.prog 13 #[.int .i64 x] w fun e w' => e = .returned (.int .i64 ((x.natAbs : Nat) : Int)) ∧ w' = w := by
  by_cases h1 : x < 0
  · rw [show ((x.natAbs : Nat) : Int) = -x by omega]
    go_enter Try.func13, Try.ntmps13
    go_wp2
    go_ret
    exact ⟨rfl, rfl⟩
  · rw [show ((x.natAbs : Nat) : Int) = x by omega]
    go_enter Try.func13, Try.ntmps13
    go_wp2
    go_ret
    exact ⟨rfl, rfl⟩

theorem small_mul {a b : Nat} (ha : a ≤ 1073741823) (hb : b ≤ 1073741823) : a * b ≤ 1152921502459363329 := by
  have := Nat.mul_le_mul ha hb
  simpa using this

/-- Both fit: the product has one word. -/
theorem ratio_small (x num den : Int) (w : World) (hx : x.natAbs ≤ 1073741823) (hn : num.natAbs ≤ 1073741823) (hd : den.natAbs ≤ 1073741823) (hd0 : den ≠ 0) :
    Calls Try.prog 12 #[.int .i64 x, .int .i64 num, .int .i64 den] w fun e w' => e = .returned (.tuple #[.int .i64 (ratioV x num den), .bool (ratioB x num den)]) ∧ Below w.heap.size w w' := by
  have hm := small_mul hx hn
  refine implRatio_any x num den w (by omega) (by omega) (by omega) (by omega) (by omega) (by omega) hd0 (fun _ => ?_)
  rw [Nat.div_eq_of_lt (show x.natAbs * num.natAbs < 18446744073709551616 by omega), Nat.mod_eq_of_lt (show x.natAbs * num.natAbs < 18446744073709551616 by omega)]
  exact div_zero _ _ (by omega) (by omega) (by omega)

theorem ratio_one (x : Int) (hx : x.natAbs ≤ 1073741823) : ratioV x 1 1 = x ∧ ratioB x 1 1 = true := by
  have e : ratioN x 1 1 = x.natAbs := by
    show scaleN x.natAbs 1 1 1073741823 = x.natAbs
    rw [scale_in (by decide) (by simpa using hx)]
    simp [Nat.mod_one]
  have h : ratioN x 1 1 ≤ 1073741823 := by omega
  refine ⟨?_, by simp [ratioB, h]⟩
  unfold ratioV
  rw [if_pos h, e]
  unfold negB
  by_cases hx0 : x < 0
  · simp [hx0]; omega
  · simp [hx0]; omega

/-- Not told: the quotient is too great. -/
theorem ratio_no {x num den : Int} (hd0 : den ≠ 0) (h : ratioB x num den = false) : ratioV x num den = 0 ∧ 1073741823 ≤ x.natAbs * num.natAbs / den.natAbs := by
  have h1 : ¬ ratioN x num den ≤ 1073741823 := by simpa [ratioB] using h
  refine ⟨by simp [ratioV, h1], ?_⟩
  have h2 : ratioN x num den = scaleN x.natAbs num.natAbs den.natAbs 1073741823 := rfl
  by_cases h3 : x.natAbs * num.natAbs / den.natAbs ≤ 1073741823
  · rw [h2, scale_in (by omega) h3] at h1
    split at h1 <;> omega
  · omega

theorem near_half {a b c : Nat} (hc : 0 < c) : 2 * ((a * b / c + if c ≤ 2 * (a * b % c) then 1 else 0) * c) ≤ 2 * (a * b) + c ∧ 2 * (a * b) ≤ 2 * ((a * b / c + if c ≤ 2 * (a * b % c) then 1 else 0) * c) + c := by
  have h1 := Nat.div_add_mod (a * b) c
  have h2 := Nat.mod_lt (a * b) hc
  generalize a * b % c = r at *
  generalize a * b / c = q at *
  generalize a * b = p at *
  rw [Nat.add_mul, Nat.mul_comm q c]
  split
  · omega
  · omega

theorem sign_key (x num den : Int) (N : Nat) : ((if negB x num den then -((N : Nat) : Int) else ((N : Nat) : Int)) * den - x * num).natAbs = (((N * den.natAbs : Nat) : Int) - ((x.natAbs * num.natAbs : Nat) : Int)).natAbs := by
  simp only [Int.natCast_mul]
  by_cases hx : x < 0 <;> by_cases hn : num < 0 <;> by_cases hd : den < 0
  · have e1 : (x.natAbs : Int) = -x := by omega
    have e2 : (num.natAbs : Int) = -num := by omega
    have e3 : (den.natAbs : Int) = -den := by omega
    have e4 : negB x num den = true := by simp [negB, hx, hn, hd]
    rw [e1, e2, e3, e4]
    clear e1 e2 e3 e4
    rw [if_pos rfl]
    try simp only [Int.neg_mul, Int.mul_neg, Int.neg_neg]
    all_goals generalize (N : Int) * den = P
    all_goals generalize x * num = Q
    all_goals omega
  · have e1 : (x.natAbs : Int) = -x := by omega
    have e2 : (num.natAbs : Int) = -num := by omega
    have e3 : (den.natAbs : Int) = den := by omega
    have e4 : negB x num den = false := by simp [negB, hx, hn, hd]
    rw [e1, e2, e3, e4]
    clear e1 e2 e3 e4
    rw [if_neg (by decide)]
    try simp only [Int.neg_mul, Int.mul_neg, Int.neg_neg]
    all_goals generalize (N : Int) * den = P
    all_goals generalize x * num = Q
    all_goals omega
  · have e1 : (x.natAbs : Int) = -x := by omega
    have e2 : (num.natAbs : Int) = num := by omega
    have e3 : (den.natAbs : Int) = -den := by omega
    have e4 : negB x num den = false := by simp [negB, hx, hn, hd]
    rw [e1, e2, e3, e4]
    clear e1 e2 e3 e4
    rw [if_neg (by decide)]
    try simp only [Int.neg_mul, Int.mul_neg, Int.neg_neg]
    all_goals generalize (N : Int) * den = P
    all_goals generalize x * num = Q
    all_goals omega
  · have e1 : (x.natAbs : Int) = -x := by omega
    have e2 : (num.natAbs : Int) = num := by omega
    have e3 : (den.natAbs : Int) = den := by omega
    have e4 : negB x num den = true := by simp [negB, hx, hn, hd]
    rw [e1, e2, e3, e4]
    clear e1 e2 e3 e4
    rw [if_pos rfl]
    try simp only [Int.neg_mul, Int.mul_neg, Int.neg_neg]
    all_goals generalize (N : Int) * den = P
    all_goals generalize x * num = Q
    all_goals omega
  · have e1 : (x.natAbs : Int) = x := by omega
    have e2 : (num.natAbs : Int) = -num := by omega
    have e3 : (den.natAbs : Int) = -den := by omega
    have e4 : negB x num den = false := by simp [negB, hx, hn, hd]
    rw [e1, e2, e3, e4]
    clear e1 e2 e3 e4
    rw [if_neg (by decide)]
    try simp only [Int.neg_mul, Int.mul_neg, Int.neg_neg]
    all_goals generalize (N : Int) * den = P
    all_goals generalize x * num = Q
    all_goals omega
  · have e1 : (x.natAbs : Int) = x := by omega
    have e2 : (num.natAbs : Int) = -num := by omega
    have e3 : (den.natAbs : Int) = den := by omega
    have e4 : negB x num den = true := by simp [negB, hx, hn, hd]
    rw [e1, e2, e3, e4]
    clear e1 e2 e3 e4
    rw [if_pos rfl]
    try simp only [Int.neg_mul, Int.mul_neg, Int.neg_neg]
    all_goals generalize (N : Int) * den = P
    all_goals generalize x * num = Q
    all_goals omega
  · have e1 : (x.natAbs : Int) = x := by omega
    have e2 : (num.natAbs : Int) = num := by omega
    have e3 : (den.natAbs : Int) = -den := by omega
    have e4 : negB x num den = true := by simp [negB, hx, hn, hd]
    rw [e1, e2, e3, e4]
    clear e1 e2 e3 e4
    rw [if_pos rfl]
    try simp only [Int.neg_mul, Int.mul_neg, Int.neg_neg]
    all_goals generalize (N : Int) * den = P
    all_goals generalize x * num = Q
    all_goals omega
  · have e1 : (x.natAbs : Int) = x := by omega
    have e2 : (num.natAbs : Int) = num := by omega
    have e3 : (den.natAbs : Int) = den := by omega
    have e4 : negB x num den = false := by simp [negB, hx, hn, hd]
    rw [e1, e2, e3, e4]
    clear e1 e2 e3 e4
    rw [if_neg (by decide)]
    try simp only [Int.neg_mul, Int.mul_neg, Int.neg_neg]
    all_goals generalize (N : Int) * den = P
    all_goals generalize x * num = Q
    all_goals omega

/-- Told: it fits, and it is the nearest. -/
theorem ratio_yes {x num den : Int} (hd0 : den ≠ 0) (h : ratioB x num den = true) : (ratioV x num den).natAbs ≤ 1073741823 ∧ 2 * (ratioV x num den * den - x * num).natAbs ≤ den.natAbs := by
  have h1 : ratioN x num den ≤ 1073741823 := by simpa [ratioB] using h
  have h2 : ratioN x num den = scaleN x.natAbs num.natAbs den.natAbs 1073741823 := rfl
  have h3 : x.natAbs * num.natAbs / den.natAbs ≤ 1073741823 := by
    by_cases hh : x.natAbs * num.natAbs / den.natAbs ≤ 1073741823
    · exact hh
    · rw [h2, scale_big (by omega) (by omega)] at h1
      omega
  have h4 := near_half (a := x.natAbs) (b := num.natAbs) (c := den.natAbs) (by omega)
  rw [← scale_in (by omega) h3, ← h2] at h4
  have hv : ratioV x num den = if negB x num den then -((ratioN x num den : Nat) : Int) else ((ratioN x num den : Nat) : Int) := by unfold ratioV; rw [if_pos h1]
  generalize ratioN x num den = N at *
  refine ⟨by rw [hv]; split <;> omega, ?_⟩
  have key : (ratioV x num den * den - x * num).natAbs = (((N * den.natAbs : Nat) : Int) - ((x.natAbs * num.natAbs : Nat) : Int)).natAbs := by
    rw [hv]
    clear hv h4 h3 h2 h1 h
    exact sign_key x num den N
  rw [key]
  generalize N * den.natAbs = p at *
  generalize x.natAbs * num.natAbs = q at *
  omega

set_option maxHeartbeats 4000000 in
theorem lawNear_any (a0 : Option Addr) (len cap : Nat) (zs : List Int) (w : World) (h : IsRow w a0 len cap zs) :
    Calls Try.prog 3 #[.slice a0 len cap] w fun e w' => e = .returned (.bool true) ∧ Below w.heap.size w w' := by
  have hs := h.small
  by_cases hbig : 1048576 < len
  · clear h
    go_enter Try.func3, Try.ntmps3
    go_wp2
    go_ret
    exact ⟨rfl, Below.refl _ _⟩
  · have HB := hideD (h.bytes (by omega))
    clear h
    go_enter Try.func3, Try.ntmps3
    go_wp2_with (first | (go_at_call 9; go_in) | fail)
    refine (drawRatio_any a0 len cap w HB.out).mono ?_
    rintro e w1 ⟨x, num, den, rfl, ⟨hx1, hx2⟩, ⟨hn1, hn2⟩, ⟨hd1, hd2⟩, hbel1⟩
    have B1 := hideD hbel1
    clear hbel1 HB
    cases fx : fitB x
    · go_wp2_with (go_at_call 11; refine (lawFits_any _ _).mono ?_; rintro e w' ⟨rfl, rfl⟩)
      go_ret
      exact ⟨rfl, B1.out⟩
    cases fn : fitB num
    · go_wp2_with (go_at_call 11; refine (lawFits_any _ _).mono ?_; rintro e w' ⟨rfl, rfl⟩)
      go_ret
      exact ⟨rfl, B1.out⟩
    cases fd : fitB den
    · go_wp2_with (go_at_call 11; refine (lawFits_any _ _).mono ?_; rintro e w' ⟨rfl, rfl⟩)
      go_ret
      exact ⟨rfl, B1.out⟩
    have gx : x.natAbs ≤ 1073741823 := by simp [fitB] at fx; omega
    have gn : num.natAbs ≤ 1073741823 := by simp [fitB] at fn; omega
    have gd : den.natAbs ≤ 1073741823 := by simp [fitB] at fd; omega
    have R1 := hideD (fun w => ratio_small x 1 1 w gx (by decide) (by decide) (by decide))
    obtain ⟨r1, r2⟩ := ratio_one x gx
    rw [r1, r2] at R1
    clear r1 r2
    by_cases hd0 : den = 0
    · subst hd0
      go_wp2_with (first | (go_at_call 11; refine (lawFits_any _ _).mono ?_; rintro e w' ⟨rfl, rfl⟩) | fail)
      refine (implRatio_zero x num _).mono ?_
      rintro e w2 ⟨rfl, hbel2⟩
      have B2 := hideD (B1.out.trans (hbel2.mono B1.out.size))
      clear hbel2
      go_wp2_with fail
      refine (R1.out _).mono ?_
      rintro e w3 ⟨rfl, hbel3⟩
      have B3 := hideD (B2.out.trans (hbel3.mono B2.out.size))
      clear hbel3
      go_wp2
      go_ret
      exact ⟨rfl, B3.out⟩
    · have R0 := hideD (fun w => ratio_small x num den w gx gn gd hd0)
      have e0 : (den == 0) = false := by simp [hd0]
      have hpn := Int.natAbs_mul x num
      have hpm := small_mul gx gn
      have hp1 : -1152921502459363329 ≤ x * num := by omega
      have hp2 : x * num ≤ 1152921502459363329 := by omega
      cases hok : ratioB x num den
      · obtain ⟨v0, hq⟩ := ratio_no hd0 hok
        rw [hok, v0] at R0
        have hq' : (1073741823 : Int) ≤ (((x * num).natAbs : Nat) : Int) / ((den.natAbs : Nat) : Int) := by
          rw [hpn, ← Int.natCast_ediv]
          omega
        have hdp : 0 < den.natAbs := by omega
        have hA : (x * num).natAbs ≤ 1152921502459363329 := by omega
        have hq2 : (((x * num).natAbs : Nat) : Int) / ((den.natAbs : Nat) : Int) ≤ 1152921502459363329 := by
          rw [← Int.natCast_ediv]
          have := Nat.div_le_self (x * num).natAbs den.natAbs
          omega
        clear hpn hpm hq hok v0
        go_wp2_with (first | (go_at_call 11; refine (lawFits_any _ _).mono ?_; rintro e w' ⟨rfl, rfl⟩) | fail)
        refine (R0.out _).mono ?_
        rintro e w2 ⟨rfl, hbel2⟩
        have B2 := hideD (B1.out.trans (hbel2.mono B1.out.size))
        clear hbel2
        go_wp2_with fail
        refine (R1.out _).mono ?_
        rintro e w3 ⟨rfl, hbel3⟩
        have B3 := hideD (B2.out.trans (hbel3.mono B2.out.size))
        clear hbel3 R0 R1
        go_wp2_with fail
        refine (lawAbs_any (x * num) _ (by omega)).mono ?_
        rintro e w4 ⟨rfl, rfl⟩
        go_wp2_with fail
        refine (lawAbs_any den _ (by omega)).mono ?_
        rintro e w5 ⟨rfl, rfl⟩
        go_wp2
        all_goals go_ret
        all_goals exact ⟨rfl, B3.out⟩
      · obtain ⟨hr1, hr2⟩ := ratio_yes hd0 hok
        rw [hok] at R0
        generalize ratioV x num den = r at *
        have hrn := Int.natAbs_mul r den
        have hrm := small_mul hr1 gd
        have hr3 : -1152921502459363329 ≤ r * den := by omega
        have hr4 : r * den ≤ 1152921502459363329 := by omega
        have hr5 : 2 * (((r * den - x * num).natAbs : Nat) : Int) ≤ ((den.natAbs : Nat) : Int) := by omega
        have hfr : fitB r = true := by simp [fitB]; omega
        clear hpn hpm hrn hrm hok hr2
        go_wp2_with (first | (go_at_call 11; refine (lawFits_any _ _).mono ?_; rintro e w' ⟨rfl, rfl⟩) | fail)
        refine (R0.out _).mono ?_
        rintro e w2 ⟨rfl, hbel2⟩
        have B2 := hideD (B1.out.trans (hbel2.mono B1.out.size))
        clear hbel2
        go_wp2_with fail
        refine (R1.out _).mono ?_
        rintro e w3 ⟨rfl, hbel3⟩
        have B3 := hideD (B2.out.trans (hbel3.mono B2.out.size))
        clear hbel3 R0 R1
        go_wp2_with (first | (go_at_call 11; refine (lawFits_any _ _).mono ?_; rintro e w' ⟨rfl, rfl⟩) | fail)
        refine (lawAbs_any (r * den - x * num) _ (by omega)).mono ?_
        rintro e w4 ⟨rfl, rfl⟩
        go_wp2_with fail
        refine (lawAbs_any den _ (by omega)).mono ?_
        rintro e w5 ⟨rfl, rfl⟩
        go_wp2
        all_goals go_ret
        all_goals exact ⟨rfl, B3.out⟩

set_option maxRecDepth 100000 in
theorem near_lifted (os : Os) (started : os.Started) (H : Type) (enc : TypeId × Value → H) :
    ReturnsInHanded {} Try.checked os 3 .any (Rows.fnRatioNearSpec.pre6 enc Try.prog Try.f3 Rows.fnRatioNearRow.domain false) (Rows.fnRatioNearSpec.post enc Try.prog Try.f3 false true false false) := by
  refine returnsInHanded_of_change (C := Try.checked) ownR started (by kernel_rfl) Try.func3
    (ChangeSpec.witness6 (enc := enc) (C := Try.checked) false ⟨#[], #[.slice none 0 0], []⟩ 8 (by kernel_rfl) (by kernel_rfl) (by kernel_rfl) (by kernel_rfl)) ?_
  intro W base args ds gs before hval0 hW hcnd _
  have hval : ∀ (j : Nat) t v, Try.f3.params[j]? = some t → args[j]? = some v → Value.okWide Try.prog W .any base t v := hval0
  have hW' := hW
  obtain ⟨p, q, hA0, hV, rfl, hfz, hnd⟩ := hW
  have hA : DataW.TrodAll enc Try.prog W 0 (fun _ => true) true Try.f3.params.toList args.toList ds p := hA0
  rw [Try.params3] at hA hval
  obtain ⟨v0, vs0, d0, ds0, p0, q0, hargs, rfl, rfl, h0, r0⟩ := trodAll_cons hA
  obtain ⟨rfl, rfl, rfl⟩ := trodAll_nil r0
  obtain rfl : args = #[v0] := by cases args; simp_all
  obtain ⟨rfl, rfl⟩ := trodVars_none hV
  obtain ⟨a0, len0, cap0, rfl⟩ := okWide_slice Try.underlying22 (hval 0 22 v0 rfl rfl)
  have k0 := h0
  have lt0 : ∀ x ∈ p0, x.block < W.heap.size := by obtain ⟨m, hm⟩ := k0; exact DataW.trod_lt m _ _ _ hm
  obtain ⟨z0, w0⟩ : ∃ zs, IsRow W a0 len0 cap0 zs := by
    obtain ⟨fuel, hf⟩ := h0
    rcases open_ints Try.underlying22 Try.underlying5 (by kernel_rfl) hf with ⟨hcs, _⟩ | ⟨x, l, c, zs, hcs, _, hl, hm, hz, _, hcell, hwz⟩
    · simp [Value.cells] at hcs
      obtain ⟨rfl, rfl, rfl⟩ := hcs
      exact ⟨[], .inl ⟨rfl, rfl, rfl, rfl⟩⟩
    · simp [Value.cells] at hcs
      obtain ⟨rfl, rfl, rfl⟩ := hcs
      exact ⟨zs, .inr ⟨_, rfl, hl, hm, by simpa using hz, hcell, hwz⟩⟩
  clear hA0 hval0
  refine (lawNear_any a0 len0 cap0 z0 W w0).mono fun e W' ⟨he, bel⟩ => ?_
  subst he
  exact ⟨_, rfl, _, _, _, [], _, [], hW', trodAll_mk1 (shut_bool Try.underlying4 _), (trodAll_cons_mk (Below.trod laidOutR (by kernel_rfl) (of_decide_eq_true (by kernel_rfl)) k0 bel lt0) trodAll_mk0), rfl, bel.frame _, fun h => by cases h⟩

theorem ratioNear_holds : Rows.FnRatioNearSaid :=
  OpenClaim.holds_of_wide 3 Try.f3 rfl rfl rfl rfl rfl rfl rfl ⟨rfl, rfl, rfl, rfl, rfl⟩ rfl rfl rfl rfl rfl (by kernel_rfl) Try.func3 (by kernel_rfl)
    (of_decide_eq_true (by kernel_rfl)) (by unfold Func.isWrapper; first | (rw [if_pos (by decide +kernel)]; kernel_rfl) | (rw [if_neg (by decide +kernel)]; exact ⟨rfl, rfl⟩))
    (fun os started H enc _ => near_lifted os started H enc)
#print axioms ratioNear_holds
end Go.Proofs.Ytobghlaoflfflaa
