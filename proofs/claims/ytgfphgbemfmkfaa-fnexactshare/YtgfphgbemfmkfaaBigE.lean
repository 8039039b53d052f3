/-
  The walks of the specification's long numbers: l1Part, l1Near.
-/
import Derived.Test.YtgfphgbemfmkfaaBigB
import Derived.Test.YtgfphgbemfmkfaaBigD
namespace Go.Proofs.Ytgfphgbemfmkfaa
open Go.RowKit
set_option linter.unusedVariables false
set_option linter.unusedSimpArgs false

/-- A number below this has at most 1000 digits, far below. -/
def lid : Nat := 16777216 ^ 40

theorem IsBig.len {w : World} {v : Value} {N : Nat} (h : IsBig w v N) (hN : N < lid) : ∃ xs, IsNum w v xs ∧ BigN.Digits xs ∧ BigN.Trim xs ∧ BigN.val xs = N ∧ xs.length ≤ 1000 := by
  obtain ⟨xs, h1, h2, h3, h4⟩ := h
  exact ⟨xs, h1, h2, h3, h4, by have := BigN.len_le_of_val xs h3 40 (by rw [h4]; exact hN); omega⟩

theorem times_any (va vb : Value) (a b : Nat) (w : World) (na : IsBig w va a) (nb : IsBig w vb b) (ha : a < lid) (hb : b < lid) :
    Calls Try.prog 46 #[va, vb] w fun e w' => ∃ v, e = .returned v ∧ IsBig w' v (a * b) ∧ Below w.heap.size w w' := by
  obtain ⟨xs, h1, h2, h3, rfl, h5⟩ := na.len ha
  obtain ⟨ys, k1, k2, k3, rfl, k5⟩ := nb.len hb
  exact times_num va vb xs ys w h1 k1 h2 k2 h5 k5
theorem sum_any (va vb : Value) (a b : Nat) (w : World) (na : IsBig w va a) (nb : IsBig w vb b) (ha : a < lid) (hb : b < lid) :
    Calls Try.prog 47 #[va, vb] w fun e w' => ∃ v, e = .returned v ∧ IsBig w' v (a + b) ∧ Below w.heap.size w w' := by
  obtain ⟨xs, h1, h2, h3, rfl, h5⟩ := na.len ha
  obtain ⟨ys, k1, k2, k3, rfl, k5⟩ := nb.len hb
  exact sum_num va vb xs ys w h1 k1 h2 k2 h3 k3 h5 k5
theorem most_any (va vb : Value) (a b : Nat) (w : World) (na : IsBig w va a) (nb : IsBig w vb b) (ha : a < lid) (hb : b < lid) :
    Calls Try.prog 57 #[va, vb] w fun e w' => e = .returned (.bool (decide (a ≤ b))) ∧ Below w.heap.size w w' := by
  obtain ⟨xs, h1, h2, h3, rfl, h5⟩ := na.len ha
  obtain ⟨ys, k1, k2, k3, rfl, k5⟩ := nb.len hb
  exact most_num va vb xs ys w h1 k1 h2 k2 h3 k3 h5 k5

theorem lid_small {x : Nat} (h : x < 18446744073709551616) : x < lid := by
  have : (18446744073709551616 : Nat) ≤ 16777216 ^ 40 := by decide +kernel
  unfold lid; omega
theorem lid_d {x : Nat} (h : x < 16777216 ^ 30) : x < lid := Nat.lt_of_lt_of_le h (Nat.pow_le_pow_right (by decide) (by decide))
theorem lid_mul {x d : Nat} (h : x < 18446744073709551616) (hd : d < 16777216 ^ 30) : x * d < lid := by
  have h1 : x * d ≤ 18446744073709551616 * 16777216 ^ 30 := Nat.mul_le_mul (Nat.le_of_lt h) (Nat.le_of_lt hd)
  have h2 : (18446744073709551616 : Nat) * 16777216 ^ 30 < 16777216 ^ 40 := by decide +kernel
  unfold lid; omega

theorem mid_facts {low most : Nat} (h : low < most) (hm : most < 18446744073709551616) : low + (most - low + 1) / 2 ≤ most ∧ low < low + (most - low + 1) / 2 ∧ low + (most - low + 1) / 2 < 18446744073709551616 := by omega

set_option maxHeartbeats 2000000 in
theorem part_any (vn vd : Value) (n d most : Nat) (w : World) (nn : IsBig w vn n) (nd : IsBig w vd d) (hn : n < lid) (hd : d < 16777216 ^ 30) (hm : most < 18446744073709551615) :
    Calls Try.prog 48 #[vn, vd, .int .u64 (most : Int)] w fun e w' => e = .returned (.int .u64 ((BigN.part n d most : Nat) : Int)) ∧ Below w.heap.size w w' := by
  have NN := hideB nn
  have ND := hideB nd
  have HN := hideB hn
  have HD := hideB hd
  obtain ⟨R, hR⟩ : ∃ R, R = BigN.part n d most := ⟨_, rfl⟩
  have hRm : R ≤ most := by rw [hR]; exact BigN.part_le n d most
  have HR := hideB (fun mid (h : mid ≤ most) => BigN.part_iff n d most mid h)
  rw [← hR] at HR
  rw [← hR]
  clear nn nd hn hd hR
  go_enter Try.func48, Try.ntmps48
  go_wp2_with fail
  go_loopw [2, 7, 8] (fun s2 s7 _ wr => Hid (Below w.heap.size w wr) ∧ ∃ hi lo : Nat, lo ≤ R ∧ R ≤ hi ∧ hi ≤ most ∧ s2 = .int .u64 (hi : Int) ∧ s7 = .int .u64 (lo : Int)) (fun s2 s7 _ _ => (intOf s2 - intOf s7).toNat)
  case atStart => exact ⟨hideB (Below.refl _ _), most, 0, Nat.zero_le _, hRm, Nat.le_refl _, rfl, rfl⟩
  case round =>
    obtain ⟨HW, hi, lo, h1, h2, h3, rfl, rfl⟩ := hrel
    by_cases hlt : lo < hi
    · obtain ⟨mid, hmid⟩ : ∃ mid, mid = lo + (hi - lo + 1) / 2 := ⟨_, rfl⟩
      have hmf := mid_facts hlt (show hi < 18446744073709551616 by omega)
      rw [← hmid] at hmf
      obtain ⟨m1, m2, m3⟩ := hmf
      have HM : Hid ((lo : Int) + ((hi : Int) - (lo : Int) + 1) / 2 = (mid : Int)) := by show _ = _; omega
      clear hmid
      go_wp2_with fail
      rw [HM.out]
      refine (big_any mid _ m3).mono ?_
      rintro e w1 ⟨v1, rfl, hv1, hb1⟩
      have HB1 := hideB (HW.out.trans (hb1.mono HW.out.size))
      have HV1 := hideB hv1
      clear hv1 hb1
      go_wp2_with fail
      refine (times_any v1 vd mid d _ HV1.out (ND.out.kept HB1.out) (lid_small m3) (lid_d HD.out)).mono ?_
      rintro e w2 ⟨v2, rfl, hv2, hb2⟩
      have HB2 := hideB (HB1.out.trans (hb2.mono HB1.out.size))
      have HV2 := hideB hv2
      clear hv2 hb2
      go_wp2_with fail
      refine (most_any v2 vn (mid * d) n _ HV2.out (NN.out.kept HB2.out) (lid_mul m3 HD.out) HN.out).mono ?_
      rintro e w3 ⟨rfl, hb3⟩
      have HB3 := hideB (HB2.out.trans (hb3.mono HB2.out.size))
      clear hb3
      have hiff := HR.out mid (by omega)
      by_cases hle : mid * d ≤ n
      · have hmr : mid ≤ R := hiff.1 hle
        rw [show decide (mid * d ≤ n) = true by simp [hle]]
        clear hiff hle
        go_wp2
        go_roundw
        case rel => exact ⟨HB3, hi, mid, hmr, h2, h3, rfl, rfl⟩
        case measure => simp [intOf]; omega
      · have hmr : R < mid := by
          by_cases hh : mid ≤ R
          · exact absurd (hiff.2 hh) hle
          · omega
        rw [show decide (mid * d ≤ n) = false by simp [hle]]
        have HM1 : Hid ((mid : Int) - 1 = ((mid - 1 : Nat) : Int)) := by show _ = _; omega
        clear hiff hle
        go_wp2
        go_roundw
        case rel => exact ⟨HB3, mid - 1, lo, h1, by omega, by omega, by rw [HM1.out], rfl⟩
        case measure => rw [HM1.out]; simp [intOf]; omega
    · obtain rfl : lo = R := by omega
      go_wp2
      go_ret
      exact ⟨rfl, HW.out⟩

theorem lid_ab {a b : Nat} (ha : a < 18446744073709551616) (hb : b < 18446744073709551616) : a * b < lid ∧ a * b * 2 < lid := by
  have h1 : a * b ≤ 18446744073709551616 * 18446744073709551616 := Nat.mul_le_mul (Nat.le_of_lt ha) (Nat.le_of_lt hb)
  have h2 : (18446744073709551616 : Nat) * 18446744073709551616 * 2 < 16777216 ^ 40 := by decide +kernel
  unfold lid; omega
theorem lid_abc {a b c : Nat} (ha : a < 18446744073709551616) (hb : b < 18446744073709551616) (hc : c < 18446744073709551616) : a * b * 2 + c < lid ∧ c * 2 < 16777216 ^ 30 := by
  have h1 : a * b ≤ 18446744073709551616 * 18446744073709551616 := Nat.mul_le_mul (Nat.le_of_lt ha) (Nat.le_of_lt hb)
  have h2 : (18446744073709551616 : Nat) * 18446744073709551616 * 2 + 18446744073709551616 < 16777216 ^ 40 := by decide +kernel
  have h3 : (18446744073709551616 : Nat) * 2 < 16777216 ^ 30 := by decide +kernel
  unfold lid; omega

set_option maxHeartbeats 2000000 in
theorem near_any (a b c most : Nat) (w : World) (ha : a < 18446744073709551616) (hb : b < 18446744073709551616) (hc : c < 18446744073709551616) (hm : most < 18446744073709551615) :
    Calls Try.prog 49 #[.int .u64 (a : Int), .int .u64 (b : Int), .int .u64 (c : Int), .int .u64 (most : Int)] w fun e w' => e = .returned (.int .u64 ((BigN.near a b c most : Nat) : Int)) ∧ Below w.heap.size w w' := by
  have LD := hideB (And.intro (lid_ab ha hb) (lid_abc ha hb hc))
  go_enter Try.func49, Try.ntmps49
  go_wp2_with fail
  refine (big_any a _ ha).mono ?_
  rintro e w1 ⟨v1, rfl, hv1, hb1⟩
  have H1 := hideB hb1
  have V1 := hideB hv1
  clear hv1 hb1
  go_wp2_with fail
  refine (big_any b _ hb).mono ?_
  rintro e w2 ⟨v2, rfl, hv2, hb2⟩
  have H2 := hideB (H1.out.trans (hb2.mono H1.out.size))
  have V2 := hideB hv2
  have W1 := hideB (V1.out.kept hb2)
  clear hv2 hb2 V1
  go_wp2_with fail
  refine (times_any v1 v2 a b _ W1.out V2.out (lid_small ha) (lid_small hb)).mono ?_
  rintro e w3 ⟨v3, rfl, hv3, hb3⟩
  have H3 := hideB (H2.out.trans (hb3.mono H2.out.size))
  have V3 := hideB hv3
  clear hv3 hb3 W1 V2
  go_wp2_with fail
  refine (big_any 2 _ (by decide)).mono ?_
  rintro e w4 ⟨v4, rfl, hv4, hb4⟩
  have H4 := hideB (H3.out.trans (hb4.mono H3.out.size))
  have V4 := hideB hv4
  have W3 := hideB (V3.out.kept hb4)
  clear hv4 hb4 V3
  go_wp2_with fail
  refine (times_any v3 v4 (a * b) 2 _ W3.out V4.out LD.out.1.1 (lid_small (by decide))).mono ?_
  rintro e w5 ⟨v5, rfl, hv5, hb5⟩
  have H5 := hideB (H4.out.trans (hb5.mono H4.out.size))
  have V5 := hideB hv5
  clear hv5 hb5 W3 V4
  go_wp2_with fail
  refine (big_any c _ hc).mono ?_
  rintro e w6 ⟨v6, rfl, hv6, hb6⟩
  have H6 := hideB (H5.out.trans (hb6.mono H5.out.size))
  have V6 := hideB hv6
  have W5 := hideB (V5.out.kept hb6)
  clear hv6 hb6 V5
  go_wp2_with fail
  refine (sum_any v5 v6 (a * b * 2) c _ W5.out V6.out LD.out.1.2 (lid_small hc)).mono ?_
  rintro e w7 ⟨v7, rfl, hv7, hb7⟩
  have H7 := hideB (H6.out.trans (hb7.mono H6.out.size))
  have V7 := hideB hv7
  clear hv7 hb7 W5 V6
  go_wp2_with fail
  refine (big_any c _ hc).mono ?_
  rintro e w8 ⟨v8, rfl, hv8, hb8⟩
  have H8 := hideB (H7.out.trans (hb8.mono H7.out.size))
  have V8 := hideB hv8
  have W7 := hideB (V7.out.kept hb8)
  clear hv8 hb8 V7
  go_wp2_with fail
  refine (big_any 2 _ (by decide)).mono ?_
  rintro e w9 ⟨v9, rfl, hv9, hb9⟩
  have H9 := hideB (H8.out.trans (hb9.mono H8.out.size))
  have V9 := hideB hv9
  have W8 := hideB (V8.out.kept hb9)
  have X7 := hideB (W7.out.kept hb9)
  clear hv9 hb9 V8 W7
  go_wp2_with fail
  refine (times_any v8 v9 c 2 _ W8.out V9.out (lid_small hc) (lid_small (by decide))).mono ?_
  rintro e w10 ⟨v10, rfl, hv10, hb10⟩
  have H10 := hideB (H9.out.trans (hb10.mono H9.out.size))
  have V10 := hideB hv10
  have Y7 := hideB (X7.out.kept hb10)
  clear hv10 hb10 W8 V9 X7
  go_wp2_with fail
  refine (part_any v7 v10 (a * b * 2 + c) (c * 2) most _ Y7.out V10.out LD.out.2.1 LD.out.2.2 hm).mono ?_
  rintro e w11 ⟨rfl, hb11⟩
  go_wp2
  go_ret
  exact ⟨rfl, H10.out.trans (hb11.mono H10.out.size)⟩
end Go.Proofs.Ytgfphgbemfmkfaa
