/-
  The specification's ParseLen.
-/
import Derived.Test.YtkimbgmjhclghaaDoorSpd
namespace Go.Proofs.YtkimbgmjhclghaaDoor
open Go.RowKit
set_option linter.unusedVariables false
set_option linter.unusedSimpArgs false

set_option maxRecDepth 100000 in
set_option maxHeartbeats 4000000 in
theorem specBare_any (s : ByteArray) (R : Dec) (V : Int) (B : Bool) (w : World) (hs : s.size ≤ 9223372036854775807) (h0 : 0 < s.size) (h1 : ¬ byteAt s 0 = 45) (h2 : ¬ byteAt s 0 = 43)
    (HR : Hid (R = dec (fun x => byteAt s (0 + x)) (s.size - 0 - 0) 0 0 1 0 false))
    (HV : Hid (V = parseV false R (s.extract (0 + R.at_) s.size).toList)) (HB : Hid (B = parseGood R (s.extract (0 + R.at_) s.size).toList)) :
    Calls Tryd.prog 10 #[.string s] w fun e w' => e = .returned (.tuple #[.int .i64 V, .bool B]) ∧ Below w.heap.size w w' := by
  obtain ⟨c0, hc0⟩ : ∃ c0 : Nat, c0 = byteAt s 0 := ⟨_, rfl⟩
  have hb : ((s[0]'h0).toNat : Int) = (c0 : Int) := by rw [byteAt_get s 0 h0, hc0]
  have f1 : ((c0 : Int) == 45) = false := by rw [hc0]; simp; omega
  have f2 : ((c0 : Int) == 43) = false := by rw [hc0]; simp; omega
  clear h1 h2 hc0
  go_enter Tryd.func10, Tryd.ntmps10
  go_wp2
  clear hb
  go_loopw [4, 6, 7, 8, 9] (fun s4 s6 s7 s8 s9 wr => Hid (Below w.heap.size w wr) ∧ ∃ (j n t k : Nat) (d : Bool), 0 + j ≤ s.size ∧ s4 = .int .i64 ((0 : Int) + (j : Int)) ∧ s6 = .int .u64 (n : Int) ∧ s7 = .int .u64 (t : Int) ∧ s8 = .int .i64 (k : Int) ∧ s9 = .bool d ∧ Hid (SpLoop s 0 j n t k d R)) (fun s4 _ _ _ _ _ => s.size - (intOf s4).toNat)
  case atStart => exact ⟨hideP (Below.refl _ _), 0, 0, 1, 0, false, by omega, rfl, rfl, rfl, rfl, rfl, hideP (.inl ⟨⟨by decide, by decide, by decide, by decide⟩, HR.out⟩)⟩
  case round =>
    clear HR
    obtain ⟨HW, j, n, t, k, d, hj, rfl, rfl, rfl, rfl, rfl, HL⟩ := hrel
    obtain ⟨i, hi⟩ : ∃ i, i = 0 + j := ⟨_, rfl⟩
    have hii : (0 : Int) + (j : Int) = (i : Int) := by omega
    rw [hii]
    have HI := hideP hi
    have hile : i ≤ s.size := by omega
    by_cases hlt : i < s.size
    · have hbi : (i : Int) < (s.size : Int) := by omega
      rcases HL.out with ⟨hS, hD⟩ | ⟨rfl, h16⟩
      · obtain ⟨c, hc⟩ : ∃ c : Nat, c = byteAt s i := ⟨_, rfl⟩
        have hc1 : c ≤ 255 := by rw [hc]; exact byteAt_le s i
        have hb : ((s[i]'hlt).toNat : Int) = (c : Int) := by rw [hc, byteAt_get s i hlt]
        have HS := hideP hS
        have HD := hideP hD
        have hk15 : k ≤ 15 := hS.1
        have hjL : j < s.size - 0 := by omega
        have hcj : c = (fun x => byteAt s (0 + x)) j := by rw [hc, hi]
        have HJ := hideP hjL
        have HCJ := hideP hcj
        have HLT := hideP hlt
        clear hS hD hi hc HL hii hj hjL hcj
        by_cases hA : c = 46 ∧ d = false
        · obtain ⟨rfl, rfl⟩ := hA
          have DG := hideP (fun w => digit_any 46 w hc1)
          rw [show decide (48 ≤ 46 ∧ 46 ≤ 57) = false by decide] at DG
          have hbb : ((s[i]'hlt).toNat : Int) = 46 := hb
          clear hb
          go_wp2_with fail
          refine (DG.out _).mono ?_
          rintro e w1 ⟨rfl, hb1⟩
          have HW1 := hideP (HW.out.trans (hb1.mono HW.out.size))
          clear hb1
          go_wp2
          go_roundw
          case rel => exact ⟨HW1, j + 1, n, t, k, true, by have := HI.out; omega, by have := HI.out; congr 1; omega, rfl, rfl, rfl, rfl, hideP (.inl ⟨HS.out, HD.out.trans (dec_dot _ _ _ _ _ _ HJ.out HCJ.out.symm)⟩)⟩
          case measure => simp [intOf]; omega
        · by_cases hG : 48 ≤ c ∧ c ≤ 57
          · have e1 : ((c : Int) == 46) = false := by simp; omega
            have DG := hideP (fun w => digit_any c w hc1)
            rw [show decide (48 ≤ c ∧ c ≤ 57) = true by simp [hG]] at DG
            have hg1 : 48 ≤ (c : Int) ∧ (c : Int) ≤ 57 := by omega
            have hG' : 48 ≤ (fun x => byteAt s (0 + x)) j ∧ (fun x => byteAt s (0 + x)) j ≤ 57 := by rw [← HCJ.out]; exact hG
            have HG := hideP hG'
            obtain ⟨m, hm⟩ : ∃ m : Int, m = (n : Int) := ⟨_, rfl⟩
            obtain ⟨tt, htt⟩ : ∃ m : Int, m = (t : Int) := ⟨_, rfl⟩
            have hbn := HS.out.bounds
            have hm1 : 0 ≤ m ∧ m < 1000000000000000 := by omega
            have ht1 : 0 ≤ tt ∧ tt ≤ 1000000000000000 := by omega
            have HM := hideP hm
            have HT := hideP htt
            rw [← hm, ← htt]
            have HN : Hid (m * 10 + ((c : Int) - 48) = ((n * 10 + (c - 48) : Nat) : Int)) := by show _ = _; omega
            have HT10 : Hid (tt * 10 = ((t * 10 : Nat) : Int)) := by show _ = _; omega
            clear hA hG hG' hbn hm htt
            cases d
            · go_wp2_with fail
              refine (DG.out _).mono ?_
              rintro e w1 ⟨rfl, hb1⟩
              have HW1 := hideP (HW.out.trans (hb1.mono HW.out.size))
              clear hb1
              go_wp2
              go_roundw
              case rel =>
                refine ⟨HW1, j + 1, n * 10 + (c - 48), t, k + 1, false, by have := HI.out; omega, by have := HI.out; congr 1; omega, by rw [← HN.out], by rw [HT.out], by go_num, rfl, hideP ?_⟩
                by_cases hk : k = 15
                · subst hk
                  exact .inr ⟨rfl, by rw [HD.out, dec_many _ _ _ _ _ _ HJ.out HG.out]⟩
                · exact .inl ⟨HS.out.next (d := false) (by have := hg1; omega) hk, (HD.out.trans (dec_digit _ _ _ _ _ _ _ HJ.out HG.out hk)).trans (by rw [← HCJ.out]; rfl)⟩
              case measure => simp [intOf]; omega
            · go_wp2_with fail
              refine (DG.out _).mono ?_
              rintro e w1 ⟨rfl, hb1⟩
              have HW1 := hideP (HW.out.trans (hb1.mono HW.out.size))
              clear hb1
              go_wp2
              go_roundw
              case rel =>
                refine ⟨HW1, j + 1, n * 10 + (c - 48), t * 10, k + 1, true, by have := HI.out; omega, by have := HI.out; congr 1; omega, by rw [← HN.out], by rw [← HT10.out], by go_num, rfl, hideP ?_⟩
                by_cases hk : k = 15
                · subst hk
                  exact .inr ⟨rfl, by rw [HD.out, dec_many _ _ _ _ _ _ HJ.out HG.out]⟩
                · exact .inl ⟨HS.out.next (d := true) (by have := hg1; omega) hk, (HD.out.trans (dec_digit _ _ _ _ _ _ _ HJ.out HG.out hk)).trans (by rw [← HCJ.out]; rfl)⟩
              case measure => simp [intOf]; omega
          · have hn1 : ¬ ((fun x => byteAt s (0 + x)) j = 46 ∧ d = false) := by rw [← HCJ.out]; exact hA
            have hn2 : ¬ (48 ≤ (fun x => byteAt s (0 + x)) j ∧ (fun x => byteAt s (0 + x)) j ≤ 57) := by rw [← HCJ.out]; exact hG
            have HE := hideP (HD.out.trans (dec_stop _ _ _ _ _ _ _ HJ.out hn1 hn2))
            have DG := hideP (fun w => digit_any c w hc1)
            rw [show decide (48 ≤ c ∧ c ≤ 57) = false by simp only [hG, decide_false]] at DG
            clear hn1 hn2 HD hG
            obtain ⟨dd, hdd⟩ : ∃ dd : Bool, dd = (((c : Int) == 46) && !d) := ⟨_, rfl⟩
            have hdf : dd = false := by
              rw [hdd]
              cases d
              · have : c ≠ 46 := fun h => hA ⟨h, rfl⟩
                simp; omega
              · simp
            rw [hdf] at hdd
            clear hdf hA
            by_cases h46 : c = 46
            · have hd1 : d = true := by
                cases d
                · simp [h46] at hdd
                · rfl
              subst hd1 h46
              clear hdd
              by_cases hk0 : k = 0
              · subst hk0
                have hV : V = 0 := by rw [HV.out, HE.out]; simp [parseV, parseGood]
                have hB : B = false := by rw [HB.out, HE.out]; simp [parseGood]
                subst hV hB
                go_wp2_with fail
                refine (DG.out _).mono ?_
                rintro e w1 ⟨rfl, hb1⟩
                replace HW := hideP (HW.out.trans (hb1.mono HW.out.size))
                clear hb1
                go_wp2
                go_ret2
                exact ⟨rfl, HW.out⟩
              · have k0 : ((k : Int) == 0) = false := by simp; omega
                have k1 : decide ((15 : Int) < (k : Int)) = false := by simp; omega
                have hk1 : 0 < (k : Int) := by omega
                go_wp2_with fail
                refine (DG.out _).mono ?_
                rintro e w1 ⟨rfl, hb1⟩
                replace HW := hideP (HW.out.trans (hb1.mono HW.out.size))
                clear hb1
                go_wp2_with fail
                refine (unit_any (s.extract i s.size) _).mono ?_
                rintro e w1 ⟨rfl, hb1⟩
                have HW1 := hideP (HW.out.trans (hb1.mono HW.out.size))
                clear hb1
                have hu1 := unitN_le (s.extract i s.size).toList
                have hu2 := unitD_le (s.extract i s.size).toList
                have HV1 : Hid (V = parseV false ⟨j, n, t, k⟩ (s.extract i s.size).toList) := by rw [HI.out]; exact hideP (by rw [HV.out, HE.out])
                have HB1 : Hid (B = parseGood ⟨j, n, t, k⟩ (s.extract i s.size).toList) := by rw [HI.out]; exact hideP (by rw [HB.out, HE.out])
                have HK := hideP hk0
                clear HV HB hk0
                generalize (s.extract i s.size).toList = l at *
                have HQ : Hid (parseQ ⟨j, n, t, k⟩ l = BigN.near n (unitN l) (unitD l * t) 1073741824) := rfl
                obtain ⟨un, hun⟩ : ∃ un, un = unitN l := ⟨_, rfl⟩
                obtain ⟨ud, hud⟩ : ∃ ud, ud = unitD l := ⟨_, rfl⟩
                rw [← hun] at hu1 HQ
                rw [← hud] at hu2 HQ
                rw [← hun, ← hud]
                have hV2 : V = if 0 < un ∧ BigN.near n un (ud * t) 1073741824 ≤ 1073741823 then (if false then -((BigN.near n un (ud * t) 1073741824 : Nat) : Int) else ((BigN.near n un (ud * t) 1073741824 : Nat) : Int)) else 0 := by
                  have hk := HK.out
                  have hk' := HS.out.1
                  rw [HV1.out]
                  unfold parseV parseGood
                  rw [HQ.out, ← hun]
                  have z1 : 0 < k := by omega
                  simp [z1, hk']
                have hB2 : B = (decide (0 < un) && decide (BigN.near n un (ud * t) 1073741824 ≤ 1073741823)) := by
                  have hk := HK.out
                  have hk' := HS.out.1
                  rw [HB1.out]
                  unfold parseGood
                  rw [HQ.out, ← hun]
                  have z1 : 0 < k := by omega
                  simp [z1, hk']
                clear HV1 HB1 HQ hun hud HE
                by_cases hu0 : un = 0
                · subst hu0
                  have hV : V = 0 := by rw [hV2]; simp
                  have hB : B = false := by rw [hB2]; simp
                  clear hV2 hB2
                  subst hV hB
                  go_wp2
                  go_ret2
                  exact ⟨rfl, HW1.out⟩
                · have u0 : ((un : Int) == 0) = false := by simp; omega
                  have hbn := HS.out.bounds
                  obtain ⟨ct, hct⟩ : ∃ ct, ct = ud * t := ⟨_, rfl⟩
                  have hct1 : ct ≤ 2540 * 1000000000000000 := by rw [hct]; exact Nat.mul_le_mul hu2.1 hbn.2
                  have hcz : (ud : Int) * (t : Int) = (ct : Int) := by rw [hct]; exact (Int.natCast_mul _ _).symm
                  rw [← hct] at hV2 hB2
                  have NR := hideP (fun w => near_any n un ct 1073741824 w (by omega) (by omega) (by omega) (by decide))
                  have hle : BigN.near n un ct 1073741824 ≤ 1073741824 := BigN.part_le _ _ _
                  obtain ⟨q, hq⟩ : ∃ q, q = BigN.near n un ct 1073741824 := ⟨_, rfl⟩
                  rw [← hq] at NR hle hV2 hB2
                  have z2 : 0 < un := by omega
                  have hV3 : V = if q ≤ 1073741823 then (if false then -(q : Int) else (q : Int)) else 0 := by rw [hV2]; simp [z2]
                  have hB3 : B = decide (q ≤ 1073741823) := by rw [hB2]; simp [z2]
                  have SG := hideP (fun w => signed_any q false w hle)
                  rw [← hV3, ← hB3] at SG
                  have HCZ := hideP hcz
                  have hcb : 0 ≤ (ud : Int) * (t : Int) ∧ (ud : Int) * (t : Int) ≤ 18446744073709551615 := by rw [hcz]; omega
                  clear hV2 hB2 hV3 hB3 hq hle hct hct1 hcz z2 hu0 hbn
                  go_wp2_with fail
                  rw [HCZ.out]
                  refine (NR.out _).mono ?_
                  rintro e w2 ⟨rfl, hb2⟩
                  have HW2 := hideP (HW1.out.trans (hb2.mono HW1.out.size))
                  clear hb2
                  go_wp2_with fail
                  refine (SG.out _).mono ?_
                  rintro e w3 ⟨rfl, rfl⟩
                  go_wp2
                  go_ret2
                  exact ⟨rfl, HW2.out⟩
            · have e1 : ((c : Int) == 46) = false := by simp; omega
              clear hdd h46
              by_cases hk0 : k = 0
              · subst hk0
                have hV : V = 0 := by rw [HV.out, HE.out]; simp [parseV, parseGood]
                have hB : B = false := by rw [HB.out, HE.out]; simp [parseGood]
                subst hV hB
                go_wp2_with fail
                refine (DG.out _).mono ?_
                rintro e w1 ⟨rfl, hb1⟩
                replace HW := hideP (HW.out.trans (hb1.mono HW.out.size))
                clear hb1
                go_wp2
                go_ret2
                exact ⟨rfl, HW.out⟩
              · have k0 : ((k : Int) == 0) = false := by simp; omega
                have k1 : decide ((15 : Int) < (k : Int)) = false := by simp; omega
                have hk1 : 0 < (k : Int) := by omega
                go_wp2_with fail
                refine (DG.out _).mono ?_
                rintro e w1 ⟨rfl, hb1⟩
                replace HW := hideP (HW.out.trans (hb1.mono HW.out.size))
                clear hb1
                go_wp2_with fail
                refine (unit_any (s.extract i s.size) _).mono ?_
                rintro e w1 ⟨rfl, hb1⟩
                have HW1 := hideP (HW.out.trans (hb1.mono HW.out.size))
                clear hb1
                have hu1 := unitN_le (s.extract i s.size).toList
                have hu2 := unitD_le (s.extract i s.size).toList
                have HV1 : Hid (V = parseV false ⟨j, n, t, k⟩ (s.extract i s.size).toList) := by rw [HI.out]; exact hideP (by rw [HV.out, HE.out])
                have HB1 : Hid (B = parseGood ⟨j, n, t, k⟩ (s.extract i s.size).toList) := by rw [HI.out]; exact hideP (by rw [HB.out, HE.out])
                have HK := hideP hk0
                clear HV HB hk0
                generalize (s.extract i s.size).toList = l at *
                have HQ : Hid (parseQ ⟨j, n, t, k⟩ l = BigN.near n (unitN l) (unitD l * t) 1073741824) := rfl
                obtain ⟨un, hun⟩ : ∃ un, un = unitN l := ⟨_, rfl⟩
                obtain ⟨ud, hud⟩ : ∃ ud, ud = unitD l := ⟨_, rfl⟩
                rw [← hun] at hu1 HQ
                rw [← hud] at hu2 HQ
                rw [← hun, ← hud]
                have hV2 : V = if 0 < un ∧ BigN.near n un (ud * t) 1073741824 ≤ 1073741823 then (if false then -((BigN.near n un (ud * t) 1073741824 : Nat) : Int) else ((BigN.near n un (ud * t) 1073741824 : Nat) : Int)) else 0 := by
                  have hk := HK.out
                  have hk' := HS.out.1
                  rw [HV1.out]
                  unfold parseV parseGood
                  rw [HQ.out, ← hun]
                  have z1 : 0 < k := by omega
                  simp [z1, hk']
                have hB2 : B = (decide (0 < un) && decide (BigN.near n un (ud * t) 1073741824 ≤ 1073741823)) := by
                  have hk := HK.out
                  have hk' := HS.out.1
                  rw [HB1.out]
                  unfold parseGood
                  rw [HQ.out, ← hun]
                  have z1 : 0 < k := by omega
                  simp [z1, hk']
                clear HV1 HB1 HQ hun hud HE
                by_cases hu0 : un = 0
                · subst hu0
                  have hV : V = 0 := by rw [hV2]; simp
                  have hB : B = false := by rw [hB2]; simp
                  clear hV2 hB2
                  subst hV hB
                  go_wp2
                  go_ret2
                  exact ⟨rfl, HW1.out⟩
                · have u0 : ((un : Int) == 0) = false := by simp; omega
                  have hbn := HS.out.bounds
                  obtain ⟨ct, hct⟩ : ∃ ct, ct = ud * t := ⟨_, rfl⟩
                  have hct1 : ct ≤ 2540 * 1000000000000000 := by rw [hct]; exact Nat.mul_le_mul hu2.1 hbn.2
                  have hcz : (ud : Int) * (t : Int) = (ct : Int) := by rw [hct]; exact (Int.natCast_mul _ _).symm
                  rw [← hct] at hV2 hB2
                  have NR := hideP (fun w => near_any n un ct 1073741824 w (by omega) (by omega) (by omega) (by decide))
                  have hle : BigN.near n un ct 1073741824 ≤ 1073741824 := BigN.part_le _ _ _
                  obtain ⟨q, hq⟩ : ∃ q, q = BigN.near n un ct 1073741824 := ⟨_, rfl⟩
                  rw [← hq] at NR hle hV2 hB2
                  have z2 : 0 < un := by omega
                  have hV3 : V = if q ≤ 1073741823 then (if false then -(q : Int) else (q : Int)) else 0 := by rw [hV2]; simp [z2]
                  have hB3 : B = decide (q ≤ 1073741823) := by rw [hB2]; simp [z2]
                  have SG := hideP (fun w => signed_any q false w hle)
                  rw [← hV3, ← hB3] at SG
                  have HCZ := hideP hcz
                  have hcb : 0 ≤ (ud : Int) * (t : Int) ∧ (ud : Int) * (t : Int) ≤ 18446744073709551615 := by rw [hcz]; omega
                  clear hV2 hB2 hV3 hB3 hq hle hct hct1 hcz z2 hu0 hbn
                  go_wp2_with fail
                  rw [HCZ.out]
                  refine (NR.out _).mono ?_
                  rintro e w2 ⟨rfl, hb2⟩
                  have HW2 := hideP (HW1.out.trans (hb2.mono HW1.out.size))
                  clear hb2
                  go_wp2_with fail
                  refine (SG.out _).mono ?_
                  rintro e w3 ⟨rfl, rfl⟩
                  go_wp2
                  go_ret2
                  exact ⟨rfl, HW2.out⟩
      · have hV : V = 0 := by rw [HV.out]; simp [parseV, parseGood, h16]
        have hB : B = false := by rw [HB.out]; simp [parseGood, h16]
        subst hV hB
        clear HL h16 hi hii hj
        go_wp2
        go_ret2
        exact ⟨rfl, HW.out⟩
    · have hbi : ¬ (i : Int) < (s.size : Int) := by omega
      rcases HL.out with ⟨hS, hD⟩ | ⟨rfl, h16⟩
      · have HS := hideP hS
        have HE := hideP (hD.trans (dec_end _ _ _ _ _ _ _ (by omega)))
        have hk15 : k ≤ 15 := hS.1
        clear hS hD hi hii HL hj
        by_cases hk0 : k = 0
        · subst hk0
          have hV : V = 0 := by rw [HV.out, HE.out]; simp [parseV, parseGood]
          have hB : B = false := by rw [HB.out, HE.out]; simp [parseGood]
          subst hV hB
          go_wp2
          go_ret2
          exact ⟨rfl, HW.out⟩
        · have k0 : ((k : Int) == 0) = false := by simp; omega
          have k1 : decide ((15 : Int) < (k : Int)) = false := by simp; omega
          have hk1 : 0 < (k : Int) := by omega
          go_wp2_with fail
          refine (unit_any (s.extract i s.size) _).mono ?_
          rintro e w1 ⟨rfl, hb1⟩
          have HW1 := hideP (HW.out.trans (hb1.mono HW.out.size))
          clear hb1
          have hu1 := unitN_le (s.extract i s.size).toList
          have hu2 := unitD_le (s.extract i s.size).toList
          have HV1 : Hid (V = parseV false ⟨j, n, t, k⟩ (s.extract i s.size).toList) := by rw [HI.out]; exact hideP (by rw [HV.out, HE.out])
          have HB1 : Hid (B = parseGood ⟨j, n, t, k⟩ (s.extract i s.size).toList) := by rw [HI.out]; exact hideP (by rw [HB.out, HE.out])
          have HK := hideP hk0
          clear HV HB hk0
          generalize (s.extract i s.size).toList = l at *
          have HQ : Hid (parseQ ⟨j, n, t, k⟩ l = BigN.near n (unitN l) (unitD l * t) 1073741824) := rfl
          obtain ⟨un, hun⟩ : ∃ un, un = unitN l := ⟨_, rfl⟩
          obtain ⟨ud, hud⟩ : ∃ ud, ud = unitD l := ⟨_, rfl⟩
          rw [← hun] at hu1 HQ
          rw [← hud] at hu2 HQ
          rw [← hun, ← hud]
          have hV2 : V = if 0 < un ∧ BigN.near n un (ud * t) 1073741824 ≤ 1073741823 then (if false then -((BigN.near n un (ud * t) 1073741824 : Nat) : Int) else ((BigN.near n un (ud * t) 1073741824 : Nat) : Int)) else 0 := by
            have hk := HK.out
            have hk' := HS.out.1
            rw [HV1.out]
            unfold parseV parseGood
            rw [HQ.out, ← hun]
            have z1 : 0 < k := by omega
            simp [z1, hk']
          have hB2 : B = (decide (0 < un) && decide (BigN.near n un (ud * t) 1073741824 ≤ 1073741823)) := by
            have hk := HK.out
            have hk' := HS.out.1
            rw [HB1.out]
            unfold parseGood
            rw [HQ.out, ← hun]
            have z1 : 0 < k := by omega
            simp [z1, hk']
          clear HV1 HB1 HQ hun hud HE
          by_cases hu0 : un = 0
          · subst hu0
            have hV : V = 0 := by rw [hV2]; simp
            have hB : B = false := by rw [hB2]; simp
            clear hV2 hB2
            subst hV hB
            go_wp2
            go_ret2
            exact ⟨rfl, HW1.out⟩
          · have u0 : ((un : Int) == 0) = false := by simp; omega
            have hbn := HS.out.bounds
            obtain ⟨ct, hct⟩ : ∃ ct, ct = ud * t := ⟨_, rfl⟩
            have hct1 : ct ≤ 2540 * 1000000000000000 := by rw [hct]; exact Nat.mul_le_mul hu2.1 hbn.2
            have hcz : (ud : Int) * (t : Int) = (ct : Int) := by rw [hct]; exact (Int.natCast_mul _ _).symm
            rw [← hct] at hV2 hB2
            have NR := hideP (fun w => near_any n un ct 1073741824 w (by omega) (by omega) (by omega) (by decide))
            have hle : BigN.near n un ct 1073741824 ≤ 1073741824 := BigN.part_le _ _ _
            obtain ⟨q, hq⟩ : ∃ q, q = BigN.near n un ct 1073741824 := ⟨_, rfl⟩
            rw [← hq] at NR hle hV2 hB2
            have z2 : 0 < un := by omega
            have hV3 : V = if q ≤ 1073741823 then (if false then -(q : Int) else (q : Int)) else 0 := by rw [hV2]; simp [z2]
            have hB3 : B = decide (q ≤ 1073741823) := by rw [hB2]; simp [z2]
            have SG := hideP (fun w => signed_any q false w hle)
            rw [← hV3, ← hB3] at SG
            have HCZ := hideP hcz
            have hcb : 0 ≤ (ud : Int) * (t : Int) ∧ (ud : Int) * (t : Int) ≤ 18446744073709551615 := by rw [hcz]; omega
            clear hV2 hB2 hV3 hB3 hq hle hct hct1 hcz z2 hu0 hbn
            go_wp2_with fail
            rw [HCZ.out]
            refine (NR.out _).mono ?_
            rintro e w2 ⟨rfl, hb2⟩
            have HW2 := hideP (HW1.out.trans (hb2.mono HW1.out.size))
            clear hb2
            go_wp2_with fail
            refine (SG.out _).mono ?_
            rintro e w3 ⟨rfl, rfl⟩
            go_wp2
            go_ret2
            exact ⟨rfl, HW2.out⟩
      · have hV : V = 0 := by rw [HV.out]; simp [parseV, parseGood, h16]
        have hB : B = false := by rw [HB.out]; simp [parseGood, h16]
        subst hV hB
        clear HL h16 hi hii hj
        go_wp2
        go_ret2
        exact ⟨rfl, HW.out⟩
end Go.Proofs.YtkimbgmjhclghaaDoor
