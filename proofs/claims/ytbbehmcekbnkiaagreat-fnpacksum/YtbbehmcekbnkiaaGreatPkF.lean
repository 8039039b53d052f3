import Derived.Test.YtbbehmcekbnkiaaGreatPpw
import Derived.Test.YtbbehmcekbnkiaaGreatSmn
import Derived.Test.YtbbehmcekbnkiaaGreatSsn
namespace Go.Proofs.YtbbehmcekbnkiaaGreat
open Go.RowKit Go.Shelf
set_option linter.unusedVariables false
set_option linter.unusedSimpArgs false
set_option maxRecDepth 20000 in
set_option maxHeartbeats 16000000 in
theorem packSum_any (ao : Option Addr) (len cap : Nat) (w : World) (hB : len ≤ 1048576 → Bytes w ao len cap) (hl : len ≤ 9223372036854775807) :
 Calls Tryz.prog 3 #[.slice ao len cap] w fun e w' => e = .returned (.bool true) ∧ Below w.heap.size w w' := by
 by_cases h0 : 1048576 < len
 ·have hd0 : decide (1048576 < len) = true := by simp [h0]
  go_enter Tryz.func3, Tryz.ntmps3
  go_wp2_with fail
  refine (big_any ao len cap w hl).mono ?_
  rintro e w1 ⟨rfl, h1⟩
  have h1 := h1.symm
  subst h1
  rw [hd0]
  go_wp2
  go_ret
  exact ⟨rfl, Below.refl _ _⟩
 ·have hd0 : decide (1048576 < len) = false := by simp [h0]
  have HB := hideP (hB (by omega))
  clear hB
  go_enter Tryz.func3, Tryz.ntmps3
  go_wp2_with fail
  refine (big_any ao len cap w hl).mono ?_
  rintro e w1 ⟨rfl, h1⟩
  have h1 := h1.symm
  subst h1
  rw [hd0]
  clear hd0 h0
  go_wp2_with fail
  refine (drawHPack_any ao len cap w HB.out).mono ?_
  rintro e w1 ⟨u, xs, m, s, ⟨rfl, hox, hxl⟩, hb1⟩
  obtain ⟨ua, uc, hue⟩ := own_shp hox
  subst hue
  have HX1 := hideP hox
  have B1 := hideP hb1
  clear hox hb1 HB
  go_wp2_with fail
  refine (implH m s HX1.out rfl (by omega)).mono ?_
  rintro e w2 ⟨pv, rfl, hop, hb2⟩
  have B2 : Hid (Below w.heap.size w w2) := hideP (below_more B1.out hb2 B1.out.size)
  have HX2 := hideP (own_below HX1.out hb2)
  obtain ⟨k, hk⟩ : ∃ k, k = (hpR xs m s).length := ⟨_, rfl⟩
  obtain ⟨⟨z0, z1, z2, z3, z4, z5⟩, hz⟩ : ∃ z : Shr.Sett, z = hpT xs m s := ⟨_, rfl⟩
  rw [← hk] at hop
  rw [← hz]
  obtain ⟨pa, pc, hpe⟩ := own_shp hop
  subst hpe
  have HK := hideP hk
  have HZ := hideP hz
  have HO2 := hideP hop
  have hwz : w1.heap.size ≤ w2.heap.size := hb2.size
  clear hb2 hk hz hop HX1 B1
  have hpk := heap_alloc_new w2 (packO (.slice pa k pc) z0 z1 z2 z3 z4 z5)
  have BA := hideP (below1 w2 (packO (.slice pa k pc) z0 z1 z2 z3 z4 z5))
  go_upto_region 5 with fail
  have HO3 := hideP (own_below HO2.out BA.out)
  have HX3 := hideP (own_below HX2.out BA.out)
  have B3 : Hid (Below w.heap.size w (w2.alloc (packO (.slice pa k pc) z0 z1 z2 z3 z4 z5))) := hideP (B2.out.alloc B2.out.size _)
  obtain ⟨P, hP⟩ : ∃ P, P = w2.heap.size := ⟨_, rfl⟩
  have hPz : P < (w2.alloc (packO (.slice pa k pc) z0 z1 z2 z3 z4 z5)).heap.size := by rw [hP]; simp
  rw [← hP] at hpk
  rw [← hP]
  generalize World.alloc _ _ = W at hpk HO3 HX3 B3 hPz BA ⊢
  clear BA HO2 HX2 B2 hP hwz
  have HPK := hideP hpk
  obtain ⟨r0, r1, r2, r3, r4, r5, r6⟩ := pack_cells hpk
  clear hpk
  cases hA : hpOk xs m s with
  | false =>
   have hk0 : k = 0 := by rw [HK.out]; unfold hpR; rw [hA]; rfl
   subst hk0
   clear hA
   have E0 : Hid ((W.alloc (.cells #[] 36)).ownsRow W.heap.size 36 15 (.slice (some ⟨W.heap.size, 0, none⟩) 0 0) 0 (flatN [])) := hideP ⟨rfl, .inr ⟨_, _, _, rfl, Nat.le_refl _, heap_alloc_new W _, Nat.le_refl _, by unfold maxLen; omega, rfl, rfl⟩⟩
   have BE : Hid (Below w.heap.size w (W.alloc (.cells #[] 36))) := hideP (B3.out.alloc B3.out.size _)
   go_wp2_with fail
   refine (implH 0 0 E0.out rfl (by omega)).mono ?_
   rintro e w4 ⟨pv2, rfl, hop2, hb4⟩
   rw [hp_empty] at hop2
   obtain ⟨pa2, pc2, hpe2⟩ := own_shp hop2
   subst hpe2
   have B4 : Hid (Below w.heap.size w w4) := hideP (below_more BE.out hb4 BE.out.size)
   obtain ⟨⟨y0, y1, y2, y3, y4, y5⟩, hz⟩ : ∃ z : Shr.Sett, z = hpT [] 0 0 := ⟨_, rfl⟩
   rw [← hz]
   have hfl := fun W' => fldP W' (.slice pa2 1 pc2) y0 y1 y2 y3 y4 y5
   clear hb4 hop2 hz E0 BE
   go_wp2
   go_ret
   exact ⟨rfl, B4.out⟩
  | true =>
   have RSM := hideP (row_sum hA)
   have PAG := hideP (pack_again hA)
   have INS := hideP (inside_packed hA)
   have hT : hpR xs m s = hpN xs m s := by unfold hpR; rw [if_pos hA]
   obtain ⟨ys, hys⟩ : ∃ ys, ys = setL (gluesAt xs (begins xs)) (hpL xs m s) xs := ⟨_, rfl⟩
   have hyl : ys.length = xs.length := by rw [hys, setL_len]
   obtain ⟨bx, hbx⟩ : ∃ bx, bx = boxN 6 (hpTo xs m s) (hpS xs).h (hpS xs).d xs.length := ⟨_, rfl⟩
   have hN : hpN xs m s = bx :: ys := by rw [hbx, hys]; rfl
   have hkl : k = ys.length + 1 := by rw [HK.out, hT, hN]; rfl
   have hwd : hpTo xs m s = bx.wd := by rw [hbx]; rfl
   have HOW : Hid (W.ownsRow w1.heap.size 36 15 (.slice pa k pc) k (flatN (bx :: ys))) := hideP (by have h := HO3.out; rw [hT, hN] at h; exact h)
   have HSS : Hid (listB ys = true ∧ bx.wd = alRSum ys (begins ys).length + (if 0 < z0 ∧ z3 ≤ 0 then z2 else 0) - z5 ∧ (m = 1 → bx.wd = s)) := hideP (by
    obtain ⟨a1, a2, a3, a4⟩ := RSM.out
    rw [← hys] at a1 a2 a3
    rw [← HZ.out, hwd] at a3
    rw [hwd] at a4
    exact ⟨a1, a3, a4⟩)
   have HAG : Hid (hpR (bare xs) 1 bx.wd = bx :: ys) := hideP (by
    rw [← hwd]
    unfold hpR
    rw [if_pos PAG.out.1, PAG.out.2, hN])
   have HIN : Hid (Wk.insideOf (bx :: ys) = bare xs) := hideP (by rw [← hN]; exact INS.out)
   have HLX : Hid (listB xs = true) := hideP (hpOk_parts hA).2.1
   have hbw : -1073741823 ≤ bx.wd ∧ bx.wd ≤ 1073741823 := by
    have h1 := (hpOk_parts hA).2.2.2.1
    rw [hwd] at h1
    unfold fitsB at h1
    simp only [Bool.and_eq_true, decide_eq_true_eq] at h1
    omega
   clear RSM PAG INS HO3 hN hA HZ HK hT hwd hbx hys
   obtain ⟨g, gc, hge⟩ := own_some HOW.out (by omega)
   cases hge
   have hgc : k ≤ pc ∧ pc ≤ 9223372036854775807 := own_cap HOW.out _ _ _ rfl
   have hgl : g < W.heap.size := (own_lt HOW.out rfl).2.1
   obtain ⟨n, hn⟩ : ∃ n, n = ys.length := ⟨_, rfl⟩
   have hkn : k = n + 1 := by omega
   have hnb : n ≤ 20001 := by omega
   have HNL := hideP hn
   have HNX : Hid (n = xs.length) := hideP (by omega)
   have hk1 : ¬ (k : Int) = 0 := by omega
   have hk2 : (0 : Int) < (k : Int) := by omega
   have HKK : Hid (k = (bx :: ys).length) := hideP (by simp; omega)
   clear hn hkl hyl
   go_upto_region 7 with fail
   have hkn2 : k = n + 1 := by rw [HKK.out, HNL.out]; rfl
   have HN0 : Hid (NRow 0 W (.slice (some ⟨g, 0, none⟩) (n + 1) pc) (bx :: ys)) := hideP (by rw [← hkn2]; exact SRow.mono ndStable (own_NRow HOW.out HKK.out.symm) (Nat.zero_le _))
   have HC0 : Hid (∀ a n' c, Value.slice (some ⟨g, 0, none⟩) (n + 1) pc = .slice a n' c → n' ≤ c ∧ c ≤ 9223372036854775807) := hideP (by rw [← hkn2]; exact own_cap HOW.out)
   have HL0 : Hid ((bx :: ys).length ≤ 1048576) := hideP (by rw [← HKK.out, hkn2]; omega)
   clear hkn2
   go_wp2_with fail
   refine (Wk.implInside_any HN0.out HL0.out HC0.out).mono ?_
   clear HN0 HC0 HL0
   rintro e w4 ⟨⟨iv, rfl, hiv⟩, hb4⟩
   rw [HIN.out] at hiv
   obtain ⟨va, vc, hve⟩ := own_shp hiv
   subst hve
   have HBL : Hid ((bare xs).length = n) := hideP (by rw [(bare_S xs).2.2.2]; exact HNX.out.symm)
   rw [HBL.out] at hiv
   rw [HBL.out]
   have HIV4 := hideP hiv
   have HOW4 := hideP (own_below HOW.out hb4)
   have HX4 := hideP (own_below HX3.out hb4)
   have hP4 := (hb4.block P hPz).trans HPK.out
   have hg4 : g < w4.heap.size := Nat.lt_of_lt_of_le hgl hb4.size
   have B4 : Hid (Below w.heap.size w w4) := hideP (below_more B3.out hb4 B3.out.size)
   have HPK4 := hideP hP4
   have hP4z : P < w4.heap.size := Nat.lt_of_lt_of_le hPz hb4.size
   clear hb4 hiv HOW HX3 HPK B3 hPz hgl r0 r1 r2 r3 r4 r5 r6
   obtain ⟨r0, r1, r2, r3, r4, r5, r6⟩ := pack_cells hP4
   clear hP4
   obtain ⟨hzc, hzf⟩ := own_cells0 HOW4.out
   have e0 := hzc 0 (by omega)
   have e1 := hzc 1 (by omega)
   have e2 := hzc 2 (by omega)
   have e3 := hzc 3 (by omega)
   have e4 := hzc 4 (by omega)
   have e5 := hzc 5 (by omega)
   have e6 := hzc 6 (by omega)
   have e7 := hzc 7 (by omega)
   have e8 := hzc 8 (by omega)
   have e9 := hzc 9 (by omega)
   have e10 := hzc 10 (by omega)
   have e11 := hzc 11 (by omega)
   have e12 := hzc 12 (by omega)
   have e13 := hzc 13 (by omega)
   have e14 := hzc 14 (by omega)
   simp only [Nd.cells, List.getElem?_cons_zero, List.getElem?_cons_succ] at e0 e1 e2 e3 e4 e5 e6 e7 e8 e9 e10 e11 e12 e13 e14
   clear hzc hzf
   go_upto_region 9 with fail
   have HOB := hideP (own_below HOW4.out (below1 w4 (ndO bx)))
   have HXB := hideP (own_below HX4.out (below1 w4 (ndO bx)))
   have HIB := hideP (own_below HIV4.out (below1 w4 (ndO bx)))
   have BB : Hid (Below w.heap.size w (w4.alloc (ndO bx))) := hideP (B4.out.alloc B4.out.size _)
   have hBX := heap_alloc_new w4 (ndO bx)
   have hPB := ((below1 w4 (ndO bx)).block P hP4z).trans HPK4.out
   have hPBz : P < (w4.alloc (ndO bx)).heap.size := by simp; omega
   have hQz : w4.heap.size < (w4.alloc (ndO bx)).heap.size := by simp
   obtain ⟨Q, hQ⟩ : ∃ Q, Q = w4.heap.size := ⟨_, rfl⟩
   rw [← hQ] at hBX hQz
   rw [← hQ]
   generalize World.alloc _ _ = V at HOB HXB HIB BB hBX hPB hPBz hQz ⊢
   clear hQ HOW4 HX4 HIV4 B4 HPK4 hg4 hP4z e0 e1 e2 e3 e4 e5 e6 e7 e8 e9 e10 e11 e12 e13 e14 r0 r1 r2 r3 r4 r5 r6
   obtain ⟨r0, r1, r2, r3, r4, r5, r6⟩ := pack_cells hPB
   have HBX := hideP hBX
   have HPB := hideP hPB
   clear hBX hPB
   obtain ⟨mI, hmI⟩ : ∃ mI, mI = (itemsOf ys).length := ⟨_, rfl⟩
   have HMI := hideP hmI
   have hmb : mI = (begins ys).length := by rw [hmI, items_len HSS.out.1]
   have HMB := hideP hmb
   have hm20 : mI ≤ 20001 := by
    have h2 : (begins ys).length ≤ ys.length := by have := starts_count (xs := ys) (ys.length + 1) 0; unfold begins; omega
    have := HNL.out
    omega
   clear hmI hmb
   go_upto_region 10 with fail
   go_cut [10] (fun s10 wc => ∃ ia ic, s10 = .slice ia mI ic ∧ Hid (ItQ wc ia mI (fun i => (itemsOf ys).getD i [])) ∧ Hid (Below V.heap.size V wc))
   case first =>
    have HT0 : Hid (∀ o c', (0 < ys.length → o = 15) → NRow 0 V (.slice (some ⟨g, o, none⟩) n c') ys) := hideP (fun o c' ho => by have h := tail_N HOB.out (by have := HNL.out; omega) o c' ho; rw [HNL.out]; exact h)
    go_wp2_with fail
    all_goals
     refine (itemsN (HT0.out _ _ (by have := HNL.out; omega)) (by have := HNL.out; omega) (by rintro a n' c' ⟨⟩; omega)).mono ?_
     rintro e w6 ⟨⟨ia, ic, rfl, hq⟩, hb6⟩
     rw [← HMI.out] at hq
     rw [← HMI.out]
     have HQ6 := hideP hq
     have HB6 := hideP hb6
     clear hq hb6
     go_wp2
     go_meet
     exact ⟨_, _, rfl, HQ6, HB6⟩
   case rest =>
    obtain ⟨ia, ic, rfl, HQ, HBV⟩ := hcut
    have HBI2 : Hid (∀ i, i < (begins ys).length → NdIn (hdN ys i)) := hideP (fun i hi => hd_in HSS.out.1 hi)
    have hPV := (HBV.out.block P hPBz).trans HPB.out
    have hQV := (HBV.out.block Q hQz).trans HBX.out
    obtain ⟨S, hS⟩ : ∃ S : World, S = wc := ⟨_, rfl⟩
    have BS : Hid (Below w.heap.size w S) := hideP (by rw [hS]; exact below_more BB.out HBV.out BB.out.size)
    have HOS := hideP (own_below HOB.out HBV.out)
    have HXS := hideP (own_below HXB.out HBV.out)
    have HIS := hideP (own_below HIB.out HBV.out)
    rw [← hS] at HQ hPV hQV HOS HXS HIS
    rw [← hS]
    clear hS HBV BB HOB HXB HIB hPBz hQz HPB HBX r0 r1 r2 r3 r4 r5 r6
    have HPV := hideP hPV
    have HQV := hideP hQV
    clear hPV hQV
    have HBD := hideP (alRSum_bd (ys := ys) (fun i hi => alR_bd (HBI2.out i hi)))
    go_wp2_with fail
    go_loopw [9, 11] (fun s9 s11 wi => ∃ i : Nat, i ≤ mI ∧ s11 = .int .i64 (i : Int) ∧ s9 = .int .i64 (alRSum ys i) ∧ Hid (Below S.heap.size S wi)) (fun _ s11 _ => mI - (intOf s11).toNat)
    case atStart => exact ⟨0, Nat.zero_le _, rfl, rfl, hideP (Below.refl _ _)⟩
    case round =>
     obtain ⟨i, hi, rfl, rfl, BI⟩ := hrel
     obtain ⟨A, hA⟩ : ∃ A, A = alRSum ys i := ⟨_, rfl⟩
     have hAb := HBD.out i (by have := HMB.out; omega)
     rw [← hA] at hAb
     rw [← hA]
     have HA := hideP hA
     have hA1 : -43000000000000 ≤ A ∧ A ≤ 43000000000000 := by omega
     clear hA hAb
     by_cases hlt : i < mI
     ·as_aux_lemma =>
       have hli : (i : Int) < (mI : Int) := by omega
       have hib : i < (begins ys).length := by have := HMB.out; omega
       have hq := HQ.out
       rw [HMI.out] at hq
       obtain ⟨g', gu, L, c', hia, hg', hgu, hcu, hcl⟩ := hq.head HSS.out.1 hib BI.out
       subst hia
       have halb := alR_bd (HBI2.out i hib)
       obtain ⟨x, hx⟩ : ∃ x, x = hdN ys i := ⟨_, rfl⟩
       rw [← hx] at hcl halb
       have HX := hideP hx
       clear hx hq
       have e0 := hcl 0 (by omega)
       have e1 := hcl 1 (by omega)
       have e2 := hcl 2 (by omega)
       have e3 := hcl 3 (by omega)
       have e4 := hcl 4 (by omega)
       have e5 := hcl 5 (by omega)
       have e6 := hcl 6 (by omega)
       have e7 := hcl 7 (by omega)
       have e8 := hcl 8 (by omega)
       have e9 := hcl 9 (by omega)
       have e10 := hcl 10 (by omega)
       have e11 := hcl 11 (by omega)
       have e12 := hcl 12 (by omega)
       have e13 := hcl 13 (by omega)
       have e14 := hcl 14 (by omega)
       simp only [Nd.cells, List.getElem?_cons_zero, List.getElem?_cons_succ] at e0 e1 e2 e3 e4 e5 e6 e7 e8 e9 e10 e11 e12 e13 e14
       have HAL := hideP (alongR_any x)
       obtain ⟨Bv, hBv⟩ : ∃ Bv, Bv = alR x := ⟨_, rfl⟩
       rw [← hBv] at HAL halb
       have HBv := hideP hBv
       clear hcl hBv
       have hL0 : (0 : Int) < (L : Int) + 1 := by omega
       go_wp2_with fail
       refine (HAL.out _).mono ?_
       rintro e w7 ⟨rfl, hb7⟩
       have BI7 : Hid (Below S.heap.size S w7) := hideP (below_more BI.out hb7 BI.out.size)
       clear hb7 BI e0 e1 e2 e3 e4 e5 e6 e7 e8 e9 e10 e11 e12 e13 e14 hcu hgu hg'
       go_wp2
       go_roundw
       case rel => exact ⟨i + 1, by omega, by go_num, by rw [alRSum, HA.out, HBv.out, HX.out], BI7⟩
       case measure => simp [intOf]; omega
     ·as_aux_lemma =>
       have hli : ¬ (i : Int) < (mI : Int) := by omega
       obtain rfl : i = mI := by omega
       have hPw := (BI.out.block P (Array.getElem?_eq_some_iff.1 HPV.out).1).trans HPV.out
       have hQw := (BI.out.block Q (Array.getElem?_eq_some_iff.1 HQV.out).1).trans HQV.out
       obtain ⟨r0, r1, r2, r3, r4, r5, r6⟩ := pack_cells hPw
       obtain ⟨b0, b1, b2, b3, b4, b5, b6, b7, b8, b9, b10, b11, b12, b13, b14⟩ := nd_15 hQw
       have hPl : P < wr.heap.size := (Array.getElem?_eq_some_iff.1 hPw).1
       have hQl : Q < wr.heap.size := (Array.getElem?_eq_some_iff.1 hQw).1
       clear hPw hQw b0 b2 b3 b4 b5 b6 b7 b8 b9 b10 b11 b12 b13 b14
       have HH : Hid (bx.wd = A + (if 0 < z0 ∧ z3 ≤ 0 then z2 else 0) - z5) := hideP (by rw [HSS.out.2.1, HA.out, HMB.out])
       have HM1 := hideP HSS.out.2.2
       have BW : Hid (Below w.heap.size w wr) := hideP (below_more BS.out BI.out BS.out.size)
       go_upto_region 16 with fail
       go_cut [74] (fun s74 wc => (∃ t : Bool, s74 = .bool t ∧ (t = true ↔ 0 < z0 ∧ z3 ≤ 0)) ∧ wc = wr)
       case first =>
        by_cases hz0 : 0 < z0
        ·by_cases hz3 : z3 ≤ 0
         ·have q1 : decide (0 < z0) = true := by simp [hz0]
          have q2 : decide (z3 ≤ 0) = true := by simp [hz3]
          go_wp2
          go_meet
          case rel => exact ⟨⟨_, rfl, by simp [hz0, hz3]⟩, rfl⟩
         ·have q1 : decide (0 < z0) = true := by simp [hz0]
          have q2 : decide (z3 ≤ 0) = false := by simp [hz3]
          go_wp2
          go_meet
          case rel => exact ⟨⟨_, rfl, by simp [hz0, hz3]⟩, rfl⟩
        ·have q1 : decide (0 < z0) = false := by simp [hz0]
         go_wp2
         go_meet
         case rel => exact ⟨⟨_, rfl, by simp; intro h; omega⟩, rfl⟩
       case rest =>
        obtain ⟨⟨t, rfl, htt⟩, hwc⟩ := hcut
        subst hwc
        go_upto_if 74 with fail
        go_cut [12] (fun s12 wd => (∃ L : Int, s12 = .int .i64 L ∧ bx.wd = A + L - z5) ∧ wd = wc)
        case first =>
         cases t with
         | true =>
          have hL := HH.out
          rw [if_pos (htt.1 rfl)] at hL
          have HL := hideP hL
          clear hL htt
          go_wp2
          go_meet
          case rel => exact ⟨⟨_, rfl, HL.out⟩, rfl⟩
         | false =>
          have hL := HH.out
          rw [if_neg (fun h => by have := htt.2 h; cases this)] at hL
          have HL := hideP hL
          clear hL htt
          go_wp2
          go_meet
          case rel => exact ⟨⟨_, rfl, HL.out⟩, rfl⟩
        case rest =>
         rename_i wd
         obtain ⟨⟨L, rfl, hL⟩, hwd⟩ := hcut
         subst hwd
         have hE : wrap64 (wrap64 (A + L) - z5) = bx.wd := by
          unfold wrap64
          omega
         clear hL HH htt
         go_upto_region 18 with fail
         go_cut [97] (fun s97 we => s97 = .bool false ∧ we = wc)
         case first =>
          by_cases hm : m = 1
          ·have hs := HM1.out hm
           have q1 : decide (m = 1) = true := by simp [hm]
           have q2 : (m == 1) = true := by simp [hm]
           have q3 : decide (bx.wd = s) = true := by simp [hs]
           have q4 : (bx.wd != s) = false := by simp [hs]
           have q5 : (bx.wd == s) = true := by simp [hs]
           clear hs hm
           go_wp2
           all_goals go_meet
           all_goals exact ⟨by simp, rfl⟩
          ·have q1 : decide (m = 1) = false := by simp [hm]
           have q2 : (m == 1) = false := by simp [hm]
           go_wp2
           all_goals go_meet
           all_goals exact ⟨by simp, rfl⟩
         case rest =>
          obtain ⟨rfl, hwe⟩ := hcut
          subst hwe
          as_aux_lemma =>
           have HXR0 := hideP (own_below HXS.out BI.out)
           have HIR0 := hideP (own_below HIS.out BI.out)
           have HOR0 := hideP (own_below HOS.out BI.out)
           have hPw := (BI.out.block P (Array.getElem?_eq_some_iff.1 HPV.out).1).trans HPV.out
           have hQw := (BI.out.block Q (Array.getElem?_eq_some_iff.1 HQV.out).1).trans HQV.out
           obtain ⟨R, hR⟩ : ∃ R : World, R = wc := ⟨_, rfl⟩
           rw [← hR] at HXR0 HIR0 HOR0 hPw hQw BW
           rw [← hR]
           have HPR := hideP hPw
           have HQR := hideP hQw
           clear hR hPw hQw HXS HIS HOS HPV HQV BI BS HQ HMI HMB HBI2 HBD HA HM1 hE hA1 r0 r1 r2 r3 r4 r5 r6 b1 hPl hQl HSS hm20
           obtain ⟨lx, hlx⟩ : ∃ lx, lx = xs.length := ⟨_, rfl⟩
           have HLXL := hideP hlx
           have HXR : Hid (R.ownsRow w.heap.size 36 15 (.slice ua lx uc) lx (flatN xs)) := hideP (by rw [hlx]; exact HXR0.out)
           have hlb : lx ≤ 20001 := by omega
           rw [← hlx]
           clear HXR0 hlx
           have D0 : Hid ((R.alloc (.cells #[] 36)).ownsRow R.heap.size 36 15 (.slice (some ⟨R.heap.size, 0, none⟩) 0 0) 0 (flatN [])) := hideP ⟨rfl, .inr ⟨_, _, _, rfl, Nat.le_refl _, heap_alloc_new R _, Nat.le_refl _, by unfold maxLen; omega, rfl, rfl⟩⟩
           have NA := hideP (own_NN (own_below HXR.out (below1 R (.cells #[] 36))) HLXL.out.symm)
           have B9 := hideP (below1 R (.cells #[] 36))
           go_wp2_with (at_builtin; refine wpList_appN rfl _ _ rfl R.heap.size (.slice (some ⟨R.heap.size, 0, none⟩) 0 0) 0 [] rfl D0.out _ xs rfl NA.out (by omega) (by simp) ?_; intro v9 w9 ho9 hg9 hat9; have B10 : Hid (Below R.heap.size R w9) := hideP (Below.grown B9.out hg9 B9.out.size (fun g hg => (own_lt D0.out hg).1)); rw [Nat.zero_add, List.nil_append, ← HLXL.out] at ho9; have HO9 := hideP ho9; obtain ⟨a9, c9, h9⟩ := own_shp ho9; subst h9; clear ho9 hg9 hat9 NA B9 D0)
           have HX9 := hideP (own_below HXR.out B10.out)
           have HN9 : Hid (NRow 0 w9 (.slice ua lx uc) xs) := hideP (SRow.mono ndStable (own_NRow HX9.out HLXL.out.symm) (Nat.zero_le _))
           have HC9 := hideP (own_cap HX9.out)
           refine (itemsH HLX.out HN9.out (by rw [← HLXL.out]; omega) HC9.out).mono ?_
           clear HN9 HC9 HX9 HXR
           rintro e w10 ⟨⟨ja, jc, rfl, hq⟩, hb10⟩
           obtain ⟨nB, hnB⟩ : ∃ nB, nB = (begins xs).length := ⟨_, rfl⟩
           rw [← hnB]
           have HNB := hideP hnB
           have hnB2 : nB ≤ 20001 := by
            have h2 : (begins xs).length ≤ xs.length := by have := starts_count (xs := xs) (xs.length + 1) 0; unfold begins; omega
            omega
           clear hnB
           have HP10 := hideP (own_below HO9.out hb10)
           have B11 : Hid (Below R.heap.size R w10) := hideP (below_more B10.out hb10 B10.out.size)
           have hg9 : 0 < lx → ∃ g9, a9 = some ⟨g9, 0, none⟩ ∧ R.heap.size ≤ g9 ∧ g9 < w9.heap.size := by
            intro hp
            obtain ⟨g9, c, he⟩ := own_some HO9.out hp
            cases he
            exact ⟨g9, rfl, (own_lt HO9.out rfl).1, (own_lt HO9.out rfl).2.1⟩
           obtain ⟨Bq, hBq⟩ : ∃ Bq, Bq = w9.heap.size := ⟨_, rfl⟩
           rw [← hBq] at hq hg9
           have HG9 := hideP hg9
           have HQ10 := hideP hq
           clear hBq hq hb10 HO9 B10 hg9
           go_wp2_with fail
           go_loopw [15, 16] (fun s15 s16 wi => ∃ j : Nat, j ≤ nB ∧ s16 = .int .i64 (j : Int) ∧ s15 = .int .i64 ((ofN xs j : Nat) : Int) ∧ Hid (wi.ownsRow R.heap.size 36 15 (.slice a9 lx c9) lx (flatN (zerN xs j))) ∧ Hid (HdQ Bq wi ja xs) ∧ Hid (Below R.heap.size R wi)) (fun _ s16 _ => nB - (intOf s16).toNat)
           case atStart => exact ⟨0, Nat.zero_le _, rfl, by rw [ofN_zero]; rfl, hideP (by rw [zerN_0]; exact HP10.out), HQ10, B11⟩
           case round =>
            obtain ⟨j, hj, rfl, rfl, HP, HD, BJ⟩ := hrel
            clear HP10 HQ10 B11
            obtain ⟨p, hp⟩ : ∃ p, p = ofN xs j := ⟨_, rfl⟩
            rw [← hp]
            have HPO := hideP hp
            clear hp
            by_cases hjl : j < nB
            ·as_aux_lemma =>
              have hji : (j : Int) < (nB : Int) := by omega
              have hjb : j < (begins xs).length := by rw [← HNB.out]; exact hjl
              obtain ⟨g1, gu, LL, c1, hja, hg1, hgu, hcu, hLL, hcl⟩ := HD.out j hjb
              subst hja
              obtain ⟨x, hx⟩ : ∃ x, x = hdN xs j := ⟨_, rfl⟩
              rw [← hx] at hcl
              have hpl : p < lx := by rw [HPO.out, HLXL.out]; exact ofN_lt HLX.out hjb
              have HSU : Hid (ofN xs (j + 1) = p + (LL + 1)) := hideP (by rw [ofN_succ HLX.out hjb, ← hLL, HPO.out])
              have hpLL : p + (LL + 1) ≤ 20001 := by
               rw [← HSU.out]
               have h1 := ofN_le HLX.out (j + 1)
               omega
              obtain ⟨g9, hga, hgb, hgd⟩ := HG9.out (by omega)
              subst hga
              have HXX := hideP hx
              have hL0 : (0 : Int) < (LL : Int) + 1 := by omega
              have hpi : (p : Int) < (lx : Int) := by omega
              have e0 := hcl 0 (by omega)
              have e1 := hcl 1 (by omega)
              have e2 := hcl 2 (by omega)
              have e3 := hcl 3 (by omega)
              have e4 := hcl 4 (by omega)
              have e5 := hcl 5 (by omega)
              have e6 := hcl 6 (by omega)
              have e7 := hcl 7 (by omega)
              have e8 := hcl 8 (by omega)
              have e9 := hcl 9 (by omega)
              have e10 := hcl 10 (by omega)
              have e11 := hcl 11 (by omega)
              have e12 := hcl 12 (by omega)
              have e13 := hcl 13 (by omega)
              have e14 := hcl 14 (by omega)
              simp only [Nd.cells, List.getElem?_cons_zero, List.getElem?_cons_succ] at e0 e1 e2 e3 e4 e5 e6 e7 e8 e9 e10 e11 e12 e13 e14
              clear hcl hx hLL
              by_cases hk3 : x.k = 3
              ·have HZ := hideP (zer_glue HLX.out hjb (by rw [← HXX.out]; exact hk3))
               have HZL : Hid (p < (zerN xs j).length) := hideP (by rw [zerN_len, ← HLXL.out]; exact hpl)
               obtain ⟨hcw, hfz⟩ := own_cell HP.out (flatN_at _ p HZL.out 1 (by omega) (u := .int .i64 ((zerN xs j).getD p Nd.none).wd) rfl)
               obtain ⟨wd0, hwd0⟩ : ∃ z, z = ((zerN xs j).getD p Nd.none).wd := ⟨_, rfl⟩
               rw [← hwd0] at hcw
               have d3 : decide (x.k = 3) = true := by simp [hk3]
               have f3 : (x.k == 3) = true := by simp [hk3]
               clear hwd0
               go_wp2
               go_roundw
               case rel => exact ⟨j + 1, by omega, by go_num, by rw [HSU.out]; go_num, hideP (by rw [HZ.out, ← HPO.out]; exact own_set HP.out _ _), hideP (HD.out.set hgd), hideP (BJ.out.setCell (p := ⟨g9, p * 15 + 1, none⟩) hgb _)⟩
               case measure => simp [intOf]; omega
              ·have HZ := hideP (zer_other HLX.out hjb (by rw [← HXX.out]; exact hk3))
               have d3 : decide (x.k = 3) = false := by simp [hk3]
               have f3 : (x.k == 3) = false := by simp [hk3]
               go_wp2
               go_roundw
               case rel => exact ⟨j + 1, by omega, by go_num, by rw [HSU.out]; go_num, hideP (by rw [HZ.out]; exact HP.out), HD, BJ⟩
               case measure => simp [intOf]; omega
            ·as_aux_lemma =>
              have hji : ¬ (j : Int) < (nB : Int) := by omega
              have HPL : Hid (wr.ownsRow R.heap.size 36 15 (.slice a9 lx c9) lx (flatN (bare xs))) := hideP (by rw [← zerN_all, ← HNB.out, show nB = j by omega]; exact HP.out)
              have HIW := hideP (own_below HIR0.out BJ.out)
              have HOW7 := hideP (own_below HOR0.out BJ.out)
              have hPw := (BJ.out.block P (Array.getElem?_eq_some_iff.1 HPR.out).1).trans HPR.out
              have hQw := (BJ.out.block Q (Array.getElem?_eq_some_iff.1 HQR.out).1).trans HQR.out
              have BWJ : Hid (Below w.heap.size w wr) := hideP (below_more BW.out BJ.out BW.out.size)
              have b1 := (nd_15 hQw).2.1
              have HPW := hideP hPw
              clear hPw hQw BJ BW HPR HQR HIR0 HOR0 HP HD HG9 HPO HNB
              go_wp2_with fail
              refine (implH 1 bx.wd HIW.out HBL.out (by omega)).mono ?_
              rintro e w12 ⟨qv, rfl, hoq, hb12⟩
              rw [HAG.out, ← HKK.out] at hoq
              obtain ⟨qa, qc, hqe⟩ := own_shp hoq
              subst hqe
              obtain ⟨⟨y0, y1, y2, y3, y4, y5⟩, hy⟩ : ∃ z : Shr.Sett, z = hpT (bare xs) 1 bx.wd := ⟨_, rfl⟩
              rw [← hy]
              have HOQ := hideP hoq
              have HPL2 := hideP (own_below HPL.out hb12)
              have HIW2 := hideP (own_below HIW.out hb12)
              have HOW8 := hideP (own_below HOW7.out hb12)
              have hPw := (hb12.block P (Array.getElem?_eq_some_iff.1 HPW.out).1).trans HPW.out
              have BW2 : Hid (Below w.heap.size w w12) := hideP (below_more BWJ.out hb12 BWJ.out.size)
              have HPW2 := hideP hPw
              clear hy hoq hb12 hPw HPL HIW HOW7 HPW BWJ b1 hkn hk1 hk2
              have BA2 := hideP (below1 w12 (packO (.slice qa k qc) y0 y1 y2 y3 y4 y5))
              have hQQ := heap_alloc_new w12 (packO (.slice qa k qc) y0 y1 y2 y3 y4 y5)
              have HOQ3 := hideP (own_below HOQ.out BA2.out)
              have HPL3 := hideP (own_below HPL2.out BA2.out)
              have HIW3 := hideP (own_below HIW2.out BA2.out)
              have HOW9 := hideP (own_below HOW8.out BA2.out)
              have hPw3 := (BA2.out.block P (Array.getElem?_eq_some_iff.1 HPW2.out).1).trans HPW2.out
              have BW3 : Hid (Below w.heap.size w (w12.alloc (packO (.slice qa k qc) y0 y1 y2 y3 y4 y5))) := hideP (BW2.out.alloc BW2.out.size _)
              go_wp2_with fail
              obtain ⟨Q2, hQ2⟩ : ∃ Q2, Q2 = w12.heap.size := ⟨_, rfl⟩
              rw [← hQ2] at hQQ
              rw [← hQ2]
              generalize World.alloc _ _ = W12 at BA2 hQQ HOQ3 HPL3 HIW3 HOW9 hPw3 BW3 ⊢
              clear hQ2 BA2 HOQ HPL2 HIW2 HOW8 HPW2 BW2
              have HQQ := hideP hQQ
              have HPW3 := hideP hPw3
              clear hQQ hPw3
              have NI : Hid (NRow 0 W12 (.slice va n vc) (bare xs)) := hideP (SRow.mono ndStable (own_NRow HIW3.out HBL.out) (Nat.zero_le _))
              have NP : Hid (NRow 0 W12 (.slice a9 lx c9) (bare xs)) := hideP (SRow.mono ndStable (own_NRow HPL3.out (by rw [HBL.out, HNX.out, HLXL.out])) (Nat.zero_le _))
              refine (sameNodes_any NI.out NP.out (by rw [HBL.out]; omega)).mono ?_
              rintro e w14 ⟨rfl, hb14⟩
              have hQ14 := (hb14.block Q2 (Array.getElem?_eq_some_iff.1 HQQ.out).1).trans HQQ.out
              have hP14 := (hb14.block P (Array.getElem?_eq_some_iff.1 HPW3.out).1).trans HPW3.out
              have HOQ4 := hideP (own_below HOQ3.out hb14)
              have HOWA := hideP (own_below HOW9.out hb14)
              have BW4 : Hid (Below w.heap.size w w14) := hideP (below_more BW3.out hb14 BW3.out.size)
              have r0 := (pack_cells hQ14).1
              have s0 := (pack_cells hP14).1
              have NQ : Hid (NRow 0 w14 (.slice qa k qc) (bx :: ys)) := hideP (SRow.mono ndStable (own_NRow HOQ4.out HKK.out.symm) (Nat.zero_le _))
              have NS : Hid (NRow 0 w14 (.slice (some ⟨g, 0, none⟩) k pc) (bx :: ys)) := hideP (SRow.mono ndStable (own_NRow HOWA.out HKK.out.symm) (Nat.zero_le _))
              have hkb : k ≤ 20002 := by rw [HKK.out]; simp only [List.length_cons]; have := HNL.out; omega
              clear hQ14 hP14 hb14 HOQ4 HOWA HQQ HPW3 HOQ3 HPL3 HIW3 HOW9 BW3 NI NP
              go_wp2_with fail
              refine (sameNodes_any NQ.out NS.out (by rw [← HKK.out]; omega)).mono ?_
              rintro e w15 ⟨rfl, hb15⟩
              have BW5 : Hid (Below w.heap.size w w15) := hideP (below_more BW4.out hb15 BW4.out.size)
              clear hb15 r0 s0
              go_wp2
              go_ret
              exact ⟨rfl, BW5.out⟩
end Go.Proofs.YtbbehmcekbnkiaaGreat
