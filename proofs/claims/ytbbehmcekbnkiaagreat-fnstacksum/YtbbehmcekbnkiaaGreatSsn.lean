import Derived.Test.YtbbehmcekbnkiaaGreatSsp
namespace Go.Proofs.YtbbehmcekbnkiaaGreat
open Go.RowKit Go.Shelf
set_option linter.unusedVariables false
set_option linter.unusedSimpArgs false
theorem itemsN {w : World} {v : Value} {ys : List Nd} (h : NRow 0 w v ys) (hs : ys.length ≤ 1048576) (hcp : ∀ a n c, v = .slice a n c → n ≤ c ∧ c ≤ 9223372036854775807) :
 Calls Tryz.prog 12 #[v] w fun e W' => (∃ a c, e = .returned (.slice a (itemsOf ys).length c) ∧ ItQ W' a (itemsOf ys).length (fun i => (itemsOf ys).getD i [])) ∧ Below w.heap.size w W' := by
 refine (callsIn_wide.1 (implItems_in h hs hcp)).mono ?_
 rintro e w' ⟨⟨u, vs, rfl, h1, h2⟩, hb⟩
 obtain ⟨a, c, rfl, _⟩ := own25_shape h1
 exact ⟨⟨a, c, rfl, ItQ.of h1 h2⟩, hb⟩
theorem ItQ.head {S X : World} {a : Option Addr} {ys : List Nd} (hq : ItQ S a (itemsOf ys).length (fun i => (itemsOf ys).getD i [])) (hL : listB ys = true) {i : Nat} (hi : i < (begins ys).length) (hX : Below S.heap.size S X) :
 ∃ g gu L c, a = some ⟨g, 0, none⟩ ∧ g < X.heap.size ∧ gu < X.heap.size ∧ X.cell? ⟨g, i, none⟩ = some (.slice (some ⟨gu, 0, none⟩) (L + 1) c) ∧ ∀ j, j < 15 → X.cell? ⟨gu, j, none⟩ = (hdN ys i).cells[j]? := by
 obtain ⟨g, u, base, h1, h2, h3⟩ := hq i (by rw [items_len hL]; exact hi)
 obtain ⟨t, ht⟩ := item_head hL hi
 obtain ⟨hc, ho⟩ := h3 X hX
 have ho' : X.ownsRow base 36 15 u (t.length + 1) (flatN (hdN ys i :: t)) := by
  have : (itemsOf ys).getD i [] = hdN ys i :: t := ht
  simp only [this] at ho
  exact ho
 obtain ⟨gu, c, rfl⟩ := own_some ho' (by omega)
 exact ⟨g, gu, t.length, c, h1, Nat.lt_of_lt_of_le h2 hX.size, (own_lt ho' rfl).2.1, hc, (own_cells0 ho').1⟩
set_option maxRecDepth 20000 in
set_option maxHeartbeats 16000000 in
theorem stackSum_any (ao : Option Addr) (len cap : Nat) (w : World) (hB : len ≤ 1048576 → Bytes w ao len cap) (hl : len ≤ 9223372036854775807) :
 Calls Tryz.prog 4 #[.slice ao len cap] w fun e w' => e = .returned (.bool true) ∧ Below w.heap.size w w' := by
 by_cases h0 : 1048576 < len
 ·as_aux_lemma =>
   have hd0 : decide (1048576 < len) = true := by simp [h0]
   go_enter Tryz.func4, Tryz.ntmps4
   go_wp2_with fail
   refine (big_any ao len cap w hl).mono ?_
   rintro e w1 ⟨rfl, h1⟩
   have h1 := h1.symm
   subst h1
   rw [hd0]
   go_wp2
   go_ret
   exact ⟨rfl, Below.refl _ _⟩
 ·as_aux_lemma =>
   have hd0 : decide (1048576 < len) = false := by simp [h0]
   have HB := hideP (hB (by omega))
   clear hB
   go_enter Tryz.func4, Tryz.ntmps4
   go_wp2_with fail
   refine (big_any ao len cap w hl).mono ?_
   rintro e w1 ⟨rfl, h1⟩
   have h1 := h1.symm
   subst h1
   rw [hd0]
   clear hd0 h0
   go_wp2_with fail
   refine (drawVPack_any ao len cap w HB.out).mono ?_
   rintro e w1 ⟨u, xs, m, s, d, ⟨rfl, hox, hxl⟩, hb1⟩
   obtain ⟨ua, uc, hue⟩ := own_shp hox
   subst hue
   have HX1 := hideP hox
   have B1 := hideP hb1
   clear hox hb1 HB
   go_wp2_with fail
   refine (implV d m s HX1.out rfl (by omega)).mono ?_
   rintro e w2 ⟨pv, rfl, hop, hb2⟩
   have B2 : Hid (Below w.heap.size w w2) := hideP (below_more B1.out hb2 B1.out.size)
   obtain ⟨k, hk⟩ : ∃ k, k = (vpR xs d m s).length := ⟨_, rfl⟩
   obtain ⟨⟨z0, z1, z2, z3, z4, z5⟩, hz⟩ : ∃ z : Shr.Sett, z = vpT xs d m s := ⟨_, rfl⟩
   rw [← hk] at hop
   rw [← hz]
   obtain ⟨pa, pc, hpe⟩ := own_shp hop
   subst hpe
   have HK := hideP hk
   have HZ := hideP hz
   have HO2 := hideP hop
   have hwz : w1.heap.size ≤ w2.heap.size := hb2.size
   clear hb2 hk hz hop HX1 B1
   have hpk := heap_alloc_new w2 (packO (.slice pa k pc) z0 z1 z2 z3 z4 z5)
   have BA := hideP (below1 w2 (packO (.slice pa k pc) z0 z1 z2 z3 z4 z5))
   go_upto_region 5 with fail
   have HO3 := hideP (own_below HO2.out BA.out)
   have B3 : Hid (Below w.heap.size w (w2.alloc (packO (.slice pa k pc) z0 z1 z2 z3 z4 z5))) := hideP (B2.out.alloc B2.out.size _)
   obtain ⟨P, hP⟩ : ∃ P, P = w2.heap.size := ⟨_, rfl⟩
   have hPz : P < (w2.alloc (packO (.slice pa k pc) z0 z1 z2 z3 z4 z5)).heap.size := by rw [hP]; simp
   rw [← hP] at hpk
   rw [← hP]
   generalize World.alloc _ _ = W at hpk HO3 B3 hPz BA ⊢
   clear BA HO2 B2 hP hwz
   have HPK := hideP hpk
   obtain ⟨r0, r1, r2, r3, r4, r5, r6⟩ := pack_cells hpk
   clear hpk
   cases hA : vpA xs d m s with
   | false =>
    have hk0 : k = 0 := by rw [HK.out, (vp_no hA).1]; rfl
    subst hk0
    clear hA
    have E0 : Hid ((W.alloc (.cells #[] 36)).ownsRow W.heap.size 36 15 (.slice (some ⟨W.heap.size, 0, none⟩) 0 0) 0 (flatN [])) := hideP ⟨rfl, .inr ⟨_, _, _, rfl, Nat.le_refl _, heap_alloc_new W _, Nat.le_refl _, by unfold maxLen; omega, rfl, rfl⟩⟩
    have BE : Hid (Below w.heap.size w (W.alloc (.cells #[] 36))) := hideP (B3.out.alloc B3.out.size _)
    go_wp2_with fail
    refine (implV 0 0 0 E0.out rfl (by omega)).mono ?_
    rintro e w4 ⟨pv2, rfl, hop2, hb4⟩
    rw [vp_empty] at hop2
    obtain ⟨pa2, pc2, hpe2⟩ := own_shp hop2
    subst hpe2
    have B4 : Hid (Below w.heap.size w w4) := hideP (below_more BE.out hb4 BE.out.size)
    obtain ⟨⟨y0, y1, y2, y3, y4, y5⟩, hz⟩ : ∃ z : Shr.Sett, z = vpT [] 0 0 0 := ⟨_, rfl⟩
    rw [← hz]
    have hfl := fun W' => fldP W' (.slice pa2 1 pc2) y0 y1 y2 y3 y4 y5
    clear hb4 hop2 hz E0 BE
    go_wp2
    go_ret
    exact ⟨rfl, B4.out⟩
   | true =>
    obtain ⟨eR, eT⟩ := vp_yes hA
    have SS := hideP (stack_sum hA)
    obtain ⟨ys, hys⟩ : ∃ ys, ys = setL (gluesAt xs (begins xs)) (vpL xs d m s) xs := ⟨_, rfl⟩
    have hyl : ys.length = xs.length := by rw [hys, setL_len]
    obtain ⟨bx, hbx⟩ : ∃ bx, bx = boxN 7 (vpS xs d).h (vpTo xs d m s) (vpS xs d).d xs.length := ⟨_, rfl⟩
    have hN : vpR xs d m s = bx :: ys := by rw [eR, hbx, hys]; rfl
    have hkl : k = ys.length + 1 := by rw [HK.out, hN]; rfl
    have HOW : Hid (W.ownsRow w1.heap.size 36 15 (.slice pa k pc) k (flatN (bx :: ys))) := hideP (by have h := HO3.out; rw [hN] at h; exact h)
    have HSS : Hid (listB ys = true ∧ vpTo xs d m s + (vpS xs d).d = alSum ys (begins ys).length + (if 0 < z0 ∧ z3 ≤ 0 then z2 else 0) - z5 ∧ (vpS xs d).d ≤ d ∧ (m = 1 → vpTo xs d m s = s) ∧ (begins ys = [] → (vpS xs d).d = 0) ∧ ∀ i, i + 1 = (begins ys).length → if pileB (hdN ys i) then (vpS xs d).d ≤ (hdN ys i).dp else (vpS xs d).d = 0) := hideP (by
     obtain ⟨a1, a2, a3, a4, a5, a6, a7⟩ := SS.out
     rw [← hys] at a1 a2 a3 a6 a7
     rw [← HZ.out] at a3
     exact ⟨a1, a3, a4, a5, a6, a7⟩)
    have HBI : Hid (-1073741823 ≤ bx.ht ∧ bx.ht ≤ 1073741823 ∧ -1073741823 ≤ bx.dp ∧ bx.dp ≤ 1073741823) := hideP (by
     have hA2 := hA
     unfold vpA vpOk at hA2
     simp only [Bool.and_eq_true] at hA2
     have h1 := hA2.2.1.1.1.2.1
     have h2 := hA2.2.1.2
     unfold Shr.fitsB at h1
     unfold fitsB at h2
     simp only [Bool.and_eq_true, decide_eq_true_eq] at h1 h2
     rw [hbx]
     simp only [boxN]
     omega)
    clear SS eR eT HO3 hN hA HZ HK
    obtain ⟨g, gc, hge⟩ := own_some HOW.out (by omega)
    cases hge
    have hht : vpTo xs d m s = bx.ht := by rw [hbx]; rfl
    have hdp : (vpS xs d).d = bx.dp := by rw [hbx]; rfl
    rw [hht, hdp] at HSS
    have hbxi : -1073741823 ≤ bx.ht ∧ bx.ht ≤ 1073741823 ∧ -1073741823 ≤ bx.dp ∧ bx.dp ≤ 1073741823 := HBI.out
    have hgc : k ≤ pc ∧ pc ≤ 9223372036854775807 := own_cap HOW.out _ _ _ rfl
    have hgl : g < W.heap.size := (own_lt HOW.out rfl).2.1
    obtain ⟨n, hn⟩ : ∃ n, n = ys.length := ⟨_, rfl⟩
    have hkn : k = n + 1 := by omega
    have hnb : n ≤ 20001 := by omega
    have HNL := hideP hn
    obtain ⟨hzc, hzf⟩ := own_cells0 HOW.out
    have e0 := hzc 0 (by omega)
    have e1 := hzc 1 (by omega)
    have e2 := hzc 2 (by omega)
    have e3 := hzc 3 (by omega)
    have e4 := hzc 4 (by omega)
    have e5 := hzc 5 (by omega)
    have e6 := hzc 6 (by omega)
    have e7 := hzc 7 (by omega)
    have e8 := hzc 8 (by omega)
    have e9 := hzc 9 (by omega)
    have e10 := hzc 10 (by omega)
    have e11 := hzc 11 (by omega)
    have e12 := hzc 12 (by omega)
    have e13 := hzc 13 (by omega)
    have e14 := hzc 14 (by omega)
    simp only [Nd.cells, List.getElem?_cons_zero, List.getElem?_cons_succ] at e0 e1 e2 e3 e4 e5 e6 e7 e8 e9 e10 e11 e12 e13 e14
    have hk1 : ¬ (k : Int) = 0 := by omega
    have hk2 : (0 : Int) < (k : Int) := by omega
    have hPW : P < W.heap.size := hPz
    clear hzc hzf hht hdp hbx hys hyl hn hkl
    go_upto_region 8 with fail
    have HOB := hideP (own_below HOW.out (below1 W (ndO bx)))
    have BB : Hid (Below w.heap.size w (W.alloc (ndO bx))) := hideP (B3.out.alloc B3.out.size _)
    have hBX := heap_alloc_new W (ndO bx)
    have hPB := ((below1 W (ndO bx)).block P hPW).trans HPK.out
    have hgB : g < (W.alloc (ndO bx)).heap.size := by simp; omega
    have hPBz : P < (W.alloc (ndO bx)).heap.size := by simp; omega
    have hQz : W.heap.size < (W.alloc (ndO bx)).heap.size := by simp
    obtain ⟨Q, hQ⟩ : ∃ Q, Q = W.heap.size := ⟨_, rfl⟩
    rw [← hQ] at hBX hQz
    rw [← hQ]
    generalize World.alloc _ _ = V at HOB BB hBX hPB hgB hPBz hQz ⊢
    clear hQ HOW B3 HPK hgl hPW hPz e0 e1 e2 e3 e4 e5 e6 e7 e8 e9 e10 e11 e12 e13 e14 r0 r1 r2 r3 r4 r5 r6
    obtain ⟨r0, r1, r2, r3, r4, r5, r6⟩ := pack_cells hPB
    obtain ⟨b0, b1, b2, b3, b4, b5, b6, b7, b8, b9, b10, b11, b12, b13, b14⟩ := nd_15 hBX
    have HBX := hideP hBX
    have HPB := hideP hPB
    clear hBX hPB
    obtain ⟨mI, hmI⟩ : ∃ mI, mI = (itemsOf ys).length := ⟨_, rfl⟩
    have HMI := hideP hmI
    have hmb : mI = (begins ys).length := by rw [hmI, items_len HSS.out.1]
    have HMB := hideP hmb
    have hm20 : mI ≤ 20001 := by
     have h2 : (begins ys).length ≤ ys.length := by have := starts_count (xs := ys) (ys.length + 1) 0; unfold begins; omega
     have := HNL.out
     omega
    clear hmI hmb
    go_upto_region 9 with fail
    go_cut [10] (fun s10 wc => ∃ ia ic, s10 = .slice ia mI ic ∧ Hid (ItQ wc ia mI (fun i => (itemsOf ys).getD i [])) ∧ Hid (Below V.heap.size V wc))
    case first =>
     have HT0 : Hid (∀ o c', (0 < ys.length → o = 15) → NRow 0 V (.slice (some ⟨g, o, none⟩) n c') ys) := hideP (fun o c' ho => by have h := tail_N HOB.out (by have := HNL.out; omega) o c' ho; rw [HNL.out]; exact h)
     go_wp2_with fail
     all_goals
      refine (itemsN (HT0.out _ _ (by have := HNL.out; omega)) (by have := HNL.out; omega) (by rintro a n' c' ⟨⟩; omega)).mono ?_
      rintro e w6 ⟨⟨ia, ic, rfl, hq⟩, hb6⟩
      rw [← HMI.out] at hq
      rw [← HMI.out]
      have HQ6 := hideP hq
      have HB6 := hideP hb6
      clear hq hb6
      go_wp2
      go_meet
      exact ⟨_, _, rfl, HQ6, HB6⟩
    case rest =>
     obtain ⟨ia, ic, rfl, HQ, HBV⟩ := hcut
     have HBI2 : Hid (∀ i, i < (begins ys).length → NdIn (hdN ys i)) := hideP (fun i hi => hd_in HSS.out.1 hi)
     have hPV := (HBV.out.block P hPBz).trans HPB.out
     have hQV := (HBV.out.block Q hQz).trans HBX.out
     obtain ⟨S, hS⟩ : ∃ S : World, S = wc := ⟨_, rfl⟩
     have BS : Hid (Below w.heap.size w S) := hideP (by rw [hS]; exact below_more BB.out HBV.out BB.out.size)
     rw [← hS] at HQ hPV hQV
     rw [← hS]
     clear hS HBV BB HOB hPBz hQz HPB HBX hgB r0 r1 r2 r3 r4 r5 r6 b0 b1 b2 b3 b4 b5 b6 b7 b8 b9 b10 b11 b12 b13 b14
     have HPV := hideP hPV
     have HQV := hideP hQV
     clear hPV hQV
     have HBD := hideP (alSum_bd (ys := ys) (fun i hi => al_bd (HBI2.out i hi)))
     go_wp2_with fail
     go_loopw [9, 11] (fun s9 s11 wi => ∃ i : Nat, i ≤ mI ∧ s11 = .int .i64 (i : Int) ∧ s9 = .int .i64 (alSum ys i) ∧ Hid (Below S.heap.size S wi)) (fun _ s11 _ => mI - (intOf s11).toNat)
     case atStart => exact ⟨0, Nat.zero_le _, rfl, rfl, hideP (Below.refl _ _)⟩
     case round =>
      obtain ⟨i, hi, rfl, rfl, BI⟩ := hrel
      obtain ⟨A, hA⟩ : ∃ A, A = alSum ys i := ⟨_, rfl⟩
      have hAb := HBD.out i (by have := HMB.out; omega)
      rw [← hA] at hAb
      rw [← hA]
      have HA := hideP hA
      have hA1 : -43000000000000 ≤ A ∧ A ≤ 43000000000000 := by omega
      clear hA hAb
      by_cases hlt : i < mI
      ·as_aux_lemma =>
        have hli : (i : Int) < (mI : Int) := by omega
        have hib : i < (begins ys).length := by have := HMB.out; omega
        have hq := HQ.out
        rw [HMI.out] at hq
        obtain ⟨g', gu, L, c', hia, hg', hgu, hcu, hcl⟩ := hq.head HSS.out.1 hib BI.out
        subst hia
        have hin := HBI2.out i hib
        have halb := al_bd hin
        have hht1 := hin.ht
        have hdp1 := hin.dp
        obtain ⟨x, hx⟩ : ∃ x, x = hdN ys i := ⟨_, rfl⟩
        rw [← hx] at hcl halb hht1 hdp1
        have HX := hideP hx
        clear hx hin hq
        have e0 := hcl 0 (by omega)
        have e1 := hcl 1 (by omega)
        have e2 := hcl 2 (by omega)
        have e3 := hcl 3 (by omega)
        have e4 := hcl 4 (by omega)
        have e5 := hcl 5 (by omega)
        have e6 := hcl 6 (by omega)
        have e7 := hcl 7 (by omega)
        have e8 := hcl 8 (by omega)
        have e9 := hcl 9 (by omega)
        have e10 := hcl 10 (by omega)
        have e11 := hcl 11 (by omega)
        have e12 := hcl 12 (by omega)
        have e13 := hcl 13 (by omega)
        have e14 := hcl 14 (by omega)
        simp only [Nd.cells, List.getElem?_cons_zero, List.getElem?_cons_succ] at e0 e1 e2 e3 e4 e5 e6 e7 e8 e9 e10 e11 e12 e13 e14
        have HAL := hideP (along_any x · (by omega) (by omega))
        obtain ⟨Bv, hBv⟩ : ∃ Bv, Bv = al x := ⟨_, rfl⟩
        rw [← hBv] at HAL halb
        have HBv := hideP hBv
        clear hcl hBv hht1 hdp1
        have hL0 : (0 : Int) < (L : Int) + 1 := by omega
        go_wp2_with fail
        refine (HAL.out _).mono ?_
        rintro e w7 ⟨rfl, hb7⟩
        have BI7 : Hid (Below S.heap.size S w7) := hideP (below_more BI.out hb7 BI.out.size)
        clear hb7 BI e0 e1 e2 e3 e4 e5 e6 e7 e8 e9 e10 e11 e12 e13 e14 hcu hgu hg'
        go_wp2
        go_roundw
        case rel => exact ⟨i + 1, by omega, by go_num, by rw [alSum, HA.out, HBv.out, HX.out], BI7⟩
        case measure => simp [intOf]; omega
      ·as_aux_lemma =>
        have hli : ¬ (i : Int) < (mI : Int) := by omega
        obtain rfl : i = mI := by omega
        have hPw := (BI.out.block P (Array.getElem?_eq_some_iff.1 HPV.out).1).trans HPV.out
        have hQw := (BI.out.block Q (Array.getElem?_eq_some_iff.1 HQV.out).1).trans HQV.out
        obtain ⟨r0, r1, r2, r3, r4, r5, r6⟩ := pack_cells hPw
        obtain ⟨b0, b1, b2, b3, b4, b5, b6, b7, b8, b9, b10, b11, b12, b13, b14⟩ := nd_15 hQw
        have hPl : P < wr.heap.size := (Array.getElem?_eq_some_iff.1 hPw).1
        have hQl : Q < wr.heap.size := (Array.getElem?_eq_some_iff.1 hQw).1
        clear hPw hQw b0 b1 b4 b5 b6 b7 b8 b9 b10 b11 b12 b13 b14
        have hbh1 := hbxi.1
        have hbh2 := hbxi.2.1
        have hbd1 := hbxi.2.2.1
        have hbd2 := hbxi.2.2.2
        have HH : Hid (bx.ht + bx.dp = A + (if 0 < z0 ∧ z3 ≤ 0 then z2 else 0) - z5) := hideP (by rw [HSS.out.2.1, HA.out, HMB.out])
        have hdd : ¬ d < bx.dp := by have := HSS.out.2.2.1; omega
        have HM1 := hideP HSS.out.2.2.2.1
        have HB0 := hideP HSS.out.2.2.2.2.1
        have HLS := hideP HSS.out.2.2.2.2.2
        have BW : Hid (Below w.heap.size w wr) := hideP (below_more BS.out BI.out BS.out.size)
        go_upto_region 15 with fail
        go_cut [69] (fun s69 wc => (∃ t : Bool, s69 = .bool t ∧ (t = true ↔ 0 < z0 ∧ z3 ≤ 0)) ∧ wc = wr)
        case first =>
         by_cases hz0 : 0 < z0
         ·by_cases hz3 : z3 ≤ 0
          ·have q1 : decide (0 < z0) = true := by simp [hz0]
           have q2 : decide (z3 ≤ 0) = true := by simp [hz3]
           go_wp2
           go_meet
           case rel => exact ⟨⟨_, rfl, by simp [hz0, hz3]⟩, rfl⟩
          ·have q1 : decide (0 < z0) = true := by simp [hz0]
           have q2 : decide (z3 ≤ 0) = false := by simp [hz3]
           go_wp2
           go_meet
           case rel => exact ⟨⟨_, rfl, by simp [hz0, hz3]⟩, rfl⟩
         ·have q1 : decide (0 < z0) = false := by simp [hz0]
          go_wp2
          go_meet
          case rel => exact ⟨⟨_, rfl, ⟨fun h => by (cases h), fun h => by omega⟩⟩, rfl⟩
        case rest =>
         obtain ⟨⟨t, rfl, htt⟩, hwc⟩ := hcut
         subst hwc
         go_upto_if 69 with fail
         go_cut [12] (fun s12 wd => (∃ L : Int, s12 = .int .i64 L ∧ bx.ht + bx.dp = A + L - z5) ∧ wd = wc)
         case first =>
          cases t with
          | true =>
           have hL := HH.out
           rw [if_pos (htt.1 rfl)] at hL
           have HL := hideP hL
           clear hL htt
           go_wp2
           go_meet
           case rel => exact ⟨⟨_, rfl, HL.out⟩, rfl⟩
          | false =>
           have hL := HH.out
           rw [if_neg (fun h => by have := htt.2 h; cases this)] at hL
           have HL := hideP hL
           clear hL htt
           go_wp2
           go_meet
           case rel => exact ⟨⟨_, rfl, HL.out⟩, rfl⟩
         case rest =>
          obtain ⟨⟨L, rfl, hL⟩, hwd⟩ := hcut
          subst hwd
          have hE : wrap64 (wrap64 (A + L) - z5) = bx.ht + bx.dp := by
           unfold wrap64
           omega
          have hdd2 : decide (d < bx.dp) = false := by simp; omega
          clear hL HH htt
          go_upto_region 17 with fail
          go_cut [101] (fun s101 we => s101 = .bool false ∧ we = wc)
          case first =>
           by_cases hm : m = 1
           ·have hs := HM1.out hm
            have q1 : decide (m = 1) = true := by simp [hm]
            have q2 : (m == 1) = true := by simp [hm]
            have q3 : decide (bx.ht = s) = true := by simp [hs]
            have q4 : (bx.ht != s) = false := by simp [hs]
            have q5 : (bx.ht == s) = true := by simp [hs]
            clear hs hm
            go_wp2
            all_goals go_meet
            all_goals exact ⟨by simp, rfl⟩
           ·have q1 : decide (m = 1) = false := by simp [hm]
            have q2 : (m == 1) = false := by simp [hm]
            go_wp2
            all_goals go_meet
            all_goals exact ⟨by simp, rfl⟩
          case rest =>
           obtain ⟨rfl, hwe⟩ := hcut
           subst hwe
           clear hE hdd2 hdd hA1 HM1
           by_cases hmz : i = 0
           ·as_aux_lemma =>
             have hmz1 : (i : Int) = 0 := by omega
             have hdz : bx.dp = 0 := HB0.out (List.eq_nil_of_length_eq_zero (by have := HMB.out; omega))
             have q1 : decide (bx.dp = 0) = true := by simp [hdz]
             have q2 : (bx.dp == 0) = true := by simp [hdz]
             clear hdz
             go_wp2
             go_ret
             exact ⟨by simp, BW.out⟩
           ·as_aux_lemma =>
             have hmz1 : ¬ (i : Int) = 0 := by omega
             obtain ⟨j, hj⟩ : ∃ j, i = j + 1 := ⟨i - 1, by omega⟩
             have hjb : j < (begins ys).length := by have := HMB.out; omega
             have hji : (i : Int) - 1 = (j : Int) := by omega
             have hjlt : (j : Int) < (i : Int) := by omega
             have hq := HQ.out
             rw [HMI.out] at hq
             obtain ⟨g', gu, LL, c', hia, hg', hgu, hcu, hcl⟩ := hq.head HSS.out.1 hjb BI.out
             subst hia
             have hls := HLS.out j (by have := HMB.out; omega)
             obtain ⟨x, hx⟩ : ∃ x, x = hdN ys j := ⟨_, rfl⟩
             rw [← hx] at hcl hls
             have e0 := hcl 0 (by omega)
             have e1 := hcl 1 (by omega)
             have e2 := hcl 2 (by omega)
             have e3 := hcl 3 (by omega)
             have e4 := hcl 4 (by omega)
             have e5 := hcl 5 (by omega)
             have e6 := hcl 6 (by omega)
             have e7 := hcl 7 (by omega)
             have e8 := hcl 8 (by omega)
             have e9 := hcl 9 (by omega)
             have e10 := hcl 10 (by omega)
             have e11 := hcl 11 (by omega)
             have e12 := hcl 12 (by omega)
             have e13 := hcl 13 (by omega)
             have e14 := hcl 14 (by omega)
             simp only [Nd.cells, List.getElem?_cons_zero, List.getElem?_cons_succ] at e0 e1 e2 e3 e4 e5 e6 e7 e8 e9 e10 e11 e12 e13 e14
             clear hcl hx hq hj
             have hL0 : (0 : Int) < (LL : Int) + 1 := by omega
             by_cases hp : pileB x = true
             ·as_aux_lemma =>
               rw [if_pos hp] at hls
               have q1 : decide (bx.dp ≤ x.dp) = true := by simp [hls]
               have hkk : x.k = 5 ∨ x.k = 6 ∨ x.k = 7 := by simpa [pileB, or_assoc] using hp
               obtain ⟨xk, hxk⟩ : ∃ xk, xk = x.k := ⟨_, rfl⟩
               rw [← hxk] at e0 hkk
               clear hp hxk
               rcases hkk with rfl | rfl | rfl
               all_goals
                go_wp2
                all_goals go_ret
                all_goals exact ⟨rfl, BW.out.alloc BW.out.size _⟩
             ·as_aux_lemma =>
               rw [if_neg hp] at hls
               have q1 : decide (bx.dp = 0) = true := by simp [hls]
               have q2 : (bx.dp == 0) = true := by simp [hls]
               have hk5 : ¬ x.k = 5 := fun h => hp (by simp [pileB, h])
               have hk6 : ¬ x.k = 6 := fun h => hp (by simp [pileB, h])
               have hk7 : ¬ x.k = 7 := fun h => hp (by simp [pileB, h])
               have d5 : decide (x.k = 5) = false := by simp [hk5]
               have d6 : decide (x.k = 6) = false := by simp [hk6]
               have d7 : decide (x.k = 7) = false := by simp [hk7]
               have f5 : (x.k == 5) = false := by simp [hk5]
               have f6 : (x.k == 6) = false := by simp [hk6]
               have f7 : (x.k == 7) = false := by simp [hk7]
               clear hp hls
               go_wp2
               all_goals go_ret
               all_goals first
                | exact ⟨rfl, BW.out.alloc BW.out.size _⟩
                | (exfalso; omega)
                | (exfalso; simp_all; done)
end Go.Proofs.YtbbehmcekbnkiaaGreat
