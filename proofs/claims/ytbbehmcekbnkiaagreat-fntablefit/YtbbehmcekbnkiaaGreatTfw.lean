import Derived.Test.YtbbehmcekbnkiaaGreatDtc
import Derived.Test.YtbbehmcekbnkiaaGreatTpu
import Derived.Test.YtbbehmcekbnkiaaGreatTkL
import Derived.Test.YtbbehmcekbnkiaaGreatFng
namespace Go.Proofs.YtbbehmcekbnkiaaGreat
open Go.RowKit
set_option linter.unusedVariables false
set_option linter.unusedSimpArgs false
def CF (w wr wi : World) (ao : Option Addr) (len cap : Nat) : Prop := Cur w wi ao len cap /\ Fram w wr wi
theorem big_any (ao : Option Addr) (len cap : Nat) (w : World) (hl : len <= 9223372036854775807) : Calls Tryz.prog 8 #[.slice ao len cap] w fun e w' => e = .returned (.bool (decide (1048576 < len))) /\ w' = w := by
 by_cases h : 1048576 < len
 ·have hi : (1048576 : Int) < (len : Int) := by omega
  go_enter Tryz.func8, Tryz.ntmps8
  go_wp2
  go_ret
  exact ⟨by simp [h], rfl⟩
 ·have hi : ¬ (1048576 : Int) < (len : Int) := by omega
  go_enter Tryz.func8, Tryz.ntmps8
  go_wp2
  go_ret
  exact ⟨by simp [h], rfl⟩
end Go.Proofs.YtbbehmcekbnkiaaGreat
namespace Go.Proofs.YtbbehmcekbnkiaaGreat
open Go.RowKit Go.Shelf
set_option linter.unusedVariables false
set_option linter.unusedSimpArgs false
theorem fldS (W : World) (a b c : Int) : (Instr.field 63 (.agg #[.int .i64 a, .int .i64 b, .int .i64 c]) 0).run Tryz.prog W = .ok (.int .i64 a) W := by kernel_rfl
set_option maxRecDepth 20000 in
set_option maxHeartbeats 16000000 in
theorem tableFit_any (ao : Option Addr) (len cap : Nat) (w : World) (hB : len <= 1048576 -> Bytes w ao len cap) (hl : len <= 9223372036854775807) :
 Calls Tryz.prog 6 #[.slice ao len cap] w fun e w' => e = .returned (.bool true) /\ Below w.heap.size w w' := by
 by_cases h0 : 1048576 < len
 ·have hd0 : decide (1048576 < len) = true := by simp [h0]
  go_enter Tryz.func6, Tryz.ntmps6
  go_wp2_with fail
  refine (big_any ao len cap w hl).mono ?_
  rintro e w1 ⟨rfl, h1⟩
  have h1 := h1.symm
  subst h1
  rw [hd0]
  go_wp2
  go_ret
  exact ⟨rfl, Below.refl _ _⟩
 ·have hd0 : decide (1048576 < len) = false := by simp [h0]
  have HB := hideP (hB (by omega))
  clear hB
  go_enter Tryz.func6, Tryz.ntmps6
  go_wp2_with fail
  refine (big_any ao len cap w hl).mono ?_
  rintro e w1 ⟨rfl, h1⟩
  have h1 := h1.symm
  subst h1
  rw [hd0]
  clear hd0 h0
  have TK : Hid (Calls Tryz.prog 20 #[tbV ⟨1, 0, 0, 0, 0, 0, []⟩ (.slice none 0 0)] w fun e w' => e = .returned (.bool true) /\ Below w.heap.size w w') := hideP (implTableOk_any ⟨1, 0, 0, 0, 0, 0, []⟩ ⟨_, _, _, rfl, rfl, fun h => by omega⟩ ⟨by simp, fun i hi => by simp at hi⟩)
  go_wp2_with fail
  refine TK.out.mono ?_
  rintro e w1 ⟨rfl, hb1⟩
  have B1 := hideP hb1
  have HB1 := hideP (HB.out.kept hb1)
  clear hb1 TK HB
  go_wp2_with fail
  refine (drawWidths_any ao len cap w1 HB1.out).mono ?_
  rintro e w2 ⟨⟨x, va, vc, rfl, hr, hsm, hl5⟩, hb2⟩
  have B2 : Hid (Below w.heap.size w w2) := hideP (below_more B1.out hb2 B1.out.size)
  have HR := hideP hr
  have HSM := hideP hsm
  clear hb2 B1 hr hsm HB1
  obtain ⟨q, hq⟩ := exq (x.rs.length)
  rw [<- hq] at hl5 HR
  have HQ := hideP hq
  have BA := hideP (below1 w2 (tbO x.co x.gs x.gp x.gpo x.gm x.gmo (.slice va q vc)))
  have hTT := heap_alloc_new w2 (tbO x.co x.gs x.gp x.gpo x.gm x.gmo (.slice va q vc))
  have HRA : Hid (RRowN 0 (w2.alloc (tbO x.co x.gs x.gp x.gpo x.gm x.gmo (.slice va q vc))) (.slice va q vc) x.rs) := hideP (HR.out.below rwNStable BA.out)
  have B3 : Hid (Below w.heap.size w (w2.alloc (tbO x.co x.gs x.gp x.gpo x.gm x.gmo (.slice va q vc)))) := hideP (B2.out.alloc B2.out.size _)
  rw [<- hq]
  clear hq
  go_wp2_with fail
  obtain ⟨T, hT⟩ := exq (w2.heap.size)
  rw [<- hT] at hTT
  rw [<- hT]
  generalize World.alloc _ _ = W at hTT HRA B3 BA ⊢
  clear hT BA HR B2
  have HTT := hideP hTT
  clear hTT
  refine (implWidths_any x HRA.out HSM.out).mono ?_
  rintro e w3 ⟨gw, cw, rfl, hww, hb3⟩
  have B4 : Hid (Below w.heap.size w w3) := hideP (below_more B3.out hb3 B3.out.size)
  have HR3 : Hid (RRowN 0 w3 (.slice va q vc) x.rs) := hideP (HRA.out.below rwNStable hb3)
  have hTT := (hb3.block T (glt HTT.out)).trans HTT.out
  have HT3 := hideP hTT
  clear hb3 B3 HRA HTT
  obtain ⟨n, hn⟩ := exq ((widL x).length)
  rw [<- hn] at hww
  rw [<- hn]
  have t0 := cell_of_row w3 T 0 _ 52 _ hTT
  have t1 := cell_of_row w3 T 1 _ 52 _ hTT
  have t2 := cell_of_row w3 T 2 _ 52 _ hTT
  have t3 := cell_of_row w3 T 3 _ 52 _ hTT
  have t4 := cell_of_row w3 T 4 _ 52 _ hTT
  have t5 := cell_of_row w3 T 5 _ 52 _ hTT
  have t6 := cell_of_row w3 T 6 _ 52 _ hTT
  clear hTT
  cases hok : (tabB x && colsOk x.gs x.rs x.co.toNat) with
  | false =>
   have hn0 : n = 0 := by rw [hn]; unfold widL; rw [hok]; rfl
   subst hn0
   have TK : Hid (Calls Tryz.prog 20 #[tbV x (.slice va q vc)] w3 fun e w' => e = .returned (.bool (tabB x)) /\ Below w3.heap.size w3 w') := hideP (implTableOk_any x HR3.out HSM.out)
   have hqt : tabB x = true -> 0 < q := fun h => by
    rw [h, Bool.true_and] at hok
    rw [HQ.out]
    refine Nat.pos_of_ne_zero fun e => ?_
    rw [List.eq_nil_of_length_eq_zero e, colsOk_nil] at hok
    cases hok
   obtain ⟨tb, htb⟩ := exq (tabB x)
   rw [<- htb] at TK hqt
   clear hn hww hok htb
   go_wp2_with fail
   refine TK.out.mono ?_
   rintro e w4 ⟨rfl, hb4⟩
   have B5 : Hid (Below w.heap.size w w4) := hideP (below_more B4.out hb4 B4.out.size)
   have hTT := (hb4.block T (glt HT3.out)).trans HT3.out
   clear t0 t1 t2 t3 t4 t5 t6
   have t6 := cell_of_row w4 T 6 _ 52 _ hTT
   clear hTT hb4 HT3 TK HR3 B4
   cases tb with
   | false =>
    go_wp2
    go_ret
    exact ⟨rfl, B5.out⟩
   | true =>
    have hq0 : (0 : Int) < (q : Int) := by have := hqt rfl; omega
    have hqd : decide ((0 : Int) < (q : Int)) = true := by simp; omega
    clear hqt
    go_wp2
    go_ret
    exact ⟨by simp; omega, B5.out⟩
  | true =>
   obtain ⟨htab, hcols⟩ : tabB x = true /\ colsOk x.gs x.rs x.co.toNat = true := by simpa using hok
   have hpt := tabB_parts htab
   have hwl : widL x = (List.range x.co.toNat).map (colsStep x.gs x.rs x.co.toNat) := by unfold widL; rw [if_pos hok]
   have hnc : (n : Int) = x.co := by rw [hn, hwl]; simp; omega
   have hn1 : 1 <= n := by omega
   have hn20 : n <= 20 := by omega
   obtain ⟨F, hF⟩ := exq (colsStep x.gs x.rs x.co.toNat)
   have hcn : x.co.toNat = n := by omega
   have HFB : Hid (∀ k, k < n -> 0 <= F k /\ F k <= 1073741823) := hideP (fun k hk => by rw [hF]; exact fit_bd htab hcols (by omega))
   have HFR : Hid (∀ i j, i < x.rs.length -> j < (x.rs.getD i Rw.none).cs.length -> natW ((x.rs.getD i Rw.none).cs.getD j Cl.none).ns <= roomC F x.gs (x.rs.getD i Rw.none).cs j) := hideP (fun i j hi hj => by rw [hF]; exact fit_room htab hi hj)
   have HFT : Hid (∀ k, k < n -> 0 < F k -> ∃ i j, i < x.rs.length /\ j < (x.rs.getD i Rw.none).cs.length /\ spK (x.rs.getD i Rw.none).cs (j + 1) - 1 = (k : Int) /\ natW ((x.rs.getD i Rw.none).cs.getD j Cl.none).ns = roomC F x.gs (x.rs.getD i Rw.none).cs j) := hideP (fun k hk hp => by rw [hF] at hp ⊢; exact fit_tight htab (by omega) hp)
   have HW3 : Hid (w3.ownsRow W.heap.size 2 1 (.slice (some ⟨gw, 0, none⟩) n cw) n ((List.range n).map (fun k => Value.int .i64 (F k)))) := hideP (by
    rw [hwl, <- hF, hcn] at hww
    simpa [Function.comp_def] using hww)
   have HTB := hideP htab
   have hgs := hpt.2.2.1
   clear hn hww hok hwl hcols hF hpt htab
   have HNC := hideP hnc
   have hco20 : x.co <= 20 := by omega
   clear hnc hcn
   have hn0i : ¬ (n : Int) = 0 := by omega
   obtain ⟨i0, hi, hz0, hz1, hz2⟩ := info_parts Tryz.info4b
   have hgwl : gw < w3.heap.size := (HW3.out.lt gw rfl).2
   have hTl : T < w3.heap.size := (glt HT3.out)
   have HFC : Hid (∀ X, Below w3.heap.size w3 X -> ∀ k, k < n -> X.cell? ⟨gw, k, none⟩ = some (.int .i64 (F k))) := hideP (fun X hX k hk => by
    have h1 := (HW3.out.cellAt k (by omega))
    rw [hX.cell (p := ⟨gw, k, none⟩) hgwl, h1]
    simp [hk])
   clear t0 t1 t2 t3 t4 t5 t6
   go_wp2_with (at_make; refine wpList_make_full _ rfl _ _ 56 rfl w3.heap.size 4 i0 (.bool false) 1 Tryz.underlying56 hi hz0 hz1 _ _ _ _ n rfl rfl (by omega) (by omega) (by rw [hz2]; omega) (by unfold maxLen; omega) (Nat.le_refl _) ?_; intro w5 hown5 hgr5; rw [made_bools] at hown5; have O5 := hideP hown5; have B5 : Hid (Below w3.heap.size w3 w5) := hideP (Below.grown (Below.refl _ _) hgr5 (Nat.le_refl _) (fun g hg => by cases hg)); clear hown5 hgr5)
   go_loopw [6, 7, 8, 9, 10, 11, 12] (fun s6 _ _ _ _ _ _ wi => ∃ (i : Nat) (bs : List Bool), i <= q /\ s6 = .int .i64 (i : Int) /\ bs.length = n /\ Hid (TG F x.gs x.rs i 0 bs) /\ Hid (wi.ownsRow w3.heap.size 4 1 (.slice (some ⟨w3.heap.size, 0, none⟩) n n) n (bs.map Value.bool)) /\ Hid (Below w3.heap.size w3 wi)) (fun s6 _ _ _ _ _ _ _ => q - (intOf s6).toNat)
   case atStart => exact ⟨0, _, Nat.zero_le _, rfl, by simp, hideP TG.start, O5, B5⟩
   case round =>
    obtain ⟨i, bs, hiq, rfl, hbl, HG, HO, BI⟩ := hrel
    clear O5 B5
    have hTr := (BI.out.block T hTl).trans HT3.out
    have t6 := cell_of_row wr T 6 _ 52 _ hTr
    have t0 := cell_of_row wr T 0 _ 52 _ hTr
    clear hTr
    by_cases hlt : i < q
    ·as_aux_lemma =>
      have hli : (i : Int) < (q : Int) := by omega
      have hir : i < x.rs.length := by rw [<- HQ.out]; exact hlt
      obtain ⟨b, off, ua, uc, hva, hb, hc, hCR⟩ := row_at HR3.out hir
      subst hva
      have hRI := tab_row HTB.out hir
      obtain ⟨cs, hcs⟩ := exq ((x.rs.getD i Rw.none).cs)
      rw [<- hcs] at hc hCR hRI
      have HCS := hideP hcs
      obtain ⟨m, hm⟩ := exq (cs.length)
      rw [<- hm] at hc hCR
      have hmb : m <= 1048576 := by rw [hm, hcs]; exact (HSM.out.2 i hir).1
      have HM := hideP hm
      have HCR := hideP hCR
      have HRI := hideP hRI
      have HC := hideP hc
      clear hcs hm hCR hc hRI
      go_wp2_with fail
      go_loopw [7, 8, 9, 10, 11, 12] (fun s7 s8 _ _ _ _ wj => ∃ (j a : Nat) (bs : List Bool), j <= m /\ s8 = .int .i64 (j : Int) /\ s7 = .int .i64 (a : Int) /\ Hid ((a : Int) = spK cs j) /\ a <= 20 /\ bs.length = n /\ Hid (TG F x.gs x.rs i j bs) /\ Hid (wj.ownsRow w3.heap.size 4 1 (.slice (some ⟨w3.heap.size, 0, none⟩) n n) n (bs.map Value.bool)) /\ Hid (Below w3.heap.size w3 wj)) (fun _ s8 _ _ _ _ _ => m - (intOf s8).toNat)
      case atStart => exact ⟨0, 0, bs, Nat.zero_le _, rfl, rfl, hideP rfl, by omega, hbl, HG, HO, BI⟩
      case round =>
       clear HG HO BI t6 t0 hbl
       rename_i wr0 bs0
       obtain ⟨j, a, bs, hj, rfl, rfl, HA, ha20, hbl, HG, HO, BI⟩ := hrel
       have hTr := (BI.out.block T hTl).trans HT3.out
       have HTR := hideP hTr
       have t6 := cell_of_row wr T 6 _ 52 _ hTr
       have hcr : wr.cell? ⟨b, off + i * 2, none⟩ = some (.slice ua m uc) := (BI.out.cell (p := ⟨b, off + i * 2, none⟩) hb).trans HC.out
       clear hTr
       by_cases hjm : j < m
       ·as_aux_lemma =>
         have hji : (j : Int) < (m : Int) := by omega
         have hjc : j < cs.length := by rw [<- HM.out]; exact hjm
         obtain ⟨b2, off2, na, nc, hua, hb2, k0, k1, k2, hN, hNN⟩ := cell_at HCR.out hjc
         subst hua
         have hat := HRI.out.at (by omega) hjc
         have hnc := HNC.out
         have hss : spK cs (j + 1) = spK cs j + (cs.getD j Cl.none).sp := rfl
         have hns : (cs.getD j Cl.none).ns.length <= 1048576 := by
          have h1 := HSM.out.2 i hir
          rw [HCS.out]
          exact h1.2 j (by rw [<- HCS.out]; exact hjc)
         have hok1 : hpOk (cs.getD j Cl.none).ns 0 0 = true := by rw [HCS.out]; exact cell_ok HTB.out hir (by rw [<- HCS.out]; exact hjc)
         obtain ⟨sp, hsp⟩ : ∃ sp : Nat, (sp : Int) = (cs.getD j Cl.none).sp := ⟨((cs.getD j Cl.none).sp).toNat, by omega⟩
         have hA1 := HA.out
         have hsp1 : 1 <= sp := by omega
         have hasp : a + sp <= n := by omega
         have HSP : Hid (((a + sp : Nat) : Int) = spK cs (j + 1)) := hideP (by push_cast; omega)
         have HFR2 : Hid (natW (cs.getD j Cl.none).ns <= roomC F x.gs cs j) := hideP (by have := HFR.out i j hir (by rw [<- HCS.out]; exact hjc); rw [<- HCS.out] at this; exact this)
         have HRO : Hid (roomC F x.gs cs j = x.gs * ((sp : Int) - 1) + sumF F a sp) := hideP (by
          unfold roomC
          rw [<- hsp, <- hA1, show ((a : Int)).toNat = a by omega, show ((sp : Int)).toNat = sp by omega])
         have HMI : Hid (natW (cs.getD j Cl.none).ns ≠ roomC F x.gs cs j -> TG F x.gs x.rs i (j + 1) bs) := hideP (fun h => HG.out.miss (by rw [<- HCS.out]; exact h))
         have HHI : Hid (TG F x.gs x.rs i (j + 1) (bs.set (a + sp - 1) true)) := hideP (by
          have h1 := HG.out.hit (by rw [<- HCS.out, <- HSP.out, hbl]; omega)
          rw [<- HCS.out, <- HSP.out, show ((((a + sp : Nat) : Int)) - 1).toNat = a + sp - 1 by omega] at h1
          exact h1)
         have hmul := mul_bd (d := (sp : Int) - 1) (by omega) (by omega) hgs
         rw [<- hsp] at k0
         obtain ⟨al, hal⟩ := exq ((cs.getD j Cl.none).al)
         rw [<- hal] at k1
         obtain ⟨ns, hnsd⟩ := exq ((cs.getD j Cl.none).ns)
         rw [<- hnsd] at k2 hN hNN hns hok1 HFR2 HMI
         obtain ⟨ln, hln⟩ := exq (ns.length)
         rw [<- hln] at k2 hN hNN hns
         have HLN := hideP hln
         have c0 := (BI.out.cell (p := ⟨b2, off2 + j * 3, none⟩) hb2).trans k0
         have c1 := (BI.out.cell (p := ⟨b2, off2 + j * 3 + 1, none⟩) hb2).trans k1
         have c2 := (BI.out.cell (p := ⟨b2, off2 + j * 3 + 2, none⟩) hb2).trans k2
         have HN3 := hideP hN
         have HNN3 := hideP hNN
         have hND : (natT ns).wd = natW ns := nat_need hok1
         have HND := hideP hND
         clear hal hnsd hln hN hNN hND hok1 hat hss hsp k0 k1 k2 hA1 HG HA hnc
         go_upto_region 18 with fail
         have HJM := hideP hjm
         have hmul2 : -20401094637 <= x.gs * ((sp : Int) - 1) /\ x.gs * ((sp : Int) - 1) <= 20401094637 := by rw [Int.mul_comm]; exact hmul
         clear hmul
         have BW9 : Hid (Below w3.heap.size w3 (wr.alloc (clO (sp : Int) al (.slice na ln nc)))) := hideP (BI.out.alloc BI.out.size _)
         have O9 := hideP (ownG_below HO.out (below1 wr (clO (sp : Int) al (.slice na ln nc))))
         have HCC := hideP (heap_alloc_new wr (clO (sp : Int) al (.slice na ln nc)))
         obtain ⟨C, hC⟩ := exq (wr.heap.size)
         rw [<- hC] at HCC
         rw [<- hC]
         generalize World.alloc _ _ = W9 at BW9 O9 HCC ⊢
         clear hC HO BI HTR t6 hcr c0 c1 c2
         have t1 := cell_of_row W9 T 1 _ 52 _ ((BW9.out.block T hTl).trans HT3.out)
         have d0 := cell_of_row W9 C 0 _ 61 _ HCC.out
         have d2 := cell_of_row W9 C 2 _ 61 _ HCC.out
         obtain ⟨gx, hgx⟩ := exq (x.gs * ((sp : Int) - 1))
         rw [<- hgx] at hmul2 HRO
         have HGX := hideP hgx
         go_wp2_with fail
         rw [<- hgx]
         clear hgx
         go_loopw [10, 11] (fun s10 s11 wk => ∃ k p : Nat, k <= sp /\ Hid (p = a + k) /\ s11 = .int .i64 (p : Int) /\ s10 = .int .i64 (gx + sumF F a k) /\ wk = W9) (fun _ s11 _ => a + sp - (intOf s11).toNat)
         case atStart => exact ⟨0, a, Nat.zero_le _, hideP rfl, rfl, by rw [show sumF F a 0 = 0 from rfl, Int.add_zero], rfl⟩
         case round =>
          obtain ⟨k, p, hk, HP, rfl, rfl, hwk⟩ := hrel
          have hwk := hwk.symm
          subst hwk
          have hpk := HP.out
          obtain ⟨S, hS⟩ := exq (sumF F a k)
          have hSb := sumF_in (a := a) HFB.out k (by omega)
          rw [<- hS] at hSb
          rw [<- hS]
          have HS := hideP hS
          have hSb2 : 0 <= S /\ S <= 21474836460 := by omega
          clear hS hSb
          by_cases hks : k < sp
          ·have hpa : (p : Int) < (a : Int) + (sp : Int) := by omega
           have hpn : p < n := by omega
           have hpni : (p : Int) < (n : Int) := by omega
           have hfc := HFC.out W9 BW9.out p hpn
           have hfb := HFB.out p hpn
           obtain ⟨f, hf⟩ := exq (F p)
           rw [<- hf] at hfc hfb
           have HF := hideP hf
           clear hf
           clear hpk
           go_wp2
           go_roundw
           case rel => exact ⟨k + 1, p + 1, by omega, hideP (by have := HP.out; omega), by go_num, by rw [sumF_succ, <- HS.out, <- HP.out, <- HF.out, Int.add_assoc], by first | rfl | trivial⟩
           case measure => simp [intOf]; have := HP.out; omega
          ·have hpa : ¬ (p : Int) < (a : Int) + (sp : Int) := by omega
           obtain rfl : k = sp := by omega
           have hRR : roomC F x.gs cs j = gx + S := by rw [HRO.out, HS.out]
           have NQ : Hid (NRow 0 W9 (.slice na ln nc) ns) := hideP (HN3.out.below ndStable BW9.out)
           have NZ : Hid (∀ W', Below W9.heap.size W9 W' -> NN 0 W' (.slice na ln nc) ns) := hideP (fun W' hW' => nn_below HNN3.out (below_more BW9.out hW' BW9.out.size))
           rw [hRR] at HFR2 HMI
           have hasi : (a : Int) + (k : Int) - 1 < (n : Int) := by omega
           clear hRR HRO HP hpk
           go_wp2_with fail
           refine (implNatT NQ.out NZ.out (by rw [<- HLN.out]; exact hns)).mono ?_
           rintro e w10 ⟨rfl, hb10⟩
           rw [HND.out]
           obtain ⟨N1, hN1⟩ := exq (natW ns)
           rw [<- hN1] at HFR2 HMI
           rw [<- hN1]
           have hle := HFR2.out
           have hgt : decide (gx + S < N1) = false := by simp; omega
           have BX : Hid (Below w3.heap.size w3 w10) := hideP (below_more BW9.out hb10 BW9.out.size)
           have OX := hideP (ownG_below O9.out hb10)
           have hCX := (hb10.block C (glt HCC.out)).trans HCC.out
           have e0 := cell_of_row w10 C 0 _ 61 _ hCX
           obtain ⟨ht, hht⟩ := exq ((natT ns).ht)
           obtain ⟨dp, hdp⟩ := exq ((natT ns).dp)
           rw [<- hht, <- hdp]
           have hfl := fun W' => fldS W' N1 ht dp
           clear hN1 hb10 hCX d0 d2 t1 BW9 O9 HCC NQ NZ hht hdp
           by_cases hNR : N1 = gx + S
           ·have q1 : decide (N1 = gx + S) = true := by simp [hNR]
            have q2 : (N1 == gx + S) = true := by simp [hNR]
            clear hNR
            obtain ⟨pp, hpp⟩ : ∃ pp : Nat, (a : Int) + (k : Int) - 1 = (pp : Int) := ⟨a + k - 1, by omega⟩
            have hppi : (pp : Int) < (n : Int) := by omega
            have hppn : pp < n := by omega
            have hcell : w10.cell? ⟨w3.heap.size, pp, none⟩ = some (.bool (bs.getD pp false)) := by
             have h1 := OX.out.cellAt pp (by omega)
             rw [h1]
             simp [List.getD, List.getElem?_eq_getElem (show pp < bs.length by omega)]
            have hfz : w10.frozen? ⟨w3.heap.size, pp, none⟩ = false := OX.out.frozenAt pp
            obtain ⟨bb, hbb⟩ := exq (bs.getD pp false)
            rw [<- hbb] at hcell
            have OY := hideP (ownG_set OX.out pp (.bool true))
            have BY : Hid (Below w3.heap.size w3 (w10.setCell ⟨w3.heap.size, pp, none⟩ (.bool true))) := hideP (BX.out.setCell (p := ⟨w3.heap.size, pp, none⟩) (Nat.le_refl _) _)
            have HHJ : Hid (TG F x.gs x.rs i (j + 1) (bs.set pp true)) := hideP (by rw [show pp = a + k - 1 by omega]; exact HHI.out)
            clear hbb OX BX HHI HMI
            go_wp2
            go_roundw
            case rel => exact ⟨j + 1, a + k, bs.set pp true, HJM.out, by go_num, by go_num, HSP, by omega, by rw [List.length_set]; exact hbl, HHJ, hideP (by rw [<- map_set_bool]; exact OY.out), BY⟩
            case measure => simp [intOf]; have := HJM.out; omega
           ·have q1 : decide (N1 = gx + S) = false := by simp [hNR]
            have q2 : (N1 == gx + S) = false := by simp [hNR]
            have HGN := hideP (HMI.out hNR)
            clear HMI HHI
            go_wp2
            go_roundw
            case rel => exact ⟨j + 1, a + k, bs, HJM.out, by go_num, by go_num, HSP, by omega, hbl, HGN, OX, BX⟩
            case measure => simp [intOf]; have := HJM.out; omega
       ·as_aux_lemma =>
         have hji : ¬ (j : Int) < (m : Int) := by omega
         have HGN : Hid (TG F x.gs x.rs (i + 1) 0 bs) := hideP (by
          refine TG.next ?_
          rw [<- HCS.out, <- HM.out, show m = j by omega]
          exact HG.out)
         go_wp2
         go_roundw
         case rel => exact ⟨i + 1, bs, by omega, by go_num, hbl, HGN, HO, BI⟩
         case measure => simp [intOf]; omega
    ·as_aux_lemma =>
      have hli : ¬ (i : Int) < (q : Int) := by omega
      have HGF := hideP (show TG F x.gs x.rs x.rs.length 0 bs by rw [<- HQ.out, show q = i by omega]; exact HG.out)
      have BWF : Hid (Below w.heap.size w wr) := hideP (below_more B4.out BI.out B4.out.size)
      have HBI := hideP BI.out
      clear HG BI
      go_wp2_with fail
      clear t6
      obtain ⟨V, hV⟩ : ∃ V : World, V = wr := ⟨_, rfl⟩
      rw [<- hV] at HO t0 BWF HBI
      rw [<- hV]
      clear hV
      go_loopw [13] (fun s13 wk => ∃ k : Nat, k <= n /\ s13 = .int .i64 (k : Int) /\ wk = V) (fun s13 _ => n - (intOf s13).toNat)
      case atStart => exact ⟨0, Nat.zero_le _, rfl, rfl⟩
      case round =>
       obtain ⟨k, hk, rfl, hwk⟩ := hrel
       have hwk := hwk.symm
       subst hwk
       by_cases hkn : k < n
       ·have hkni : (k : Int) < (n : Int) := by omega
        have hfc := HFC.out V HBI.out k hkn
        have hfb := HFB.out k hkn
        have hft : 0 < F k -> bs.getD k false = true := fun hp => by
         obtain ⟨i', j', h1, h2, h3, h4⟩ := HFT.out k hkn hp
         have h5 := HGF.out i' j' (.inl h1) h1 h2 h4
         rw [h3] at h5
         exact h5
        have hcell : V.cell? ⟨w3.heap.size, k, none⟩ = some (.bool (bs.getD k false)) := by
         have h1 := HO.out.cellAt k (by omega)
         rw [h1]
         simp [List.getD, List.getElem?_eq_getElem (show k < bs.length by omega)]
        obtain ⟨f, hf⟩ := exq (F k)
        rw [<- hf] at hfc hfb hft
        obtain ⟨bb, hbb⟩ := exq (bs.getD k false)
        rw [<- hbb] at hcell hft
        have n1 : decide (f < 0) = false := by simp; omega
        clear hf hbb t0
        by_cases hp : 0 < f
        ·have hbt := hft hp
         subst hbt
         have p1 : decide (0 < f) = true := by simp [hp]
         clear hft
         go_wp2
         go_roundw
         case rel => exact ⟨k + 1, by omega, by go_num, by first | rfl | trivial⟩
         case measure => simp [intOf]; omega
        ·have p1 : decide (0 < f) = false := by simp; omega
         clear hft
         go_wp2
         go_roundw
         case rel => exact ⟨k + 1, by omega, by go_num, by first | rfl | trivial⟩
         case measure => simp [intOf]; omega
       ·have hkni : ¬ (k : Int) < (n : Int) := by omega
        have hnc := HNC.out
        have hq1 : ((n : Int) == x.co) = true := by simp [hnc]
        have hq2 : decide ((n : Int) = x.co) = true := by simp [hnc]
        clear hnc
        go_wp2
        go_ret
        exact ⟨by simp [HNC.out], BWF.out⟩
end Go.Proofs.YtbbehmcekbnkiaaGreat
