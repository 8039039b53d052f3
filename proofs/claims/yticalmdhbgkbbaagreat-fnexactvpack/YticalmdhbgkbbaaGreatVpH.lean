/-
  Proved: for every list of nodes and three numbers, laws.FnExactVPack returns true and its arguments read behind the call as before it; no condition.
-/
import Derived.Test.YticalmdhbgkbbaaGreatVls
import Derived.Test.YticalmdhbgkbbaaGreatHso
import Derived.Deep.RegionHeld3
import Derived.Test.YticalmdhbgkbbaaGreatVpl
import Derived.Test.YticalmdhbgkbbaaGreatHpL
import Derived.Test.YticalmdhbgkbbaaGreatOpn
namespace Go.Proofs.YticalmdhbgkbbaaGreat
open Go.RowKit
set_option linter.unusedVariables false
set_option linter.unusedSimpArgs false

set_option maxRecDepth 20000 in
set_option maxHeartbeats 8000000 in
theorem specVPack_no {v : Value} {xs : List Nd} {w : World} (deep mode size : Int) (hdp : 0 ≤ deep ∧ deep ≤ 1073741823) (h : NRow 0 w v xs) (hs : xs.length ≤ 1048576) (hno : vpOk xs deep mode size = false) :
    Calls Tryz.prog 18 #[v, .int .i64 mode, .int .i64 size, .int .i64 deep] w fun e w' => e = .returned (packV (.slice none 0 0) ⟨0, 0, 0, 0, 0, 0⟩) ∧ Below w.heap.size w w' := by
  have HC : Hid (∀ W, Below w.heap.size w W → Calls Tryz.prog 37 #[v, .int .i64 mode, .int .i64 size] W fun e w' => e = .returned (.bool (packB xs mode size)) ∧ Below W.heap.size W w') := hideP (fun W hW => specCan_any mode size (h.below ndStable hW) hs)
  obtain ⟨ok, hok⟩ : ∃ ok, ok = packB xs mode size := ⟨_, rfl⟩
  rw [← hok] at HC
  have HOK := hideP hok
  have HN := hideP h
  have HNO := hideP hno
  obtain ⟨ao, n, cap, rfl, hl, -⟩ := h
  have HL := hideP hl
  clear hok hl hno
  have hdd1 : decide (deep < 0) = false := by simp; omega
  have hdd2 : decide ((1073741823 : Int) < deep) = false := by simp; omega
  have hdd3 : ¬ deep < 0 := by omega
  have hdd4 : ¬ (1073741823 : Int) < deep := by omega
  have HDP := hideP hdp
  clear hdp
  go_enter Tryz.func18, Tryz.ntmps18
  go_wp2_with fail
  refine (HC.out _ (below1 _ _)).mono ?_
  rintro e w1 ⟨rfl, hb1⟩
  have HP1 : Hid (PB w w1) := hideP ((PB.start w).below hb1)
  clear hb1 HC
  cases ok with
  | false =>
    obtain ⟨r0, r1, r2, r3, r4, r5, r6⟩ := pack_cells HP1.out.box
    have fR : ∀ j, w1.frozen? ⟨w.heap.size, j, none⟩ = false := fun j => frozen_of_row w1 w.heap.size j _ _ HP1.out.box
    have HF : Hid ((sev w1 w.heap.size (.slice none 0 0) 0 0 0 0 0 0).heap[w.heap.size]? = some (packO (.slice none 0 0) 0 0 0 0 0 0) ∧ Below w.heap.size w (sev w1 w.heap.size (.slice none 0 0) 0 0 0 0 0 0)) := hideP ⟨sev_heap HP1.out.box _ _ _ _ _ _ _, sev_below HP1.out.bel (Nat.le_refl _) _ _ _ _ _ _ _⟩
    go_wp2
    exact bodyPost_ret (v := packV (.slice none 0 0) ⟨0, 0, 0, 0, 0, 0⟩) (results_one_cell rfl _ _ w.heap.size _ rfl (loadPack HF.out.1)) rfl ⟨rfl, HF.out.2⟩
  | true =>
    have hpk : packB xs mode size = true := HOK.out.symm
    have hcan : canB xs = true := by unfold packB at hpk; simp only [Bool.and_eq_true] at hpk; exact hpk.1.1
    have hfs : fitsB size = true := by unfold packB at hpk; simp only [Bool.and_eq_true] at hpk; exact hpk.2
    have HFS : Hid (Shr.fitsB size = true) := hideP hfs
    have hin : SIn (vpS xs deep) (begins xs).length := vpS_in (can_list hcan) HDP.out.1
    have hcnt : (begins xs).length ≤ 20000 := by
      have h1 := starts_count (xs := xs) (xs.length + 1) 0
      have h2 := (allOk (can_list hcan)).len
      unfold begins
      omega
    have HWB : Hid (-1152921504606846976 ≤ (vpS xs deep).w ∧ (vpS xs deep).w ≤ 1152921504606846976) := hideP ⟨by have := hin.w1; omega, by have := hin.w2; omega⟩
    have HGN : Hid ((vpS xs deep).gs.length ≤ 1048576) := hideP (by have := hin.n; omega)
    have HROW : Hid (∀ W, Below w.heap.size w W → Calls Tryz.prog 52 #[.slice ao n cap, .int .i64 deep] W fun e w' => (∃ u, e = .returned (.tuple #[.int .i64 (vpS xs deep).w, u, .int .i64 (vpS xs deep).h, .int .i64 (vpS xs deep).d]) ∧ w'.ownsRow W.heap.size 50 5 u (vpS xs deep).gs.length (f5 (vpS xs deep).gs)) ∧ Below W.heap.size W w') := hideP (fun W hW => (by have h := specStack_any deep HDP.out (HN.out.below ndStable hW) (allOk (can_list hcan)) (can_in hcan); rw [show spk xs (starts xs (xs.length + 1) 0) deep (starts xs (xs.length + 1) 0).length = vpS xs deep from spk_all xs deep] at h; exact h))
    have HALL : Hid (vpOk xs deep mode size = (Shr.glsOk (vpS xs deep).gs && (Shr.fitsB (vpTo xs deep mode size) && Shr.fitsB (vpS xs deep).w) && fitsB (vpS xs deep).h && fitsB (vpS xs deep).d && (vpL xs deep mode size).all Shr.fitsB)) := hideP (by unfold vpOk; rw [hpk]; rfl)
    clear hpk hcan hfs hin hcnt
    go_wp2_with fail
    refine (HROW.out _ HP1.out.bel).mono ?_
    rintro e w2 ⟨⟨u, rfl, hown⟩, hb2⟩
    have HP2 : Hid (PB w w2) := hideP (HP1.out.below hb2)
    have HGR : Hid (Shr.GRow w2 u (vpS xs deep).gs) := hideP (own_GRow hown rfl)
    clear hown hb2 HROW HP1
    cases hgl : Shr.glsOk (vpS xs deep).gs with
    | false =>
      have HGL := hideP hgl
      clear hgl
      go_wp2_with fail
      refine (Shr.along_no _ mode size HGR.out HGN.out HGL.out).mono ?_
      rintro e w3 ⟨rfl, hb3⟩
      have HP3 : Hid (PB w w3) := hideP (HP2.out.below hb3)
      clear hb3 HP2
      obtain ⟨r0, r1, r2, r3, r4, r5, r6⟩ := pack_cells HP3.out.box
      have fR : ∀ j, w3.frozen? ⟨w.heap.size, j, none⟩ = false := fun j => frozen_of_row w3 w.heap.size j _ _ HP3.out.box
      have HF : Hid ((sev w3 w.heap.size (.slice none 0 0) 0 0 0 0 0 0).heap[w.heap.size]? = some (packO (.slice none 0 0) 0 0 0 0 0 0) ∧ Below w.heap.size w (sev w3 w.heap.size (.slice none 0 0) 0 0 0 0 0 0)) := hideP ⟨sev_heap HP3.out.box _ _ _ _ _ _ _, sev_below HP3.out.bel (Nat.le_refl _) _ _ _ _ _ _ _⟩
      go_wp2
      exact bodyPost_ret (v := packV (.slice none 0 0) ⟨0, 0, 0, 0, 0, 0⟩) (results_one_cell rfl _ _ w.heap.size _ rfl (loadPack HF.out.1)) rfl ⟨rfl, HF.out.2⟩
    | true =>
      have HGL := hideP hgl
      clear hgl
      go_wp2_with fail
      refine (Shr.along_ok _ mode size HGR.out HGL.out HWB.out HFS.out).mono ?_
      rintro e w3 ⟨rfl, hb3⟩
      have HP3 : Hid (PB w w3) := hideP (HP2.out.below hb3)
      have HGR3 : Hid (Shr.GRow w3 u (vpS xs deep).gs) := hideP (HGR.out.below hb3)
      clear hb3 HP2 HGR
      rw [show Shr.alongI (vpS xs deep).w (vpS xs deep).gs mode size = vpTo xs deep mode size from rfl]
      obtain ⟨tt, htt⟩ : ∃ tt, tt = vpTo xs deep mode size := ⟨_, rfl⟩
      rw [← htt]
      have HTT := hideP htt
      clear htt
      obtain ⟨fo, hfo⟩ : ∃ fo, fo = (Shr.fitsB tt && Shr.fitsB (vpS xs deep).w) := ⟨_, rfl⟩
      rw [← hfo]
      have HFO := hideP hfo
      clear hfo
      cases fo with
      | false =>
        obtain ⟨r0, r1, r2, r3, r4, r5, r6⟩ := pack_cells HP3.out.box
        have fR : ∀ j, w3.frozen? ⟨w.heap.size, j, none⟩ = false := fun j => frozen_of_row w3 w.heap.size j _ _ HP3.out.box
        have HF : Hid ((sev w3 w.heap.size (.slice none 0 0) 0 0 0 0 0 0).heap[w.heap.size]? = some (packO (.slice none 0 0) 0 0 0 0 0 0) ∧ Below w.heap.size w (sev w3 w.heap.size (.slice none 0 0) 0 0 0 0 0 0)) := hideP ⟨sev_heap HP3.out.box _ _ _ _ _ _ _, sev_below HP3.out.bel (Nat.le_refl _) _ _ _ _ _ _ _⟩
        go_wp2
        exact bodyPost_ret (v := packV (.slice none 0 0) ⟨0, 0, 0, 0, 0, 0⟩) (results_one_cell rfl _ _ w.heap.size _ rfl (loadPack HF.out.1)) rfl ⟨rfl, HF.out.2⟩
      | true =>
        go_wp2_with fail
        refine (specFits_any (vpS xs deep).h _).mono ?_
        rintro e w4 ⟨rfl, rfl⟩
        obtain ⟨fh, hfh⟩ : ∃ fh, fh = fitsB (vpS xs deep).h := ⟨_, rfl⟩
        rw [← hfh]
        have HFH := hideP hfh
        clear hfh
        cases fh with
        | false =>
          obtain ⟨r0, r1, r2, r3, r4, r5, r6⟩ := pack_cells HP3.out.box
          have fR : ∀ j, w4.frozen? ⟨w.heap.size, j, none⟩ = false := fun j => frozen_of_row w4 w.heap.size j _ _ HP3.out.box
          have HF : Hid ((sev w4 w.heap.size (.slice none 0 0) 0 0 0 0 0 0).heap[w.heap.size]? = some (packO (.slice none 0 0) 0 0 0 0 0 0) ∧ Below w.heap.size w (sev w4 w.heap.size (.slice none 0 0) 0 0 0 0 0 0)) := hideP ⟨sev_heap HP3.out.box _ _ _ _ _ _ _, sev_below HP3.out.bel (Nat.le_refl _) _ _ _ _ _ _ _⟩
          go_wp2
          exact bodyPost_ret (v := packV (.slice none 0 0) ⟨0, 0, 0, 0, 0, 0⟩) (results_one_cell rfl _ _ w.heap.size _ rfl (loadPack HF.out.1)) rfl ⟨rfl, HF.out.2⟩
        | true =>
          go_wp2_with fail
          refine (specFits_any (vpS xs deep).d _).mono ?_
          rintro e w5 ⟨rfl, rfl⟩
          obtain ⟨fd, hfd⟩ : ∃ fd, fd = fitsB (vpS xs deep).d := ⟨_, rfl⟩
          rw [← hfd]
          have HFD := hideP hfd
          clear hfd
          cases fd with
          | false =>
            obtain ⟨r0, r1, r2, r3, r4, r5, r6⟩ := pack_cells HP3.out.box
            have fR : ∀ j, w5.frozen? ⟨w.heap.size, j, none⟩ = false := fun j => frozen_of_row w5 w.heap.size j _ _ HP3.out.box
            have HF : Hid ((sev w5 w.heap.size (.slice none 0 0) 0 0 0 0 0 0).heap[w.heap.size]? = some (packO (.slice none 0 0) 0 0 0 0 0 0) ∧ Below w.heap.size w (sev w5 w.heap.size (.slice none 0 0) 0 0 0 0 0 0)) := hideP ⟨sev_heap HP3.out.box _ _ _ _ _ _ _, sev_below HP3.out.bel (Nat.le_refl _) _ _ _ _ _ _ _⟩
            go_wp2
            exact bodyPost_ret (v := packV (.slice none 0 0) ⟨0, 0, 0, 0, 0, 0⟩) (results_one_cell rfl _ _ w.heap.size _ rfl (loadPack HF.out.1)) rfl ⟨rfl, HF.out.2⟩
          | true =>
            have HFW : Hid (Shr.fitsB tt = true ∧ Shr.fitsB (vpS xs deep).w = true) := hideP (by have h := HFO.out.symm; simpa only [Bool.and_eq_true] using h)
            go_wp2_with fail
            refine (Shr.specShare_ok (vpS xs deep).w tt (vpQ xs deep mode size) HGR3.out HGL.out HFW.out.2 HFW.out.1 (by unfold vpQ; rw [← HTT.out])).mono ?_
            rintro e w6 ⟨⟨vl, rfl, hrow⟩, hb6⟩
            have HP6 : Hid (PB w w6) := hideP (HP3.out.below hb6)
            have HRL : Hid (Shr.Row w6 vl (vpL xs deep mode size)) := hideP hrow
            have HLN : Hid ((vpL xs deep mode size).length ≤ 1048576) := hideP (by unfold vpL; rw [Shr.shareL_length]; exact HGN.out)
            clear hb6 hrow HP3
            go_wp2_with fail
            refine (Shr.fitsAll_any (HRL.out.below (below1 _ _)) HLN.out).mono ?_
            rintro e w7 ⟨rfl, hw7⟩
            have HP7 : Hid (PB w w7) := hideP (by rw [hw7]; exact HP6.out.below (below1 _ _))
            clear hw7 HP6
            obtain ⟨fl, hfl⟩ : ∃ fl, fl = (vpL xs deep mode size).all Shr.fitsB := ⟨_, rfl⟩
            rw [← hfl]
            have HFL := hideP hfl
            clear hfl
            cases fl with
            | false =>
              obtain ⟨r0, r1, r2, r3, r4, r5, r6⟩ := pack_cells HP7.out.box
              have fR : ∀ j, w7.frozen? ⟨w.heap.size, j, none⟩ = false := fun j => frozen_of_row w7 w.heap.size j _ _ HP7.out.box
              have HF : Hid ((sev w7 w.heap.size (.slice none 0 0) 0 0 0 0 0 0).heap[w.heap.size]? = some (packO (.slice none 0 0) 0 0 0 0 0 0) ∧ Below w.heap.size w (sev w7 w.heap.size (.slice none 0 0) 0 0 0 0 0 0)) := hideP ⟨sev_heap HP7.out.box _ _ _ _ _ _ _, sev_below HP7.out.bel (Nat.le_refl _) _ _ _ _ _ _ _⟩
              go_wp2
              exact bodyPost_ret (v := packV (.slice none 0 0) ⟨0, 0, 0, 0, 0, 0⟩) (results_one_cell rfl _ _ w.heap.size _ rfl (loadPack HF.out.1)) rfl ⟨rfl, HF.out.2⟩
            | true =>
              exfalso
              have h1 := HNO.out
              rw [HALL.out, HGL.out, ← HTT.out, ← HFO.out, ← HFH.out, ← HFD.out, ← HFL.out] at h1
              exact absurd h1 (by decide)
end Go.Proofs.YticalmdhbgkbbaaGreat

namespace Go.Proofs.YticalmdhbgkbbaaGreat
open Go.RowKit
set_option linter.unusedVariables false
set_option linter.unusedSimpArgs false

set_option maxRecDepth 20000 in
set_option maxHeartbeats 8000000 in
theorem specVPack_ok {v : Value} {xs : List Nd} {w : World} (deep mode size : Int) (hdp : 0 ≤ deep ∧ deep ≤ 1073741823) (h : NRow 0 w v xs) (hNN : NN 0 w v xs) (hs : xs.length ≤ 1048576) (hyes : vpOk xs deep mode size = true) :
    Calls Tryz.prog 18 #[v, .int .i64 mode, .int .i64 size, .int .i64 deep] w fun e w' => ∃ u, e = .returned (packV u (Shr.shareS (vpS xs deep).gs (vpQ xs deep mode size))) ∧ w'.ownsRow w.heap.size 77 15 u (xs.length + 1) (flatN (vpN xs deep mode size)) ∧ Below w.heap.size w w' := by
  have hall := hyes
  unfold vpOk at hall
  simp only [Bool.and_eq_true] at hall
  obtain ⟨⟨⟨⟨⟨hpk, hgl⟩, hft, hfw⟩, hfh⟩, hfd⟩, hfl⟩ := hall
  have HC : Hid (∀ W, Below w.heap.size w W → Calls Tryz.prog 37 #[v, .int .i64 mode, .int .i64 size] W fun e w' => e = .returned (.bool true) ∧ Below W.heap.size W w') := hideP (fun W hW => hpk ▸ specCan_any mode size (h.below ndStable hW) hs)
  have hcan : canB xs = true := by unfold packB at hpk; simp only [Bool.and_eq_true] at hpk; exact hpk.1.1
  have hfs : fitsB size = true := by unfold packB at hpk; simp only [Bool.and_eq_true] at hpk; exact hpk.2
  have HN := hideP h
  have HNN := hideP hNN
  obtain ⟨ao, n, cap, rfl, hl, -⟩ := h
  have HL := hideP hl
  have HFS : Hid (Shr.fitsB size = true) := hideP hfs
  have hin : SIn (vpS xs deep) (begins xs).length := vpS_in (can_list hcan) hdp.1
  have hcnt : (begins xs).length ≤ 20000 := by
    have h1 := starts_count (xs := xs) (xs.length + 1) 0
    have h2 := (allOk (can_list hcan)).len
    unfold begins
    omega
  have HWB : Hid (-1152921504606846976 ≤ (vpS xs deep).w ∧ (vpS xs deep).w ≤ 1152921504606846976) := hideP ⟨by have := hin.w1; omega, by have := hin.w2; omega⟩
  have HGN : Hid ((vpS xs deep).gs.length ≤ 1048576) := hideP (by have := hin.n; omega)
  have HROW : Hid (∀ W, Below w.heap.size w W → Calls Tryz.prog 52 #[.slice ao n cap, .int .i64 deep] W fun e w' => (∃ u, e = .returned (.tuple #[.int .i64 (vpS xs deep).w, u, .int .i64 (vpS xs deep).h, .int .i64 (vpS xs deep).d]) ∧ w'.ownsRow W.heap.size 50 5 u (vpS xs deep).gs.length (f5 (vpS xs deep).gs)) ∧ Below W.heap.size W w') := hideP (fun W hW => (by have h := specStack_any deep hdp (HN.out.below ndStable hW) (allOk (can_list hcan)) (can_in hcan); rw [show spk xs (starts xs (xs.length + 1) 0) deep (starts xs (xs.length + 1) 0).length = vpS xs deep from spk_all xs deep] at h; exact h))
  have HLLEN : Hid ((vpL xs deep mode size).length = (gluesAt xs (starts xs (xs.length + 1) 0)).length) := hideP (by
    unfold vpL
    rw [Shr.shareL_length]
    rw [vpS_n]; rfl)
  have HSET : Hid (∀ W vl, Below w.heap.size w W → Shr.Row W vl (vpL xs deep mode size) → Calls Tryz.prog 43 #[.slice ao n cap, vl] W fun e w' => ∃ g c, e = .returned (.slice (some ⟨g, 0, none⟩) n c) ∧ w'.ownsRow W.heap.size 77 15 (.slice (some ⟨g, 0, none⟩) n c) n (flatN (setL (gluesAt xs (begins xs)) (vpL xs deep mode size) xs)) ∧ Below W.heap.size W w') := hideP (fun W vl hW hR => by
    rcases HNN.out with ⟨hv, hx⟩ | ⟨b, off, cap', hv, hcap, _, hb, hc⟩
    · cases hv
      subst hx
      have h0 : (vpL ([] : List Nd) deep mode size) = [] := by
        have h1 := HLLEN.out
        exact List.eq_nil_of_length_eq_zero h1
      have h1 := specSet_nil (lv := vl) (HN.out.below ndStable hW)
      exact h1
    · have hn2 : n = xs.length := HL.out.symm
      subst hn2
      cases hv
      exact specSet_some (HN.out.below ndStable hW) hcap (allOk (can_list hcan)) (fun hp => Nat.lt_of_lt_of_le (hb hp) hW.size) (fun j u hj => by
        have hlt : j < (flatN xs).length := (List.getElem?_eq_some_iff.1 hj).1
        rw [flatN_len] at hlt
        exact (hW.cell (p := ⟨b, off + j, none⟩) (hb (by omega))).trans (hc j u hj)) hR HLLEN.out)
  have hn : n ≤ 20000 := by rw [← hl]; exact (allOk (can_list hcan)).len
  have HGL := hideP hgl
  have HFW : Hid (Shr.fitsB (vpTo xs deep mode size) = true ∧ Shr.fitsB (vpS xs deep).w = true) := hideP ⟨hft, hfw⟩
  have HFH := hideP hfh
  have HFD := hideP hfd
  have HFL := hideP hfl
  have HLN : Hid ((vpL xs deep mode size).length ≤ 1048576) := hideP (by unfold vpL; rw [Shr.shareL_length]; exact HGN.out)
  obtain ⟨S, hS⟩ : ∃ S, S = Shr.shareS (vpS xs deep).gs (vpQ xs deep mode size) := ⟨_, rfl⟩
  rw [← hS]
  obtain ⟨z0, z1, z2, z3, z4, z5⟩ := S
  have HSV : Hid ((Shr.shareS (vpS xs deep).gs (vpQ xs deep mode size)).v = Shr.setV z0 z1 z2 z3 z4 z5) := hideP (by rw [← hS])
  obtain ⟨L, hLd⟩ : ∃ L, L = setL (gluesAt xs (begins xs)) (vpL xs deep mode size) xs := ⟨_, rfl⟩
  rw [← hLd] at HSET
  have HLD := hideP hLd
  obtain ⟨i0, hi, hy0, hy1, hy2⟩ := info_parts Tryz.info57c
  obtain ⟨tt, htt⟩ : ∃ tt, tt = vpTo xs deep mode size := ⟨_, rfl⟩
  have HTT := hideP htt
  clear hpk hcan hfs hin hcnt hgl hft hfw hfh hfd hfl hl hNN hyes htt hS hLd
  have hdd1 : decide (deep < 0) = false := by simp; omega
  have hdd2 : decide ((1073741823 : Int) < deep) = false := by simp; omega
  have hdd3 : ¬ deep < 0 := by omega
  have hdd4 : ¬ (1073741823 : Int) < deep := by omega
  clear hdp
  go_enter Tryz.func18, Tryz.ntmps18
  go_wp2_with fail
  refine (HC.out _ (below1 _ _)).mono ?_
  rintro e w1 ⟨rfl, hb1⟩
  have HP1 : Hid (PB w w1) := hideP ((PB.start w).below hb1)
  clear hb1 HC
  go_wp2_with fail
  refine (HROW.out _ HP1.out.bel).mono ?_
  rintro e w2 ⟨⟨u, rfl, hown⟩, hb2⟩
  have HP2 : Hid (PB w w2) := hideP (HP1.out.below hb2)
  have HGR : Hid (Shr.GRow w2 u (vpS xs deep).gs) := hideP (own_GRow hown rfl)
  clear hown hb2 HROW HP1
  go_wp2_with fail
  refine (Shr.along_ok _ mode size HGR.out HGL.out HWB.out HFS.out).mono ?_
  rintro e w3 ⟨rfl, hb3⟩
  have HP3 : Hid (PB w w3) := hideP (HP2.out.below hb3)
  have HGR3 : Hid (Shr.GRow w3 u (vpS xs deep).gs) := hideP (HGR.out.below hb3)
  clear hb3 HP2 HGR
  rw [show Shr.alongI (vpS xs deep).w (vpS xs deep).gs mode size = vpTo xs deep mode size from rfl, HFW.out.1, HFW.out.2, ← HTT.out, Bool.and_true]
  go_wp2_with fail
  refine (specFits_any (vpS xs deep).h _).mono ?_
  rintro e w4 ⟨rfl, rfl⟩
  rw [HFH.out]
  go_wp2_with fail
  refine (specFits_any (vpS xs deep).d _).mono ?_
  rintro e w5 ⟨rfl, rfl⟩
  rw [HFD.out]
  go_wp2_with fail
  refine (Shr.specShare_ok (vpS xs deep).w tt (vpQ xs deep mode size) HGR3.out HGL.out HFW.out.2 (by rw [HTT.out]; exact HFW.out.1) (by unfold vpQ; rw [← HTT.out])).mono ?_
  rintro e w6 ⟨⟨vl, rfl, hrow⟩, hb6⟩
  rw [HSV.out]
  have HP6 : Hid (PB w w6) := hideP (HP3.out.below hb6)
  have HRL : Hid (Shr.Row w6 vl (vpL xs deep mode size)) := hideP hrow
  clear hb6 hrow HP3 HGR3
  go_wp2_with fail
  refine (Shr.fitsAll_any (HRL.out.below (below1 _ _)) HLN.out).mono ?_
  rintro e w7 ⟨rfl, hw7⟩
  rw [HFL.out]
  go_wp2_with fail
  obtain ⟨W8, hW8⟩ : ∃ W8, W8 = (w6.alloc (.cells #[.int .i64 z0, .int .i64 z1, .int .i64 z2, .int .i64 z3, .int .i64 z4, .int .i64 z5] 26)).alloc (.cells #[.int .i64 7, .int .i64 (vpS xs deep).h, .int .i64 tt, .int .i64 (vpS xs deep).d, .int .i64 0, .int .i64 0, .int .i64 0, .int .i64 0, .int .i64 0, .int .i64 0, .int .i64 0, .int .i64 0, .int .i64 0, .string ⟨#[]⟩, .int .i64 (n : Int)] 77) := ⟨_, rfl⟩
  rw [← hW8]
  have B68 : Below w6.heap.size w6 W8 := by rw [hW8]; exact below_more (below1 _ _) (below1 _ _) (by simp)
  have HS9 : Hid (∀ x : World, x.heap[w6.heap.size + 1]? = W8.heap[w6.heap.size + 1]? → x.heap[w6.heap.size]? = W8.heap[w6.heap.size]? → x.cell? ⟨w6.heap.size + 1, 0, none⟩ = some (.int .i64 7) ∧ x.cell? ⟨w6.heap.size + 1, 1, none⟩ = some (.int .i64 (vpS xs deep).h) ∧ x.cell? ⟨w6.heap.size + 1, 2, none⟩ = some (.int .i64 tt) ∧ x.cell? ⟨w6.heap.size + 1, 3, none⟩ = some (.int .i64 (vpS xs deep).d) ∧ x.cell? ⟨w6.heap.size + 1, 4, none⟩ = some (.int .i64 0) ∧ x.cell? ⟨w6.heap.size + 1, 5, none⟩ = some (.int .i64 0) ∧ x.cell? ⟨w6.heap.size + 1, 6, none⟩ = some (.int .i64 0) ∧ x.cell? ⟨w6.heap.size + 1, 7, none⟩ = some (.int .i64 0) ∧ x.cell? ⟨w6.heap.size + 1, 8, none⟩ = some (.int .i64 0) ∧ x.cell? ⟨w6.heap.size + 1, 9, none⟩ = some (.int .i64 0) ∧ x.cell? ⟨w6.heap.size + 1, 10, none⟩ = some (.int .i64 0) ∧ x.cell? ⟨w6.heap.size + 1, 11, none⟩ = some (.int .i64 0) ∧ x.cell? ⟨w6.heap.size + 1, 12, none⟩ = some (.int .i64 0) ∧ x.cell? ⟨w6.heap.size + 1, 13, none⟩ = some (.string ⟨#[]⟩) ∧ x.cell? ⟨w6.heap.size + 1, 14, none⟩ = some (.int .i64 (n : Int)) ∧ x.cell? ⟨w6.heap.size, 0, none⟩ = some (.int .i64 z0) ∧ x.cell? ⟨w6.heap.size, 1, none⟩ = some (.int .i64 z1) ∧ x.cell? ⟨w6.heap.size, 2, none⟩ = some (.int .i64 z2) ∧ x.cell? ⟨w6.heap.size, 3, none⟩ = some (.int .i64 z3) ∧ x.cell? ⟨w6.heap.size, 4, none⟩ = some (.int .i64 z4) ∧ x.cell? ⟨w6.heap.size, 5, none⟩ = some (.int .i64 z5)) := hideP (fun x hx1 hx2 => by
    have h1 : W8.heap[w6.heap.size + 1]? = some (.cells #[.int .i64 7, .int .i64 (vpS xs deep).h, .int .i64 tt, .int .i64 (vpS xs deep).d, .int .i64 0, .int .i64 0, .int .i64 0, .int .i64 0, .int .i64 0, .int .i64 0, .int .i64 0, .int .i64 0, .int .i64 0, .string ⟨#[]⟩, .int .i64 (n : Int)] 77 (0, 0)) := by rw [hW8]; simpa using heap_alloc_new (w6.alloc (.cells #[.int .i64 z0, .int .i64 z1, .int .i64 z2, .int .i64 z3, .int .i64 z4, .int .i64 z5] 26)) (.cells #[.int .i64 7, .int .i64 (vpS xs deep).h, .int .i64 tt, .int .i64 (vpS xs deep).d, .int .i64 0, .int .i64 0, .int .i64 0, .int .i64 0, .int .i64 0, .int .i64 0, .int .i64 0, .int .i64 0, .int .i64 0, .string ⟨#[]⟩, .int .i64 (n : Int)] 77)
    have h2 : W8.heap[w6.heap.size]? = some (.cells #[.int .i64 z0, .int .i64 z1, .int .i64 z2, .int .i64 z3, .int .i64 z4, .int .i64 z5] 26 (0, 0)) := by rw [hW8]; exact ((below1 _ _).block _ (by simp)).trans (heap_alloc_new w6 _)
    have k1 := hx1.trans h1
    have k2 := hx2.trans h2
    refine ⟨?_, ?_, ?_, ?_, ?_, ?_, ?_, ?_, ?_, ?_, ?_, ?_, ?_, ?_, ?_, ?_, ?_, ?_, ?_, ?_, ?_⟩ <;> first | exact cell_of_row x _ _ _ 77 _ k1 | exact cell_of_row x _ _ _ 26 _ k2)
  have HS8 : Hid (∀ x, Below W8.heap.size W8 x → x.cell? ⟨w6.heap.size + 1, 0, none⟩ = some (.int .i64 7) ∧ x.cell? ⟨w6.heap.size + 1, 1, none⟩ = some (.int .i64 (vpS xs deep).h) ∧ x.cell? ⟨w6.heap.size + 1, 2, none⟩ = some (.int .i64 tt) ∧ x.cell? ⟨w6.heap.size + 1, 3, none⟩ = some (.int .i64 (vpS xs deep).d) ∧ x.cell? ⟨w6.heap.size + 1, 4, none⟩ = some (.int .i64 0) ∧ x.cell? ⟨w6.heap.size + 1, 5, none⟩ = some (.int .i64 0) ∧ x.cell? ⟨w6.heap.size + 1, 6, none⟩ = some (.int .i64 0) ∧ x.cell? ⟨w6.heap.size + 1, 7, none⟩ = some (.int .i64 0) ∧ x.cell? ⟨w6.heap.size + 1, 8, none⟩ = some (.int .i64 0) ∧ x.cell? ⟨w6.heap.size + 1, 9, none⟩ = some (.int .i64 0) ∧ x.cell? ⟨w6.heap.size + 1, 10, none⟩ = some (.int .i64 0) ∧ x.cell? ⟨w6.heap.size + 1, 11, none⟩ = some (.int .i64 0) ∧ x.cell? ⟨w6.heap.size + 1, 12, none⟩ = some (.int .i64 0) ∧ x.cell? ⟨w6.heap.size + 1, 13, none⟩ = some (.string ⟨#[]⟩) ∧ x.cell? ⟨w6.heap.size + 1, 14, none⟩ = some (.int .i64 (n : Int)) ∧ x.cell? ⟨w6.heap.size, 0, none⟩ = some (.int .i64 z0) ∧ x.cell? ⟨w6.heap.size, 1, none⟩ = some (.int .i64 z1) ∧ x.cell? ⟨w6.heap.size, 2, none⟩ = some (.int .i64 z2) ∧ x.cell? ⟨w6.heap.size, 3, none⟩ = some (.int .i64 z3) ∧ x.cell? ⟨w6.heap.size, 4, none⟩ = some (.int .i64 z4) ∧ x.cell? ⟨w6.heap.size, 5, none⟩ = some (.int .i64 z5)) := hideP (fun x hx => by
    have h1 : W8.heap[w6.heap.size + 1]? = some (.cells #[.int .i64 7, .int .i64 (vpS xs deep).h, .int .i64 tt, .int .i64 (vpS xs deep).d, .int .i64 0, .int .i64 0, .int .i64 0, .int .i64 0, .int .i64 0, .int .i64 0, .int .i64 0, .int .i64 0, .int .i64 0, .string ⟨#[]⟩, .int .i64 (n : Int)] 77 (0, 0)) := by rw [hW8]; simpa using heap_alloc_new (w6.alloc (.cells #[.int .i64 z0, .int .i64 z1, .int .i64 z2, .int .i64 z3, .int .i64 z4, .int .i64 z5] 26)) (.cells #[.int .i64 7, .int .i64 (vpS xs deep).h, .int .i64 tt, .int .i64 (vpS xs deep).d, .int .i64 0, .int .i64 0, .int .i64 0, .int .i64 0, .int .i64 0, .int .i64 0, .int .i64 0, .int .i64 0, .int .i64 0, .string ⟨#[]⟩, .int .i64 (n : Int)] 77)
    have h2 : W8.heap[w6.heap.size]? = some (.cells #[.int .i64 z0, .int .i64 z1, .int .i64 z2, .int .i64 z3, .int .i64 z4, .int .i64 z5] 26 (0, 0)) := by rw [hW8]; exact ((below1 _ _).block _ (by simp)).trans (heap_alloc_new w6 _)
    have k1 := (hx.block _ (Array.getElem?_eq_some_iff.1 h1).1).trans h1
    have k2 := (hx.block _ (Array.getElem?_eq_some_iff.1 h2).1).trans h2
    refine ⟨?_, ?_, ?_, ?_, ?_, ?_, ?_, ?_, ?_, ?_, ?_, ?_, ?_, ?_, ?_, ?_, ?_, ?_, ?_, ?_, ?_⟩ <;> first | exact cell_of_row x _ _ _ 77 _ k1 | exact cell_of_row x _ _ _ 26 _ k2)
  have HB8 : Hid (∀ x, Below W8.heap.size W8 x → Below w.heap.size w x ∧ PB w x ∧ w.heap.size ≤ W8.heap.size) := hideP (fun x hx => by
    have h1 := (HP6.out.below B68).below hx
    exact ⟨h1.bel, h1, (HP6.out.below B68).bel.size⟩)
  have HC8 : Hid (∀ x, Below W8.heap.size W8 x → Calls Tryz.prog 43 #[.slice ao n cap, vl] x fun e w' => ∃ g c, e = .returned (.slice (some ⟨g, 0, none⟩) n c) ∧ w'.ownsRow x.heap.size 77 15 (.slice (some ⟨g, 0, none⟩) n c) n (flatN L) ∧ Below x.heap.size x w') := hideP (fun x hx => HSET.out x vl (HB8.out x hx).1 ((HRL.out.below B68).below hx))
  have HLL : Hid ((flatN L).length = n * 15) := hideP (by rw [flatN_len, HLD.out, setL_len, HL.out])
  have hW8le : w.heap.size ≤ W8.heap.size := (HB8.out W8 (Below.refl _ _)).2.2
  have HEND : Hid (∀ w10 a c, Below W8.heap.size W8 w10 → w10.ownsRow w.heap.size 77 15 (.slice a (1 + n) c) (1 + n) ([.int .i64 7, .int .i64 (vpS xs deep).h, .int .i64 tt, .int .i64 (vpS xs deep).d, .int .i64 0, .int .i64 0, .int .i64 0, .int .i64 0, .int .i64 0, .int .i64 0, .int .i64 0, .int .i64 0, .int .i64 0, .string ⟨#[]⟩, .int .i64 (n : Int)] ++ flatN L) → (sev w10 w.heap.size (.slice a (1 + n) c) z0 z1 z2 z3 z4 z5).ownsRow w.heap.size 77 15 (.slice a (1 + n) c) (xs.length + 1) (flatN (vpN xs deep mode size)) ∧ (sev w10 w.heap.size (.slice a (1 + n) c) z0 z1 z2 z3 z4 z5).heap[w.heap.size]? = some (packO (.slice a (1 + n) c) z0 z1 z2 z3 z4 z5) ∧ Below w.heap.size w (sev w10 w.heap.size (.slice a (1 + n) c) z0 z1 z2 z3 z4 z5)) := hideP (fun w10 a c hb ho => by
    have hP := (HB8.out w10 hb).2.1
    refine ⟨?_, sev_heap hP.box _ _ _ _ _ _ _, sev_below hP.bel (Nat.le_refl _) _ _ _ _ _ _ _⟩
    have h1 := own_sev hP ho (.slice a (1 + n) c) z0 z1 z2 z3 z4 z5
    rw [show xs.length + 1 = 1 + n by rw [HL.out]; omega]
    unfold vpN
    rw [← HLD.out, ← HTT.out, HL.out]
    exact h1)
  have hw6 : w.heap.size < w6.heap.size := (Array.getElem?_eq_some_iff.1 HP6.out.box).1
  have hlt8 : w6.heap.size + 1 < W8.heap.size := by
    have h1 := (HS8.out W8 (Below.refl _ _)).1
    exact World.block_lt_of_cell? _ _ h1
  clear hW8 hw7 HRL HSET HP6
  refine wp_region_held_drew (S := fun x => x.cell? ⟨w6.heap.size + 1, 0, none⟩ = some (.int .i64 7) ∧ x.cell? ⟨w6.heap.size + 1, 1, none⟩ = some (.int .i64 (vpS xs deep).h) ∧ x.cell? ⟨w6.heap.size + 1, 2, none⟩ = some (.int .i64 tt) ∧ x.cell? ⟨w6.heap.size + 1, 3, none⟩ = some (.int .i64 (vpS xs deep).d) ∧ x.cell? ⟨w6.heap.size + 1, 4, none⟩ = some (.int .i64 0) ∧ x.cell? ⟨w6.heap.size + 1, 5, none⟩ = some (.int .i64 0) ∧ x.cell? ⟨w6.heap.size + 1, 6, none⟩ = some (.int .i64 0) ∧ x.cell? ⟨w6.heap.size + 1, 7, none⟩ = some (.int .i64 0) ∧ x.cell? ⟨w6.heap.size + 1, 8, none⟩ = some (.int .i64 0) ∧ x.cell? ⟨w6.heap.size + 1, 9, none⟩ = some (.int .i64 0) ∧ x.cell? ⟨w6.heap.size + 1, 10, none⟩ = some (.int .i64 0) ∧ x.cell? ⟨w6.heap.size + 1, 11, none⟩ = some (.int .i64 0) ∧ x.cell? ⟨w6.heap.size + 1, 12, none⟩ = some (.int .i64 0) ∧ x.cell? ⟨w6.heap.size + 1, 13, none⟩ = some (.string ⟨#[]⟩) ∧ x.cell? ⟨w6.heap.size + 1, 14, none⟩ = some (.int .i64 (n : Int)) ∧ x.cell? ⟨w6.heap.size, 0, none⟩ = some (.int .i64 z0) ∧ x.cell? ⟨w6.heap.size, 1, none⟩ = some (.int .i64 z1) ∧ x.cell? ⟨w6.heap.size, 2, none⟩ = some (.int .i64 z2) ∧ x.cell? ⟨w6.heap.size, 3, none⟩ = some (.int .i64 z3) ∧ x.cell? ⟨w6.heap.size, 4, none⟩ = some (.int .i64 z4) ∧ x.cell? ⟨w6.heap.size, 5, none⟩ = some (.int .i64 z5)) (by kernel_rfl) (HS8.out _ ((Below.refl _ _).drew)) (fun hS => ?_)
  refine wpAnyH_take (i := 0) (v := .agg #[.int .i64 7, .int .i64 (vpS xs deep).h, .int .i64 tt, .int .i64 (vpS xs deep).d, .int .i64 0, .int .i64 0, .int .i64 0, .int .i64 0, .int .i64 0, .int .i64 0, .int .i64 0, .int .i64 0, .int .i64 0, .string ⟨#[]⟩, .int .i64 (n : Int)]) rfl (by kernel_rfl) (by kernel_rfl) (by kernel_rfl) (fun _ _ _ h => h) (Or.inl ⟨by first | rfl | go_simp, fun wx hx => by obtain ⟨hx0, hx1, hx2, hx3, hx4, hx5, hx6, hx7, hx8, hx9, hx10, hx11, hx12, hx13, hx14, hx15, hx16, hx17, hx18, hx19, hx20⟩ := hx; go_simp⟩) hS ?_
  try simp only [Act.put, List.getElem_toArray, List.getElem_cons_zero, List.getElem_cons_succ, List.setIfInBounds_toArray, List.set_cons_zero, List.set_cons_succ]
  refine wpAnyH_take (i := 2) (v := .slice ao n cap) rfl (by kernel_rfl) (by kernel_rfl) (by kernel_rfl) (fun _ _ _ h => h) (Or.inl ⟨by first | rfl | go_simp, fun wx hx => by obtain ⟨hx0, hx1, hx2, hx3, hx4, hx5, hx6, hx7, hx8, hx9, hx10, hx11, hx12, hx13, hx14, hx15, hx16, hx17, hx18, hx19, hx20⟩ := hx; go_simp⟩) hS ?_
  try simp only [Act.put, List.getElem_toArray, List.getElem_cons_zero, List.getElem_cons_succ, List.setIfInBounds_toArray, List.set_cons_zero, List.set_cons_succ]
  refine wpAnyH_take (i := 3) (v := vl) rfl (by kernel_rfl) (by kernel_rfl) (by kernel_rfl) (fun _ _ _ h => h) (Or.inl ⟨by first | rfl | go_simp, fun wx hx => by obtain ⟨hx0, hx1, hx2, hx3, hx4, hx5, hx6, hx7, hx8, hx9, hx10, hx11, hx12, hx13, hx14, hx15, hx16, hx17, hx18, hx19, hx20⟩ := hx; go_simp⟩) hS ?_
  try simp only [Act.put, List.getElem_toArray, List.getElem_cons_zero, List.getElem_cons_succ, List.setIfInBounds_toArray, List.set_cons_zero, List.set_cons_succ]
  refine wpAnyH_take (i := 6) (v := .agg #[.int .i64 z0, .int .i64 z1, .int .i64 z2, .int .i64 z3, .int .i64 z4, .int .i64 z5]) rfl (by kernel_rfl) (by kernel_rfl) (by kernel_rfl) (fun _ _ _ h => h) (Or.inl ⟨by first | rfl | go_simp, fun wx hx => by obtain ⟨hx0, hx1, hx2, hx3, hx4, hx5, hx6, hx7, hx8, hx9, hx10, hx11, hx12, hx13, hx14, hx15, hx16, hx17, hx18, hx19, hx20⟩ := hx; go_simp⟩) hS ?_
  try simp only [Act.put, List.getElem_toArray, List.getElem_cons_zero, List.getElem_cons_succ, List.setIfInBounds_toArray, List.set_cons_zero, List.set_cons_succ]
  refine wpAnyH_ready (rs := [1, 4]) (by kernel_rfl) (by simp) ?_
  refine AllReadyH.cons rfl (fun K hK => ?_) (AllReadyH.cons rfl (fun K hK => ?_) AllReadyH.nil)
  · rw [if_pos (by first | rfl | go_simp)]
    go_simp
    have HBA : Below W8.heap.size W8 (W8.alloc (.cells #[.int .i64 7, .int .i64 (vpS xs deep).h, .int .i64 tt, .int .i64 (vpS xs deep).d, .int .i64 0, .int .i64 0, .int .i64 0, .int .i64 0, .int .i64 0, .int .i64 0, .int .i64 0, .int .i64 0, .int .i64 0, .string ⟨#[]⟩, .int .i64 (n : Int)] 77)).drew := ((Below.refl _ _).alloc (Nat.le_refl _) _).drew
    refine hK.out _ _ (HS8.out _ HBA) (fun hS => ?_)
    try simp only [Act.put, List.getElem_toArray, List.getElem_cons_zero, List.getElem_cons_succ, List.setIfInBounds_toArray, List.set_cons_zero, List.set_cons_succ]
    clear hK K
    refine wpAnyH_ready (rs := [4]) (by kernel_rfl) (by simp) ?_
    refine AllReadyH.cons rfl (fun K hK => ?_) AllReadyH.nil
    rw [if_pos (by first | rfl | go_simp)]
    go_simp
    go_at_call 43
    refine (HC8.out _ HBA).mono ?_
    rintro e w9 ⟨g9, c9, rfl, hown9, hb9⟩
    have HB9 : Below W8.heap.size W8 w9 := below_more HBA hb9 (by simp)
    have N9 : Hid (∀ j u, (flatN L)[j]? = some u → w9.cell? ⟨g9, 0 + j, none⟩ = some u) := hideP (fun j u hj => by rw [Nat.zero_add]; exact (own_cell hown9 hj).1)
    have hsz9 : w.heap.size ≤ w9.heap.size := Nat.le_trans hW8le HB9.size
    have OWA : Hid (w9.ownsRow w.heap.size 77 15 (.slice (some ⟨W8.heap.size, 0, none⟩) 1 1) 1 [.int .i64 7, .int .i64 (vpS xs deep).h, .int .i64 tt, .int .i64 (vpS xs deep).d, .int .i64 0, .int .i64 0, .int .i64 0, .int .i64 0, .int .i64 0, .int .i64 0, .int .i64 0, .int .i64 0, .int .i64 0, .string ⟨#[]⟩, .int .i64 (n : Int)]) := hideP (ownG_below (w := (W8.alloc (.cells #[.int .i64 7, .int .i64 (vpS xs deep).h, .int .i64 tt, .int .i64 (vpS xs deep).d, .int .i64 0, .int .i64 0, .int .i64 0, .int .i64 0, .int .i64 0, .int .i64 0, .int .i64 0, .int .i64 0, .int .i64 0, .string ⟨#[]⟩, .int .i64 (n : Int)] 77)).drew) (owns_drewG (own_made1 W8 hW8le #[.int .i64 7, .int .i64 (vpS xs deep).h, .int .i64 tt, .int .i64 (vpS xs deep).d, .int .i64 0, .int .i64 0, .int .i64 0, .int .i64 0, .int .i64 0, .int .i64 0, .int .i64 0, .int .i64 0, .int .i64 0, .string ⟨#[]⟩, .int .i64 (n : Int)] rfl)) hb9)
    clear hown9 hb9 HBA
    refine hK.out _ _ (HS8.out _ HB9) (fun hS => ?_)
    try simp only [Act.put, List.getElem_toArray, List.getElem_cons_zero, List.getElem_cons_succ, List.setIfInBounds_toArray, List.set_cons_zero, List.set_cons_succ]
    clear hK K
    refine wpAnyH_ready (rs := [5]) (by kernel_rfl) (by simp) ?_
    refine AllReadyH.cons rfl (fun K hK => ?_) AllReadyH.nil
    rw [if_pos (by first | rfl | go_simp)]
    refine wp_append_own _ _ _ 24 rfl w.heap.size 77 i0 (ndV Nd.none) 15 128 Tryz.underlying24 hi hy0 hy1 hy2 rfl (by decide) (.slice (some ⟨W8.heap.size, 0, none⟩) 1 1) 1 [.int .i64 7, .int .i64 (vpS xs deep).h, .int .i64 tt, .int .i64 (vpS xs deep).d, .int .i64 0, .int .i64 0, .int .i64 0, .int .i64 0, .int .i64 0, .int .i64 0, .int .i64 0, .int .i64 0, .int .i64 0, .string ⟨#[]⟩, .int .i64 (n : Int)] rfl OWA.out ⟨g9, 0, none⟩ n c9 (flatN L) rfl HLL.out (by intro j u hj; rw [Addr.add_lit]; exact N9.out j u hj) (flatN_one L) (by unfold maxLen; omega) (by omega) hsz9 ?_
    intro v10 w10 hown10 hgrow10 hnil10
    obtain ⟨a10, c10, rfl⟩ := ownG_shape hown10
    have HB10 : Below W8.heap.size W8 w10 := Below.grown HB9 hgrow10 HB9.size (fun k hk => by simp [Value.ownBlock] at hk; have := HB9.size; omega)
    have HE10 := hideP (HEND.out w10 a10 c10 HB10 hown10)
    obtain ⟨r0, r1, r2, r3, r4, r5, r6⟩ := pack_cells (HB8.out w10 HB10).2.1.box
    have fR : ∀ j, w10.frozen? ⟨w.heap.size, j, none⟩ = false := fun j => frozen_of_row w10 w.heap.size j _ _ (HB8.out w10 HB10).2.1.box
    have HS10 := hideP (HS9.out (sev w10 w.heap.size (.slice a10 (1 + n) c10) z0 z1 z2 z3 z4 z5) (by rw [sev_other (by omega)]; exact HB10.block _ hlt8) (by rw [sev_other (by omega)]; exact HB10.block _ (by omega)))
    clear hown10 hgrow10 hnil10
    refine hK.out _ _ (HS8.out _ HB10) (fun hS => ?_)
    try simp only [Act.put, List.getElem_toArray, List.getElem_cons_zero, List.getElem_cons_succ, List.setIfInBounds_toArray, List.set_cons_zero, List.set_cons_succ]
    clear hK K
    refine wpAnyH_take (i := 7) (v := packV (.slice a10 (1 + n) c10) ⟨z0, z1, z2, z3, z4, z5⟩) rfl (by kernel_rfl) (by kernel_rfl) (by kernel_rfl) (fun _ _ _ h => h) (Or.inl ⟨by first | rfl | go_simp, fun wx hx => by obtain ⟨hx0, hx1, hx2, hx3, hx4, hx5, hx6, hx7, hx8, hx9, hx10, hx11, hx12, hx13, hx14, hx15, hx16, hx17, hx18, hx19, hx20⟩ := hx; go_simp⟩) hS ?_
    try simp only [Act.put, List.getElem_toArray, List.getElem_cons_zero, List.getElem_cons_succ, List.setIfInBounds_toArray, List.set_cons_zero, List.set_cons_succ]
    refine wpAnyH_ready (rs := [8]) (by kernel_rfl) (by simp) ?_
    refine AllReadyH.cons rfl (fun K hK => ?_) AllReadyH.nil
    rw [if_pos (by first | rfl | go_simp)]
    go_simp
    refine hK.out _ _ HS10.out (fun hS => ?_)
    try simp only [Act.put, List.getElem_toArray, List.getElem_cons_zero, List.getElem_cons_succ, List.setIfInBounds_toArray, List.set_cons_zero, List.set_cons_succ]
    clear hK K
    refine wpAnyH_done (by kernel_rfl) ?_ _
    go_wp2
    exact bodyPost_ret (v := packV (.slice a10 (1 + n) c10) ⟨z0, z1, z2, z3, z4, z5⟩) (results_one_cell rfl _ _ w.heap.size _ rfl (loadPack HE10.out.2.1)) rfl ⟨_, rfl, HE10.out.1, HE10.out.2.2⟩
  · rw [if_pos (by first | rfl | go_simp)]
    go_simp
    go_at_call 43
    refine (HC8.out _ ((Below.refl _ _).drew)).mono ?_
    rintro e w9' ⟨g9, c9, rfl, hown9, hb9⟩
    have HB9' : Below W8.heap.size W8 w9' := below_more ((Below.refl _ _).drew) hb9 (by simp)
    have hsz9' : w.heap.size ≤ w9'.heap.size := Nat.le_trans hW8le HB9'.size
    have N9' : Hid (∀ j u, (flatN L)[j]? = some u → w9'.cell? ⟨g9, 0 + j, none⟩ = some u) := hideP (fun j u hj => by rw [Nat.zero_add]; exact (own_cell hown9 hj).1)
    clear hown9 hb9
    refine hK.out _ _ (HS8.out _ HB9') (fun hS => ?_)
    try simp only [Act.put, List.getElem_toArray, List.getElem_cons_zero, List.getElem_cons_succ, List.setIfInBounds_toArray, List.set_cons_zero, List.set_cons_succ]
    clear hK K
    refine wpAnyH_ready (rs := [1]) (by kernel_rfl) (by simp) ?_
    refine AllReadyH.cons rfl (fun K hK => ?_) AllReadyH.nil
    rw [if_pos (by first | rfl | go_simp)]
    go_simp
    obtain ⟨w9, hw9⟩ : ∃ w9, w9 = w9'.alloc (.cells #[.int .i64 7, .int .i64 (vpS xs deep).h, .int .i64 tt, .int .i64 (vpS xs deep).d, .int .i64 0, .int .i64 0, .int .i64 0, .int .i64 0, .int .i64 0, .int .i64 0, .int .i64 0, .int .i64 0, .int .i64 0, .string ⟨#[]⟩, .int .i64 (n : Int)] 77) := ⟨_, rfl⟩
    rw [← hw9]
    have HB9 : Below W8.heap.size W8 w9 := by rw [hw9]; exact HB9'.alloc HB9'.size _
    have OWA : Hid (w9.ownsRow w.heap.size 77 15 (.slice (some ⟨w9'.heap.size, 0, none⟩) 1 1) 1 [.int .i64 7, .int .i64 (vpS xs deep).h, .int .i64 tt, .int .i64 (vpS xs deep).d, .int .i64 0, .int .i64 0, .int .i64 0, .int .i64 0, .int .i64 0, .int .i64 0, .int .i64 0, .int .i64 0, .int .i64 0, .string ⟨#[]⟩, .int .i64 (n : Int)]) := hideP (by rw [hw9]; exact own_made1 w9' hsz9' #[.int .i64 7, .int .i64 (vpS xs deep).h, .int .i64 tt, .int .i64 (vpS xs deep).d, .int .i64 0, .int .i64 0, .int .i64 0, .int .i64 0, .int .i64 0, .int .i64 0, .int .i64 0, .int .i64 0, .int .i64 0, .string ⟨#[]⟩, .int .i64 (n : Int)] rfl)
    have N9 : Hid (∀ j u, (flatN L)[j]? = some u → w9.cell? ⟨g9, 0 + j, none⟩ = some u) := hideP (fun j u hj => by rw [hw9]; exact Lib.cell?_alloc_some _ (N9'.out j u hj))
    have hsz9 : w.heap.size ≤ w9.heap.size := Nat.le_trans hW8le HB9.size
    have hsz8 := HB9'.size
    clear hw9 HB9' N9'
    refine hK.out _ _ (HS8.out _ HB9) (fun hS => ?_)
    try simp only [Act.put, List.getElem_toArray, List.getElem_cons_zero, List.getElem_cons_succ, List.setIfInBounds_toArray, List.set_cons_zero, List.set_cons_succ]
    clear hK K
    refine wpAnyH_ready (rs := [5]) (by kernel_rfl) (by simp) ?_
    refine AllReadyH.cons rfl (fun K hK => ?_) AllReadyH.nil
    rw [if_pos (by first | rfl | go_simp)]
    refine wp_append_own _ _ _ 24 rfl w.heap.size 77 i0 (ndV Nd.none) 15 128 Tryz.underlying24 hi hy0 hy1 hy2 rfl (by decide) (.slice (some ⟨w9'.heap.size, 0, none⟩) 1 1) 1 [.int .i64 7, .int .i64 (vpS xs deep).h, .int .i64 tt, .int .i64 (vpS xs deep).d, .int .i64 0, .int .i64 0, .int .i64 0, .int .i64 0, .int .i64 0, .int .i64 0, .int .i64 0, .int .i64 0, .int .i64 0, .string ⟨#[]⟩, .int .i64 (n : Int)] rfl OWA.out ⟨g9, 0, none⟩ n c9 (flatN L) rfl HLL.out (by intro j u hj; rw [Addr.add_lit]; exact N9.out j u hj) (flatN_one L) (by unfold maxLen; omega) (by omega) hsz9 ?_
    intro v10 w10 hown10 hgrow10 hnil10
    obtain ⟨a10, c10, rfl⟩ := ownG_shape hown10
    have HB10 : Below W8.heap.size W8 w10 := Below.grown HB9 hgrow10 HB9.size (fun k hk => by simp [Value.ownBlock] at hk; have := HB9.size; omega)
    have HE10 := hideP (HEND.out w10 a10 c10 HB10 hown10)
    obtain ⟨r0, r1, r2, r3, r4, r5, r6⟩ := pack_cells (HB8.out w10 HB10).2.1.box
    have fR : ∀ j, w10.frozen? ⟨w.heap.size, j, none⟩ = false := fun j => frozen_of_row w10 w.heap.size j _ _ (HB8.out w10 HB10).2.1.box
    have HS10 := hideP (HS9.out (sev w10 w.heap.size (.slice a10 (1 + n) c10) z0 z1 z2 z3 z4 z5) (by rw [sev_other (by omega)]; exact HB10.block _ hlt8) (by rw [sev_other (by omega)]; exact HB10.block _ (by omega)))
    clear hown10 hgrow10 hnil10
    refine hK.out _ _ (HS8.out _ HB10) (fun hS => ?_)
    try simp only [Act.put, List.getElem_toArray, List.getElem_cons_zero, List.getElem_cons_succ, List.setIfInBounds_toArray, List.set_cons_zero, List.set_cons_succ]
    clear hK K
    refine wpAnyH_take (i := 7) (v := packV (.slice a10 (1 + n) c10) ⟨z0, z1, z2, z3, z4, z5⟩) rfl (by kernel_rfl) (by kernel_rfl) (by kernel_rfl) (fun _ _ _ h => h) (Or.inl ⟨by first | rfl | go_simp, fun wx hx => by obtain ⟨hx0, hx1, hx2, hx3, hx4, hx5, hx6, hx7, hx8, hx9, hx10, hx11, hx12, hx13, hx14, hx15, hx16, hx17, hx18, hx19, hx20⟩ := hx; go_simp⟩) hS ?_
    try simp only [Act.put, List.getElem_toArray, List.getElem_cons_zero, List.getElem_cons_succ, List.setIfInBounds_toArray, List.set_cons_zero, List.set_cons_succ]
    refine wpAnyH_ready (rs := [8]) (by kernel_rfl) (by simp) ?_
    refine AllReadyH.cons rfl (fun K hK => ?_) AllReadyH.nil
    rw [if_pos (by first | rfl | go_simp)]
    go_simp
    refine hK.out _ _ HS10.out (fun hS => ?_)
    try simp only [Act.put, List.getElem_toArray, List.getElem_cons_zero, List.getElem_cons_succ, List.setIfInBounds_toArray, List.set_cons_zero, List.set_cons_succ]
    clear hK K
    refine wpAnyH_done (by kernel_rfl) ?_ _
    go_wp2
    exact bodyPost_ret (v := packV (.slice a10 (1 + n) c10) ⟨z0, z1, z2, z3, z4, z5⟩) (results_one_cell rfl _ _ w.heap.size _ rfl (loadPack HE10.out.2.1)) rfl ⟨_, rfl, HE10.out.1, HE10.out.2.2⟩
end Go.Proofs.YticalmdhbgkbbaaGreat

namespace Go.Proofs.YticalmdhbgkbbaaGreat
open Go.RowKit
set_option linter.unusedVariables false
set_option linter.unusedSimpArgs false

theorem vack_any {v : Value} {xs : List Nd} {w : World} {R B0 : Nat} {g p : Value} (deep mode size : Int) (hdp : 0 ≤ deep) (B : Bun w R 7 (vpS xs deep).h 0 (vpS xs deep).d (vpS xs deep).w g p) (og : w.ownsRow B0 50 5 g (vpS xs deep).gs.length (f5 (vpS xs deep).gs)) (op : w.ownsRow B0 3 1 p (gluesAt xs (begins xs)).length ((natI (gluesAt xs (begins xs))).map (Value.int .i64))) (hN : NN 0 w v xs) (hl : listB xs = true) (hfs : fitsB size = true) :
    Calls Tryz.prog 47 #[.pointer (some ⟨R, 0, none⟩), v, .int .i64 mode, .int .i64 size] w fun e w' => Below w.heap.size w w' ∧ PakV xs deep mode size w.heap.size (vrgB xs deep mode size) e w' := by
  cases h : (decide ((vpS xs deep).gs.length ≤ 10000) && fitsB (vpS xs deep).w && fitsB (vpTo xs deep mode size))
  · exact vack_no deep mode size hdp B og op hN hl hfs h
  · exact vack_yes deep mode size hdp B og op hN hl hfs h
theorem vask_no {xs : List Nd} {deep mode size : Int} (h : askB xs mode size = false) : vpOk xs deep mode size = false := by
  have h2 : packB xs mode size = false := by
    cases hp : packB xs mode size with
    | false => rfl
    | true =>
      unfold packB at hp
      simp only [Bool.and_eq_true] at hp
      unfold askB at h
      rw [hp.1.2, hp.2, can_list hp.1.1] at h
      exact absurd h (by decide)
  unfold vpOk
  rw [h2]
  rfl

set_option maxRecDepth 20000 in
set_option maxHeartbeats 8000000 in
theorem implVPack_any {v : Value} {xs : List Nd} {w : World} (deep mode size : Int) (hdp : 0 ≤ deep ∧ deep ≤ 1073741823) (hN : NRow 0 w v xs) (hNN : NN 0 w v xs) (hs : xs.length ≤ 1048576) :
    Calls Tryz.prog 19 #[v, .int .i64 mode, .int .i64 size, .int .i64 deep] w fun e w' => Below w.heap.size w w' ∧ PakV xs deep mode size w.heap.size (vpOk xs deep mode size) e w' := by
  have HC : Hid (∀ W, Below w.heap.size w W → Calls Tryz.prog 45 #[v, .int .i64 mode, .int .i64 size] W fun e w' => e = .returned (.bool (askB xs mode size)) ∧ Below W.heap.size W w') := hideP (fun W hW => implCan_any mode size (hN.below ndStable hW) hs)
  have HN := hideP hN
  have HNN := hideP hNN
  obtain ⟨ok, hok⟩ : ∃ ok, ok = askB xs mode size := ⟨_, rfl⟩
  rw [← hok] at HC
  obtain ⟨va, n, vc, rfl, hl, -⟩ := hN
  cases ok with
  | false =>
    have HNO : Hid (vpOk xs deep mode size = false) := hideP (vask_no hok.symm)
    clear hok hNN
    go_enter Tryz.func19, Tryz.ntmps19
    go_wp2_with fail
    refine (HC.out _ (below1 _ _)).mono ?_
    rintro e w1 ⟨rfl, hb1⟩
    have HP1 : Hid (PB w w1) := hideP ((PB.start w).below hb1)
    clear hb1 HC
    obtain ⟨r0, r1, r2, r3, r4, r5, r6⟩ := pack_cells HP1.out.box
    have fR : ∀ j, w1.frozen? ⟨w.heap.size, j, none⟩ = false := fun j => frozen_of_row w1 w.heap.size j _ _ HP1.out.box
    have HF : Hid ((sev w1 w.heap.size (.slice none 0 0) 0 0 0 0 0 0).heap[w.heap.size]? = some (packO (.slice none 0 0) 0 0 0 0 0 0) ∧ Below w.heap.size w (sev w1 w.heap.size (.slice none 0 0) 0 0 0 0 0 0)) := hideP ⟨sev_heap HP1.out.box _ _ _ _ _ _ _, sev_below HP1.out.bel (Nat.le_refl _) _ _ _ _ _ _ _⟩
    go_wp2
    exact bodyPost_ret (v := packV (.slice none 0 0) ⟨0, 0, 0, 0, 0, 0⟩) (results_one_cell rfl _ _ w.heap.size _ rfl (loadPack HF.out.1)) rfl ⟨HF.out.2, by rw [HNO.out]; exact rfl⟩
  | true =>
    have hask := hok.symm
    have hlist : listB xs = true := by unfold askB at hask; simp only [Bool.and_eq_true] at hask; exact hask.2
    have hfs : fitsB size = true := by unfold askB at hask; simp only [Bool.and_eq_true] at hask; exact hask.1.2
    have HPR : Hid (vrgB xs deep mode size = vpOk xs deep mode size) := hideP (vrg_ok hask hdp.1)
    have HRO : Hid (∀ W, Below w.heap.size w W → Calls Tryz.prog 54 #[.slice va n vc, .int .i64 deep] W fun e W' => (∃ g p, e = .returned (.pointer (some ⟨W.heap.size, 0, none⟩)) ∧ Bun W' W.heap.size 7 (vpS xs deep).h 0 (vpS xs deep).d (vpS xs deep).w g p ∧ W'.ownsRow W.heap.size 50 5 g (vpS xs deep).gs.length (f5 (vpS xs deep).gs) ∧ W'.ownsRow W.heap.size 3 1 p (gluesAt xs (begins xs)).length ((natI (gluesAt xs (begins xs))).map (Value.int .i64))) ∧ Below W.heap.size W W') := hideP (fun W hW => callsIn_wide.1 (stackOf_in deep hdp.1 (HN.out.below ndStable hW) (allOk hlist) (list_in hlist) (list_sh hlist)))
    have HPA : Hid (∀ (W : World) (R B0 : Nat) (g p : Value), Below w.heap.size w W → Bun W R 7 (vpS xs deep).h 0 (vpS xs deep).d (vpS xs deep).w g p → W.ownsRow B0 50 5 g (vpS xs deep).gs.length (f5 (vpS xs deep).gs) → W.ownsRow B0 3 1 p (gluesAt xs (begins xs)).length ((natI (gluesAt xs (begins xs))).map (Value.int .i64)) → Calls Tryz.prog 47 #[.pointer (some ⟨R, 0, none⟩), .slice va n vc, .int .i64 mode, .int .i64 size] W fun e w' => Below W.heap.size W w' ∧ PakV xs deep mode size W.heap.size (vrgB xs deep mode size) e w') := hideP (fun W R B0 g p hW h1 h2 h3 => vack_any deep mode size hdp.1 h1 h2 h3 (nn_below HNN.out hW) hlist hfs)
    have HUP : Hid (∀ W, Calls Tryz.prog 53 #[.int .i64 deep, .int .i64 1073741823] W fun e w' => e = .returned (.bool true) ∧ w' = W) := hideP (fun W => by have h := upTo_any deep 1073741823 W; rw [show uptoB deep 1073741823 = true from decide_eq_true hdp] at h; exact h)
    clear hok hNN hask hlist hfs
    go_enter Tryz.func19, Tryz.ntmps19
    go_wp2_with fail
    refine (HC.out _ (below1 _ _)).mono ?_
    rintro e w1 ⟨rfl, hb1⟩
    have HP1 : Hid (PB w w1) := hideP ((PB.start w).below hb1)
    clear hb1 HC
    go_wp2_with fail
    refine (HUP.out _).mono ?_
    rintro _ w1' ⟨rfl, h9⟩
    have h9' := h9.symm
    subst h9'
    clear h9
    go_wp2_with fail
    refine (HRO.out _ HP1.out.bel).mono ?_
    rintro e w2 ⟨⟨g, p, rfl, hbun, hg, hp⟩, hb2⟩
    have HP2 : Hid (PB w w2) := hideP (HP1.out.below hb2)
    have HPK := hideP (HPA.out w2 _ _ g p HP2.out.bel hbun hg hp)
    obtain ⟨R, hR⟩ : ∃ R, R = w1.heap.size := ⟨_, rfl⟩
    rw [← hR] at HPK ⊢
    clear hbun hg hp hb2 hR HP1 HRO HPA
    go_wp2_with fail
    refine HPK.out.mono ?_
    rintro e w3 ⟨hb3, hpk⟩
    have HP3 : Hid (PB w w3) := hideP (HP2.out.below hb3)
    obtain ⟨r0, r1, r2, r3, r4, r5, r6⟩ := pack_cells HP3.out.box
    have fR : ∀ j, w3.frozen? ⟨w.heap.size, j, none⟩ = false := fun j => frozen_of_row w3 w.heap.size j _ _ HP3.out.box
    rw [HPR.out] at hpk
    obtain ⟨yes, hyes⟩ : ∃ y, y = vpOk xs deep mode size := ⟨_, rfl⟩
    rw [← hyes] at hpk
    have HYE := hideP hyes
    clear hyes HPR
    cases yes with
    | false =>
      have hpk2 : e = .returned (packV (.slice none 0 0) ⟨0, 0, 0, 0, 0, 0⟩) := hpk
      subst hpk2
      have HF : Hid ((sev w3 w.heap.size (.slice none 0 0) 0 0 0 0 0 0).heap[w.heap.size]? = some (packO (.slice none 0 0) 0 0 0 0 0 0) ∧ Below w.heap.size w (sev w3 w.heap.size (.slice none 0 0) 0 0 0 0 0 0)) := hideP ⟨sev_heap HP3.out.box _ _ _ _ _ _ _, sev_below HP3.out.bel (Nat.le_refl _) _ _ _ _ _ _ _⟩
      clear hpk hb3 HPK
      go_wp2
      exact bodyPost_ret (v := packV (.slice none 0 0) ⟨0, 0, 0, 0, 0, 0⟩) (results_one_cell rfl _ _ w.heap.size _ rfl (loadPack HF.out.1)) rfl ⟨HF.out.2, by rw [← HYE.out]; exact rfl⟩
    | true =>
      obtain ⟨u, he, hu⟩ := hpk
      obtain ⟨Z, hZ⟩ : ∃ Z, Shr.shareS (vpS xs deep).gs (vpQ xs deep mode size) = Z := ⟨_, rfl⟩
      obtain ⟨z0, z1, z2, z3, z4, z5⟩ := Z
      rw [hZ] at he
      subst he
      obtain ⟨ua, uc, rfl⟩ := ownG_shape hu
      have HF : Hid ((sev w3 w.heap.size (.slice ua (xs.length + 1) uc) z0 z1 z2 z3 z4 z5).heap[w.heap.size]? = some (packO (.slice ua (xs.length + 1) uc) z0 z1 z2 z3 z4 z5) ∧ Below w.heap.size w (sev w3 w.heap.size (.slice ua (xs.length + 1) uc) z0 z1 z2 z3 z4 z5) ∧ (sev w3 w.heap.size (.slice ua (xs.length + 1) uc) z0 z1 z2 z3 z4 z5).ownsRow w.heap.size 77 15 (.slice ua (xs.length + 1) uc) (xs.length + 1) (flatN (vpN xs deep mode size))) := hideP ⟨sev_heap HP3.out.box _ _ _ _ _ _ _, sev_below HP3.out.bel (Nat.le_refl _) _ _ _ _ _ _ _, own_sev HP3.out (ownG_mono hu HP2.out.bel.size) _ _ _ _ _ _ _⟩
      have HZ := hideP hZ
      obtain ⟨N1, hN1⟩ : ∃ N1, N1 = xs.length + 1 := ⟨_, rfl⟩
      rw [← hN1] at HF ⊢
      have HN1 := hideP hN1
      clear hu hb3 HPK hZ hN1
      go_wp2
      exact bodyPost_ret (v := packV (.slice ua N1 uc) ⟨z0, z1, z2, z3, z4, z5⟩) (results_one_cell rfl _ _ w.heap.size _ rfl (loadPack HF.out.1)) rfl ⟨HF.out.2.1, by rw [← HYE.out]; exact ⟨_, by rw [HZ.out], by rw [← HN1.out]; exact HF.out.2.2⟩⟩

set_option maxRecDepth 20000 in
set_option maxHeartbeats 8000000 in
theorem implVPack_out {v : Value} {xs : List Nd} {w : World} (deep mode size : Int) (hdp : ¬ (0 ≤ deep ∧ deep ≤ 1073741823)) (hN : NRow 0 w v xs) (hs : xs.length ≤ 1048576) :
    Calls Tryz.prog 19 #[v, .int .i64 mode, .int .i64 size, .int .i64 deep] w fun e w' => e = .returned (packV (.slice none 0 0) ⟨0, 0, 0, 0, 0, 0⟩) ∧ Below w.heap.size w w' := by
  have HC : Hid (∀ W, Below w.heap.size w W → Calls Tryz.prog 45 #[v, .int .i64 mode, .int .i64 size] W fun e w' => e = .returned (.bool (askB xs mode size)) ∧ Below W.heap.size W w') := hideP (fun W hW => implCan_any mode size (hN.below ndStable hW) hs)
  have HUP : Hid (∀ W, Calls Tryz.prog 53 #[.int .i64 deep, .int .i64 1073741823] W fun e w' => e = .returned (.bool false) ∧ w' = W) := hideP (fun W => by have h := upTo_any deep 1073741823 W; rw [show uptoB deep 1073741823 = false from decide_eq_false hdp] at h; exact h)
  obtain ⟨ok, hok⟩ : ∃ ok, ok = askB xs mode size := ⟨_, rfl⟩
  rw [← hok] at HC
  obtain ⟨va, n, vc, rfl, hl, -⟩ := hN
  clear hok hdp
  go_enter Tryz.func19, Tryz.ntmps19
  go_wp2_with fail
  refine (HC.out _ (below1 _ _)).mono ?_
  rintro e w1 ⟨rfl, hb1⟩
  have HP1 : Hid (PB w w1) := hideP ((PB.start w).below hb1)
  clear hb1 HC
  have HF : Hid ((sev w1 w.heap.size (.slice none 0 0) 0 0 0 0 0 0).heap[w.heap.size]? = some (packO (.slice none 0 0) 0 0 0 0 0 0) ∧ Below w.heap.size w (sev w1 w.heap.size (.slice none 0 0) 0 0 0 0 0 0)) := hideP ⟨sev_heap HP1.out.box _ _ _ _ _ _ _, sev_below HP1.out.bel (Nat.le_refl _) _ _ _ _ _ _ _⟩
  obtain ⟨r0, r1, r2, r3, r4, r5, r6⟩ := pack_cells HP1.out.box
  have fR : ∀ j, w1.frozen? ⟨w.heap.size, j, none⟩ = false := fun j => frozen_of_row w1 w.heap.size j _ _ HP1.out.box
  cases ok with
  | false =>
    go_wp2
    exact bodyPost_ret (v := packV (.slice none 0 0) ⟨0, 0, 0, 0, 0, 0⟩) (results_one_cell rfl _ _ w.heap.size _ rfl (loadPack HF.out.1)) rfl ⟨rfl, HF.out.2⟩
  | true =>
    go_wp2_with fail
    refine (HUP.out _).mono ?_
    rintro _ w1' ⟨rfl, h9⟩
    have h9' := h9.symm
    subst h9'
    clear h9
    go_wp2
    exact bodyPost_ret (v := packV (.slice none 0 0) ⟨0, 0, 0, 0, 0, 0⟩) (results_one_cell rfl _ _ w.heap.size _ rfl (loadPack HF.out.1)) rfl ⟨rfl, HF.out.2⟩

set_option maxRecDepth 20000 in
set_option maxHeartbeats 8000000 in
theorem specVPack_out {v : Value} {xs : List Nd} {w : World} (deep mode size : Int) (hdp : ¬ (0 ≤ deep ∧ deep ≤ 1073741823)) (hN : NRow 0 w v xs) (hs : xs.length ≤ 1048576) :
    Calls Tryz.prog 18 #[v, .int .i64 mode, .int .i64 size, .int .i64 deep] w fun e w' => e = .returned (packV (.slice none 0 0) ⟨0, 0, 0, 0, 0, 0⟩) ∧ Below w.heap.size w w' := by
  have HC : Hid (∀ W, Below w.heap.size w W → Calls Tryz.prog 37 #[v, .int .i64 mode, .int .i64 size] W fun e w' => e = .returned (.bool (packB xs mode size)) ∧ Below W.heap.size W w') := hideP (fun W hW => specCan_any mode size (hN.below ndStable hW) hs)
  obtain ⟨ok, hok⟩ : ∃ ok, ok = packB xs mode size := ⟨_, rfl⟩
  rw [← hok] at HC
  obtain ⟨va, n, vc, rfl, hl, -⟩ := hN
  clear hok
  go_enter Tryz.func18, Tryz.ntmps18
  go_wp2_with fail
  refine (HC.out _ (below1 _ _)).mono ?_
  rintro e w1 ⟨rfl, hb1⟩
  have HP1 : Hid (PB w w1) := hideP ((PB.start w).below hb1)
  clear hb1 HC
  have HF : Hid ((sev w1 w.heap.size (.slice none 0 0) 0 0 0 0 0 0).heap[w.heap.size]? = some (packO (.slice none 0 0) 0 0 0 0 0 0) ∧ Below w.heap.size w (sev w1 w.heap.size (.slice none 0 0) 0 0 0 0 0 0)) := hideP ⟨sev_heap HP1.out.box _ _ _ _ _ _ _, sev_below HP1.out.bel (Nat.le_refl _) _ _ _ _ _ _ _⟩
  obtain ⟨r0, r1, r2, r3, r4, r5, r6⟩ := pack_cells HP1.out.box
  have fR : ∀ j, w1.frozen? ⟨w.heap.size, j, none⟩ = false := fun j => frozen_of_row w1 w.heap.size j _ _ HP1.out.box
  cases ok with
  | false =>
    clear hdp
    go_wp2
    exact bodyPost_ret (v := packV (.slice none 0 0) ⟨0, 0, 0, 0, 0, 0⟩) (results_one_cell rfl _ _ w.heap.size _ rfl (loadPack HF.out.1)) rfl ⟨rfl, HF.out.2⟩
  | true =>
    by_cases h0 : deep < 0
    · have hdd1 : decide (deep < 0) = true := by simp; omega
      clear hdp
      go_wp2
      exact bodyPost_ret (v := packV (.slice none 0 0) ⟨0, 0, 0, 0, 0, 0⟩) (results_one_cell rfl _ _ w.heap.size _ rfl (loadPack HF.out.1)) rfl ⟨rfl, HF.out.2⟩
    · have hdd1 : decide (deep < 0) = false := by simp; omega
      have h1 : (1073741823 : Int) < deep := by omega
      have hdd2 : decide ((1073741823 : Int) < deep) = true := by simp; omega
      clear hdp
      go_wp2
      exact bodyPost_ret (v := packV (.slice none 0 0) ⟨0, 0, 0, 0, 0, 0⟩) (results_one_cell rfl _ _ w.heap.size _ rfl (loadPack HF.out.1)) rfl ⟨rfl, HF.out.2⟩
end Go.Proofs.YticalmdhbgkbbaaGreat

namespace Go.Proofs.YticalmdhbgkbbaaGreat
open Go.RowKit
set_option linter.unusedVariables false
set_option linter.unusedSimpArgs false

/-- What VPack gives: its nodes and its setting. -/
def vpA (xs : List Nd) (deep mode size : Int) : Bool := decide (0 ≤ deep ∧ deep ≤ 1073741823) && vpOk xs deep mode size
def vpR (xs : List Nd) (deep mode size : Int) : List Nd := if vpA xs deep mode size = true then vpN xs deep mode size else []
def vpT (xs : List Nd) (deep mode size : Int) : Shr.Sett := if vpA xs deep mode size = true then Shr.shareS (vpS xs deep).gs (vpQ xs deep mode size) else ⟨0, 0, 0, 0, 0, 0⟩
theorem vpN_len (xs : List Nd) (deep mode size : Int) : (vpN xs deep mode size).length = xs.length + 1 := by
  unfold vpN
  rw [List.length_cons, setL_len]
theorem vpR_short {xs : List Nd} {deep mode size : Int} (h : xs.length ≤ 1048576) : (vpR xs deep mode size).length ≤ 1048576 := by
  unfold vpR
  split
  · rename_i hok
    unfold vpA vpOk packB canB at hok
    simp only [Bool.and_eq_true, decide_eq_true_eq] at hok
    rw [vpN_len]
    omega
  · exact Nat.zero_le _
theorem vpA_in {xs : List Nd} {deep mode size : Int} (h : 0 ≤ deep ∧ deep ≤ 1073741823) : vpA xs deep mode size = vpOk xs deep mode size := by
  unfold vpA
  rw [decide_eq_true h, Bool.true_and]
theorem vpA_out {xs : List Nd} {deep mode size : Int} (h : ¬ (0 ≤ deep ∧ deep ≤ 1073741823)) : vpA xs deep mode size = false := by
  unfold vpA
  rw [decide_eq_false h, Bool.false_and]
theorem vp_no {xs : List Nd} {deep mode size : Int} (h : vpA xs deep mode size = false) : vpR xs deep mode size = [] ∧ vpT xs deep mode size = ⟨0, 0, 0, 0, 0, 0⟩ := by
  unfold vpR vpT
  rw [h]
  exact ⟨rfl, rfl⟩
theorem vp_yes {xs : List Nd} {deep mode size : Int} (h : vpA xs deep mode size = true) : vpR xs deep mode size = vpN xs deep mode size ∧ vpT xs deep mode size = Shr.shareS (vpS xs deep).gs (vpQ xs deep mode size) := by
  unfold vpR vpT
  rw [if_pos h, if_pos h]
  exact ⟨rfl, rfl⟩
theorem specV {v : Value} {xs : List Nd} {w : World} {base n : Nat} (deep mode size : Int) (h : w.ownsRow base 77 15 v n (flatN xs)) (hn : xs.length = n) (hs : n ≤ 1048576) :
    Calls Tryz.prog 18 #[v, .int .i64 mode, .int .i64 size, .int .i64 deep] w fun e w' => ∃ u, e = .returned (packV u (vpT xs deep mode size)) ∧ w'.ownsRow w.heap.size 77 15 u (vpR xs deep mode size).length (flatN (vpR xs deep mode size)) ∧ Below w.heap.size w w' := by
  have hN := SRow.mono ndStable (own_NRow h hn) (Nat.zero_le base)
  by_cases hd : 0 ≤ deep ∧ deep ≤ 1073741823
  · cases hok : vpOk xs deep mode size with
    | false =>
      obtain ⟨e1, e2⟩ := vp_no ((vpA_in hd).trans hok)
      rw [e1, e2]
      refine (specVPack_no deep mode size hd hN (by omega) hok).mono ?_
      rintro e w' ⟨rfl, hb⟩
      exact ⟨_, rfl, World.ownsRow_nil _ _ _ _, hb⟩
    | true =>
      obtain ⟨e1, e2⟩ := vp_yes ((vpA_in hd).trans hok)
      rw [e1, e2, vpN_len]
      refine (specVPack_ok deep mode size hd hN (own_NN h hn) (by omega) hok).mono ?_
      rintro e w' ⟨u, he, ho, hb⟩
      exact ⟨u, he, ho, hb⟩
  · obtain ⟨e1, e2⟩ := vp_no (vpA_out (xs := xs) (mode := mode) (size := size) hd)
    rw [e1, e2]
    refine (specVPack_out deep mode size hd hN (by omega)).mono ?_
    rintro e w' ⟨rfl, hb⟩
    exact ⟨_, rfl, World.ownsRow_nil _ _ _ _, hb⟩
theorem implV {v : Value} {xs : List Nd} {w : World} {base n : Nat} (deep mode size : Int) (h : w.ownsRow base 77 15 v n (flatN xs)) (hn : xs.length = n) (hs : n ≤ 1048576) :
    Calls Tryz.prog 19 #[v, .int .i64 mode, .int .i64 size, .int .i64 deep] w fun e w' => ∃ u, e = .returned (packV u (vpT xs deep mode size)) ∧ w'.ownsRow w.heap.size 77 15 u (vpR xs deep mode size).length (flatN (vpR xs deep mode size)) ∧ Below w.heap.size w w' := by
  have hN := SRow.mono ndStable (own_NRow h hn) (Nat.zero_le base)
  by_cases hd : 0 ≤ deep ∧ deep ≤ 1073741823
  · refine (implVPack_any deep mode size hd hN (own_NN h hn) (by omega)).mono ?_
    rintro e w' ⟨hb, hp⟩
    cases hok : vpOk xs deep mode size with
    | false =>
      obtain ⟨e1, e2⟩ := vp_no ((vpA_in hd).trans hok)
      rw [hok] at hp
      rw [e1, e2]
      exact ⟨_, hp, World.ownsRow_nil _ _ _ _, hb⟩
    | true =>
      obtain ⟨e1, e2⟩ := vp_yes ((vpA_in hd).trans hok)
      rw [hok] at hp
      obtain ⟨u, he, ho⟩ := hp
      rw [e1, e2, vpN_len]
      exact ⟨u, he, ho, hb⟩
  · obtain ⟨e1, e2⟩ := vp_no (vpA_out (xs := xs) (mode := mode) (size := size) hd)
    rw [e1, e2]
    refine (implVPack_out deep mode size hd hN (by omega)).mono ?_
    rintro e w' ⟨rfl, hb⟩
    exact ⟨_, rfl, World.ownsRow_nil _ _ _ _, hb⟩

set_option maxRecDepth 20000 in
set_option maxHeartbeats 8000000 in
theorem lawVPack_any {v : Value} {xs : List Nd} {w : World} (mode size deep : Int) (h : NRow 0 w v xs) (hf : xs.length ≤ 9223372036854775807 ∧ ∀ i, i < xs.length → FnN (xs.getD i Nd.none)) :
    Calls Tryz.prog 4 #[v, .int .i64 mode, .int .i64 size, .int .i64 deep] w fun e w' => e = .returned (.bool true) ∧ Below w.heap.size w w' := by
  have HX := hideP h
  obtain ⟨ao, n, cap, rfl⟩ : ∃ a n c, v = .slice a n c := by obtain ⟨a, c, rfl⟩ := h.shape; exact ⟨_, _, _, rfl⟩
  have HF := hideP hf
  clear h hf
  go_enter Tryz.func4, Tryz.ntmps4
  go_wp2_with fail
  refine (szNodeS_any HX.out HF.out (by omega) (by omega)).mono ?_
  rintro e w1 ⟨⟨m, rfl, hml, hm⟩, hb1⟩
  have B1 : Hid (Below w.heap.size w w1) := hb1
  have HM := hideP hm
  clear hb1 hm
  by_cases hneg : m < 0
  · go_wp2
    go_ret
    exact ⟨rfl, B1⟩
  · have HS : Hid (xs.length ≤ 1048576) := hideP (HM.out (by omega)).1
    have HI : Hid ((vpR xs deep mode size).length ≤ 1048576) := hideP (vpR_short HS.out)
    clear HM HF
    obtain ⟨z, hz⟩ : ∃ z, z = xs.length := ⟨_, rfl⟩
    obtain ⟨ins, hins⟩ : ∃ ins, ins = vpR xs deep mode size := ⟨_, rfl⟩
    obtain ⟨⟨t0, t1, t2, t3, t4, t5⟩, hT⟩ : ∃ T, T = vpT xs deep mode size := ⟨_, rfl⟩
    rw [← hins] at HI
    have CS : Hid (∀ (V : Value) (W : World) (base : Nat), W.ownsRow base 77 15 V z (flatN xs) → Calls Tryz.prog 18 #[V, .int .i64 mode, .int .i64 size, .int .i64 deep] W fun e W' => ∃ u, e = .returned (packV u ⟨t0, t1, t2, t3, t4, t5⟩) ∧ W'.ownsRow W.heap.size 77 15 u ins.length (flatN ins) ∧ Below W.heap.size W W') := hideP (fun V W base ho => by rw [hins, hT]; exact specV deep mode size ho hz.symm (by rw [hz]; exact HS.out))
    have CI : Hid (∀ (V : Value) (W : World) (base : Nat), W.ownsRow base 77 15 V z (flatN xs) → Calls Tryz.prog 19 #[V, .int .i64 mode, .int .i64 size, .int .i64 deep] W fun e W' => ∃ u, e = .returned (packV u ⟨t0, t1, t2, t3, t4, t5⟩) ∧ W'.ownsRow W.heap.size 77 15 u ins.length (flatN ins) ∧ Below W.heap.size W W') := hideP (fun V W base ho => by rw [hins, hT]; exact implV deep mode size ho hz.symm (by rw [hz]; exact HS.out))
    clear hins hT
    obtain ⟨r, hr⟩ : ∃ r, r = ins.length := ⟨_, rfl⟩
    have CE : Hid (∀ (V U : Value) (W : World) (b1 b2 : Nat), W.ownsRow b1 77 15 V r (flatN ins) → W.ownsRow b2 77 15 U r (flatN ins) → Calls Tryz.prog 13 #[packV V ⟨t0, t1, t2, t3, t4, t5⟩, packV U ⟨t0, t1, t2, t3, t4, t5⟩] W fun e w' => e = .returned (.bool true) ∧ Below W.heap.size W w') := hideP (fun V U W b1 b2 ho1 ho2 => eqPacked_same t0 t1 t2 t3 t4 t5 ho1 ho2 hr.symm (by rw [hr]; exact HI.out))
    rw [← hr] at CS CI HI
    have CT : Hid (∀ W, Below w.heap.size w W → Calls Tryz.prog 11 #[.slice ao n cap] W fun e w' => e = .returned (.slice (some ⟨W.heap.size, 0, none⟩) z z) ∧ w'.ownsRow W.heap.size 77 15 (.slice (some ⟨W.heap.size, 0, none⟩) z z) z (flatN xs) ∧ Below W.heap.size W w') := hideP (fun W hW => by rw [hz]; exact toNodeS_own (SRow.below ndStable HX.out hW) HS.out)
    have CQ : Hid (∀ (V U : Value) (W : World) (b1 b2 : Nat), W.ownsRow b1 77 15 V z (flatN xs) → W.ownsRow b2 77 15 U z (flatN xs) → Calls Tryz.prog 14 #[V, U] W fun e w' => e = .returned (.bool true) ∧ Below W.heap.size W w') := hideP (fun V U W b1 b2 ho1 ho2 => eqNodeS_same (SRow.mono ndStable (own_NRow ho1 hz.symm) (Nat.zero_le _)) (SRow.mono ndStable (own_NRow ho2 hz.symm) (Nat.zero_le _)) HS.out)
    rw [← hz] at HS
    clear hz hr HX
    go_wp2_with fail
    refine (CT.out w1 B1.out).mono ?_
    rintro e w2 ⟨rfl, ho2, hb2⟩
    have B2 : Hid (Below w.heap.size w w2) := hideP (below_more B1.out hb2 B1.out.size)
    have O2 := hideP ho2
    clear ho2 hb2
    go_wp2_with fail
    refine (CS.out _ _ _ O2.out).mono ?_
    rintro e w3 ⟨u0, rfl, ho3, hb3⟩
    obtain ⟨au, cu, rfl⟩ := ownG_shape ho3
    have B3 : Hid (Below w.heap.size w w3) := hideP (below_more B2.out hb3 B2.out.size)
    have U3 := hideP ho3
    have hsz2 : w.heap.size ≤ w2.heap.size := B2.out.size
    clear ho3 hb3 O2
    obtain ⟨R0, hR0⟩ : ∃ R0, R0 = w3.heap.size := ⟨_, rfl⟩
    go_wp2_with fail
    obtain ⟨w3a, hw3a⟩ : ∃ w3a, w3a = w3.alloc (.cells #[.slice au r cu, .int .i64 t0, .int .i64 t1, .int .i64 t2, .int .i64 t3, .int .i64 t4, .int .i64 t5] 28) := ⟨_, rfl⟩
    rw [← hw3a, ← hR0]
    have B3a : Hid (Below w.heap.size w w3a) := hideP (by rw [hw3a]; exact B3.out.alloc B3.out.size _)
    have U3a := hideP (show w3a.ownsRow w2.heap.size 77 15 (.slice au r cu) r (flatN ins) by rw [hw3a]; exact U3.out.alloc _)
    have P3a : Hid (w3a.heap[R0]? = some (packO (.slice au r cu) t0 t1 t2 t3 t4 t5)) := hideP (by rw [hw3a, hR0]; exact heap_alloc_new w3 _)
    have HBU : Hid (∀ b, (Value.slice au r cu).ownBlock = some b → b < R0) := hideP (fun b e => by rw [hR0]; exact (World.ownsRow.lt U3.out b e).2)
    have hX0 : w3a.heap.size = R0 + 1 := by rw [hw3a, hR0]; simp
    clear hw3a hR0 U3
    refine (CT.out w3a B3a.out).mono ?_
    rintro e w4 ⟨rfl, ho4, hb4⟩
    rw [hX0] at ho4 ⊢
    have hX1 : R0 + 1 < w4.heap.size := (World.ownsRow.lt ho4 _ rfl).2
    have B4 : Hid (Below w.heap.size w w4) := hideP (below_more B3a.out hb4 B3a.out.size)
    have X4 := hideP ho4
    have U4 := hideP (ownG_below U3a.out hb4)
    have P4 := hideP ((hb4.block _ (Array.getElem?_eq_some_iff.1 P3a.out).1).trans P3a.out)
    clear U3a P3a
    clear ho4 hb4
    go_wp2_with fail
    refine (CI.out _ _ _ X4.out).mono ?_
    rintro e w5 ⟨g0, rfl, ho5, hb5⟩
    obtain ⟨ag, cg, rfl⟩ := ownG_shape ho5
    have B5 : Hid (Below w.heap.size w w5) := hideP (below_more B4.out hb5 B4.out.size)
    have G5 := hideP (ownG_mono ho5 B4.out.size)
    have hw45 : w4.heap.size ≤ w5.heap.size := hb5.size
    have hw34 : w.heap.size ≤ R0 + 1 := by rw [← hX0]; exact B3a.out.size
    have HBG : Hid (∀ b, (Value.slice ag r cg).ownBlock = some b → R0 + 1 < b ∧ b < w5.heap.size) := hideP (fun b e => by have := World.ownsRow.lt ho5 b e; omega)
    have U5 := hideP (ownG_below U4.out hb5)
    have X5 := hideP (ownG_below X4.out hb5)
    have P5 := hideP ((hb5.block _ (Array.getElem?_eq_some_iff.1 P4.out).1).trans P4.out)
    clear U4 X4 P4
    clear ho5 hb5
    obtain ⟨RG, hRG⟩ : ∃ RG, RG = w5.heap.size := ⟨_, rfl⟩
    rw [← hRG] at HBG
    have hRG1 : R0 + 1 < RG := by rw [hRG]; omega
    have hR5 : R0 < w5.heap.size := (Array.getElem?_eq_some_iff.1 P5.out).1
    obtain ⟨p0, p1, p2, p3, p4, p5, p6⟩ := pack_cells P5.out
    go_wp2_with fail
    clear p0 p1 p2 p3 p4 p5 p6
    obtain ⟨w5a, hw5a⟩ : ∃ w5a, w5a = w5.alloc (.cells #[.slice ag r cg, .int .i64 t0, .int .i64 t1, .int .i64 t2, .int .i64 t3, .int .i64 t4, .int .i64 t5] 28) := ⟨_, rfl⟩
    rw [← hw5a, ← hRG]
    have hb5a : Below w5.heap.size w5 w5a := by rw [hw5a]; exact below1 _ _
    have B5a : Hid (Below w.heap.size w w5a) := hideP (below_more B5.out hb5a B5.out.size)
    have Q5a : Hid (w5a.heap[RG]? = some (packO (.slice ag r cg) t0 t1 t2 t3 t4 t5)) := hideP (by rw [hw5a, hRG]; exact heap_alloc_new w5 _)
    have U5a := hideP (ownG_below U5.out hb5a)
    have X5a := hideP (ownG_below X5.out hb5a)
    have G5a := hideP (ownG_below G5.out hb5a)
    have P5a := hideP ((hb5a.block _ (Array.getElem?_eq_some_iff.1 P5.out).1).trans P5.out)
    clear U5 X5 G5 P5
    clear hw5a hb5a
    refine (CE.out _ _ _ _ _ G5a.out U5a.out).mono ?_
    rintro e w6 ⟨rfl, hb6⟩
    have B6 : Hid (Below w.heap.size w w6) := hideP (below_more B5a.out hb6 B5a.out.size)
    have U6 := hideP (ownG_below U5a.out hb6)
    have X6 := hideP (ownG_below X5a.out hb6)
    have G6 := hideP (ownG_below G5a.out hb6)
    have P6 := hideP ((hb6.block _ (Array.getElem?_eq_some_iff.1 P5a.out).1).trans P5a.out)
    have Q6 := hideP ((hb6.block _ (Array.getElem?_eq_some_iff.1 Q5a.out).1).trans Q5a.out)
    clear U5a X5a G5a P5a Q5a
    clear hb6 hRG
    go_wp2_with fail
    refine (CT.out w6 B6.out).mono ?_
    rintro e w7 ⟨rfl, ho7, hb7⟩
    have B7 : Hid (Below w.heap.size w w7) := hideP (below_more B6.out hb7 B6.out.size)
    have Y7 := hideP ho7
    have U7 := hideP (ownG_below U6.out hb7)
    have X7 := hideP (ownG_below X6.out hb7)
    have G7 := hideP (ownG_below G6.out hb7)
    have P7 := hideP ((hb7.block _ (Array.getElem?_eq_some_iff.1 P6.out).1).trans P6.out)
    have Q7 := hideP ((hb7.block _ (Array.getElem?_eq_some_iff.1 Q6.out).1).trans Q6.out)
    clear U6 X6 G6 P6 Q6
    clear hb7 ho7
    go_wp2_with fail
    refine (CQ.out _ _ _ _ _ X7.out Y7.out).mono ?_
    rintro e w8 ⟨rfl, hb8⟩
    have B8 : Hid (Below w.heap.size w w8) := hideP (below_more B7.out hb8 B7.out.size)
    have U8 := hideP (ownG_below U7.out hb8)
    have X8 := hideP (ownG_below X7.out hb8)
    have G8 := hideP (ownG_below G7.out hb8)
    have P8 := hideP ((hb8.block _ (Array.getElem?_eq_some_iff.1 P7.out).1).trans P7.out)
    have Q8 := hideP ((hb8.block _ (Array.getElem?_eq_some_iff.1 Q7.out).1).trans Q7.out)
    clear U7 X7 G7 P7 Q7
    clear hb8 Y7
    go_wp2_with fail
    refine (mark_own (k := 1) X8.out HS.out (by omega) (by omega)).mono ?_
    rintro e w9 ⟨rfl, ho9, hb9, hq9⟩
    have B9 : Hid (Below w.heap.size w w9) := hideP (B8.out.trans (hb9.mono (Nat.le_min.2 ⟨hw34, B8.out.size⟩)))
    have U9 := hideP (own_others U8.out hq9 (fun b e => by have h1 := HBU.out b e; show some (R0 + 1) ≠ some b; intro e2; cases e2; omega))
    have G9 := hideP (own_others G8.out hq9 (fun b e => by have h1 := HBG.out b e; show some (R0 + 1) ≠ some b; intro e2; cases e2; omega))
    have P9 := hideP ((hq9 R0 (Array.getElem?_eq_some_iff.1 P8.out).1 (by show some (R0 + 1) ≠ some R0; intro e2; simp at e2)).trans P8.out)
    have Q9 := hideP ((hq9 RG (Array.getElem?_eq_some_iff.1 Q8.out).1 (by show some (R0 + 1) ≠ some RG; intro e2; cases e2; omega)).trans Q8.out)
    clear hb9 hq9 ho9 G8 U8 X8 P8 Q8
    obtain ⟨kz, hkz⟩ : ∃ kz : Int, kz = ((1 + 15 * z : Nat) : Int) := ⟨_, rfl⟩
    rw [← hkz]
    have hkn : ¬ kz < 0 := by omega
    have hkd : decide (kz < 0) = false := by simp; omega
    clear hkz
    obtain ⟨p0, p1, p2, p3, p4, p5, p6⟩ := pack_cells P9.out
    obtain ⟨q0, q1, q2, q3, q4, q5, q6⟩ := pack_cells Q9.out
    go_wp2_with fail
    clear p0 p1 p2 p3 p4 p5 p6 q0 q1 q2 q3 q4 q5 q6
    refine (CE.out _ _ _ _ _ G9.out U9.out).mono ?_
    rintro e w10 ⟨rfl, hb10⟩
    have B10 : Hid (Below w.heap.size w w10) := hideP (below_more B9.out hb10 B9.out.size)
    have U10 := hideP (ownG_below U9.out hb10)
    have G10 := hideP (ownG_below G9.out hb10)
    have P10 := hideP ((hb10.block _ (Array.getElem?_eq_some_iff.1 P9.out).1).trans P9.out)
    have Q10 := hideP ((hb10.block _ (Array.getElem?_eq_some_iff.1 Q9.out).1).trans Q9.out)
    clear U9 G9 P9 Q9
    clear hb10
    obtain ⟨q0, q1, q2, q3, q4, q5, q6⟩ := pack_cells Q10.out
    go_wp2_with fail
    clear q0 q1 q2 q3 q4 q5 q6
    refine (markPacked_own (k := 1) t0 t1 t2 t3 t4 t5 G10.out HI.out (by omega) (by omega) B10.out.size).mono ?_
    rintro e w11 ⟨rfl, ho11, hb11, hq11⟩
    have B11 : Hid (Below w.heap.size w w11) := hideP (B10.out.trans hb11)
    have G11 := hideP ho11
    have U11 := hideP (own_others U10.out hq11 (fun b e e2 => by have h1 := HBU.out b e; have h2 := HBG.out b e2; omega))
    have P11 := hideP ((hq11 R0 (Array.getElem?_eq_some_iff.1 P10.out).1 (fun e2 => by have h2 := HBG.out _ e2; omega)).trans P10.out)
    have Q11 := hideP ((hq11 RG (Array.getElem?_eq_some_iff.1 Q10.out).1 (fun e2 => by have h2 := HBG.out _ e2; omega)).trans Q10.out)
    have CH : Hid (∀ (W : World), W.ownsRow w.heap.size 77 15 (.slice ag r cg) r (flatN (marksN 1 r)) → Calls Tryz.prog 17 #[packV (.slice ag r cg) ⟨t0, t1, t2, t3, t4, t5⟩, .int .i64 ((1 : Nat) : Int)] W fun e w' => e = .returned (.int .i64 ((1 + 15 * r : Nat) : Int)) ∧ Below W.heap.size W w') := hideP (fun W ho => heldPacked_own t0 t1 t2 t3 t4 t5 ho HI.out (by omega) (by omega))
    obtain ⟨kr, hkr⟩ : ∃ kr : Int, kr = ((1 + 15 * r : Nat) : Int) := ⟨_, rfl⟩
    rw [← hkr] at CH
    rw [← hkr]
    have hkn2 : ¬ kr < 0 := by omega
    clear hkr hb11 hq11 ho11 G10 U10 P10 Q10
    obtain ⟨q0, q1, q2, q3, q4, q5, q6⟩ := pack_cells Q11.out
    go_wp2_with fail
    clear q0 q1 q2 q3 q4 q5 q6
    refine (CH.out _ G11.out).mono ?_
    rintro e w12 ⟨rfl, hb12⟩
    have B12 : Hid (Below w.heap.size w w12) := hideP (below_more B11.out hb12 B11.out.size)
    have U12 := hideP (ownG_below U11.out hb12)
    have G12 := hideP (ownG_below G11.out hb12)
    have P12 := hideP ((hb12.block _ (Array.getElem?_eq_some_iff.1 P11.out).1).trans P11.out)
    have Q12 := hideP ((hb12.block _ (Array.getElem?_eq_some_iff.1 Q11.out).1).trans Q11.out)
    clear U11 G11 P11 Q11
    clear hb12
    go_wp2_with fail
    refine (CT.out w12 B12.out).mono ?_
    rintro e w13 ⟨rfl, ho13, hb13⟩
    have B13 : Hid (Below w.heap.size w w13) := hideP (below_more B12.out hb13 B12.out.size)
    have Y13 := hideP ho13
    have U13 := hideP (ownG_below U12.out hb13)
    have G13 := hideP (ownG_below G12.out hb13)
    have P13 := hideP ((hb13.block _ (Array.getElem?_eq_some_iff.1 P12.out).1).trans P12.out)
    have Q13 := hideP ((hb13.block _ (Array.getElem?_eq_some_iff.1 Q12.out).1).trans Q12.out)
    clear U12 G12 P12 Q12
    clear hb13 ho13
    go_wp2_with fail
    refine (CI.out _ _ _ Y13.out).mono ?_
    rintro e w14 ⟨h0, rfl, ho14, hb14⟩
    obtain ⟨ah, ch, rfl⟩ := ownG_shape ho14
    have B14 : Hid (Below w.heap.size w w14) := hideP (below_more B13.out hb14 B13.out.size)
    have H14 := hideP ho14
    have U14 := hideP (ownG_below U13.out hb14)
    have G14 := hideP (ownG_below G13.out hb14)
    have P14 := hideP ((hb14.block _ (Array.getElem?_eq_some_iff.1 P13.out).1).trans P13.out)
    have Q14 := hideP ((hb14.block _ (Array.getElem?_eq_some_iff.1 Q13.out).1).trans Q13.out)
    clear U13 G13 P13 Q13
    clear ho14 hb14 Y13
    have hR14 : R0 < w14.heap.size := (Array.getElem?_eq_some_iff.1 P14.out).1
    obtain ⟨p0, p1, p2, p3, p4, p5, p6⟩ := pack_cells P14.out
    go_wp2_with fail
    clear p0 p1 p2 p3 p4 p5 p6
    obtain ⟨w14a, hw14a⟩ : ∃ w14a, w14a = w14.alloc (.cells #[.slice ah r ch, .int .i64 t0, .int .i64 t1, .int .i64 t2, .int .i64 t3, .int .i64 t4, .int .i64 t5] 28) := ⟨_, rfl⟩
    rw [← hw14a]
    have hb14a : Below w14.heap.size w14 w14a := by rw [hw14a]; exact below1 _ _
    have B14a : Hid (Below w.heap.size w w14a) := hideP (below_more B14.out hb14a B14.out.size)
    have U14a := hideP (ownG_below U14.out hb14a)
    have G14a := hideP (ownG_below G14.out hb14a)
    have H14a := hideP (ownG_below H14.out hb14a)
    have Q14a := hideP ((hb14a.block _ (Array.getElem?_eq_some_iff.1 Q14.out).1).trans Q14.out)
    clear U14 G14 H14 Q14
    clear hw14a hb14a hR14
    refine (CE.out _ _ _ _ _ H14a.out U14a.out).mono ?_
    rintro e w15 ⟨rfl, hb15⟩
    have B15 : Hid (Below w.heap.size w w15) := hideP (below_more B14a.out hb15 B14a.out.size)
    have G15 := hideP (ownG_below G14a.out hb15)
    have Q15 := hideP ((hb15.block _ (Array.getElem?_eq_some_iff.1 Q14a.out).1).trans Q14a.out)
    clear G14a Q14a
    clear hb15
    obtain ⟨q0, q1, q2, q3, q4, q5, q6⟩ := pack_cells Q15.out
    go_wp2_with fail
    clear q0 q1 q2 q3 q4 q5 q6
    refine (CH.out _ G15.out).mono ?_
    rintro e w16 ⟨rfl, hb16⟩
    have B16 : Hid (Below w.heap.size w w16) := hideP (below_more B15.out hb16 B15.out.size)
    clear hb16 G15 Q15
    go_wp2
    go_ret
    exact ⟨rfl, B16.out⟩
end Go.Proofs.YticalmdhbgkbbaaGreat

namespace Go.Proofs.YticalmdhbgkbbaaGreat
open Go.ChangeShapes Go.WideShapes Go.ChangeAt Go.RowKit Go.Joins
set_option linter.unusedVariables false
set_option linter.unusedSimpArgs false

set_option maxRecDepth 100000 in
theorem vPack_lifted (os : Os) (started : os.Started) (H : Type) (enc : TypeId × Value → H) :
    ReturnsInHanded {} Tryz.checked os 4 .any (Rows.fnExactVPackSpec.pre6 enc Tryz.prog Tryz.f4 Rows.fnExactVPackRow.domain false) (Rows.fnExactVPackSpec.post enc Tryz.prog Tryz.f4 false true false false) := by
  refine returnsInHanded_of_change (C := Tryz.checked) ownT started (by kernel_rfl) Tryz.func4
    (ChangeSpec.witness6 (enc := enc) (C := Tryz.checked) false ⟨#[], #[.slice none 0 0, .int .i64 0, .int .i64 0, .int .i64 0], []⟩ 8 (by kernel_rfl) (by kernel_rfl) (by kernel_rfl) (by kernel_rfl)) ?_
  intro W base args ds gs before hval0 hW hcnd _
  have hval : ∀ (j : Nat) t v, Tryz.f4.params[j]? = some t → args[j]? = some v → Value.okWide Tryz.prog W .any base t v := hval0
  have hW' := hW
  obtain ⟨p, q, hA0, hV, rfl, hfz, hnd⟩ := hW
  have hA : DataW.TrodAll enc Tryz.prog W 0 (fun _ => true) true Tryz.f4.params.toList args.toList ds p := hA0
  rw [Tryz.params4] at hA hval
  obtain ⟨v0, vs0, d0, ds0, p0, q0, hargs, rfl, rfl, h0, r0⟩ := trodAll_cons hA
  obtain ⟨v1, vs1, d1, ds1, p1, q1, rfl, rfl, rfl, h1, r1⟩ := trodAll_cons r0
  obtain ⟨v2, vs2, d2, ds2, p2, q2, rfl, rfl, rfl, h2, r2⟩ := trodAll_cons r1
  obtain ⟨v3, vs3, d3, ds3, p3, q3, rfl, rfl, rfl, h3, r3⟩ := trodAll_cons r2
  obtain ⟨rfl, rfl, rfl⟩ := trodAll_nil r3
  obtain rfl : args = #[v0, v1, v2, v3] := by cases args; simp_all
  obtain ⟨rfl, rfl⟩ := trodVars_none hV
  have k0 := h0
  have k1 := h1
  have k2 := h2
  have k3 := h3
  have lt0 : ∀ x ∈ p0, x.block < W.heap.size := by obtain ⟨m, hm⟩ := k0; exact DataW.trod_lt m _ _ _ hm
  have lt1 : ∀ x ∈ p1, x.block < W.heap.size := by obtain ⟨m, hm⟩ := k1; exact DataW.trod_lt m _ _ _ hm
  have lt2 : ∀ x ∈ p2, x.block < W.heap.size := by obtain ⟨m, hm⟩ := k2; exact DataW.trod_lt m _ _ _ hm
  have lt3 : ∀ x ∈ p3, x.block < W.heap.size := by obtain ⟨m, hm⟩ := k3; exact DataW.trod_lt m _ _ _ hm
  obtain ⟨ao, len, cap, rfl⟩ := okWide_slice Tryz.underlying22 (hval 0 22 v0 rfl rfl)
  obtain ⟨fuel, hf⟩ := h0
  have hf' : DataW.trod enc Tryz.prog W 0 (fun _ => true) true fuel 22 [.slice ao len cap] = some (d0, p0) := by simpa [Value.cells] using hf
  obtain ⟨xs, hr, hl, hF⟩ := openSlice (R := NdR) (F := FnN) Nd.none Tryz.underlying22 cells65 (by omega) (fun fuel cs y ht hl => openNode hl ht) hf'
  obtain ⟨a1, e1, _⟩ := open_int Tryz.underlying2 (hval 1 2 v1 rfl rfl) h1
  obtain ⟨a2, e2, _⟩ := open_int Tryz.underlying2 (hval 2 2 v2 rfl rfl) h2
  obtain ⟨a3, e3, _⟩ := open_int Tryz.underlying2 (hval 3 2 v3 rfl rfl) h3
  subst e1 e2 e3
  clear hA0 hval0
  refine (lawVPack_any a1 a2 a3 hr ⟨hl, hF⟩).mono fun e W' ⟨he, bel⟩ => ?_
  subst he
  exact ⟨_, rfl, _, _, _, [], _, [], hW', trodAll_mk1 (shut_bool Tryz.underlying4 _), (trodAll_cons_mk (Below.trod laidOut (by kernel_rfl) (of_decide_eq_true (by kernel_rfl)) k0 bel lt0) (trodAll_cons_mk (Below.trod laidOut (by kernel_rfl) (of_decide_eq_true (by kernel_rfl)) k1 bel lt1) (trodAll_cons_mk (Below.trod laidOut (by kernel_rfl) (of_decide_eq_true (by kernel_rfl)) k2 bel lt2) (trodAll_cons_mk (Below.trod laidOut (by kernel_rfl) (of_decide_eq_true (by kernel_rfl)) k3 bel lt3) trodAll_mk0)))), rfl, bel.frame _, fun h => by cases h⟩

theorem vPack_holds : Rows.FnExactVPackSaid :=
  OpenClaim.holds_of_wide 4 Tryz.f4 rfl rfl rfl rfl rfl rfl rfl ⟨rfl, rfl, rfl, rfl, rfl⟩ rfl rfl rfl rfl rfl (by kernel_rfl) Tryz.func4 (by kernel_rfl)
    (of_decide_eq_true (by kernel_rfl)) (by unfold Func.isWrapper; first | (rw [if_pos (by decide +kernel)]; kernel_rfl) | (rw [if_neg (by decide +kernel)]; exact ⟨rfl, rfl⟩))
    (fun os started H enc _ => vPack_lifted os started H enc)
#print axioms vPack_holds
end Go.Proofs.YticalmdhbgkbbaaGreat

