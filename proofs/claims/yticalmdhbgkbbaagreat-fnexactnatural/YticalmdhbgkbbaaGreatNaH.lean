/-
  Proved: for every list of nodes and a bool, laws.FnExactNatural returns true and its arguments read behind the call as before it; no condition.
-/
import Derived.Test.YticalmdhbgkbbaaGreatPal
import Derived.Test.YticalmdhbgkbbaaGreatHso
import Derived.Test.YticalmdhbgkbbaaGreatVls
import Derived.Deep.RegionHeld3
import Derived.Test.YticalmdhbgkbbaaGreatVpl
import Derived.Test.YticalmdhbgkbbaaGreatOpn
namespace Go.Proofs.YticalmdhbgkbbaaGreat
open Go.RowKit
set_option linter.unusedVariables false
set_option linter.unusedSimpArgs false

theorem pack_any {v : Value} {xs : List Nd} {w : World} {R B0 : Nat} {g p : Value} (mode size : Int) (B : Bun w R 6 0 (hpS xs).h (hpS xs).d (hpS xs).w g p) (og : w.ownsRow B0 50 5 g (hpS xs).gs.length (f5 (hpS xs).gs)) (op : w.ownsRow B0 3 1 p (gluesAt xs (begins xs)).length ((natI (gluesAt xs (begins xs))).map (Value.int .i64))) (hN : NN 0 w v xs) (hl : listB xs = true) (hfs : fitsB size = true) :
    Calls Tryz.prog 47 #[.pointer (some ⟨R, 0, none⟩), v, .int .i64 mode, .int .i64 size] w fun e w' => Below w.heap.size w w' ∧ PakP xs mode size w.heap.size (prgB xs mode size) e w' := by
  cases h : (decide ((hpS xs).gs.length ≤ 10000) && fitsB (hpS xs).w && fitsB (hpTo xs mode size))
  · exact pack_no mode size B og op hN hl hfs h
  · exact pack_yes mode size B og op hN hl hfs h
theorem ask_no {xs : List Nd} {mode size : Int} (h : askB xs mode size = false) : hpOk xs mode size = false := by
  have h2 : packB xs mode size = false := by
    cases hp : packB xs mode size with
    | false => rfl
    | true =>
      unfold packB at hp
      simp only [Bool.and_eq_true] at hp
      unfold askB at h
      rw [hp.1.2, hp.2, can_list hp.1.1] at h
      exact absurd h (by decide)
  unfold hpOk
  rw [h2]
  rfl

set_option maxRecDepth 20000 in
set_option maxHeartbeats 8000000 in
theorem implHPack_any {v : Value} {xs : List Nd} {w : World} (mode size : Int) (hN : NRow 0 w v xs) (hNN : NN 0 w v xs) (hs : xs.length ≤ 1048576) :
    Calls Tryz.prog 12 #[v, .int .i64 mode, .int .i64 size] w fun e w' => Below w.heap.size w w' ∧ PakP xs mode size w.heap.size (hpOk xs mode size) e w' := by
  have HC : Hid (∀ W, Below w.heap.size w W → Calls Tryz.prog 45 #[v, .int .i64 mode, .int .i64 size] W fun e w' => e = .returned (.bool (askB xs mode size)) ∧ Below W.heap.size W w') := hideP (fun W hW => implCan_any mode size (hN.below ndStable hW) hs)
  have HN := hideP hN
  have HNN := hideP hNN
  obtain ⟨ok, hok⟩ : ∃ ok, ok = askB xs mode size := ⟨_, rfl⟩
  rw [← hok] at HC
  obtain ⟨va, n, vc, rfl, hl, -⟩ := hN
  cases ok with
  | false =>
    have HNO : Hid (hpOk xs mode size = false) := hideP (ask_no hok.symm)
    clear hok hNN
    go_enter Tryz.func12, Tryz.ntmps12
    go_wp2_with fail
    refine (HC.out _ (below1 _ _)).mono ?_
    rintro e w1 ⟨rfl, hb1⟩
    have HP1 : Hid (PB w w1) := hideP ((PB.start w).below hb1)
    clear hb1 HC
    obtain ⟨r0, r1, r2, r3, r4, r5, r6⟩ := pack_cells HP1.out.box
    have fR : ∀ j, w1.frozen? ⟨w.heap.size, j, none⟩ = false := fun j => frozen_of_row w1 w.heap.size j _ _ HP1.out.box
    have HF : Hid ((sev w1 w.heap.size (.slice none 0 0) 0 0 0 0 0 0).heap[w.heap.size]? = some (packO (.slice none 0 0) 0 0 0 0 0 0) ∧ Below w.heap.size w (sev w1 w.heap.size (.slice none 0 0) 0 0 0 0 0 0)) := hideP ⟨sev_heap HP1.out.box _ _ _ _ _ _ _, sev_below HP1.out.bel (Nat.le_refl _) _ _ _ _ _ _ _⟩
    go_wp2
    exact bodyPost_ret (v := packV (.slice none 0 0) ⟨0, 0, 0, 0, 0, 0⟩) (results_one_cell rfl _ _ w.heap.size _ rfl (loadPack HF.out.1)) rfl ⟨HF.out.2, by rw [HNO.out]; exact rfl⟩
  | true =>
    have hask := hok.symm
    have hlist : listB xs = true := by unfold askB at hask; simp only [Bool.and_eq_true] at hask; exact hask.2
    have hfs : fitsB size = true := by unfold askB at hask; simp only [Bool.and_eq_true] at hask; exact hask.1.2
    have HPR : Hid (prgB xs mode size = hpOk xs mode size) := hideP (prg_ok hask)
    have HRO : Hid (∀ W, Below w.heap.size w W → Calls Tryz.prog 46 #[.slice va n vc] W fun e W' => (∃ g p, e = .returned (.pointer (some ⟨W.heap.size, 0, none⟩)) ∧ Bun W' W.heap.size 6 0 (hpS xs).h (hpS xs).d (hpS xs).w g p ∧ W'.ownsRow W.heap.size 50 5 g (hpS xs).gs.length (f5 (hpS xs).gs) ∧ W'.ownsRow W.heap.size 3 1 p (gluesAt xs (begins xs)).length ((natI (gluesAt xs (begins xs))).map (Value.int .i64))) ∧ Below W.heap.size W W') := hideP (fun W hW => callsIn_wide.1 (rowOf_in (HN.out.below ndStable hW) (allOk hlist) (list_in hlist) (list_sh hlist)))
    have HPA : Hid (∀ (W : World) (R B0 : Nat) (g p : Value), Below w.heap.size w W → Bun W R 6 0 (hpS xs).h (hpS xs).d (hpS xs).w g p → W.ownsRow B0 50 5 g (hpS xs).gs.length (f5 (hpS xs).gs) → W.ownsRow B0 3 1 p (gluesAt xs (begins xs)).length ((natI (gluesAt xs (begins xs))).map (Value.int .i64)) → Calls Tryz.prog 47 #[.pointer (some ⟨R, 0, none⟩), .slice va n vc, .int .i64 mode, .int .i64 size] W fun e w' => Below W.heap.size W w' ∧ PakP xs mode size W.heap.size (prgB xs mode size) e w') := hideP (fun W R B0 g p hW h1 h2 h3 => pack_any mode size h1 h2 h3 (nn_below HNN.out hW) hlist hfs)
    clear hok hNN hask hlist hfs
    go_enter Tryz.func12, Tryz.ntmps12
    go_wp2_with fail
    refine (HC.out _ (below1 _ _)).mono ?_
    rintro e w1 ⟨rfl, hb1⟩
    have HP1 : Hid (PB w w1) := hideP ((PB.start w).below hb1)
    clear hb1 HC
    go_wp2_with fail
    refine (HRO.out _ HP1.out.bel).mono ?_
    rintro e w2 ⟨⟨g, p, rfl, hbun, hg, hp⟩, hb2⟩
    have HP2 : Hid (PB w w2) := hideP (HP1.out.below hb2)
    have HPK := hideP (HPA.out w2 _ _ g p HP2.out.bel hbun hg hp)
    obtain ⟨R, hR⟩ : ∃ R, R = w1.heap.size := ⟨_, rfl⟩
    rw [← hR] at HPK ⊢
    clear hbun hg hp hb2 hR HP1 HRO HPA
    go_wp2_with fail
    refine HPK.out.mono ?_
    rintro e w3 ⟨hb3, hpk⟩
    have HP3 : Hid (PB w w3) := hideP (HP2.out.below hb3)
    obtain ⟨r0, r1, r2, r3, r4, r5, r6⟩ := pack_cells HP3.out.box
    have fR : ∀ j, w3.frozen? ⟨w.heap.size, j, none⟩ = false := fun j => frozen_of_row w3 w.heap.size j _ _ HP3.out.box
    rw [HPR.out] at hpk
    obtain ⟨yes, hyes⟩ : ∃ y, y = hpOk xs mode size := ⟨_, rfl⟩
    rw [← hyes] at hpk
    have HYE := hideP hyes
    clear hyes HPR
    cases yes with
    | false =>
      have hpk2 : e = .returned (packV (.slice none 0 0) ⟨0, 0, 0, 0, 0, 0⟩) := hpk
      subst hpk2
      have HF : Hid ((sev w3 w.heap.size (.slice none 0 0) 0 0 0 0 0 0).heap[w.heap.size]? = some (packO (.slice none 0 0) 0 0 0 0 0 0) ∧ Below w.heap.size w (sev w3 w.heap.size (.slice none 0 0) 0 0 0 0 0 0)) := hideP ⟨sev_heap HP3.out.box _ _ _ _ _ _ _, sev_below HP3.out.bel (Nat.le_refl _) _ _ _ _ _ _ _⟩
      clear hpk hb3 HPK
      go_wp2
      exact bodyPost_ret (v := packV (.slice none 0 0) ⟨0, 0, 0, 0, 0, 0⟩) (results_one_cell rfl _ _ w.heap.size _ rfl (loadPack HF.out.1)) rfl ⟨HF.out.2, by rw [← HYE.out]; exact rfl⟩
    | true =>
      obtain ⟨u, he, hu⟩ := hpk
      obtain ⟨Z, hZ⟩ : ∃ Z, Shr.shareS (hpS xs).gs (hpQ xs mode size) = Z := ⟨_, rfl⟩
      obtain ⟨z0, z1, z2, z3, z4, z5⟩ := Z
      rw [hZ] at he
      subst he
      obtain ⟨ua, uc, rfl⟩ := ownG_shape hu
      have HF : Hid ((sev w3 w.heap.size (.slice ua (xs.length + 1) uc) z0 z1 z2 z3 z4 z5).heap[w.heap.size]? = some (packO (.slice ua (xs.length + 1) uc) z0 z1 z2 z3 z4 z5) ∧ Below w.heap.size w (sev w3 w.heap.size (.slice ua (xs.length + 1) uc) z0 z1 z2 z3 z4 z5) ∧ (sev w3 w.heap.size (.slice ua (xs.length + 1) uc) z0 z1 z2 z3 z4 z5).ownsRow w.heap.size 77 15 (.slice ua (xs.length + 1) uc) (xs.length + 1) (flatN (hpN xs mode size))) := hideP ⟨sev_heap HP3.out.box _ _ _ _ _ _ _, sev_below HP3.out.bel (Nat.le_refl _) _ _ _ _ _ _ _, own_sev HP3.out (ownG_mono hu HP2.out.bel.size) _ _ _ _ _ _ _⟩
      have HZ := hideP hZ
      obtain ⟨N1, hN1⟩ : ∃ N1, N1 = xs.length + 1 := ⟨_, rfl⟩
      rw [← hN1] at HF ⊢
      have HN1 := hideP hN1
      clear hu hb3 HPK hZ hN1
      go_wp2
      exact bodyPost_ret (v := packV (.slice ua N1 uc) ⟨z0, z1, z2, z3, z4, z5⟩) (results_one_cell rfl _ _ w.heap.size _ rfl (loadPack HF.out.1)) rfl ⟨HF.out.2.1, by rw [← HYE.out]; exact ⟨_, by rw [HZ.out], by rw [← HN1.out]; exact HF.out.2.2⟩⟩
end Go.Proofs.YticalmdhbgkbbaaGreat

namespace Go.Proofs.YticalmdhbgkbbaaGreat
open Go.RowKit
set_option linter.unusedVariables false
set_option linter.unusedSimpArgs false

/-- What HPack gives: its nodes and its setting. -/
def hpR (xs : List Nd) (mode size : Int) : List Nd := if hpOk xs mode size = true then hpN xs mode size else []
def hpT (xs : List Nd) (mode size : Int) : Shr.Sett := if hpOk xs mode size = true then Shr.shareS (hpS xs).gs (hpQ xs mode size) else ⟨0, 0, 0, 0, 0, 0⟩
theorem hpN_len (xs : List Nd) (mode size : Int) : (hpN xs mode size).length = xs.length + 1 := by
  unfold hpN
  rw [List.length_cons, setL_len]
theorem hpR_len (xs : List Nd) (mode size : Int) : (hpR xs mode size).length ≤ xs.length + 1 := by
  unfold hpR
  split
  · rw [hpN_len]; exact Nat.le_refl _
  · exact Nat.zero_le _
theorem hpR_short {xs : List Nd} {mode size : Int} (h : xs.length ≤ 1048576) : (hpR xs mode size).length ≤ 1048576 := by
  unfold hpR
  split
  · rename_i hok
    unfold hpOk packB canB at hok
    simp only [Bool.and_eq_true, decide_eq_true_eq] at hok
    rw [hpN_len]
    omega
  · exact Nat.zero_le _
theorem own_NN {w : World} {base n : Nat} {v : Value} {xs : List Nd} (h : w.ownsRow base 77 15 v n (flatN xs)) (hn : xs.length = n) : NN 0 w v xs := by
  have hc := own_cap h
  rcases h.2 with ⟨rfl, h0⟩ | ⟨g, cap, cur, rfl, hb, hg, _⟩
  · exact .inl ⟨rfl, List.eq_nil_of_length_eq_zero (by omega)⟩
  · subst hn
    exact .inr ⟨g, 0, cap, rfl, (hc _ _ _ rfl).1, Nat.zero_le _, fun _ => (Array.getElem?_eq_some_iff.1 hg).1, fun j u hj => by rw [Nat.zero_add]; exact (own_cell h hj).1⟩
theorem specH {v : Value} {xs : List Nd} {w : World} {base n : Nat} (mode size : Int) (h : w.ownsRow base 77 15 v n (flatN xs)) (hn : xs.length = n) (hs : n ≤ 1048576) :
    Calls Tryz.prog 10 #[v, .int .i64 mode, .int .i64 size] w fun e w' => ∃ u, e = .returned (packV u (hpT xs mode size)) ∧ w'.ownsRow w.heap.size 77 15 u (hpR xs mode size).length (flatN (hpR xs mode size)) ∧ Below w.heap.size w w' := by
  have hN := SRow.mono ndStable (own_NRow h hn) (Nat.zero_le base)
  cases hok : hpOk xs mode size with
  | false =>
    have e1 : hpR xs mode size = [] := by unfold hpR; rw [hok]; rfl
    have e2 : hpT xs mode size = ⟨0, 0, 0, 0, 0, 0⟩ := by unfold hpT; rw [hok]; rfl
    rw [e1, e2]
    refine (specHPack_no mode size hN (by omega) hok).mono ?_
    rintro e w' ⟨rfl, hb⟩
    exact ⟨_, rfl, World.ownsRow_nil _ _ _ _, hb⟩
  | true =>
    have e1 : hpR xs mode size = hpN xs mode size := by unfold hpR; rw [if_pos hok]
    have e2 : hpT xs mode size = Shr.shareS (hpS xs).gs (hpQ xs mode size) := by unfold hpT; rw [if_pos hok]
    rw [e1, e2, hpN_len]
    refine (specHPack_ok mode size hN (own_NN h hn) (by omega) hok).mono ?_
    rintro e w' ⟨u, he, ho, hb⟩
    exact ⟨u, he, ho, hb⟩
theorem implH {v : Value} {xs : List Nd} {w : World} {base n : Nat} (mode size : Int) (h : w.ownsRow base 77 15 v n (flatN xs)) (hn : xs.length = n) (hs : n ≤ 1048576) :
    Calls Tryz.prog 12 #[v, .int .i64 mode, .int .i64 size] w fun e w' => ∃ u, e = .returned (packV u (hpT xs mode size)) ∧ w'.ownsRow w.heap.size 77 15 u (hpR xs mode size).length (flatN (hpR xs mode size)) ∧ Below w.heap.size w w' := by
  have hN := SRow.mono ndStable (own_NRow h hn) (Nat.zero_le base)
  refine (implHPack_any mode size hN (own_NN h hn) (by omega)).mono ?_
  rintro e w' ⟨hb, hp⟩
  cases hok : hpOk xs mode size with
  | false =>
    have e1 : hpR xs mode size = [] := by unfold hpR; rw [hok]; rfl
    have e2 : hpT xs mode size = ⟨0, 0, 0, 0, 0, 0⟩ := by unfold hpT; rw [hok]; rfl
    rw [hok] at hp
    rw [e1, e2]
    exact ⟨_, hp, World.ownsRow_nil _ _ _ _, hb⟩
  | true =>
    have e1 : hpR xs mode size = hpN xs mode size := by unfold hpR; rw [if_pos hok]
    have e2 : hpT xs mode size = Shr.shareS (hpS xs).gs (hpQ xs mode size) := by unfold hpT; rw [if_pos hok]
    rw [hok] at hp
    obtain ⟨u, he, ho⟩ := hp
    rw [e1, e2, hpN_len]
    exact ⟨u, he, ho, hb⟩

end Go.Proofs.YticalmdhbgkbbaaGreat

namespace Go.Proofs.YticalmdhbgkbbaaGreat
open Go.RowKit
set_option linter.unusedVariables false
set_option linter.unusedSimpArgs false

set_option maxRecDepth 20000 in
set_option maxHeartbeats 8000000 in
theorem specVPack_no {v : Value} {xs : List Nd} {w : World} (deep mode size : Int) (hdp : 0 ≤ deep ∧ deep ≤ 1073741823) (h : NRow 0 w v xs) (hs : xs.length ≤ 1048576) (hno : vpOk xs deep mode size = false) :
    Calls Tryz.prog 18 #[v, .int .i64 mode, .int .i64 size, .int .i64 deep] w fun e w' => e = .returned (packV (.slice none 0 0) ⟨0, 0, 0, 0, 0, 0⟩) ∧ Below w.heap.size w w' := by
  have HC : Hid (∀ W, Below w.heap.size w W → Calls Tryz.prog 37 #[v, .int .i64 mode, .int .i64 size] W fun e w' => e = .returned (.bool (packB xs mode size)) ∧ Below W.heap.size W w') := hideP (fun W hW => specCan_any mode size (h.below ndStable hW) hs)
  obtain ⟨ok, hok⟩ : ∃ ok, ok = packB xs mode size := ⟨_, rfl⟩
  rw [← hok] at HC
  have HOK := hideP hok
  have HN := hideP h
  have HNO := hideP hno
  obtain ⟨ao, n, cap, rfl, hl, -⟩ := h
  have HL := hideP hl
  clear hok hl hno
  have hdd1 : decide (deep < 0) = false := by simp; omega
  have hdd2 : decide ((1073741823 : Int) < deep) = false := by simp; omega
  have hdd3 : ¬ deep < 0 := by omega
  have hdd4 : ¬ (1073741823 : Int) < deep := by omega
  have HDP := hideP hdp
  clear hdp
  go_enter Tryz.func18, Tryz.ntmps18
  go_wp2_with fail
  refine (HC.out _ (below1 _ _)).mono ?_
  rintro e w1 ⟨rfl, hb1⟩
  have HP1 : Hid (PB w w1) := hideP ((PB.start w).below hb1)
  clear hb1 HC
  cases ok with
  | false =>
    obtain ⟨r0, r1, r2, r3, r4, r5, r6⟩ := pack_cells HP1.out.box
    have fR : ∀ j, w1.frozen? ⟨w.heap.size, j, none⟩ = false := fun j => frozen_of_row w1 w.heap.size j _ _ HP1.out.box
    have HF : Hid ((sev w1 w.heap.size (.slice none 0 0) 0 0 0 0 0 0).heap[w.heap.size]? = some (packO (.slice none 0 0) 0 0 0 0 0 0) ∧ Below w.heap.size w (sev w1 w.heap.size (.slice none 0 0) 0 0 0 0 0 0)) := hideP ⟨sev_heap HP1.out.box _ _ _ _ _ _ _, sev_below HP1.out.bel (Nat.le_refl _) _ _ _ _ _ _ _⟩
    go_wp2
    exact bodyPost_ret (v := packV (.slice none 0 0) ⟨0, 0, 0, 0, 0, 0⟩) (results_one_cell rfl _ _ w.heap.size _ rfl (loadPack HF.out.1)) rfl ⟨rfl, HF.out.2⟩
  | true =>
    have hpk : packB xs mode size = true := HOK.out.symm
    have hcan : canB xs = true := by unfold packB at hpk; simp only [Bool.and_eq_true] at hpk; exact hpk.1.1
    have hfs : fitsB size = true := by unfold packB at hpk; simp only [Bool.and_eq_true] at hpk; exact hpk.2
    have HFS : Hid (Shr.fitsB size = true) := hideP hfs
    have hin : SIn (vpS xs deep) (begins xs).length := vpS_in (can_list hcan) HDP.out.1
    have hcnt : (begins xs).length ≤ 20000 := by
      have h1 := starts_count (xs := xs) (xs.length + 1) 0
      have h2 := (allOk (can_list hcan)).len
      unfold begins
      omega
    have HWB : Hid (-1152921504606846976 ≤ (vpS xs deep).w ∧ (vpS xs deep).w ≤ 1152921504606846976) := hideP ⟨by have := hin.w1; omega, by have := hin.w2; omega⟩
    have HGN : Hid ((vpS xs deep).gs.length ≤ 1048576) := hideP (by have := hin.n; omega)
    have HROW : Hid (∀ W, Below w.heap.size w W → Calls Tryz.prog 52 #[.slice ao n cap, .int .i64 deep] W fun e w' => (∃ u, e = .returned (.tuple #[.int .i64 (vpS xs deep).w, u, .int .i64 (vpS xs deep).h, .int .i64 (vpS xs deep).d]) ∧ w'.ownsRow W.heap.size 50 5 u (vpS xs deep).gs.length (f5 (vpS xs deep).gs)) ∧ Below W.heap.size W w') := hideP (fun W hW => (by have h := specStack_any deep HDP.out (HN.out.below ndStable hW) (allOk (can_list hcan)) (can_in hcan); rw [show spk xs (starts xs (xs.length + 1) 0) deep (starts xs (xs.length + 1) 0).length = vpS xs deep from spk_all xs deep] at h; exact h))
    have HALL : Hid (vpOk xs deep mode size = (Shr.glsOk (vpS xs deep).gs && (Shr.fitsB (vpTo xs deep mode size) && Shr.fitsB (vpS xs deep).w) && fitsB (vpS xs deep).h && fitsB (vpS xs deep).d && (vpL xs deep mode size).all Shr.fitsB)) := hideP (by unfold vpOk; rw [hpk]; rfl)
    clear hpk hcan hfs hin hcnt
    go_wp2_with fail
    refine (HROW.out _ HP1.out.bel).mono ?_
    rintro e w2 ⟨⟨u, rfl, hown⟩, hb2⟩
    have HP2 : Hid (PB w w2) := hideP (HP1.out.below hb2)
    have HGR : Hid (Shr.GRow w2 u (vpS xs deep).gs) := hideP (own_GRow hown rfl)
    clear hown hb2 HROW HP1
    cases hgl : Shr.glsOk (vpS xs deep).gs with
    | false =>
      have HGL := hideP hgl
      clear hgl
      go_wp2_with fail
      refine (Shr.along_no _ mode size HGR.out HGN.out HGL.out).mono ?_
      rintro e w3 ⟨rfl, hb3⟩
      have HP3 : Hid (PB w w3) := hideP (HP2.out.below hb3)
      clear hb3 HP2
      obtain ⟨r0, r1, r2, r3, r4, r5, r6⟩ := pack_cells HP3.out.box
      have fR : ∀ j, w3.frozen? ⟨w.heap.size, j, none⟩ = false := fun j => frozen_of_row w3 w.heap.size j _ _ HP3.out.box
      have HF : Hid ((sev w3 w.heap.size (.slice none 0 0) 0 0 0 0 0 0).heap[w.heap.size]? = some (packO (.slice none 0 0) 0 0 0 0 0 0) ∧ Below w.heap.size w (sev w3 w.heap.size (.slice none 0 0) 0 0 0 0 0 0)) := hideP ⟨sev_heap HP3.out.box _ _ _ _ _ _ _, sev_below HP3.out.bel (Nat.le_refl _) _ _ _ _ _ _ _⟩
      go_wp2
      exact bodyPost_ret (v := packV (.slice none 0 0) ⟨0, 0, 0, 0, 0, 0⟩) (results_one_cell rfl _ _ w.heap.size _ rfl (loadPack HF.out.1)) rfl ⟨rfl, HF.out.2⟩
    | true =>
      have HGL := hideP hgl
      clear hgl
      go_wp2_with fail
      refine (Shr.along_ok _ mode size HGR.out HGL.out HWB.out HFS.out).mono ?_
      rintro e w3 ⟨rfl, hb3⟩
      have HP3 : Hid (PB w w3) := hideP (HP2.out.below hb3)
      have HGR3 : Hid (Shr.GRow w3 u (vpS xs deep).gs) := hideP (HGR.out.below hb3)
      clear hb3 HP2 HGR
      rw [show Shr.alongI (vpS xs deep).w (vpS xs deep).gs mode size = vpTo xs deep mode size from rfl]
      obtain ⟨tt, htt⟩ : ∃ tt, tt = vpTo xs deep mode size := ⟨_, rfl⟩
      rw [← htt]
      have HTT := hideP htt
      clear htt
      obtain ⟨fo, hfo⟩ : ∃ fo, fo = (Shr.fitsB tt && Shr.fitsB (vpS xs deep).w) := ⟨_, rfl⟩
      rw [← hfo]
      have HFO := hideP hfo
      clear hfo
      cases fo with
      | false =>
        obtain ⟨r0, r1, r2, r3, r4, r5, r6⟩ := pack_cells HP3.out.box
        have fR : ∀ j, w3.frozen? ⟨w.heap.size, j, none⟩ = false := fun j => frozen_of_row w3 w.heap.size j _ _ HP3.out.box
        have HF : Hid ((sev w3 w.heap.size (.slice none 0 0) 0 0 0 0 0 0).heap[w.heap.size]? = some (packO (.slice none 0 0) 0 0 0 0 0 0) ∧ Below w.heap.size w (sev w3 w.heap.size (.slice none 0 0) 0 0 0 0 0 0)) := hideP ⟨sev_heap HP3.out.box _ _ _ _ _ _ _, sev_below HP3.out.bel (Nat.le_refl _) _ _ _ _ _ _ _⟩
        go_wp2
        exact bodyPost_ret (v := packV (.slice none 0 0) ⟨0, 0, 0, 0, 0, 0⟩) (results_one_cell rfl _ _ w.heap.size _ rfl (loadPack HF.out.1)) rfl ⟨rfl, HF.out.2⟩
      | true =>
        go_wp2_with fail
        refine (specFits_any (vpS xs deep).h _).mono ?_
        rintro e w4 ⟨rfl, rfl⟩
        obtain ⟨fh, hfh⟩ : ∃ fh, fh = fitsB (vpS xs deep).h := ⟨_, rfl⟩
        rw [← hfh]
        have HFH := hideP hfh
        clear hfh
        cases fh with
        | false =>
          obtain ⟨r0, r1, r2, r3, r4, r5, r6⟩ := pack_cells HP3.out.box
          have fR : ∀ j, w4.frozen? ⟨w.heap.size, j, none⟩ = false := fun j => frozen_of_row w4 w.heap.size j _ _ HP3.out.box
          have HF : Hid ((sev w4 w.heap.size (.slice none 0 0) 0 0 0 0 0 0).heap[w.heap.size]? = some (packO (.slice none 0 0) 0 0 0 0 0 0) ∧ Below w.heap.size w (sev w4 w.heap.size (.slice none 0 0) 0 0 0 0 0 0)) := hideP ⟨sev_heap HP3.out.box _ _ _ _ _ _ _, sev_below HP3.out.bel (Nat.le_refl _) _ _ _ _ _ _ _⟩
          go_wp2
          exact bodyPost_ret (v := packV (.slice none 0 0) ⟨0, 0, 0, 0, 0, 0⟩) (results_one_cell rfl _ _ w.heap.size _ rfl (loadPack HF.out.1)) rfl ⟨rfl, HF.out.2⟩
        | true =>
          go_wp2_with fail
          refine (specFits_any (vpS xs deep).d _).mono ?_
          rintro e w5 ⟨rfl, rfl⟩
          obtain ⟨fd, hfd⟩ : ∃ fd, fd = fitsB (vpS xs deep).d := ⟨_, rfl⟩
          rw [← hfd]
          have HFD := hideP hfd
          clear hfd
          cases fd with
          | false =>
            obtain ⟨r0, r1, r2, r3, r4, r5, r6⟩ := pack_cells HP3.out.box
            have fR : ∀ j, w5.frozen? ⟨w.heap.size, j, none⟩ = false := fun j => frozen_of_row w5 w.heap.size j _ _ HP3.out.box
            have HF : Hid ((sev w5 w.heap.size (.slice none 0 0) 0 0 0 0 0 0).heap[w.heap.size]? = some (packO (.slice none 0 0) 0 0 0 0 0 0) ∧ Below w.heap.size w (sev w5 w.heap.size (.slice none 0 0) 0 0 0 0 0 0)) := hideP ⟨sev_heap HP3.out.box _ _ _ _ _ _ _, sev_below HP3.out.bel (Nat.le_refl _) _ _ _ _ _ _ _⟩
            go_wp2
            exact bodyPost_ret (v := packV (.slice none 0 0) ⟨0, 0, 0, 0, 0, 0⟩) (results_one_cell rfl _ _ w.heap.size _ rfl (loadPack HF.out.1)) rfl ⟨rfl, HF.out.2⟩
          | true =>
            have HFW : Hid (Shr.fitsB tt = true ∧ Shr.fitsB (vpS xs deep).w = true) := hideP (by have h := HFO.out.symm; simpa only [Bool.and_eq_true] using h)
            go_wp2_with fail
            refine (Shr.specShare_ok (vpS xs deep).w tt (vpQ xs deep mode size) HGR3.out HGL.out HFW.out.2 HFW.out.1 (by unfold vpQ; rw [← HTT.out])).mono ?_
            rintro e w6 ⟨⟨vl, rfl, hrow⟩, hb6⟩
            have HP6 : Hid (PB w w6) := hideP (HP3.out.below hb6)
            have HRL : Hid (Shr.Row w6 vl (vpL xs deep mode size)) := hideP hrow
            have HLN : Hid ((vpL xs deep mode size).length ≤ 1048576) := hideP (by unfold vpL; rw [Shr.shareL_length]; exact HGN.out)
            clear hb6 hrow HP3
            go_wp2_with fail
            refine (Shr.fitsAll_any (HRL.out.below (below1 _ _)) HLN.out).mono ?_
            rintro e w7 ⟨rfl, hw7⟩
            have HP7 : Hid (PB w w7) := hideP (by rw [hw7]; exact HP6.out.below (below1 _ _))
            clear hw7 HP6
            obtain ⟨fl, hfl⟩ : ∃ fl, fl = (vpL xs deep mode size).all Shr.fitsB := ⟨_, rfl⟩
            rw [← hfl]
            have HFL := hideP hfl
            clear hfl
            cases fl with
            | false =>
              obtain ⟨r0, r1, r2, r3, r4, r5, r6⟩ := pack_cells HP7.out.box
              have fR : ∀ j, w7.frozen? ⟨w.heap.size, j, none⟩ = false := fun j => frozen_of_row w7 w.heap.size j _ _ HP7.out.box
              have HF : Hid ((sev w7 w.heap.size (.slice none 0 0) 0 0 0 0 0 0).heap[w.heap.size]? = some (packO (.slice none 0 0) 0 0 0 0 0 0) ∧ Below w.heap.size w (sev w7 w.heap.size (.slice none 0 0) 0 0 0 0 0 0)) := hideP ⟨sev_heap HP7.out.box _ _ _ _ _ _ _, sev_below HP7.out.bel (Nat.le_refl _) _ _ _ _ _ _ _⟩
              go_wp2
              exact bodyPost_ret (v := packV (.slice none 0 0) ⟨0, 0, 0, 0, 0, 0⟩) (results_one_cell rfl _ _ w.heap.size _ rfl (loadPack HF.out.1)) rfl ⟨rfl, HF.out.2⟩
            | true =>
              exfalso
              have h1 := HNO.out
              rw [HALL.out, HGL.out, ← HTT.out, ← HFO.out, ← HFH.out, ← HFD.out, ← HFL.out] at h1
              exact absurd h1 (by decide)
end Go.Proofs.YticalmdhbgkbbaaGreat

namespace Go.Proofs.YticalmdhbgkbbaaGreat
open Go.RowKit
set_option linter.unusedVariables false
set_option linter.unusedSimpArgs false

set_option maxRecDepth 20000 in
set_option maxHeartbeats 8000000 in
theorem specVPack_ok {v : Value} {xs : List Nd} {w : World} (deep mode size : Int) (hdp : 0 ≤ deep ∧ deep ≤ 1073741823) (h : NRow 0 w v xs) (hNN : NN 0 w v xs) (hs : xs.length ≤ 1048576) (hyes : vpOk xs deep mode size = true) :
    Calls Tryz.prog 18 #[v, .int .i64 mode, .int .i64 size, .int .i64 deep] w fun e w' => ∃ u, e = .returned (packV u (Shr.shareS (vpS xs deep).gs (vpQ xs deep mode size))) ∧ w'.ownsRow w.heap.size 77 15 u (xs.length + 1) (flatN (vpN xs deep mode size)) ∧ Below w.heap.size w w' := by
  have hall := hyes
  unfold vpOk at hall
  simp only [Bool.and_eq_true] at hall
  obtain ⟨⟨⟨⟨⟨hpk, hgl⟩, hft, hfw⟩, hfh⟩, hfd⟩, hfl⟩ := hall
  have HC : Hid (∀ W, Below w.heap.size w W → Calls Tryz.prog 37 #[v, .int .i64 mode, .int .i64 size] W fun e w' => e = .returned (.bool true) ∧ Below W.heap.size W w') := hideP (fun W hW => hpk ▸ specCan_any mode size (h.below ndStable hW) hs)
  have hcan : canB xs = true := by unfold packB at hpk; simp only [Bool.and_eq_true] at hpk; exact hpk.1.1
  have hfs : fitsB size = true := by unfold packB at hpk; simp only [Bool.and_eq_true] at hpk; exact hpk.2
  have HN := hideP h
  have HNN := hideP hNN
  obtain ⟨ao, n, cap, rfl, hl, -⟩ := h
  have HL := hideP hl
  have HFS : Hid (Shr.fitsB size = true) := hideP hfs
  have hin : SIn (vpS xs deep) (begins xs).length := vpS_in (can_list hcan) hdp.1
  have hcnt : (begins xs).length ≤ 20000 := by
    have h1 := starts_count (xs := xs) (xs.length + 1) 0
    have h2 := (allOk (can_list hcan)).len
    unfold begins
    omega
  have HWB : Hid (-1152921504606846976 ≤ (vpS xs deep).w ∧ (vpS xs deep).w ≤ 1152921504606846976) := hideP ⟨by have := hin.w1; omega, by have := hin.w2; omega⟩
  have HGN : Hid ((vpS xs deep).gs.length ≤ 1048576) := hideP (by have := hin.n; omega)
  have HROW : Hid (∀ W, Below w.heap.size w W → Calls Tryz.prog 52 #[.slice ao n cap, .int .i64 deep] W fun e w' => (∃ u, e = .returned (.tuple #[.int .i64 (vpS xs deep).w, u, .int .i64 (vpS xs deep).h, .int .i64 (vpS xs deep).d]) ∧ w'.ownsRow W.heap.size 50 5 u (vpS xs deep).gs.length (f5 (vpS xs deep).gs)) ∧ Below W.heap.size W w') := hideP (fun W hW => (by have h := specStack_any deep hdp (HN.out.below ndStable hW) (allOk (can_list hcan)) (can_in hcan); rw [show spk xs (starts xs (xs.length + 1) 0) deep (starts xs (xs.length + 1) 0).length = vpS xs deep from spk_all xs deep] at h; exact h))
  have HLLEN : Hid ((vpL xs deep mode size).length = (gluesAt xs (starts xs (xs.length + 1) 0)).length) := hideP (by
    unfold vpL
    rw [Shr.shareL_length]
    rw [vpS_n]; rfl)
  have HSET : Hid (∀ W vl, Below w.heap.size w W → Shr.Row W vl (vpL xs deep mode size) → Calls Tryz.prog 43 #[.slice ao n cap, vl] W fun e w' => ∃ g c, e = .returned (.slice (some ⟨g, 0, none⟩) n c) ∧ w'.ownsRow W.heap.size 77 15 (.slice (some ⟨g, 0, none⟩) n c) n (flatN (setL (gluesAt xs (begins xs)) (vpL xs deep mode size) xs)) ∧ Below W.heap.size W w') := hideP (fun W vl hW hR => by
    rcases HNN.out with ⟨hv, hx⟩ | ⟨b, off, cap', hv, hcap, _, hb, hc⟩
    · cases hv
      subst hx
      have h0 : (vpL ([] : List Nd) deep mode size) = [] := by
        have h1 := HLLEN.out
        exact List.eq_nil_of_length_eq_zero h1
      have h1 := specSet_nil (lv := vl) (HN.out.below ndStable hW)
      exact h1
    · have hn2 : n = xs.length := HL.out.symm
      subst hn2
      cases hv
      exact specSet_some (HN.out.below ndStable hW) hcap (allOk (can_list hcan)) (fun hp => Nat.lt_of_lt_of_le (hb hp) hW.size) (fun j u hj => by
        have hlt : j < (flatN xs).length := (List.getElem?_eq_some_iff.1 hj).1
        rw [flatN_len] at hlt
        exact (hW.cell (p := ⟨b, off + j, none⟩) (hb (by omega))).trans (hc j u hj)) hR HLLEN.out)
  have hn : n ≤ 20000 := by rw [← hl]; exact (allOk (can_list hcan)).len
  have HGL := hideP hgl
  have HFW : Hid (Shr.fitsB (vpTo xs deep mode size) = true ∧ Shr.fitsB (vpS xs deep).w = true) := hideP ⟨hft, hfw⟩
  have HFH := hideP hfh
  have HFD := hideP hfd
  have HFL := hideP hfl
  have HLN : Hid ((vpL xs deep mode size).length ≤ 1048576) := hideP (by unfold vpL; rw [Shr.shareL_length]; exact HGN.out)
  obtain ⟨S, hS⟩ : ∃ S, S = Shr.shareS (vpS xs deep).gs (vpQ xs deep mode size) := ⟨_, rfl⟩
  rw [← hS]
  obtain ⟨z0, z1, z2, z3, z4, z5⟩ := S
  have HSV : Hid ((Shr.shareS (vpS xs deep).gs (vpQ xs deep mode size)).v = Shr.setV z0 z1 z2 z3 z4 z5) := hideP (by rw [← hS])
  obtain ⟨L, hLd⟩ : ∃ L, L = setL (gluesAt xs (begins xs)) (vpL xs deep mode size) xs := ⟨_, rfl⟩
  rw [← hLd] at HSET
  have HLD := hideP hLd
  obtain ⟨i0, hi, hy0, hy1, hy2⟩ := info_parts Tryz.info57c
  obtain ⟨tt, htt⟩ : ∃ tt, tt = vpTo xs deep mode size := ⟨_, rfl⟩
  have HTT := hideP htt
  clear hpk hcan hfs hin hcnt hgl hft hfw hfh hfd hfl hl hNN hyes htt hS hLd
  have hdd1 : decide (deep < 0) = false := by simp; omega
  have hdd2 : decide ((1073741823 : Int) < deep) = false := by simp; omega
  have hdd3 : ¬ deep < 0 := by omega
  have hdd4 : ¬ (1073741823 : Int) < deep := by omega
  clear hdp
  go_enter Tryz.func18, Tryz.ntmps18
  go_wp2_with fail
  refine (HC.out _ (below1 _ _)).mono ?_
  rintro e w1 ⟨rfl, hb1⟩
  have HP1 : Hid (PB w w1) := hideP ((PB.start w).below hb1)
  clear hb1 HC
  go_wp2_with fail
  refine (HROW.out _ HP1.out.bel).mono ?_
  rintro e w2 ⟨⟨u, rfl, hown⟩, hb2⟩
  have HP2 : Hid (PB w w2) := hideP (HP1.out.below hb2)
  have HGR : Hid (Shr.GRow w2 u (vpS xs deep).gs) := hideP (own_GRow hown rfl)
  clear hown hb2 HROW HP1
  go_wp2_with fail
  refine (Shr.along_ok _ mode size HGR.out HGL.out HWB.out HFS.out).mono ?_
  rintro e w3 ⟨rfl, hb3⟩
  have HP3 : Hid (PB w w3) := hideP (HP2.out.below hb3)
  have HGR3 : Hid (Shr.GRow w3 u (vpS xs deep).gs) := hideP (HGR.out.below hb3)
  clear hb3 HP2 HGR
  rw [show Shr.alongI (vpS xs deep).w (vpS xs deep).gs mode size = vpTo xs deep mode size from rfl, HFW.out.1, HFW.out.2, ← HTT.out, Bool.and_true]
  go_wp2_with fail
  refine (specFits_any (vpS xs deep).h _).mono ?_
  rintro e w4 ⟨rfl, rfl⟩
  rw [HFH.out]
  go_wp2_with fail
  refine (specFits_any (vpS xs deep).d _).mono ?_
  rintro e w5 ⟨rfl, rfl⟩
  rw [HFD.out]
  go_wp2_with fail
  refine (Shr.specShare_ok (vpS xs deep).w tt (vpQ xs deep mode size) HGR3.out HGL.out HFW.out.2 (by rw [HTT.out]; exact HFW.out.1) (by unfold vpQ; rw [← HTT.out])).mono ?_
  rintro e w6 ⟨⟨vl, rfl, hrow⟩, hb6⟩
  rw [HSV.out]
  have HP6 : Hid (PB w w6) := hideP (HP3.out.below hb6)
  have HRL : Hid (Shr.Row w6 vl (vpL xs deep mode size)) := hideP hrow
  clear hb6 hrow HP3 HGR3
  go_wp2_with fail
  refine (Shr.fitsAll_any (HRL.out.below (below1 _ _)) HLN.out).mono ?_
  rintro e w7 ⟨rfl, hw7⟩
  rw [HFL.out]
  go_wp2_with fail
  obtain ⟨W8, hW8⟩ : ∃ W8, W8 = (w6.alloc (.cells #[.int .i64 z0, .int .i64 z1, .int .i64 z2, .int .i64 z3, .int .i64 z4, .int .i64 z5] 26)).alloc (.cells #[.int .i64 7, .int .i64 (vpS xs deep).h, .int .i64 tt, .int .i64 (vpS xs deep).d, .int .i64 0, .int .i64 0, .int .i64 0, .int .i64 0, .int .i64 0, .int .i64 0, .int .i64 0, .int .i64 0, .int .i64 0, .string ⟨#[]⟩, .int .i64 (n : Int)] 77) := ⟨_, rfl⟩
  rw [← hW8]
  have B68 : Below w6.heap.size w6 W8 := by rw [hW8]; exact below_more (below1 _ _) (below1 _ _) (by simp)
  have HS9 : Hid (∀ x : World, x.heap[w6.heap.size + 1]? = W8.heap[w6.heap.size + 1]? → x.heap[w6.heap.size]? = W8.heap[w6.heap.size]? → x.cell? ⟨w6.heap.size + 1, 0, none⟩ = some (.int .i64 7) ∧ x.cell? ⟨w6.heap.size + 1, 1, none⟩ = some (.int .i64 (vpS xs deep).h) ∧ x.cell? ⟨w6.heap.size + 1, 2, none⟩ = some (.int .i64 tt) ∧ x.cell? ⟨w6.heap.size + 1, 3, none⟩ = some (.int .i64 (vpS xs deep).d) ∧ x.cell? ⟨w6.heap.size + 1, 4, none⟩ = some (.int .i64 0) ∧ x.cell? ⟨w6.heap.size + 1, 5, none⟩ = some (.int .i64 0) ∧ x.cell? ⟨w6.heap.size + 1, 6, none⟩ = some (.int .i64 0) ∧ x.cell? ⟨w6.heap.size + 1, 7, none⟩ = some (.int .i64 0) ∧ x.cell? ⟨w6.heap.size + 1, 8, none⟩ = some (.int .i64 0) ∧ x.cell? ⟨w6.heap.size + 1, 9, none⟩ = some (.int .i64 0) ∧ x.cell? ⟨w6.heap.size + 1, 10, none⟩ = some (.int .i64 0) ∧ x.cell? ⟨w6.heap.size + 1, 11, none⟩ = some (.int .i64 0) ∧ x.cell? ⟨w6.heap.size + 1, 12, none⟩ = some (.int .i64 0) ∧ x.cell? ⟨w6.heap.size + 1, 13, none⟩ = some (.string ⟨#[]⟩) ∧ x.cell? ⟨w6.heap.size + 1, 14, none⟩ = some (.int .i64 (n : Int)) ∧ x.cell? ⟨w6.heap.size, 0, none⟩ = some (.int .i64 z0) ∧ x.cell? ⟨w6.heap.size, 1, none⟩ = some (.int .i64 z1) ∧ x.cell? ⟨w6.heap.size, 2, none⟩ = some (.int .i64 z2) ∧ x.cell? ⟨w6.heap.size, 3, none⟩ = some (.int .i64 z3) ∧ x.cell? ⟨w6.heap.size, 4, none⟩ = some (.int .i64 z4) ∧ x.cell? ⟨w6.heap.size, 5, none⟩ = some (.int .i64 z5)) := hideP (fun x hx1 hx2 => by
    have h1 : W8.heap[w6.heap.size + 1]? = some (.cells #[.int .i64 7, .int .i64 (vpS xs deep).h, .int .i64 tt, .int .i64 (vpS xs deep).d, .int .i64 0, .int .i64 0, .int .i64 0, .int .i64 0, .int .i64 0, .int .i64 0, .int .i64 0, .int .i64 0, .int .i64 0, .string ⟨#[]⟩, .int .i64 (n : Int)] 77 (0, 0)) := by rw [hW8]; simpa using heap_alloc_new (w6.alloc (.cells #[.int .i64 z0, .int .i64 z1, .int .i64 z2, .int .i64 z3, .int .i64 z4, .int .i64 z5] 26)) (.cells #[.int .i64 7, .int .i64 (vpS xs deep).h, .int .i64 tt, .int .i64 (vpS xs deep).d, .int .i64 0, .int .i64 0, .int .i64 0, .int .i64 0, .int .i64 0, .int .i64 0, .int .i64 0, .int .i64 0, .int .i64 0, .string ⟨#[]⟩, .int .i64 (n : Int)] 77)
    have h2 : W8.heap[w6.heap.size]? = some (.cells #[.int .i64 z0, .int .i64 z1, .int .i64 z2, .int .i64 z3, .int .i64 z4, .int .i64 z5] 26 (0, 0)) := by rw [hW8]; exact ((below1 _ _).block _ (by simp)).trans (heap_alloc_new w6 _)
    have k1 := hx1.trans h1
    have k2 := hx2.trans h2
    refine ⟨?_, ?_, ?_, ?_, ?_, ?_, ?_, ?_, ?_, ?_, ?_, ?_, ?_, ?_, ?_, ?_, ?_, ?_, ?_, ?_, ?_⟩ <;> first | exact cell_of_row x _ _ _ 77 _ k1 | exact cell_of_row x _ _ _ 26 _ k2)
  have HS8 : Hid (∀ x, Below W8.heap.size W8 x → x.cell? ⟨w6.heap.size + 1, 0, none⟩ = some (.int .i64 7) ∧ x.cell? ⟨w6.heap.size + 1, 1, none⟩ = some (.int .i64 (vpS xs deep).h) ∧ x.cell? ⟨w6.heap.size + 1, 2, none⟩ = some (.int .i64 tt) ∧ x.cell? ⟨w6.heap.size + 1, 3, none⟩ = some (.int .i64 (vpS xs deep).d) ∧ x.cell? ⟨w6.heap.size + 1, 4, none⟩ = some (.int .i64 0) ∧ x.cell? ⟨w6.heap.size + 1, 5, none⟩ = some (.int .i64 0) ∧ x.cell? ⟨w6.heap.size + 1, 6, none⟩ = some (.int .i64 0) ∧ x.cell? ⟨w6.heap.size + 1, 7, none⟩ = some (.int .i64 0) ∧ x.cell? ⟨w6.heap.size + 1, 8, none⟩ = some (.int .i64 0) ∧ x.cell? ⟨w6.heap.size + 1, 9, none⟩ = some (.int .i64 0) ∧ x.cell? ⟨w6.heap.size + 1, 10, none⟩ = some (.int .i64 0) ∧ x.cell? ⟨w6.heap.size + 1, 11, none⟩ = some (.int .i64 0) ∧ x.cell? ⟨w6.heap.size + 1, 12, none⟩ = some (.int .i64 0) ∧ x.cell? ⟨w6.heap.size + 1, 13, none⟩ = some (.string ⟨#[]⟩) ∧ x.cell? ⟨w6.heap.size + 1, 14, none⟩ = some (.int .i64 (n : Int)) ∧ x.cell? ⟨w6.heap.size, 0, none⟩ = some (.int .i64 z0) ∧ x.cell? ⟨w6.heap.size, 1, none⟩ = some (.int .i64 z1) ∧ x.cell? ⟨w6.heap.size, 2, none⟩ = some (.int .i64 z2) ∧ x.cell? ⟨w6.heap.size, 3, none⟩ = some (.int .i64 z3) ∧ x.cell? ⟨w6.heap.size, 4, none⟩ = some (.int .i64 z4) ∧ x.cell? ⟨w6.heap.size, 5, none⟩ = some (.int .i64 z5)) := hideP (fun x hx => by
    have h1 : W8.heap[w6.heap.size + 1]? = some (.cells #[.int .i64 7, .int .i64 (vpS xs deep).h, .int .i64 tt, .int .i64 (vpS xs deep).d, .int .i64 0, .int .i64 0, .int .i64 0, .int .i64 0, .int .i64 0, .int .i64 0, .int .i64 0, .int .i64 0, .int .i64 0, .string ⟨#[]⟩, .int .i64 (n : Int)] 77 (0, 0)) := by rw [hW8]; simpa using heap_alloc_new (w6.alloc (.cells #[.int .i64 z0, .int .i64 z1, .int .i64 z2, .int .i64 z3, .int .i64 z4, .int .i64 z5] 26)) (.cells #[.int .i64 7, .int .i64 (vpS xs deep).h, .int .i64 tt, .int .i64 (vpS xs deep).d, .int .i64 0, .int .i64 0, .int .i64 0, .int .i64 0, .int .i64 0, .int .i64 0, .int .i64 0, .int .i64 0, .int .i64 0, .string ⟨#[]⟩, .int .i64 (n : Int)] 77)
    have h2 : W8.heap[w6.heap.size]? = some (.cells #[.int .i64 z0, .int .i64 z1, .int .i64 z2, .int .i64 z3, .int .i64 z4, .int .i64 z5] 26 (0, 0)) := by rw [hW8]; exact ((below1 _ _).block _ (by simp)).trans (heap_alloc_new w6 _)
    have k1 := (hx.block _ (Array.getElem?_eq_some_iff.1 h1).1).trans h1
    have k2 := (hx.block _ (Array.getElem?_eq_some_iff.1 h2).1).trans h2
    refine ⟨?_, ?_, ?_, ?_, ?_, ?_, ?_, ?_, ?_, ?_, ?_, ?_, ?_, ?_, ?_, ?_, ?_, ?_, ?_, ?_, ?_⟩ <;> first | exact cell_of_row x _ _ _ 77 _ k1 | exact cell_of_row x _ _ _ 26 _ k2)
  have HB8 : Hid (∀ x, Below W8.heap.size W8 x → Below w.heap.size w x ∧ PB w x ∧ w.heap.size ≤ W8.heap.size) := hideP (fun x hx => by
    have h1 := (HP6.out.below B68).below hx
    exact ⟨h1.bel, h1, (HP6.out.below B68).bel.size⟩)
  have HC8 : Hid (∀ x, Below W8.heap.size W8 x → Calls Tryz.prog 43 #[.slice ao n cap, vl] x fun e w' => ∃ g c, e = .returned (.slice (some ⟨g, 0, none⟩) n c) ∧ w'.ownsRow x.heap.size 77 15 (.slice (some ⟨g, 0, none⟩) n c) n (flatN L) ∧ Below x.heap.size x w') := hideP (fun x hx => HSET.out x vl (HB8.out x hx).1 ((HRL.out.below B68).below hx))
  have HLL : Hid ((flatN L).length = n * 15) := hideP (by rw [flatN_len, HLD.out, setL_len, HL.out])
  have hW8le : w.heap.size ≤ W8.heap.size := (HB8.out W8 (Below.refl _ _)).2.2
  have HEND : Hid (∀ w10 a c, Below W8.heap.size W8 w10 → w10.ownsRow w.heap.size 77 15 (.slice a (1 + n) c) (1 + n) ([.int .i64 7, .int .i64 (vpS xs deep).h, .int .i64 tt, .int .i64 (vpS xs deep).d, .int .i64 0, .int .i64 0, .int .i64 0, .int .i64 0, .int .i64 0, .int .i64 0, .int .i64 0, .int .i64 0, .int .i64 0, .string ⟨#[]⟩, .int .i64 (n : Int)] ++ flatN L) → (sev w10 w.heap.size (.slice a (1 + n) c) z0 z1 z2 z3 z4 z5).ownsRow w.heap.size 77 15 (.slice a (1 + n) c) (xs.length + 1) (flatN (vpN xs deep mode size)) ∧ (sev w10 w.heap.size (.slice a (1 + n) c) z0 z1 z2 z3 z4 z5).heap[w.heap.size]? = some (packO (.slice a (1 + n) c) z0 z1 z2 z3 z4 z5) ∧ Below w.heap.size w (sev w10 w.heap.size (.slice a (1 + n) c) z0 z1 z2 z3 z4 z5)) := hideP (fun w10 a c hb ho => by
    have hP := (HB8.out w10 hb).2.1
    refine ⟨?_, sev_heap hP.box _ _ _ _ _ _ _, sev_below hP.bel (Nat.le_refl _) _ _ _ _ _ _ _⟩
    have h1 := own_sev hP ho (.slice a (1 + n) c) z0 z1 z2 z3 z4 z5
    rw [show xs.length + 1 = 1 + n by rw [HL.out]; omega]
    unfold vpN
    rw [← HLD.out, ← HTT.out, HL.out]
    exact h1)
  have hw6 : w.heap.size < w6.heap.size := (Array.getElem?_eq_some_iff.1 HP6.out.box).1
  have hlt8 : w6.heap.size + 1 < W8.heap.size := by
    have h1 := (HS8.out W8 (Below.refl _ _)).1
    exact World.block_lt_of_cell? _ _ h1
  clear hW8 hw7 HRL HSET HP6
  refine wp_region_held_drew (S := fun x => x.cell? ⟨w6.heap.size + 1, 0, none⟩ = some (.int .i64 7) ∧ x.cell? ⟨w6.heap.size + 1, 1, none⟩ = some (.int .i64 (vpS xs deep).h) ∧ x.cell? ⟨w6.heap.size + 1, 2, none⟩ = some (.int .i64 tt) ∧ x.cell? ⟨w6.heap.size + 1, 3, none⟩ = some (.int .i64 (vpS xs deep).d) ∧ x.cell? ⟨w6.heap.size + 1, 4, none⟩ = some (.int .i64 0) ∧ x.cell? ⟨w6.heap.size + 1, 5, none⟩ = some (.int .i64 0) ∧ x.cell? ⟨w6.heap.size + 1, 6, none⟩ = some (.int .i64 0) ∧ x.cell? ⟨w6.heap.size + 1, 7, none⟩ = some (.int .i64 0) ∧ x.cell? ⟨w6.heap.size + 1, 8, none⟩ = some (.int .i64 0) ∧ x.cell? ⟨w6.heap.size + 1, 9, none⟩ = some (.int .i64 0) ∧ x.cell? ⟨w6.heap.size + 1, 10, none⟩ = some (.int .i64 0) ∧ x.cell? ⟨w6.heap.size + 1, 11, none⟩ = some (.int .i64 0) ∧ x.cell? ⟨w6.heap.size + 1, 12, none⟩ = some (.int .i64 0) ∧ x.cell? ⟨w6.heap.size + 1, 13, none⟩ = some (.string ⟨#[]⟩) ∧ x.cell? ⟨w6.heap.size + 1, 14, none⟩ = some (.int .i64 (n : Int)) ∧ x.cell? ⟨w6.heap.size, 0, none⟩ = some (.int .i64 z0) ∧ x.cell? ⟨w6.heap.size, 1, none⟩ = some (.int .i64 z1) ∧ x.cell? ⟨w6.heap.size, 2, none⟩ = some (.int .i64 z2) ∧ x.cell? ⟨w6.heap.size, 3, none⟩ = some (.int .i64 z3) ∧ x.cell? ⟨w6.heap.size, 4, none⟩ = some (.int .i64 z4) ∧ x.cell? ⟨w6.heap.size, 5, none⟩ = some (.int .i64 z5)) (by kernel_rfl) (HS8.out _ ((Below.refl _ _).drew)) (fun hS => ?_)
  refine wpAnyH_take (i := 0) (v := .agg #[.int .i64 7, .int .i64 (vpS xs deep).h, .int .i64 tt, .int .i64 (vpS xs deep).d, .int .i64 0, .int .i64 0, .int .i64 0, .int .i64 0, .int .i64 0, .int .i64 0, .int .i64 0, .int .i64 0, .int .i64 0, .string ⟨#[]⟩, .int .i64 (n : Int)]) rfl (by kernel_rfl) (by kernel_rfl) (by kernel_rfl) (fun _ _ _ h => h) (Or.inl ⟨by first | rfl | go_simp, fun wx hx => by obtain ⟨hx0, hx1, hx2, hx3, hx4, hx5, hx6, hx7, hx8, hx9, hx10, hx11, hx12, hx13, hx14, hx15, hx16, hx17, hx18, hx19, hx20⟩ := hx; go_simp⟩) hS ?_
  try simp only [Act.put, List.getElem_toArray, List.getElem_cons_zero, List.getElem_cons_succ, List.setIfInBounds_toArray, List.set_cons_zero, List.set_cons_succ]
  refine wpAnyH_take (i := 2) (v := .slice ao n cap) rfl (by kernel_rfl) (by kernel_rfl) (by kernel_rfl) (fun _ _ _ h => h) (Or.inl ⟨by first | rfl | go_simp, fun wx hx => by obtain ⟨hx0, hx1, hx2, hx3, hx4, hx5, hx6, hx7, hx8, hx9, hx10, hx11, hx12, hx13, hx14, hx15, hx16, hx17, hx18, hx19, hx20⟩ := hx; go_simp⟩) hS ?_
  try simp only [Act.put, List.getElem_toArray, List.getElem_cons_zero, List.getElem_cons_succ, List.setIfInBounds_toArray, List.set_cons_zero, List.set_cons_succ]
  refine wpAnyH_take (i := 3) (v := vl) rfl (by kernel_rfl) (by kernel_rfl) (by kernel_rfl) (fun _ _ _ h => h) (Or.inl ⟨by first | rfl | go_simp, fun wx hx => by obtain ⟨hx0, hx1, hx2, hx3, hx4, hx5, hx6, hx7, hx8, hx9, hx10, hx11, hx12, hx13, hx14, hx15, hx16, hx17, hx18, hx19, hx20⟩ := hx; go_simp⟩) hS ?_
  try simp only [Act.put, List.getElem_toArray, List.getElem_cons_zero, List.getElem_cons_succ, List.setIfInBounds_toArray, List.set_cons_zero, List.set_cons_succ]
  refine wpAnyH_take (i := 6) (v := .agg #[.int .i64 z0, .int .i64 z1, .int .i64 z2, .int .i64 z3, .int .i64 z4, .int .i64 z5]) rfl (by kernel_rfl) (by kernel_rfl) (by kernel_rfl) (fun _ _ _ h => h) (Or.inl ⟨by first | rfl | go_simp, fun wx hx => by obtain ⟨hx0, hx1, hx2, hx3, hx4, hx5, hx6, hx7, hx8, hx9, hx10, hx11, hx12, hx13, hx14, hx15, hx16, hx17, hx18, hx19, hx20⟩ := hx; go_simp⟩) hS ?_
  try simp only [Act.put, List.getElem_toArray, List.getElem_cons_zero, List.getElem_cons_succ, List.setIfInBounds_toArray, List.set_cons_zero, List.set_cons_succ]
  refine wpAnyH_ready (rs := [1, 4]) (by kernel_rfl) (by simp) ?_
  refine AllReadyH.cons rfl (fun K hK => ?_) (AllReadyH.cons rfl (fun K hK => ?_) AllReadyH.nil)
  · rw [if_pos (by first | rfl | go_simp)]
    go_simp
    have HBA : Below W8.heap.size W8 (W8.alloc (.cells #[.int .i64 7, .int .i64 (vpS xs deep).h, .int .i64 tt, .int .i64 (vpS xs deep).d, .int .i64 0, .int .i64 0, .int .i64 0, .int .i64 0, .int .i64 0, .int .i64 0, .int .i64 0, .int .i64 0, .int .i64 0, .string ⟨#[]⟩, .int .i64 (n : Int)] 77)).drew := ((Below.refl _ _).alloc (Nat.le_refl _) _).drew
    refine hK.out _ _ (HS8.out _ HBA) (fun hS => ?_)
    try simp only [Act.put, List.getElem_toArray, List.getElem_cons_zero, List.getElem_cons_succ, List.setIfInBounds_toArray, List.set_cons_zero, List.set_cons_succ]
    clear hK K
    refine wpAnyH_ready (rs := [4]) (by kernel_rfl) (by simp) ?_
    refine AllReadyH.cons rfl (fun K hK => ?_) AllReadyH.nil
    rw [if_pos (by first | rfl | go_simp)]
    go_simp
    go_at_call 43
    refine (HC8.out _ HBA).mono ?_
    rintro e w9 ⟨g9, c9, rfl, hown9, hb9⟩
    have HB9 : Below W8.heap.size W8 w9 := below_more HBA hb9 (by simp)
    have N9 : Hid (∀ j u, (flatN L)[j]? = some u → w9.cell? ⟨g9, 0 + j, none⟩ = some u) := hideP (fun j u hj => by rw [Nat.zero_add]; exact (own_cell hown9 hj).1)
    have hsz9 : w.heap.size ≤ w9.heap.size := Nat.le_trans hW8le HB9.size
    have OWA : Hid (w9.ownsRow w.heap.size 77 15 (.slice (some ⟨W8.heap.size, 0, none⟩) 1 1) 1 [.int .i64 7, .int .i64 (vpS xs deep).h, .int .i64 tt, .int .i64 (vpS xs deep).d, .int .i64 0, .int .i64 0, .int .i64 0, .int .i64 0, .int .i64 0, .int .i64 0, .int .i64 0, .int .i64 0, .int .i64 0, .string ⟨#[]⟩, .int .i64 (n : Int)]) := hideP (ownG_below (w := (W8.alloc (.cells #[.int .i64 7, .int .i64 (vpS xs deep).h, .int .i64 tt, .int .i64 (vpS xs deep).d, .int .i64 0, .int .i64 0, .int .i64 0, .int .i64 0, .int .i64 0, .int .i64 0, .int .i64 0, .int .i64 0, .int .i64 0, .string ⟨#[]⟩, .int .i64 (n : Int)] 77)).drew) (owns_drewG (own_made1 W8 hW8le #[.int .i64 7, .int .i64 (vpS xs deep).h, .int .i64 tt, .int .i64 (vpS xs deep).d, .int .i64 0, .int .i64 0, .int .i64 0, .int .i64 0, .int .i64 0, .int .i64 0, .int .i64 0, .int .i64 0, .int .i64 0, .string ⟨#[]⟩, .int .i64 (n : Int)] rfl)) hb9)
    clear hown9 hb9 HBA
    refine hK.out _ _ (HS8.out _ HB9) (fun hS => ?_)
    try simp only [Act.put, List.getElem_toArray, List.getElem_cons_zero, List.getElem_cons_succ, List.setIfInBounds_toArray, List.set_cons_zero, List.set_cons_succ]
    clear hK K
    refine wpAnyH_ready (rs := [5]) (by kernel_rfl) (by simp) ?_
    refine AllReadyH.cons rfl (fun K hK => ?_) AllReadyH.nil
    rw [if_pos (by first | rfl | go_simp)]
    refine wp_append_own _ _ _ 24 rfl w.heap.size 77 i0 (ndV Nd.none) 15 128 Tryz.underlying24 hi hy0 hy1 hy2 rfl (by decide) (.slice (some ⟨W8.heap.size, 0, none⟩) 1 1) 1 [.int .i64 7, .int .i64 (vpS xs deep).h, .int .i64 tt, .int .i64 (vpS xs deep).d, .int .i64 0, .int .i64 0, .int .i64 0, .int .i64 0, .int .i64 0, .int .i64 0, .int .i64 0, .int .i64 0, .int .i64 0, .string ⟨#[]⟩, .int .i64 (n : Int)] rfl OWA.out ⟨g9, 0, none⟩ n c9 (flatN L) rfl HLL.out (by intro j u hj; rw [Addr.add_lit]; exact N9.out j u hj) (flatN_one L) (by unfold maxLen; omega) (by omega) hsz9 ?_
    intro v10 w10 hown10 hgrow10 hnil10
    obtain ⟨a10, c10, rfl⟩ := ownG_shape hown10
    have HB10 : Below W8.heap.size W8 w10 := Below.grown HB9 hgrow10 HB9.size (fun k hk => by simp [Value.ownBlock] at hk; have := HB9.size; omega)
    have HE10 := hideP (HEND.out w10 a10 c10 HB10 hown10)
    obtain ⟨r0, r1, r2, r3, r4, r5, r6⟩ := pack_cells (HB8.out w10 HB10).2.1.box
    have fR : ∀ j, w10.frozen? ⟨w.heap.size, j, none⟩ = false := fun j => frozen_of_row w10 w.heap.size j _ _ (HB8.out w10 HB10).2.1.box
    have HS10 := hideP (HS9.out (sev w10 w.heap.size (.slice a10 (1 + n) c10) z0 z1 z2 z3 z4 z5) (by rw [sev_other (by omega)]; exact HB10.block _ hlt8) (by rw [sev_other (by omega)]; exact HB10.block _ (by omega)))
    clear hown10 hgrow10 hnil10
    refine hK.out _ _ (HS8.out _ HB10) (fun hS => ?_)
    try simp only [Act.put, List.getElem_toArray, List.getElem_cons_zero, List.getElem_cons_succ, List.setIfInBounds_toArray, List.set_cons_zero, List.set_cons_succ]
    clear hK K
    refine wpAnyH_take (i := 7) (v := packV (.slice a10 (1 + n) c10) ⟨z0, z1, z2, z3, z4, z5⟩) rfl (by kernel_rfl) (by kernel_rfl) (by kernel_rfl) (fun _ _ _ h => h) (Or.inl ⟨by first | rfl | go_simp, fun wx hx => by obtain ⟨hx0, hx1, hx2, hx3, hx4, hx5, hx6, hx7, hx8, hx9, hx10, hx11, hx12, hx13, hx14, hx15, hx16, hx17, hx18, hx19, hx20⟩ := hx; go_simp⟩) hS ?_
    try simp only [Act.put, List.getElem_toArray, List.getElem_cons_zero, List.getElem_cons_succ, List.setIfInBounds_toArray, List.set_cons_zero, List.set_cons_succ]
    refine wpAnyH_ready (rs := [8]) (by kernel_rfl) (by simp) ?_
    refine AllReadyH.cons rfl (fun K hK => ?_) AllReadyH.nil
    rw [if_pos (by first | rfl | go_simp)]
    go_simp
    refine hK.out _ _ HS10.out (fun hS => ?_)
    try simp only [Act.put, List.getElem_toArray, List.getElem_cons_zero, List.getElem_cons_succ, List.setIfInBounds_toArray, List.set_cons_zero, List.set_cons_succ]
    clear hK K
    refine wpAnyH_done (by kernel_rfl) ?_ _
    go_wp2
    exact bodyPost_ret (v := packV (.slice a10 (1 + n) c10) ⟨z0, z1, z2, z3, z4, z5⟩) (results_one_cell rfl _ _ w.heap.size _ rfl (loadPack HE10.out.2.1)) rfl ⟨_, rfl, HE10.out.1, HE10.out.2.2⟩
  · rw [if_pos (by first | rfl | go_simp)]
    go_simp
    go_at_call 43
    refine (HC8.out _ ((Below.refl _ _).drew)).mono ?_
    rintro e w9' ⟨g9, c9, rfl, hown9, hb9⟩
    have HB9' : Below W8.heap.size W8 w9' := below_more ((Below.refl _ _).drew) hb9 (by simp)
    have hsz9' : w.heap.size ≤ w9'.heap.size := Nat.le_trans hW8le HB9'.size
    have N9' : Hid (∀ j u, (flatN L)[j]? = some u → w9'.cell? ⟨g9, 0 + j, none⟩ = some u) := hideP (fun j u hj => by rw [Nat.zero_add]; exact (own_cell hown9 hj).1)
    clear hown9 hb9
    refine hK.out _ _ (HS8.out _ HB9') (fun hS => ?_)
    try simp only [Act.put, List.getElem_toArray, List.getElem_cons_zero, List.getElem_cons_succ, List.setIfInBounds_toArray, List.set_cons_zero, List.set_cons_succ]
    clear hK K
    refine wpAnyH_ready (rs := [1]) (by kernel_rfl) (by simp) ?_
    refine AllReadyH.cons rfl (fun K hK => ?_) AllReadyH.nil
    rw [if_pos (by first | rfl | go_simp)]
    go_simp
    obtain ⟨w9, hw9⟩ : ∃ w9, w9 = w9'.alloc (.cells #[.int .i64 7, .int .i64 (vpS xs deep).h, .int .i64 tt, .int .i64 (vpS xs deep).d, .int .i64 0, .int .i64 0, .int .i64 0, .int .i64 0, .int .i64 0, .int .i64 0, .int .i64 0, .int .i64 0, .int .i64 0, .string ⟨#[]⟩, .int .i64 (n : Int)] 77) := ⟨_, rfl⟩
    rw [← hw9]
    have HB9 : Below W8.heap.size W8 w9 := by rw [hw9]; exact HB9'.alloc HB9'.size _
    have OWA : Hid (w9.ownsRow w.heap.size 77 15 (.slice (some ⟨w9'.heap.size, 0, none⟩) 1 1) 1 [.int .i64 7, .int .i64 (vpS xs deep).h, .int .i64 tt, .int .i64 (vpS xs deep).d, .int .i64 0, .int .i64 0, .int .i64 0, .int .i64 0, .int .i64 0, .int .i64 0, .int .i64 0, .int .i64 0, .int .i64 0, .string ⟨#[]⟩, .int .i64 (n : Int)]) := hideP (by rw [hw9]; exact own_made1 w9' hsz9' #[.int .i64 7, .int .i64 (vpS xs deep).h, .int .i64 tt, .int .i64 (vpS xs deep).d, .int .i64 0, .int .i64 0, .int .i64 0, .int .i64 0, .int .i64 0, .int .i64 0, .int .i64 0, .int .i64 0, .int .i64 0, .string ⟨#[]⟩, .int .i64 (n : Int)] rfl)
    have N9 : Hid (∀ j u, (flatN L)[j]? = some u → w9.cell? ⟨g9, 0 + j, none⟩ = some u) := hideP (fun j u hj => by rw [hw9]; exact Lib.cell?_alloc_some _ (N9'.out j u hj))
    have hsz9 : w.heap.size ≤ w9.heap.size := Nat.le_trans hW8le HB9.size
    have hsz8 := HB9'.size
    clear hw9 HB9' N9'
    refine hK.out _ _ (HS8.out _ HB9) (fun hS => ?_)
    try simp only [Act.put, List.getElem_toArray, List.getElem_cons_zero, List.getElem_cons_succ, List.setIfInBounds_toArray, List.set_cons_zero, List.set_cons_succ]
    clear hK K
    refine wpAnyH_ready (rs := [5]) (by kernel_rfl) (by simp) ?_
    refine AllReadyH.cons rfl (fun K hK => ?_) AllReadyH.nil
    rw [if_pos (by first | rfl | go_simp)]
    refine wp_append_own _ _ _ 24 rfl w.heap.size 77 i0 (ndV Nd.none) 15 128 Tryz.underlying24 hi hy0 hy1 hy2 rfl (by decide) (.slice (some ⟨w9'.heap.size, 0, none⟩) 1 1) 1 [.int .i64 7, .int .i64 (vpS xs deep).h, .int .i64 tt, .int .i64 (vpS xs deep).d, .int .i64 0, .int .i64 0, .int .i64 0, .int .i64 0, .int .i64 0, .int .i64 0, .int .i64 0, .int .i64 0, .int .i64 0, .string ⟨#[]⟩, .int .i64 (n : Int)] rfl OWA.out ⟨g9, 0, none⟩ n c9 (flatN L) rfl HLL.out (by intro j u hj; rw [Addr.add_lit]; exact N9.out j u hj) (flatN_one L) (by unfold maxLen; omega) (by omega) hsz9 ?_
    intro v10 w10 hown10 hgrow10 hnil10
    obtain ⟨a10, c10, rfl⟩ := ownG_shape hown10
    have HB10 : Below W8.heap.size W8 w10 := Below.grown HB9 hgrow10 HB9.size (fun k hk => by simp [Value.ownBlock] at hk; have := HB9.size; omega)
    have HE10 := hideP (HEND.out w10 a10 c10 HB10 hown10)
    obtain ⟨r0, r1, r2, r3, r4, r5, r6⟩ := pack_cells (HB8.out w10 HB10).2.1.box
    have fR : ∀ j, w10.frozen? ⟨w.heap.size, j, none⟩ = false := fun j => frozen_of_row w10 w.heap.size j _ _ (HB8.out w10 HB10).2.1.box
    have HS10 := hideP (HS9.out (sev w10 w.heap.size (.slice a10 (1 + n) c10) z0 z1 z2 z3 z4 z5) (by rw [sev_other (by omega)]; exact HB10.block _ hlt8) (by rw [sev_other (by omega)]; exact HB10.block _ (by omega)))
    clear hown10 hgrow10 hnil10
    refine hK.out _ _ (HS8.out _ HB10) (fun hS => ?_)
    try simp only [Act.put, List.getElem_toArray, List.getElem_cons_zero, List.getElem_cons_succ, List.setIfInBounds_toArray, List.set_cons_zero, List.set_cons_succ]
    clear hK K
    refine wpAnyH_take (i := 7) (v := packV (.slice a10 (1 + n) c10) ⟨z0, z1, z2, z3, z4, z5⟩) rfl (by kernel_rfl) (by kernel_rfl) (by kernel_rfl) (fun _ _ _ h => h) (Or.inl ⟨by first | rfl | go_simp, fun wx hx => by obtain ⟨hx0, hx1, hx2, hx3, hx4, hx5, hx6, hx7, hx8, hx9, hx10, hx11, hx12, hx13, hx14, hx15, hx16, hx17, hx18, hx19, hx20⟩ := hx; go_simp⟩) hS ?_
    try simp only [Act.put, List.getElem_toArray, List.getElem_cons_zero, List.getElem_cons_succ, List.setIfInBounds_toArray, List.set_cons_zero, List.set_cons_succ]
    refine wpAnyH_ready (rs := [8]) (by kernel_rfl) (by simp) ?_
    refine AllReadyH.cons rfl (fun K hK => ?_) AllReadyH.nil
    rw [if_pos (by first | rfl | go_simp)]
    go_simp
    refine hK.out _ _ HS10.out (fun hS => ?_)
    try simp only [Act.put, List.getElem_toArray, List.getElem_cons_zero, List.getElem_cons_succ, List.setIfInBounds_toArray, List.set_cons_zero, List.set_cons_succ]
    clear hK K
    refine wpAnyH_done (by kernel_rfl) ?_ _
    go_wp2
    exact bodyPost_ret (v := packV (.slice a10 (1 + n) c10) ⟨z0, z1, z2, z3, z4, z5⟩) (results_one_cell rfl _ _ w.heap.size _ rfl (loadPack HE10.out.2.1)) rfl ⟨_, rfl, HE10.out.1, HE10.out.2.2⟩
end Go.Proofs.YticalmdhbgkbbaaGreat

namespace Go.Proofs.YticalmdhbgkbbaaGreat
open Go.RowKit
set_option linter.unusedVariables false
set_option linter.unusedSimpArgs false

theorem vack_any {v : Value} {xs : List Nd} {w : World} {R B0 : Nat} {g p : Value} (deep mode size : Int) (hdp : 0 ≤ deep) (B : Bun w R 7 (vpS xs deep).h 0 (vpS xs deep).d (vpS xs deep).w g p) (og : w.ownsRow B0 50 5 g (vpS xs deep).gs.length (f5 (vpS xs deep).gs)) (op : w.ownsRow B0 3 1 p (gluesAt xs (begins xs)).length ((natI (gluesAt xs (begins xs))).map (Value.int .i64))) (hN : NN 0 w v xs) (hl : listB xs = true) (hfs : fitsB size = true) :
    Calls Tryz.prog 47 #[.pointer (some ⟨R, 0, none⟩), v, .int .i64 mode, .int .i64 size] w fun e w' => Below w.heap.size w w' ∧ PakV xs deep mode size w.heap.size (vrgB xs deep mode size) e w' := by
  cases h : (decide ((vpS xs deep).gs.length ≤ 10000) && fitsB (vpS xs deep).w && fitsB (vpTo xs deep mode size))
  · exact vack_no deep mode size hdp B og op hN hl hfs h
  · exact vack_yes deep mode size hdp B og op hN hl hfs h
theorem vask_no {xs : List Nd} {deep mode size : Int} (h : askB xs mode size = false) : vpOk xs deep mode size = false := by
  have h2 : packB xs mode size = false := by
    cases hp : packB xs mode size with
    | false => rfl
    | true =>
      unfold packB at hp
      simp only [Bool.and_eq_true] at hp
      unfold askB at h
      rw [hp.1.2, hp.2, can_list hp.1.1] at h
      exact absurd h (by decide)
  unfold vpOk
  rw [h2]
  rfl

set_option maxRecDepth 20000 in
set_option maxHeartbeats 8000000 in
theorem implVPack_any {v : Value} {xs : List Nd} {w : World} (deep mode size : Int) (hdp : 0 ≤ deep ∧ deep ≤ 1073741823) (hN : NRow 0 w v xs) (hNN : NN 0 w v xs) (hs : xs.length ≤ 1048576) :
    Calls Tryz.prog 19 #[v, .int .i64 mode, .int .i64 size, .int .i64 deep] w fun e w' => Below w.heap.size w w' ∧ PakV xs deep mode size w.heap.size (vpOk xs deep mode size) e w' := by
  have HC : Hid (∀ W, Below w.heap.size w W → Calls Tryz.prog 45 #[v, .int .i64 mode, .int .i64 size] W fun e w' => e = .returned (.bool (askB xs mode size)) ∧ Below W.heap.size W w') := hideP (fun W hW => implCan_any mode size (hN.below ndStable hW) hs)
  have HN := hideP hN
  have HNN := hideP hNN
  obtain ⟨ok, hok⟩ : ∃ ok, ok = askB xs mode size := ⟨_, rfl⟩
  rw [← hok] at HC
  obtain ⟨va, n, vc, rfl, hl, -⟩ := hN
  cases ok with
  | false =>
    have HNO : Hid (vpOk xs deep mode size = false) := hideP (vask_no hok.symm)
    clear hok hNN
    go_enter Tryz.func19, Tryz.ntmps19
    go_wp2_with fail
    refine (HC.out _ (below1 _ _)).mono ?_
    rintro e w1 ⟨rfl, hb1⟩
    have HP1 : Hid (PB w w1) := hideP ((PB.start w).below hb1)
    clear hb1 HC
    obtain ⟨r0, r1, r2, r3, r4, r5, r6⟩ := pack_cells HP1.out.box
    have fR : ∀ j, w1.frozen? ⟨w.heap.size, j, none⟩ = false := fun j => frozen_of_row w1 w.heap.size j _ _ HP1.out.box
    have HF : Hid ((sev w1 w.heap.size (.slice none 0 0) 0 0 0 0 0 0).heap[w.heap.size]? = some (packO (.slice none 0 0) 0 0 0 0 0 0) ∧ Below w.heap.size w (sev w1 w.heap.size (.slice none 0 0) 0 0 0 0 0 0)) := hideP ⟨sev_heap HP1.out.box _ _ _ _ _ _ _, sev_below HP1.out.bel (Nat.le_refl _) _ _ _ _ _ _ _⟩
    go_wp2
    exact bodyPost_ret (v := packV (.slice none 0 0) ⟨0, 0, 0, 0, 0, 0⟩) (results_one_cell rfl _ _ w.heap.size _ rfl (loadPack HF.out.1)) rfl ⟨HF.out.2, by rw [HNO.out]; exact rfl⟩
  | true =>
    have hask := hok.symm
    have hlist : listB xs = true := by unfold askB at hask; simp only [Bool.and_eq_true] at hask; exact hask.2
    have hfs : fitsB size = true := by unfold askB at hask; simp only [Bool.and_eq_true] at hask; exact hask.1.2
    have HPR : Hid (vrgB xs deep mode size = vpOk xs deep mode size) := hideP (vrg_ok hask hdp.1)
    have HRO : Hid (∀ W, Below w.heap.size w W → Calls Tryz.prog 54 #[.slice va n vc, .int .i64 deep] W fun e W' => (∃ g p, e = .returned (.pointer (some ⟨W.heap.size, 0, none⟩)) ∧ Bun W' W.heap.size 7 (vpS xs deep).h 0 (vpS xs deep).d (vpS xs deep).w g p ∧ W'.ownsRow W.heap.size 50 5 g (vpS xs deep).gs.length (f5 (vpS xs deep).gs) ∧ W'.ownsRow W.heap.size 3 1 p (gluesAt xs (begins xs)).length ((natI (gluesAt xs (begins xs))).map (Value.int .i64))) ∧ Below W.heap.size W W') := hideP (fun W hW => callsIn_wide.1 (stackOf_in deep hdp.1 (HN.out.below ndStable hW) (allOk hlist) (list_in hlist) (list_sh hlist)))
    have HPA : Hid (∀ (W : World) (R B0 : Nat) (g p : Value), Below w.heap.size w W → Bun W R 7 (vpS xs deep).h 0 (vpS xs deep).d (vpS xs deep).w g p → W.ownsRow B0 50 5 g (vpS xs deep).gs.length (f5 (vpS xs deep).gs) → W.ownsRow B0 3 1 p (gluesAt xs (begins xs)).length ((natI (gluesAt xs (begins xs))).map (Value.int .i64)) → Calls Tryz.prog 47 #[.pointer (some ⟨R, 0, none⟩), .slice va n vc, .int .i64 mode, .int .i64 size] W fun e w' => Below W.heap.size W w' ∧ PakV xs deep mode size W.heap.size (vrgB xs deep mode size) e w') := hideP (fun W R B0 g p hW h1 h2 h3 => vack_any deep mode size hdp.1 h1 h2 h3 (nn_below HNN.out hW) hlist hfs)
    have HUP : Hid (∀ W, Calls Tryz.prog 53 #[.int .i64 deep, .int .i64 1073741823] W fun e w' => e = .returned (.bool true) ∧ w' = W) := hideP (fun W => by have h := upTo_any deep 1073741823 W; rw [show uptoB deep 1073741823 = true from decide_eq_true hdp] at h; exact h)
    clear hok hNN hask hlist hfs
    go_enter Tryz.func19, Tryz.ntmps19
    go_wp2_with fail
    refine (HC.out _ (below1 _ _)).mono ?_
    rintro e w1 ⟨rfl, hb1⟩
    have HP1 : Hid (PB w w1) := hideP ((PB.start w).below hb1)
    clear hb1 HC
    go_wp2_with fail
    refine (HUP.out _).mono ?_
    rintro _ w1' ⟨rfl, h9⟩
    have h9' := h9.symm
    subst h9'
    clear h9
    go_wp2_with fail
    refine (HRO.out _ HP1.out.bel).mono ?_
    rintro e w2 ⟨⟨g, p, rfl, hbun, hg, hp⟩, hb2⟩
    have HP2 : Hid (PB w w2) := hideP (HP1.out.below hb2)
    have HPK := hideP (HPA.out w2 _ _ g p HP2.out.bel hbun hg hp)
    obtain ⟨R, hR⟩ : ∃ R, R = w1.heap.size := ⟨_, rfl⟩
    rw [← hR] at HPK ⊢
    clear hbun hg hp hb2 hR HP1 HRO HPA
    go_wp2_with fail
    refine HPK.out.mono ?_
    rintro e w3 ⟨hb3, hpk⟩
    have HP3 : Hid (PB w w3) := hideP (HP2.out.below hb3)
    obtain ⟨r0, r1, r2, r3, r4, r5, r6⟩ := pack_cells HP3.out.box
    have fR : ∀ j, w3.frozen? ⟨w.heap.size, j, none⟩ = false := fun j => frozen_of_row w3 w.heap.size j _ _ HP3.out.box
    rw [HPR.out] at hpk
    obtain ⟨yes, hyes⟩ : ∃ y, y = vpOk xs deep mode size := ⟨_, rfl⟩
    rw [← hyes] at hpk
    have HYE := hideP hyes
    clear hyes HPR
    cases yes with
    | false =>
      have hpk2 : e = .returned (packV (.slice none 0 0) ⟨0, 0, 0, 0, 0, 0⟩) := hpk
      subst hpk2
      have HF : Hid ((sev w3 w.heap.size (.slice none 0 0) 0 0 0 0 0 0).heap[w.heap.size]? = some (packO (.slice none 0 0) 0 0 0 0 0 0) ∧ Below w.heap.size w (sev w3 w.heap.size (.slice none 0 0) 0 0 0 0 0 0)) := hideP ⟨sev_heap HP3.out.box _ _ _ _ _ _ _, sev_below HP3.out.bel (Nat.le_refl _) _ _ _ _ _ _ _⟩
      clear hpk hb3 HPK
      go_wp2
      exact bodyPost_ret (v := packV (.slice none 0 0) ⟨0, 0, 0, 0, 0, 0⟩) (results_one_cell rfl _ _ w.heap.size _ rfl (loadPack HF.out.1)) rfl ⟨HF.out.2, by rw [← HYE.out]; exact rfl⟩
    | true =>
      obtain ⟨u, he, hu⟩ := hpk
      obtain ⟨Z, hZ⟩ : ∃ Z, Shr.shareS (vpS xs deep).gs (vpQ xs deep mode size) = Z := ⟨_, rfl⟩
      obtain ⟨z0, z1, z2, z3, z4, z5⟩ := Z
      rw [hZ] at he
      subst he
      obtain ⟨ua, uc, rfl⟩ := ownG_shape hu
      have HF : Hid ((sev w3 w.heap.size (.slice ua (xs.length + 1) uc) z0 z1 z2 z3 z4 z5).heap[w.heap.size]? = some (packO (.slice ua (xs.length + 1) uc) z0 z1 z2 z3 z4 z5) ∧ Below w.heap.size w (sev w3 w.heap.size (.slice ua (xs.length + 1) uc) z0 z1 z2 z3 z4 z5) ∧ (sev w3 w.heap.size (.slice ua (xs.length + 1) uc) z0 z1 z2 z3 z4 z5).ownsRow w.heap.size 77 15 (.slice ua (xs.length + 1) uc) (xs.length + 1) (flatN (vpN xs deep mode size))) := hideP ⟨sev_heap HP3.out.box _ _ _ _ _ _ _, sev_below HP3.out.bel (Nat.le_refl _) _ _ _ _ _ _ _, own_sev HP3.out (ownG_mono hu HP2.out.bel.size) _ _ _ _ _ _ _⟩
      have HZ := hideP hZ
      obtain ⟨N1, hN1⟩ : ∃ N1, N1 = xs.length + 1 := ⟨_, rfl⟩
      rw [← hN1] at HF ⊢
      have HN1 := hideP hN1
      clear hu hb3 HPK hZ hN1
      go_wp2
      exact bodyPost_ret (v := packV (.slice ua N1 uc) ⟨z0, z1, z2, z3, z4, z5⟩) (results_one_cell rfl _ _ w.heap.size _ rfl (loadPack HF.out.1)) rfl ⟨HF.out.2.1, by rw [← HYE.out]; exact ⟨_, by rw [HZ.out], by rw [← HN1.out]; exact HF.out.2.2⟩⟩

set_option maxRecDepth 20000 in
set_option maxHeartbeats 8000000 in
theorem implVPack_out {v : Value} {xs : List Nd} {w : World} (deep mode size : Int) (hdp : ¬ (0 ≤ deep ∧ deep ≤ 1073741823)) (hN : NRow 0 w v xs) (hs : xs.length ≤ 1048576) :
    Calls Tryz.prog 19 #[v, .int .i64 mode, .int .i64 size, .int .i64 deep] w fun e w' => e = .returned (packV (.slice none 0 0) ⟨0, 0, 0, 0, 0, 0⟩) ∧ Below w.heap.size w w' := by
  have HC : Hid (∀ W, Below w.heap.size w W → Calls Tryz.prog 45 #[v, .int .i64 mode, .int .i64 size] W fun e w' => e = .returned (.bool (askB xs mode size)) ∧ Below W.heap.size W w') := hideP (fun W hW => implCan_any mode size (hN.below ndStable hW) hs)
  have HUP : Hid (∀ W, Calls Tryz.prog 53 #[.int .i64 deep, .int .i64 1073741823] W fun e w' => e = .returned (.bool false) ∧ w' = W) := hideP (fun W => by have h := upTo_any deep 1073741823 W; rw [show uptoB deep 1073741823 = false from decide_eq_false hdp] at h; exact h)
  obtain ⟨ok, hok⟩ : ∃ ok, ok = askB xs mode size := ⟨_, rfl⟩
  rw [← hok] at HC
  obtain ⟨va, n, vc, rfl, hl, -⟩ := hN
  clear hok hdp
  go_enter Tryz.func19, Tryz.ntmps19
  go_wp2_with fail
  refine (HC.out _ (below1 _ _)).mono ?_
  rintro e w1 ⟨rfl, hb1⟩
  have HP1 : Hid (PB w w1) := hideP ((PB.start w).below hb1)
  clear hb1 HC
  have HF : Hid ((sev w1 w.heap.size (.slice none 0 0) 0 0 0 0 0 0).heap[w.heap.size]? = some (packO (.slice none 0 0) 0 0 0 0 0 0) ∧ Below w.heap.size w (sev w1 w.heap.size (.slice none 0 0) 0 0 0 0 0 0)) := hideP ⟨sev_heap HP1.out.box _ _ _ _ _ _ _, sev_below HP1.out.bel (Nat.le_refl _) _ _ _ _ _ _ _⟩
  obtain ⟨r0, r1, r2, r3, r4, r5, r6⟩ := pack_cells HP1.out.box
  have fR : ∀ j, w1.frozen? ⟨w.heap.size, j, none⟩ = false := fun j => frozen_of_row w1 w.heap.size j _ _ HP1.out.box
  cases ok with
  | false =>
    go_wp2
    exact bodyPost_ret (v := packV (.slice none 0 0) ⟨0, 0, 0, 0, 0, 0⟩) (results_one_cell rfl _ _ w.heap.size _ rfl (loadPack HF.out.1)) rfl ⟨rfl, HF.out.2⟩
  | true =>
    go_wp2_with fail
    refine (HUP.out _).mono ?_
    rintro _ w1' ⟨rfl, h9⟩
    have h9' := h9.symm
    subst h9'
    clear h9
    go_wp2
    exact bodyPost_ret (v := packV (.slice none 0 0) ⟨0, 0, 0, 0, 0, 0⟩) (results_one_cell rfl _ _ w.heap.size _ rfl (loadPack HF.out.1)) rfl ⟨rfl, HF.out.2⟩

set_option maxRecDepth 20000 in
set_option maxHeartbeats 8000000 in
theorem specVPack_out {v : Value} {xs : List Nd} {w : World} (deep mode size : Int) (hdp : ¬ (0 ≤ deep ∧ deep ≤ 1073741823)) (hN : NRow 0 w v xs) (hs : xs.length ≤ 1048576) :
    Calls Tryz.prog 18 #[v, .int .i64 mode, .int .i64 size, .int .i64 deep] w fun e w' => e = .returned (packV (.slice none 0 0) ⟨0, 0, 0, 0, 0, 0⟩) ∧ Below w.heap.size w w' := by
  have HC : Hid (∀ W, Below w.heap.size w W → Calls Tryz.prog 37 #[v, .int .i64 mode, .int .i64 size] W fun e w' => e = .returned (.bool (packB xs mode size)) ∧ Below W.heap.size W w') := hideP (fun W hW => specCan_any mode size (hN.below ndStable hW) hs)
  obtain ⟨ok, hok⟩ : ∃ ok, ok = packB xs mode size := ⟨_, rfl⟩
  rw [← hok] at HC
  obtain ⟨va, n, vc, rfl, hl, -⟩ := hN
  clear hok
  go_enter Tryz.func18, Tryz.ntmps18
  go_wp2_with fail
  refine (HC.out _ (below1 _ _)).mono ?_
  rintro e w1 ⟨rfl, hb1⟩
  have HP1 : Hid (PB w w1) := hideP ((PB.start w).below hb1)
  clear hb1 HC
  have HF : Hid ((sev w1 w.heap.size (.slice none 0 0) 0 0 0 0 0 0).heap[w.heap.size]? = some (packO (.slice none 0 0) 0 0 0 0 0 0) ∧ Below w.heap.size w (sev w1 w.heap.size (.slice none 0 0) 0 0 0 0 0 0)) := hideP ⟨sev_heap HP1.out.box _ _ _ _ _ _ _, sev_below HP1.out.bel (Nat.le_refl _) _ _ _ _ _ _ _⟩
  obtain ⟨r0, r1, r2, r3, r4, r5, r6⟩ := pack_cells HP1.out.box
  have fR : ∀ j, w1.frozen? ⟨w.heap.size, j, none⟩ = false := fun j => frozen_of_row w1 w.heap.size j _ _ HP1.out.box
  cases ok with
  | false =>
    clear hdp
    go_wp2
    exact bodyPost_ret (v := packV (.slice none 0 0) ⟨0, 0, 0, 0, 0, 0⟩) (results_one_cell rfl _ _ w.heap.size _ rfl (loadPack HF.out.1)) rfl ⟨rfl, HF.out.2⟩
  | true =>
    by_cases h0 : deep < 0
    · have hdd1 : decide (deep < 0) = true := by simp; omega
      clear hdp
      go_wp2
      exact bodyPost_ret (v := packV (.slice none 0 0) ⟨0, 0, 0, 0, 0, 0⟩) (results_one_cell rfl _ _ w.heap.size _ rfl (loadPack HF.out.1)) rfl ⟨rfl, HF.out.2⟩
    · have hdd1 : decide (deep < 0) = false := by simp; omega
      have h1 : (1073741823 : Int) < deep := by omega
      have hdd2 : decide ((1073741823 : Int) < deep) = true := by simp; omega
      clear hdp
      go_wp2
      exact bodyPost_ret (v := packV (.slice none 0 0) ⟨0, 0, 0, 0, 0, 0⟩) (results_one_cell rfl _ _ w.heap.size _ rfl (loadPack HF.out.1)) rfl ⟨rfl, HF.out.2⟩
end Go.Proofs.YticalmdhbgkbbaaGreat

namespace Go.Proofs.YticalmdhbgkbbaaGreat
open Go.RowKit
set_option linter.unusedVariables false
set_option linter.unusedSimpArgs false

/-- What VPack gives: its nodes and its setting. -/
def vpA (xs : List Nd) (deep mode size : Int) : Bool := decide (0 ≤ deep ∧ deep ≤ 1073741823) && vpOk xs deep mode size
def vpR (xs : List Nd) (deep mode size : Int) : List Nd := if vpA xs deep mode size = true then vpN xs deep mode size else []
def vpT (xs : List Nd) (deep mode size : Int) : Shr.Sett := if vpA xs deep mode size = true then Shr.shareS (vpS xs deep).gs (vpQ xs deep mode size) else ⟨0, 0, 0, 0, 0, 0⟩
theorem vpN_len (xs : List Nd) (deep mode size : Int) : (vpN xs deep mode size).length = xs.length + 1 := by
  unfold vpN
  rw [List.length_cons, setL_len]
theorem vpR_short {xs : List Nd} {deep mode size : Int} (h : xs.length ≤ 1048576) : (vpR xs deep mode size).length ≤ 1048576 := by
  unfold vpR
  split
  · rename_i hok
    unfold vpA vpOk packB canB at hok
    simp only [Bool.and_eq_true, decide_eq_true_eq] at hok
    rw [vpN_len]
    omega
  · exact Nat.zero_le _
theorem vpA_in {xs : List Nd} {deep mode size : Int} (h : 0 ≤ deep ∧ deep ≤ 1073741823) : vpA xs deep mode size = vpOk xs deep mode size := by
  unfold vpA
  rw [decide_eq_true h, Bool.true_and]
theorem vpA_out {xs : List Nd} {deep mode size : Int} (h : ¬ (0 ≤ deep ∧ deep ≤ 1073741823)) : vpA xs deep mode size = false := by
  unfold vpA
  rw [decide_eq_false h, Bool.false_and]
theorem vp_no {xs : List Nd} {deep mode size : Int} (h : vpA xs deep mode size = false) : vpR xs deep mode size = [] ∧ vpT xs deep mode size = ⟨0, 0, 0, 0, 0, 0⟩ := by
  unfold vpR vpT
  rw [h]
  exact ⟨rfl, rfl⟩
theorem vp_yes {xs : List Nd} {deep mode size : Int} (h : vpA xs deep mode size = true) : vpR xs deep mode size = vpN xs deep mode size ∧ vpT xs deep mode size = Shr.shareS (vpS xs deep).gs (vpQ xs deep mode size) := by
  unfold vpR vpT
  rw [if_pos h, if_pos h]
  exact ⟨rfl, rfl⟩
theorem specV {v : Value} {xs : List Nd} {w : World} {base n : Nat} (deep mode size : Int) (h : w.ownsRow base 77 15 v n (flatN xs)) (hn : xs.length = n) (hs : n ≤ 1048576) :
    Calls Tryz.prog 18 #[v, .int .i64 mode, .int .i64 size, .int .i64 deep] w fun e w' => ∃ u, e = .returned (packV u (vpT xs deep mode size)) ∧ w'.ownsRow w.heap.size 77 15 u (vpR xs deep mode size).length (flatN (vpR xs deep mode size)) ∧ Below w.heap.size w w' := by
  have hN := SRow.mono ndStable (own_NRow h hn) (Nat.zero_le base)
  by_cases hd : 0 ≤ deep ∧ deep ≤ 1073741823
  · cases hok : vpOk xs deep mode size with
    | false =>
      obtain ⟨e1, e2⟩ := vp_no ((vpA_in hd).trans hok)
      rw [e1, e2]
      refine (specVPack_no deep mode size hd hN (by omega) hok).mono ?_
      rintro e w' ⟨rfl, hb⟩
      exact ⟨_, rfl, World.ownsRow_nil _ _ _ _, hb⟩
    | true =>
      obtain ⟨e1, e2⟩ := vp_yes ((vpA_in hd).trans hok)
      rw [e1, e2, vpN_len]
      refine (specVPack_ok deep mode size hd hN (own_NN h hn) (by omega) hok).mono ?_
      rintro e w' ⟨u, he, ho, hb⟩
      exact ⟨u, he, ho, hb⟩
  · obtain ⟨e1, e2⟩ := vp_no (vpA_out (xs := xs) (mode := mode) (size := size) hd)
    rw [e1, e2]
    refine (specVPack_out deep mode size hd hN (by omega)).mono ?_
    rintro e w' ⟨rfl, hb⟩
    exact ⟨_, rfl, World.ownsRow_nil _ _ _ _, hb⟩
theorem implV {v : Value} {xs : List Nd} {w : World} {base n : Nat} (deep mode size : Int) (h : w.ownsRow base 77 15 v n (flatN xs)) (hn : xs.length = n) (hs : n ≤ 1048576) :
    Calls Tryz.prog 19 #[v, .int .i64 mode, .int .i64 size, .int .i64 deep] w fun e w' => ∃ u, e = .returned (packV u (vpT xs deep mode size)) ∧ w'.ownsRow w.heap.size 77 15 u (vpR xs deep mode size).length (flatN (vpR xs deep mode size)) ∧ Below w.heap.size w w' := by
  have hN := SRow.mono ndStable (own_NRow h hn) (Nat.zero_le base)
  by_cases hd : 0 ≤ deep ∧ deep ≤ 1073741823
  · refine (implVPack_any deep mode size hd hN (own_NN h hn) (by omega)).mono ?_
    rintro e w' ⟨hb, hp⟩
    cases hok : vpOk xs deep mode size with
    | false =>
      obtain ⟨e1, e2⟩ := vp_no ((vpA_in hd).trans hok)
      rw [hok] at hp
      rw [e1, e2]
      exact ⟨_, hp, World.ownsRow_nil _ _ _ _, hb⟩
    | true =>
      obtain ⟨e1, e2⟩ := vp_yes ((vpA_in hd).trans hok)
      rw [hok] at hp
      obtain ⟨u, he, ho⟩ := hp
      rw [e1, e2, vpN_len]
      exact ⟨u, he, ho, hb⟩
  · obtain ⟨e1, e2⟩ := vp_no (vpA_out (xs := xs) (mode := mode) (size := size) hd)
    rw [e1, e2]
    refine (implVPack_out deep mode size hd hN (by omega)).mono ?_
    rintro e w' ⟨rfl, hb⟩
    exact ⟨_, rfl, World.ownsRow_nil _ _ _ _, hb⟩

end Go.Proofs.YticalmdhbgkbbaaGreat

namespace Go.Proofs.YticalmdhbgkbbaaGreat
open Go.RowKit
set_option linter.unusedVariables false
set_option linter.unusedSimpArgs false

/-- What is packed, and its first node. -/
def natR (xs : List Nd) (row : Bool) : List Nd := match row with | true => hpR xs 0 0 | false => vpR xs 1073741823 0 0
def natN (xs : List Nd) (row : Bool) : Nd := (natR xs row).headD Nd.none
abbrev szO (a b c : Int) : Obj := .cells #[.int .i64 a, .int .i64 b, .int .i64 c] 39 (0, 0)
abbrev szV (a b c : Int) : Value := .agg #[.int .i64 a, .int .i64 b, .int .i64 c]
theorem loadSz {w : World} {R : Nat} {a b c : Int} (h : w.heap[R]? = some (szO a b c)) : (loadVar 39 ⟨R, 0, none⟩).run Tryz.prog w = .ok (szV a b c) w :=
  run_loadVar_row _ _ 39 39 _ (0, 0) _ h Tryz.underlying39 rfl (by kernel_rfl)
abbrev tri (w : World) (R : Nat) (a b c : Int) : World := ((w.setCell ⟨R, 0, none⟩ (.int .i64 a)).setCell ⟨R, 1, none⟩ (.int .i64 b)).setCell ⟨R, 2, none⟩ (.int .i64 c)
theorem tri_heap {w : World} {R : Nat} {a0 b0 c0 : Int} (h : w.heap[R]? = some (szO a0 b0 c0)) (a b c : Int) : (tri w R a b c).heap[R]? = some (szO a b c) :=
  heap_setCell_same _ R 2 _ 39 _ (heap_setCell_same _ R 1 _ 39 _ (heap_setCell_same _ R 0 _ 39 _ h))
theorem tri_below {B : Nat} {w W : World} {R : Nat} (h : Below B w W) (hR : B ≤ R) (a b c : Int) : Below B w (tri W R a b c) :=
  ((h.setCell (p := ⟨R, 0, none⟩) hR _).setCell (p := ⟨R, 1, none⟩) hR _).setCell (p := ⟨R, 2, none⟩) hR _

set_option maxHeartbeats 2000000 in
theorem eqSize_same (a b c : Int) (w : World) : Calls Tryz.prog 22 #[szV a b c, szV a b c] w fun e w' => e = .returned (.bool true) ∧ Below w.heap.size w w' := by
  go_enter Tryz.func22, Tryz.ntmps22
  go_wp2
  go_ret
  exact ⟨rfl, below2 _ _ _⟩

set_option maxRecDepth 20000 in
set_option maxHeartbeats 8000000 in
theorem specNat {v : Value} {xs : List Nd} {w : World} {base n : Nat} (row : Bool) (h : w.ownsRow base 77 15 v n (flatN xs)) (hn : xs.length = n) (hs : n ≤ 1048576) :
    Calls Tryz.prog 20 #[v, .bool row] w fun e w' => e = .returned (szV (natN xs row).wd (natN xs row).ht (natN xs row).dp) ∧ Below w.heap.size w w' := by
  have HCH : Hid (∀ W, Below w.heap.size w W → Calls Tryz.prog 10 #[v, .int .i64 0, .int .i64 0] W fun e w' => ∃ u, e = .returned (packV u (hpT xs 0 0)) ∧ w'.ownsRow W.heap.size 77 15 u (hpR xs 0 0).length (flatN (hpR xs 0 0)) ∧ Below W.heap.size W w') := hideP (fun W hW => specH 0 0 (ownG_below h hW) hn hs)
  have HCV : Hid (∀ W, Below w.heap.size w W → Calls Tryz.prog 18 #[v, .int .i64 0, .int .i64 0, .int .i64 1073741823] W fun e w' => ∃ u, e = .returned (packV u (vpT xs 1073741823 0 0)) ∧ w'.ownsRow W.heap.size 77 15 u (vpR xs 1073741823 0 0).length (flatN (vpR xs 1073741823 0 0)) ∧ Below W.heap.size W w') := hideP (fun W hW => specV 1073741823 0 0 (ownG_below h hW) hn hs)
  obtain ⟨va, vc, rfl⟩ := ownG_shape h
  clear h hn hs
  cases row with
  | true =>
    have HNN : Hid (natN xs true = (hpR xs 0 0).headD Nd.none) := hideP rfl
    obtain ⟨L, hL⟩ : ∃ L, L = hpR xs 0 0 := ⟨_, rfl⟩
    obtain ⟨⟨t0, t1, t2, t3, t4, t5⟩, hT⟩ : ∃ T, T = hpT xs 0 0 := ⟨_, rfl⟩
    rw [← hL] at HCH HNN
    rw [← hT] at HCH
    clear hL hT
    go_enter Tryz.func20, Tryz.ntmps20
    go_wp2_with fail
    refine (HCH.out _ (below2 _ _ _)).mono ?_
    rintro e w1 ⟨u, rfl, ho1, hb1⟩
    obtain ⟨ua, uc, rfl⟩ := ownG_shape ho1
    have k4 : w1.heap[w.heap.size]? = some (szO 0 0 0) := (hb1.block _ (by simp; omega)).trans ((Below.heap_alloc _ _ _ (by simp)).trans (heap_alloc_new w _))
    have k5 : w1.heap[w.heap.size + 1]? = some (packO (.slice none 0 0) 0 0 0 0 0 0) := (hb1.block _ (by simp)).trans (by simpa using heap_alloc_new (w.alloc (.cells #[.int .i64 0, .int .i64 0, .int .i64 0] 39)) (.cells #[.slice none 0 0, .int .i64 0, .int .i64 0, .int .i64 0, .int .i64 0, .int .i64 0, .int .i64 0] 28))
    obtain ⟨q0, q1, q2, q3, q4, q5, q6⟩ := pack_cells k5
    have f5' : ∀ j, w1.frozen? ⟨w.heap.size + 1, j, none⟩ = false := fun j => frozen_of_row w1 _ j _ _ k5
    have B1 : Hid (Below w.heap.size w w1) := hideP (below_more (below2 _ _ _) hb1 (by simp; omega))
    obtain ⟨W2, hW2⟩ : ∃ W2, W2 = w1.setRow (w.heap.size + 1) #[.slice ua L.length uc, .int .i64 t0, .int .i64 t1, .int .i64 t2, .int .i64 t3, .int .i64 t4, .int .i64 t5] := ⟨_, rfl⟩
    have K4 : Hid (W2.heap[w.heap.size]? = some (szO 0 0 0)) := hideP (by rw [hW2]; exact (setRow_other _ _ _ _ (by omega)).trans k4)
    have K5 : Hid (W2.heap[w.heap.size + 1]? = some (packO (.slice ua L.length uc) t0 t1 t2 t3 t4 t5)) := hideP (by rw [hW2]; exact setRow_heap _ _ _ _ _ _ k5)
    have B2 : Hid (Below w.heap.size w W2) := hideP (by rw [hW2]; exact below_setRow B1.out (by omega) _)
    have O2 : Hid (W2.ownsRow w.heap.size 77 15 (.slice ua L.length uc) L.length (flatN L)) := hideP (by
      rw [hW2]
      refine ownG_same (ownG_mono ho1 (by simp; omega)) (fun g hg => setRow_other _ _ _ _ (fun e => ?_))
      subst e
      obtain ⟨cs, hc⟩ := own_cells_block ho1 hg
      rw [k5] at hc
      cases hc)
    have hgl : 0 < L.length → ∃ g, ua = some ⟨g, 0, none⟩ := fun hp => by
      obtain ⟨a, c, e, h⟩ := own_shape O2.out
      cases e
      obtain ⟨g, hg, _⟩ := h hp
      exact ⟨g, hg⟩
    have HGL := hideP hgl
    clear hgl
    go_simp
    go_step
    refine wpList_store_row rfl 28 _ _ rfl (w.heap.size + 1) rfl _ #[.slice ua L.length uc, .int .i64 t0, .int .i64 t1, .int .i64 t2, .int .i64 t3, .int .i64 t4, .int .i64 t5] rfl 28 k5 (by kernel_rfl) rfl (by kernel_rfl) ?_
    rw [← hW2]
    clear ho1 hb1 k4 k5 hW2 q0 q1 q2 q3 q4 q5 q6 f5' HCV HCH
    obtain ⟨q0, q1, q2, q3, q4, q5, q6⟩ := pack_cells K5.out
    have z0 := cell_of_row W2 w.heap.size 0 _ 39 _ K4.out
    have z1 := cell_of_row W2 w.heap.size 1 _ 39 _ K4.out
    have z2 := cell_of_row W2 w.heap.size 2 _ 39 _ K4.out
    have f4 : ∀ j, W2.frozen? ⟨w.heap.size, j, none⟩ = false := fun j => frozen_of_row W2 _ j _ _ K4.out
    have hs4 : w.heap.size < W2.heap.size := (Array.getElem?_eq_some_iff.1 K4.out).1
    have hs5 : w.heap.size + 1 < W2.heap.size := (Array.getElem?_eq_some_iff.1 K5.out).1
    cases L with
    | nil =>
      have HF : Hid ((tri W2 w.heap.size 0 0 0).heap[w.heap.size]? = some (szO 0 0 0) ∧ Below w.heap.size w (tri W2 w.heap.size 0 0 0)) := hideP ⟨tri_heap K4.out _ _ _, tri_below B2.out (Nat.le_refl _) _ _ _⟩
      simp only [List.length_nil] at q0 ⊢
      go_wp2
      exact bodyPost_ret (v := szV 0 0 0) (results_one_cell rfl _ _ w.heap.size _ rfl (loadSz HF.out.1)) rfl ⟨by rw [HNN.out]; rfl, HF.out.2⟩
    | cons y L =>
      obtain ⟨g, rfl⟩ := HGL.out (by simp)
      obtain ⟨kd, wd, ht, dp, sh, fo, ch, nn, gs, gp, gpo, gm, gmo, tx, kids⟩ := y
      have HF : Hid ((tri W2 w.heap.size wd ht dp).heap[w.heap.size]? = some (szO wd ht dp) ∧ Below w.heap.size w (tri W2 w.heap.size wd ht dp)) := hideP ⟨tri_heap K4.out _ _ _, tri_below B2.out (Nat.le_refl _) _ _ _⟩
      have c0 := (own_cell O2.out (j := 0) (x := .int .i64 kd) rfl).1
      have c1 := (own_cell O2.out (j := 1) (x := .int .i64 wd) rfl).1
      have c2 := (own_cell O2.out (j := 2) (x := .int .i64 ht) rfl).1
      have c3 := (own_cell O2.out (j := 3) (x := .int .i64 dp) rfl).1
      have c4 := (own_cell O2.out (j := 4) (x := .int .i64 sh) rfl).1
      have c5 := (own_cell O2.out (j := 5) (x := .int .i64 fo) rfl).1
      have c6 := (own_cell O2.out (j := 6) (x := .int .i64 ch) rfl).1
      have c7 := (own_cell O2.out (j := 7) (x := .int .i64 nn) rfl).1
      have c8 := (own_cell O2.out (j := 8) (x := .int .i64 gs) rfl).1
      have c9 := (own_cell O2.out (j := 9) (x := .int .i64 gp) rfl).1
      have c10 := (own_cell O2.out (j := 10) (x := .int .i64 gpo) rfl).1
      have c11 := (own_cell O2.out (j := 11) (x := .int .i64 gm) rfl).1
      have c12 := (own_cell O2.out (j := 12) (x := .int .i64 gmo) rfl).1
      have c13 := (own_cell O2.out (j := 13) (x := .string tx) rfl).1
      have c14 := (own_cell O2.out (j := 14) (x := .int .i64 kids) rfl).1
      obtain ⟨r, hr⟩ : ∃ r, r = L.length + 1 := ⟨_, rfl⟩
      have hrp : 0 < r := by omega
      have hrz : ¬ (r : Int) = 0 := by omega
      have hri : (0 : Int) < (r : Int) := by omega
      simp only [List.length_cons] at q0 ⊢
      rw [← hr] at q0 ⊢
      clear hr O2 HGL
      have hgw : g < W2.heap.size := World.block_lt_of_cell? W2 _ c1
      have HG : Hid ((tri W2 w.heap.size wd ht dp).drew.heap[w.heap.size]? = some (szO wd ht dp) ∧ Below w.heap.size w (tri W2 w.heap.size wd ht dp).drew) := hideP ⟨HF.out.1, HF.out.2.drew⟩
      go_wp2
      go_region
      go_wp2
      exact bodyPost_ret (v := szV wd ht dp) (results_one_cell rfl _ _ w.heap.size _ rfl (loadSz HG.out.1)) rfl ⟨by rw [HNN.out]; rfl, HG.out.2⟩
  | false =>
    have HNN : Hid (natN xs false = (vpR xs 1073741823 0 0).headD Nd.none) := hideP rfl
    obtain ⟨L, hL⟩ : ∃ L, L = vpR xs 1073741823 0 0 := ⟨_, rfl⟩
    obtain ⟨⟨t0, t1, t2, t3, t4, t5⟩, hT⟩ : ∃ T, T = vpT xs 1073741823 0 0 := ⟨_, rfl⟩
    rw [← hL] at HCV HNN
    rw [← hT] at HCV
    clear hL hT
    go_enter Tryz.func20, Tryz.ntmps20
    go_wp2_with fail
    refine (HCV.out _ (below2 _ _ _)).mono ?_
    rintro e w1 ⟨u, rfl, ho1, hb1⟩
    obtain ⟨ua, uc, rfl⟩ := ownG_shape ho1
    have k4 : w1.heap[w.heap.size]? = some (szO 0 0 0) := (hb1.block _ (by simp; omega)).trans ((Below.heap_alloc _ _ _ (by simp)).trans (heap_alloc_new w _))
    have k5 : w1.heap[w.heap.size + 1]? = some (packO (.slice none 0 0) 0 0 0 0 0 0) := (hb1.block _ (by simp)).trans (by simpa using heap_alloc_new (w.alloc (.cells #[.int .i64 0, .int .i64 0, .int .i64 0] 39)) (.cells #[.slice none 0 0, .int .i64 0, .int .i64 0, .int .i64 0, .int .i64 0, .int .i64 0, .int .i64 0] 28))
    obtain ⟨q0, q1, q2, q3, q4, q5, q6⟩ := pack_cells k5
    have f5' : ∀ j, w1.frozen? ⟨w.heap.size + 1, j, none⟩ = false := fun j => frozen_of_row w1 _ j _ _ k5
    have B1 : Hid (Below w.heap.size w w1) := hideP (below_more (below2 _ _ _) hb1 (by simp; omega))
    obtain ⟨W2, hW2⟩ : ∃ W2, W2 = w1.setRow (w.heap.size + 1) #[.slice ua L.length uc, .int .i64 t0, .int .i64 t1, .int .i64 t2, .int .i64 t3, .int .i64 t4, .int .i64 t5] := ⟨_, rfl⟩
    have K4 : Hid (W2.heap[w.heap.size]? = some (szO 0 0 0)) := hideP (by rw [hW2]; exact (setRow_other _ _ _ _ (by omega)).trans k4)
    have K5 : Hid (W2.heap[w.heap.size + 1]? = some (packO (.slice ua L.length uc) t0 t1 t2 t3 t4 t5)) := hideP (by rw [hW2]; exact setRow_heap _ _ _ _ _ _ k5)
    have B2 : Hid (Below w.heap.size w W2) := hideP (by rw [hW2]; exact below_setRow B1.out (by omega) _)
    have O2 : Hid (W2.ownsRow w.heap.size 77 15 (.slice ua L.length uc) L.length (flatN L)) := hideP (by
      rw [hW2]
      refine ownG_same (ownG_mono ho1 (by simp; omega)) (fun g hg => setRow_other _ _ _ _ (fun e => ?_))
      subst e
      obtain ⟨cs, hc⟩ := own_cells_block ho1 hg
      rw [k5] at hc
      cases hc)
    have hgl : 0 < L.length → ∃ g, ua = some ⟨g, 0, none⟩ := fun hp => by
      obtain ⟨a, c, e, h⟩ := own_shape O2.out
      cases e
      obtain ⟨g, hg, _⟩ := h hp
      exact ⟨g, hg⟩
    have HGL := hideP hgl
    clear hgl
    go_simp
    go_step
    refine wpList_store_row rfl 28 _ _ rfl (w.heap.size + 1) rfl _ #[.slice ua L.length uc, .int .i64 t0, .int .i64 t1, .int .i64 t2, .int .i64 t3, .int .i64 t4, .int .i64 t5] rfl 28 k5 (by kernel_rfl) rfl (by kernel_rfl) ?_
    rw [← hW2]
    clear ho1 hb1 k4 k5 hW2 q0 q1 q2 q3 q4 q5 q6 f5' HCV HCH
    obtain ⟨q0, q1, q2, q3, q4, q5, q6⟩ := pack_cells K5.out
    have z0 := cell_of_row W2 w.heap.size 0 _ 39 _ K4.out
    have z1 := cell_of_row W2 w.heap.size 1 _ 39 _ K4.out
    have z2 := cell_of_row W2 w.heap.size 2 _ 39 _ K4.out
    have f4 : ∀ j, W2.frozen? ⟨w.heap.size, j, none⟩ = false := fun j => frozen_of_row W2 _ j _ _ K4.out
    have hs4 : w.heap.size < W2.heap.size := (Array.getElem?_eq_some_iff.1 K4.out).1
    have hs5 : w.heap.size + 1 < W2.heap.size := (Array.getElem?_eq_some_iff.1 K5.out).1
    cases L with
    | nil =>
      have HF : Hid ((tri W2 w.heap.size 0 0 0).heap[w.heap.size]? = some (szO 0 0 0) ∧ Below w.heap.size w (tri W2 w.heap.size 0 0 0)) := hideP ⟨tri_heap K4.out _ _ _, tri_below B2.out (Nat.le_refl _) _ _ _⟩
      simp only [List.length_nil] at q0 ⊢
      go_wp2
      exact bodyPost_ret (v := szV 0 0 0) (results_one_cell rfl _ _ w.heap.size _ rfl (loadSz HF.out.1)) rfl ⟨by rw [HNN.out]; rfl, HF.out.2⟩
    | cons y L =>
      obtain ⟨g, rfl⟩ := HGL.out (by simp)
      obtain ⟨kd, wd, ht, dp, sh, fo, ch, nn, gs, gp, gpo, gm, gmo, tx, kids⟩ := y
      have HF : Hid ((tri W2 w.heap.size wd ht dp).heap[w.heap.size]? = some (szO wd ht dp) ∧ Below w.heap.size w (tri W2 w.heap.size wd ht dp)) := hideP ⟨tri_heap K4.out _ _ _, tri_below B2.out (Nat.le_refl _) _ _ _⟩
      have c0 := (own_cell O2.out (j := 0) (x := .int .i64 kd) rfl).1
      have c1 := (own_cell O2.out (j := 1) (x := .int .i64 wd) rfl).1
      have c2 := (own_cell O2.out (j := 2) (x := .int .i64 ht) rfl).1
      have c3 := (own_cell O2.out (j := 3) (x := .int .i64 dp) rfl).1
      have c4 := (own_cell O2.out (j := 4) (x := .int .i64 sh) rfl).1
      have c5 := (own_cell O2.out (j := 5) (x := .int .i64 fo) rfl).1
      have c6 := (own_cell O2.out (j := 6) (x := .int .i64 ch) rfl).1
      have c7 := (own_cell O2.out (j := 7) (x := .int .i64 nn) rfl).1
      have c8 := (own_cell O2.out (j := 8) (x := .int .i64 gs) rfl).1
      have c9 := (own_cell O2.out (j := 9) (x := .int .i64 gp) rfl).1
      have c10 := (own_cell O2.out (j := 10) (x := .int .i64 gpo) rfl).1
      have c11 := (own_cell O2.out (j := 11) (x := .int .i64 gm) rfl).1
      have c12 := (own_cell O2.out (j := 12) (x := .int .i64 gmo) rfl).1
      have c13 := (own_cell O2.out (j := 13) (x := .string tx) rfl).1
      have c14 := (own_cell O2.out (j := 14) (x := .int .i64 kids) rfl).1
      obtain ⟨r, hr⟩ : ∃ r, r = L.length + 1 := ⟨_, rfl⟩
      have hrp : 0 < r := by omega
      have hrz : ¬ (r : Int) = 0 := by omega
      have hri : (0 : Int) < (r : Int) := by omega
      simp only [List.length_cons] at q0 ⊢
      rw [← hr] at q0 ⊢
      clear hr O2 HGL
      have hgw : g < W2.heap.size := World.block_lt_of_cell? W2 _ c1
      have HG : Hid ((tri W2 w.heap.size wd ht dp).drew.heap[w.heap.size]? = some (szO wd ht dp) ∧ Below w.heap.size w (tri W2 w.heap.size wd ht dp).drew) := hideP ⟨HF.out.1, HF.out.2.drew⟩
      go_wp2
      go_region
      go_wp2
      exact bodyPost_ret (v := szV wd ht dp) (results_one_cell rfl _ _ w.heap.size _ rfl (loadSz HG.out.1)) rfl ⟨by rw [HNN.out]; rfl, HG.out.2⟩
set_option maxRecDepth 20000 in
set_option maxHeartbeats 8000000 in
theorem implNat {v : Value} {xs : List Nd} {w : World} {base n : Nat} (row : Bool) (h : w.ownsRow base 77 15 v n (flatN xs)) (hn : xs.length = n) (hs : n ≤ 1048576) :
    Calls Tryz.prog 21 #[v, .bool row] w fun e w' => e = .returned (szV (natN xs row).wd (natN xs row).ht (natN xs row).dp) ∧ Below w.heap.size w w' := by
  have HCH : Hid (∀ W, Below w.heap.size w W → Calls Tryz.prog 12 #[v, .int .i64 0, .int .i64 0] W fun e w' => ∃ u, e = .returned (packV u (hpT xs 0 0)) ∧ w'.ownsRow W.heap.size 77 15 u (hpR xs 0 0).length (flatN (hpR xs 0 0)) ∧ Below W.heap.size W w') := hideP (fun W hW => implH 0 0 (ownG_below h hW) hn hs)
  have HCV : Hid (∀ W, Below w.heap.size w W → Calls Tryz.prog 19 #[v, .int .i64 0, .int .i64 0, .int .i64 1073741823] W fun e w' => ∃ u, e = .returned (packV u (vpT xs 1073741823 0 0)) ∧ w'.ownsRow W.heap.size 77 15 u (vpR xs 1073741823 0 0).length (flatN (vpR xs 1073741823 0 0)) ∧ Below W.heap.size W w') := hideP (fun W hW => implV 1073741823 0 0 (ownG_below h hW) hn hs)
  obtain ⟨va, vc, rfl⟩ := ownG_shape h
  clear h hn hs
  cases row with
  | true =>
    have HNN : Hid (natN xs true = (hpR xs 0 0).headD Nd.none) := hideP rfl
    obtain ⟨L, hL⟩ : ∃ L, L = hpR xs 0 0 := ⟨_, rfl⟩
    obtain ⟨⟨t0, t1, t2, t3, t4, t5⟩, hT⟩ : ∃ T, T = hpT xs 0 0 := ⟨_, rfl⟩
    rw [← hL] at HCH HNN
    rw [← hT] at HCH
    clear hL hT
    go_enter Tryz.func21, Tryz.ntmps21
    go_wp2_with fail
    refine (HCH.out _ (below2 _ _ _)).mono ?_
    rintro e w1 ⟨u, rfl, ho1, hb1⟩
    obtain ⟨ua, uc, rfl⟩ := ownG_shape ho1
    have k4 : w1.heap[w.heap.size]? = some (szO 0 0 0) := (hb1.block _ (by simp; omega)).trans ((Below.heap_alloc _ _ _ (by simp)).trans (heap_alloc_new w _))
    have k5 : w1.heap[w.heap.size + 1]? = some (packO (.slice none 0 0) 0 0 0 0 0 0) := (hb1.block _ (by simp)).trans (by simpa using heap_alloc_new (w.alloc (.cells #[.int .i64 0, .int .i64 0, .int .i64 0] 39)) (.cells #[.slice none 0 0, .int .i64 0, .int .i64 0, .int .i64 0, .int .i64 0, .int .i64 0, .int .i64 0] 28))
    obtain ⟨q0, q1, q2, q3, q4, q5, q6⟩ := pack_cells k5
    have f5' : ∀ j, w1.frozen? ⟨w.heap.size + 1, j, none⟩ = false := fun j => frozen_of_row w1 _ j _ _ k5
    have B1 : Hid (Below w.heap.size w w1) := hideP (below_more (below2 _ _ _) hb1 (by simp; omega))
    obtain ⟨W2, hW2⟩ : ∃ W2, W2 = w1.setRow (w.heap.size + 1) #[.slice ua L.length uc, .int .i64 t0, .int .i64 t1, .int .i64 t2, .int .i64 t3, .int .i64 t4, .int .i64 t5] := ⟨_, rfl⟩
    have K4 : Hid (W2.heap[w.heap.size]? = some (szO 0 0 0)) := hideP (by rw [hW2]; exact (setRow_other _ _ _ _ (by omega)).trans k4)
    have K5 : Hid (W2.heap[w.heap.size + 1]? = some (packO (.slice ua L.length uc) t0 t1 t2 t3 t4 t5)) := hideP (by rw [hW2]; exact setRow_heap _ _ _ _ _ _ k5)
    have B2 : Hid (Below w.heap.size w W2) := hideP (by rw [hW2]; exact below_setRow B1.out (by omega) _)
    have O2 : Hid (W2.ownsRow w.heap.size 77 15 (.slice ua L.length uc) L.length (flatN L)) := hideP (by
      rw [hW2]
      refine ownG_same (ownG_mono ho1 (by simp; omega)) (fun g hg => setRow_other _ _ _ _ (fun e => ?_))
      subst e
      obtain ⟨cs, hc⟩ := own_cells_block ho1 hg
      rw [k5] at hc
      cases hc)
    have hgl : 0 < L.length → ∃ g, ua = some ⟨g, 0, none⟩ := fun hp => by
      obtain ⟨a, c, e, h⟩ := own_shape O2.out
      cases e
      obtain ⟨g, hg, _⟩ := h hp
      exact ⟨g, hg⟩
    have HGL := hideP hgl
    clear hgl
    go_simp
    go_step
    refine wpList_store_row rfl 28 _ _ rfl (w.heap.size + 1) rfl _ #[.slice ua L.length uc, .int .i64 t0, .int .i64 t1, .int .i64 t2, .int .i64 t3, .int .i64 t4, .int .i64 t5] rfl 28 k5 (by kernel_rfl) rfl (by kernel_rfl) ?_
    rw [← hW2]
    clear ho1 hb1 k4 k5 hW2 q0 q1 q2 q3 q4 q5 q6 f5' HCV HCH
    obtain ⟨q0, q1, q2, q3, q4, q5, q6⟩ := pack_cells K5.out
    have z0 := cell_of_row W2 w.heap.size 0 _ 39 _ K4.out
    have z1 := cell_of_row W2 w.heap.size 1 _ 39 _ K4.out
    have z2 := cell_of_row W2 w.heap.size 2 _ 39 _ K4.out
    have f4 : ∀ j, W2.frozen? ⟨w.heap.size, j, none⟩ = false := fun j => frozen_of_row W2 _ j _ _ K4.out
    have hs4 : w.heap.size < W2.heap.size := (Array.getElem?_eq_some_iff.1 K4.out).1
    have hs5 : w.heap.size + 1 < W2.heap.size := (Array.getElem?_eq_some_iff.1 K5.out).1
    cases L with
    | nil =>
      have HF : Hid ((tri W2 w.heap.size 0 0 0).heap[w.heap.size]? = some (szO 0 0 0) ∧ Below w.heap.size w (tri W2 w.heap.size 0 0 0)) := hideP ⟨tri_heap K4.out _ _ _, tri_below B2.out (Nat.le_refl _) _ _ _⟩
      simp only [List.length_nil] at q0 ⊢
      go_wp2
      exact bodyPost_ret (v := szV 0 0 0) (results_one_cell rfl _ _ w.heap.size _ rfl (loadSz HF.out.1)) rfl ⟨by rw [HNN.out]; rfl, HF.out.2⟩
    | cons y L =>
      obtain ⟨g, rfl⟩ := HGL.out (by simp)
      obtain ⟨kd, wd, ht, dp, sh, fo, ch, nn, gs, gp, gpo, gm, gmo, tx, kids⟩ := y
      have HF : Hid ((tri W2 w.heap.size wd ht dp).heap[w.heap.size]? = some (szO wd ht dp) ∧ Below w.heap.size w (tri W2 w.heap.size wd ht dp)) := hideP ⟨tri_heap K4.out _ _ _, tri_below B2.out (Nat.le_refl _) _ _ _⟩
      have c0 := (own_cell O2.out (j := 0) (x := .int .i64 kd) rfl).1
      have c1 := (own_cell O2.out (j := 1) (x := .int .i64 wd) rfl).1
      have c2 := (own_cell O2.out (j := 2) (x := .int .i64 ht) rfl).1
      have c3 := (own_cell O2.out (j := 3) (x := .int .i64 dp) rfl).1
      have c4 := (own_cell O2.out (j := 4) (x := .int .i64 sh) rfl).1
      have c5 := (own_cell O2.out (j := 5) (x := .int .i64 fo) rfl).1
      have c6 := (own_cell O2.out (j := 6) (x := .int .i64 ch) rfl).1
      have c7 := (own_cell O2.out (j := 7) (x := .int .i64 nn) rfl).1
      have c8 := (own_cell O2.out (j := 8) (x := .int .i64 gs) rfl).1
      have c9 := (own_cell O2.out (j := 9) (x := .int .i64 gp) rfl).1
      have c10 := (own_cell O2.out (j := 10) (x := .int .i64 gpo) rfl).1
      have c11 := (own_cell O2.out (j := 11) (x := .int .i64 gm) rfl).1
      have c12 := (own_cell O2.out (j := 12) (x := .int .i64 gmo) rfl).1
      have c13 := (own_cell O2.out (j := 13) (x := .string tx) rfl).1
      have c14 := (own_cell O2.out (j := 14) (x := .int .i64 kids) rfl).1
      obtain ⟨r, hr⟩ : ∃ r, r = L.length + 1 := ⟨_, rfl⟩
      have hrp : 0 < r := by omega
      have hrz : ¬ (r : Int) = 0 := by omega
      have hri : (0 : Int) < (r : Int) := by omega
      simp only [List.length_cons] at q0 ⊢
      rw [← hr] at q0 ⊢
      clear hr O2 HGL
      have hgw : g < W2.heap.size := World.block_lt_of_cell? W2 _ c1
      go_wp2_with fail
      refine (sizeOf_any ⟨kd, wd, ht, dp, sh, fo, ch, nn, gs, gp, gpo, gm, gmo, tx, kids⟩ _).mono ?_
      rintro e w3 ⟨rfl, hb3⟩
      have K3 : w3.heap[w.heap.size]? = some (szO 0 0 0) := (hb3.block _ hs4).trans K4.out
      have HG : Hid ((tri w3 w.heap.size wd ht dp).heap[w.heap.size]? = some (szO wd ht dp) ∧ Below w.heap.size w (tri w3 w.heap.size wd ht dp)) := hideP ⟨tri_heap K3 _ _ _, tri_below (below_more B2.out hb3 B2.out.size) (Nat.le_refl _) _ _ _⟩
      clear z0 z1 z2 f4 c0 c1 c2 c3 c4 c5 c6 c7 c8 c9 c10 c11 c12 c13 c14 q0 q1 q2 q3 q4 q5 q6 hb3
      have z0 := cell_of_row w3 w.heap.size 0 _ 39 _ K3
      have z1 := cell_of_row w3 w.heap.size 1 _ 39 _ K3
      have z2 := cell_of_row w3 w.heap.size 2 _ 39 _ K3
      have f4 : ∀ j, w3.frozen? ⟨w.heap.size, j, none⟩ = false := fun j => frozen_of_row w3 _ j _ _ K3
      clear K3
      go_wp2
      exact bodyPost_ret (v := szV wd ht dp) (results_one_cell rfl _ _ w.heap.size _ rfl (loadSz HG.out.1)) rfl ⟨by rw [HNN.out]; rfl, HG.out.2⟩
  | false =>
    have HNN : Hid (natN xs false = (vpR xs 1073741823 0 0).headD Nd.none) := hideP rfl
    obtain ⟨L, hL⟩ : ∃ L, L = vpR xs 1073741823 0 0 := ⟨_, rfl⟩
    obtain ⟨⟨t0, t1, t2, t3, t4, t5⟩, hT⟩ : ∃ T, T = vpT xs 1073741823 0 0 := ⟨_, rfl⟩
    rw [← hL] at HCV HNN
    rw [← hT] at HCV
    clear hL hT
    go_enter Tryz.func21, Tryz.ntmps21
    go_wp2_with fail
    refine (HCV.out _ (below2 _ _ _)).mono ?_
    rintro e w1 ⟨u, rfl, ho1, hb1⟩
    obtain ⟨ua, uc, rfl⟩ := ownG_shape ho1
    have k4 : w1.heap[w.heap.size]? = some (szO 0 0 0) := (hb1.block _ (by simp; omega)).trans ((Below.heap_alloc _ _ _ (by simp)).trans (heap_alloc_new w _))
    have k5 : w1.heap[w.heap.size + 1]? = some (packO (.slice none 0 0) 0 0 0 0 0 0) := (hb1.block _ (by simp)).trans (by simpa using heap_alloc_new (w.alloc (.cells #[.int .i64 0, .int .i64 0, .int .i64 0] 39)) (.cells #[.slice none 0 0, .int .i64 0, .int .i64 0, .int .i64 0, .int .i64 0, .int .i64 0, .int .i64 0] 28))
    obtain ⟨q0, q1, q2, q3, q4, q5, q6⟩ := pack_cells k5
    have f5' : ∀ j, w1.frozen? ⟨w.heap.size + 1, j, none⟩ = false := fun j => frozen_of_row w1 _ j _ _ k5
    have B1 : Hid (Below w.heap.size w w1) := hideP (below_more (below2 _ _ _) hb1 (by simp; omega))
    obtain ⟨W2, hW2⟩ : ∃ W2, W2 = w1.setRow (w.heap.size + 1) #[.slice ua L.length uc, .int .i64 t0, .int .i64 t1, .int .i64 t2, .int .i64 t3, .int .i64 t4, .int .i64 t5] := ⟨_, rfl⟩
    have K4 : Hid (W2.heap[w.heap.size]? = some (szO 0 0 0)) := hideP (by rw [hW2]; exact (setRow_other _ _ _ _ (by omega)).trans k4)
    have K5 : Hid (W2.heap[w.heap.size + 1]? = some (packO (.slice ua L.length uc) t0 t1 t2 t3 t4 t5)) := hideP (by rw [hW2]; exact setRow_heap _ _ _ _ _ _ k5)
    have B2 : Hid (Below w.heap.size w W2) := hideP (by rw [hW2]; exact below_setRow B1.out (by omega) _)
    have O2 : Hid (W2.ownsRow w.heap.size 77 15 (.slice ua L.length uc) L.length (flatN L)) := hideP (by
      rw [hW2]
      refine ownG_same (ownG_mono ho1 (by simp; omega)) (fun g hg => setRow_other _ _ _ _ (fun e => ?_))
      subst e
      obtain ⟨cs, hc⟩ := own_cells_block ho1 hg
      rw [k5] at hc
      cases hc)
    have hgl : 0 < L.length → ∃ g, ua = some ⟨g, 0, none⟩ := fun hp => by
      obtain ⟨a, c, e, h⟩ := own_shape O2.out
      cases e
      obtain ⟨g, hg, _⟩ := h hp
      exact ⟨g, hg⟩
    have HGL := hideP hgl
    clear hgl
    go_simp
    go_step
    refine wpList_store_row rfl 28 _ _ rfl (w.heap.size + 1) rfl _ #[.slice ua L.length uc, .int .i64 t0, .int .i64 t1, .int .i64 t2, .int .i64 t3, .int .i64 t4, .int .i64 t5] rfl 28 k5 (by kernel_rfl) rfl (by kernel_rfl) ?_
    rw [← hW2]
    clear ho1 hb1 k4 k5 hW2 q0 q1 q2 q3 q4 q5 q6 f5' HCV HCH
    obtain ⟨q0, q1, q2, q3, q4, q5, q6⟩ := pack_cells K5.out
    have z0 := cell_of_row W2 w.heap.size 0 _ 39 _ K4.out
    have z1 := cell_of_row W2 w.heap.size 1 _ 39 _ K4.out
    have z2 := cell_of_row W2 w.heap.size 2 _ 39 _ K4.out
    have f4 : ∀ j, W2.frozen? ⟨w.heap.size, j, none⟩ = false := fun j => frozen_of_row W2 _ j _ _ K4.out
    have hs4 : w.heap.size < W2.heap.size := (Array.getElem?_eq_some_iff.1 K4.out).1
    have hs5 : w.heap.size + 1 < W2.heap.size := (Array.getElem?_eq_some_iff.1 K5.out).1
    cases L with
    | nil =>
      have HF : Hid ((tri W2 w.heap.size 0 0 0).heap[w.heap.size]? = some (szO 0 0 0) ∧ Below w.heap.size w (tri W2 w.heap.size 0 0 0)) := hideP ⟨tri_heap K4.out _ _ _, tri_below B2.out (Nat.le_refl _) _ _ _⟩
      simp only [List.length_nil] at q0 ⊢
      go_wp2
      exact bodyPost_ret (v := szV 0 0 0) (results_one_cell rfl _ _ w.heap.size _ rfl (loadSz HF.out.1)) rfl ⟨by rw [HNN.out]; rfl, HF.out.2⟩
    | cons y L =>
      obtain ⟨g, rfl⟩ := HGL.out (by simp)
      obtain ⟨kd, wd, ht, dp, sh, fo, ch, nn, gs, gp, gpo, gm, gmo, tx, kids⟩ := y
      have HF : Hid ((tri W2 w.heap.size wd ht dp).heap[w.heap.size]? = some (szO wd ht dp) ∧ Below w.heap.size w (tri W2 w.heap.size wd ht dp)) := hideP ⟨tri_heap K4.out _ _ _, tri_below B2.out (Nat.le_refl _) _ _ _⟩
      have c0 := (own_cell O2.out (j := 0) (x := .int .i64 kd) rfl).1
      have c1 := (own_cell O2.out (j := 1) (x := .int .i64 wd) rfl).1
      have c2 := (own_cell O2.out (j := 2) (x := .int .i64 ht) rfl).1
      have c3 := (own_cell O2.out (j := 3) (x := .int .i64 dp) rfl).1
      have c4 := (own_cell O2.out (j := 4) (x := .int .i64 sh) rfl).1
      have c5 := (own_cell O2.out (j := 5) (x := .int .i64 fo) rfl).1
      have c6 := (own_cell O2.out (j := 6) (x := .int .i64 ch) rfl).1
      have c7 := (own_cell O2.out (j := 7) (x := .int .i64 nn) rfl).1
      have c8 := (own_cell O2.out (j := 8) (x := .int .i64 gs) rfl).1
      have c9 := (own_cell O2.out (j := 9) (x := .int .i64 gp) rfl).1
      have c10 := (own_cell O2.out (j := 10) (x := .int .i64 gpo) rfl).1
      have c11 := (own_cell O2.out (j := 11) (x := .int .i64 gm) rfl).1
      have c12 := (own_cell O2.out (j := 12) (x := .int .i64 gmo) rfl).1
      have c13 := (own_cell O2.out (j := 13) (x := .string tx) rfl).1
      have c14 := (own_cell O2.out (j := 14) (x := .int .i64 kids) rfl).1
      obtain ⟨r, hr⟩ : ∃ r, r = L.length + 1 := ⟨_, rfl⟩
      have hrp : 0 < r := by omega
      have hrz : ¬ (r : Int) = 0 := by omega
      have hri : (0 : Int) < (r : Int) := by omega
      simp only [List.length_cons] at q0 ⊢
      rw [← hr] at q0 ⊢
      clear hr O2 HGL
      have hgw : g < W2.heap.size := World.block_lt_of_cell? W2 _ c1
      go_wp2_with fail
      refine (sizeOf_any ⟨kd, wd, ht, dp, sh, fo, ch, nn, gs, gp, gpo, gm, gmo, tx, kids⟩ _).mono ?_
      rintro e w3 ⟨rfl, hb3⟩
      have K3 : w3.heap[w.heap.size]? = some (szO 0 0 0) := (hb3.block _ hs4).trans K4.out
      have HG : Hid ((tri w3 w.heap.size wd ht dp).heap[w.heap.size]? = some (szO wd ht dp) ∧ Below w.heap.size w (tri w3 w.heap.size wd ht dp)) := hideP ⟨tri_heap K3 _ _ _, tri_below (below_more B2.out hb3 B2.out.size) (Nat.le_refl _) _ _ _⟩
      clear z0 z1 z2 f4 c0 c1 c2 c3 c4 c5 c6 c7 c8 c9 c10 c11 c12 c13 c14 q0 q1 q2 q3 q4 q5 q6 hb3
      have z0 := cell_of_row w3 w.heap.size 0 _ 39 _ K3
      have z1 := cell_of_row w3 w.heap.size 1 _ 39 _ K3
      have z2 := cell_of_row w3 w.heap.size 2 _ 39 _ K3
      have f4 : ∀ j, w3.frozen? ⟨w.heap.size, j, none⟩ = false := fun j => frozen_of_row w3 _ j _ _ K3
      clear K3
      go_wp2
      exact bodyPost_ret (v := szV wd ht dp) (results_one_cell rfl _ _ w.heap.size _ rfl (loadSz HG.out.1)) rfl ⟨by rw [HNN.out]; rfl, HG.out.2⟩
end Go.Proofs.YticalmdhbgkbbaaGreat

namespace Go.Proofs.YticalmdhbgkbbaaGreat
open Go.RowKit
set_option linter.unusedVariables false
set_option linter.unusedSimpArgs false

theorem sz_cells {w : World} {R : Nat} {a b c : Int} (h : w.heap[R]? = some (szO a b c)) : w.cell? ⟨R, 0, none⟩ = some (.int .i64 a) ∧ w.cell? ⟨R, 1, none⟩ = some (.int .i64 b) ∧ w.cell? ⟨R, 2, none⟩ = some (.int .i64 c) :=
  ⟨cell_of_row w R 0 _ 39 _ h, cell_of_row w R 1 _ 39 _ h, cell_of_row w R 2 _ 39 _ h⟩
set_option maxRecDepth 20000 in
set_option maxHeartbeats 8000000 in
theorem lawNatural_any {v : Value} {xs : List Nd} {w : World} (row : Bool) (h : NRow 0 w v xs) (hf : xs.length ≤ 9223372036854775807 ∧ ∀ i, i < xs.length → FnN (xs.getD i Nd.none)) :
    Calls Tryz.prog 5 #[v, .bool row] w fun e w' => e = .returned (.bool true) ∧ Below w.heap.size w w' := by
  have HX := hideP h
  obtain ⟨ao, n, cap, rfl⟩ : ∃ a n c, v = .slice a n c := by obtain ⟨a, c, rfl⟩ := h.shape; exact ⟨_, _, _, rfl⟩
  have HF := hideP hf
  clear h hf
  go_enter Tryz.func5, Tryz.ntmps5
  go_wp2_with fail
  refine (szNodeS_any HX.out HF.out (by omega) (by omega)).mono ?_
  rintro e w1 ⟨⟨m, rfl, hml, hm⟩, hb1⟩
  have B1 : Hid (Below w.heap.size w w1) := hb1
  have HM := hideP hm
  clear hb1 hm
  by_cases hneg : m < 0
  · go_wp2
    go_ret
    exact ⟨rfl, B1⟩
  · have HS : Hid (xs.length ≤ 1048576) := hideP (HM.out (by omega)).1
    clear HM HF
    obtain ⟨z, hz⟩ : ∃ z, z = xs.length := ⟨_, rfl⟩
    obtain ⟨a, ha⟩ : ∃ a, a = (natN xs row).wd := ⟨_, rfl⟩
    obtain ⟨b, hb⟩ : ∃ b, b = (natN xs row).ht := ⟨_, rfl⟩
    obtain ⟨c, hc⟩ : ∃ c, c = (natN xs row).dp := ⟨_, rfl⟩
    have CS : Hid (∀ (V : Value) (W : World) (base : Nat), W.ownsRow base 77 15 V z (flatN xs) → Calls Tryz.prog 20 #[V, .bool row] W fun e W' => e = .returned (szV a b c) ∧ Below W.heap.size W W') := hideP (fun V W base ho => by rw [ha, hb, hc]; exact specNat row ho hz.symm (by rw [hz]; exact HS.out))
    have CI : Hid (∀ (V : Value) (W : World) (base : Nat), W.ownsRow base 77 15 V z (flatN xs) → Calls Tryz.prog 21 #[V, .bool row] W fun e W' => e = .returned (szV a b c) ∧ Below W.heap.size W W') := hideP (fun V W base ho => by rw [ha, hb, hc]; exact implNat row ho hz.symm (by rw [hz]; exact HS.out))
    clear ha hb hc
    have CT : Hid (∀ W, Below w.heap.size w W → Calls Tryz.prog 11 #[.slice ao n cap] W fun e w' => e = .returned (.slice (some ⟨W.heap.size, 0, none⟩) z z) ∧ w'.ownsRow W.heap.size 77 15 (.slice (some ⟨W.heap.size, 0, none⟩) z z) z (flatN xs) ∧ Below W.heap.size W w') := hideP (fun W hW => by rw [hz]; exact toNodeS_own (SRow.below ndStable HX.out hW) HS.out)
    have CQ : Hid (∀ (V U : Value) (W : World) (b1 b2 : Nat), W.ownsRow b1 77 15 V z (flatN xs) → W.ownsRow b2 77 15 U z (flatN xs) → Calls Tryz.prog 14 #[V, U] W fun e w' => e = .returned (.bool true) ∧ Below W.heap.size W w') := hideP (fun V U W b1 b2 ho1 ho2 => eqNodeS_same (SRow.mono ndStable (own_NRow ho1 hz.symm) (Nat.zero_le _)) (SRow.mono ndStable (own_NRow ho2 hz.symm) (Nat.zero_le _)) HS.out)
    clear hz HX
    go_wp2_with fail
    refine (CT.out w1 B1.out).mono ?_
    rintro e w2 ⟨rfl, ho2, hb2⟩
    have B2 : Hid (Below w.heap.size w w2) := hideP (below_more B1.out hb2 B1.out.size)
    have O2 := hideP ho2
    clear ho2 hb2
    go_wp2_with fail
    refine (CS.out _ _ _ O2.out).mono ?_
    rintro e w3 ⟨rfl, hb3⟩
    have B3 : Hid (Below w.heap.size w w3) := hideP (below_more B2.out hb3 B2.out.size)
    clear hb3 O2
    obtain ⟨R0, hR0⟩ : ∃ R0, R0 = w3.heap.size := ⟨_, rfl⟩
    go_wp2_with fail
    obtain ⟨w3a, hw3a⟩ : ∃ w3a, w3a = w3.alloc (.cells #[.int .i64 a, .int .i64 b, .int .i64 c] 39) := ⟨_, rfl⟩
    rw [← hw3a, ← hR0]
    have B3a : Hid (Below w.heap.size w w3a) := hideP (by rw [hw3a]; exact B3.out.alloc B3.out.size _)
    have P3a : Hid (w3a.heap[R0]? = some (szO a b c)) := hideP (by rw [hw3a, hR0]; exact heap_alloc_new w3 _)
    clear hw3a hR0
    refine (CT.out w3a B3a.out).mono ?_
    rintro e w4 ⟨rfl, ho4, hb4⟩
    have B4 : Hid (Below w.heap.size w w4) := hideP (below_more B3a.out hb4 B3a.out.size)
    have X4 := hideP ho4
    have P4 := hideP ((hb4.block _ (Array.getElem?_eq_some_iff.1 P3a.out).1).trans P3a.out)
    clear ho4 hb4 P3a
    go_wp2_with fail
    refine (CI.out _ _ _ X4.out).mono ?_
    rintro e w5 ⟨rfl, hb5⟩
    have B5 : Hid (Below w.heap.size w w5) := hideP (below_more B4.out hb5 B4.out.size)
    have X5 := hideP (ownG_below X4.out hb5)
    have P5 := hideP ((hb5.block _ (Array.getElem?_eq_some_iff.1 P4.out).1).trans P4.out)
    clear hb5 P4 X4
    have hR5 : R0 < w5.heap.size := (Array.getElem?_eq_some_iff.1 P5.out).1
    obtain ⟨p0, p1, p2⟩ := sz_cells P5.out
    go_wp2_with fail
    clear p0 p1 p2
    refine (eqSize_same a b c _).mono ?_
    rintro e w6 ⟨rfl, hb6⟩
    have B6 : Hid (Below w.heap.size w w6) := hideP (below_more (B5.out.alloc B5.out.size _) hb6 (by have := B5.out.size; simp; omega))
    have X6 := hideP (ownG_below (X5.out.alloc _) hb6)
    clear hb6 P5 X5 hR5
    go_wp2_with fail
    refine (CT.out w6 B6.out).mono ?_
    rintro e w7 ⟨rfl, ho7, hb7⟩
    have B7 : Hid (Below w.heap.size w w7) := hideP (below_more B6.out hb7 B6.out.size)
    have Y7 := hideP ho7
    have X7 := hideP (ownG_below X6.out hb7)
    clear hb7 ho7 X6
    go_wp2_with fail
    refine (CQ.out _ _ _ _ _ X7.out Y7.out).mono ?_
    rintro e w8 ⟨rfl, hb8⟩
    have B8 : Hid (Below w.heap.size w w8) := hideP (below_more B7.out hb8 B7.out.size)
    clear hb8 X7 Y7
    go_wp2
    go_ret
    exact ⟨rfl, B8.out⟩
end Go.Proofs.YticalmdhbgkbbaaGreat

namespace Go.Proofs.YticalmdhbgkbbaaGreat
open Go.ChangeShapes Go.WideShapes Go.ChangeAt Go.RowKit Go.Joins
set_option linter.unusedVariables false
set_option linter.unusedSimpArgs false

set_option maxRecDepth 100000 in
theorem natural_lifted (os : Os) (started : os.Started) (H : Type) (enc : TypeId × Value → H) :
    ReturnsInHanded {} Tryz.checked os 5 .any (Rows.fnExactNaturalSpec.pre6 enc Tryz.prog Tryz.f5 Rows.fnExactNaturalRow.domain false) (Rows.fnExactNaturalSpec.post enc Tryz.prog Tryz.f5 false true false false) := by
  refine returnsInHanded_of_change (C := Tryz.checked) ownT started (by kernel_rfl) Tryz.func5
    (ChangeSpec.witness6 (enc := enc) (C := Tryz.checked) false ⟨#[], #[.slice none 0 0, .bool false], []⟩ 8 (by kernel_rfl) (by kernel_rfl) (by kernel_rfl) (by kernel_rfl)) ?_
  intro W base args ds gs before hval0 hW hcnd _
  have hval : ∀ (j : Nat) t v, Tryz.f5.params[j]? = some t → args[j]? = some v → Value.okWide Tryz.prog W .any base t v := hval0
  have hW' := hW
  obtain ⟨p, q, hA0, hV, rfl, hfz, hnd⟩ := hW
  have hA : DataW.TrodAll enc Tryz.prog W 0 (fun _ => true) true Tryz.f5.params.toList args.toList ds p := hA0
  rw [Tryz.params5] at hA hval
  obtain ⟨v0, vs0, d0, ds0, p0, q0, hargs, rfl, rfl, h0, r0⟩ := trodAll_cons hA
  obtain ⟨v1, vs1, d1, ds1, p1, q1, rfl, rfl, rfl, h1, r1⟩ := trodAll_cons r0
  obtain ⟨rfl, rfl, rfl⟩ := trodAll_nil r1
  obtain rfl : args = #[v0, v1] := by cases args; simp_all
  obtain ⟨rfl, rfl⟩ := trodVars_none hV
  have k0 := h0
  have k1 := h1
  have lt0 : ∀ x ∈ p0, x.block < W.heap.size := by obtain ⟨m, hm⟩ := k0; exact DataW.trod_lt m _ _ _ hm
  have lt1 : ∀ x ∈ p1, x.block < W.heap.size := by obtain ⟨m, hm⟩ := k1; exact DataW.trod_lt m _ _ _ hm
  obtain ⟨ao, len, cap, rfl⟩ := okWide_slice Tryz.underlying22 (hval 0 22 v0 rfl rfl)
  obtain ⟨fuel, hf⟩ := h0
  have hf' : DataW.trod enc Tryz.prog W 0 (fun _ => true) true fuel 22 [.slice ao len cap] = some (d0, p0) := by simpa [Value.cells] using hf
  obtain ⟨xs, hr, hl, hF⟩ := openSlice (R := NdR) (F := FnN) Nd.none Tryz.underlying22 cells65 (by omega) (fun fuel cs y ht hl => openNode hl ht) hf'
  obtain ⟨a1, e1, _⟩ := open_bool Tryz.underlying4 (hval 1 4 v1 rfl rfl) h1
  subst e1
  clear hA0 hval0
  refine (lawNatural_any a1 hr ⟨hl, hF⟩).mono fun e W' ⟨he, bel⟩ => ?_
  subst he
  exact ⟨_, rfl, _, _, _, [], _, [], hW', trodAll_mk1 (shut_bool Tryz.underlying4 _), (trodAll_cons_mk (Below.trod laidOut (by kernel_rfl) (of_decide_eq_true (by kernel_rfl)) k0 bel lt0) (trodAll_cons_mk (Below.trod laidOut (by kernel_rfl) (of_decide_eq_true (by kernel_rfl)) k1 bel lt1) trodAll_mk0)), rfl, bel.frame _, fun h => by cases h⟩

theorem natural_holds : Rows.FnExactNaturalSaid :=
  OpenClaim.holds_of_wide 5 Tryz.f5 rfl rfl rfl rfl rfl rfl rfl ⟨rfl, rfl, rfl, rfl, rfl⟩ rfl rfl rfl rfl rfl (by kernel_rfl) Tryz.func5 (by kernel_rfl)
    (of_decide_eq_true (by kernel_rfl)) (by unfold Func.isWrapper; first | (rw [if_pos (by decide +kernel)]; kernel_rfl) | (rw [if_neg (by decide +kernel)]; exact ⟨rfl, rfl⟩))
    (fun os started H enc _ => natural_lifted os started H enc)
#print axioms natural_holds
end Go.Proofs.YticalmdhbgkbbaaGreat

