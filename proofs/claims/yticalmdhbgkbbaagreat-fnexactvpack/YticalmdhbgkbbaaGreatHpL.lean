/-
  The law of HPack.
-/
import Derived.Test.YticalmdhbgkbbaaGreatPal
import Derived.Test.YticalmdhbgkbbaaGreatAdg
import Derived.Test.YticalmdhbgkbbaaGreatSdp
import Derived.Test.YticalmdhbgkbbaaGreatMkc
import Derived.Test.YticalmdhbgkbbaaGreatOpn
namespace Go.Proofs.YticalmdhbgkbbaaGreat
open Go.RowKit
set_option linter.unusedVariables false
set_option linter.unusedSimpArgs false

theorem pack_any {v : Value} {xs : List Nd} {w : World} {R B0 : Nat} {g p : Value} (mode size : Int) (B : Bun w R 6 0 (hpS xs).h (hpS xs).d (hpS xs).w g p) (og : w.ownsRow B0 50 5 g (hpS xs).gs.length (f5 (hpS xs).gs)) (op : w.ownsRow B0 3 1 p (gluesAt xs (begins xs)).length ((natI (gluesAt xs (begins xs))).map (Value.int .i64))) (hN : NN 0 w v xs) (hl : listB xs = true) (hfs : fitsB size = true) :
    Calls Tryz.prog 47 #[.pointer (some ⟨R, 0, none⟩), v, .int .i64 mode, .int .i64 size] w fun e w' => Below w.heap.size w w' ∧ PakP xs mode size w.heap.size (prgB xs mode size) e w' := by
  cases h : (decide ((hpS xs).gs.length ≤ 10000) && fitsB (hpS xs).w && fitsB (hpTo xs mode size))
  · exact pack_no mode size B og op hN hl hfs h
  · exact pack_yes mode size B og op hN hl hfs h
theorem ask_no {xs : List Nd} {mode size : Int} (h : askB xs mode size = false) : hpOk xs mode size = false := by
  have h2 : packB xs mode size = false := by
    cases hp : packB xs mode size with
    | false => rfl
    | true =>
      unfold packB at hp
      simp only [Bool.and_eq_true] at hp
      unfold askB at h
      rw [hp.1.2, hp.2, can_list hp.1.1] at h
      exact absurd h (by decide)
  unfold hpOk
  rw [h2]
  rfl

set_option maxRecDepth 20000 in
set_option maxHeartbeats 8000000 in
theorem implHPack_any {v : Value} {xs : List Nd} {w : World} (mode size : Int) (hN : NRow 0 w v xs) (hNN : NN 0 w v xs) (hs : xs.length ≤ 1048576) :
    Calls Tryz.prog 12 #[v, .int .i64 mode, .int .i64 size] w fun e w' => Below w.heap.size w w' ∧ PakP xs mode size w.heap.size (hpOk xs mode size) e w' := by
  have HC : Hid (∀ W, Below w.heap.size w W → Calls Tryz.prog 45 #[v, .int .i64 mode, .int .i64 size] W fun e w' => e = .returned (.bool (askB xs mode size)) ∧ Below W.heap.size W w') := hideP (fun W hW => implCan_any mode size (hN.below ndStable hW) hs)
  have HN := hideP hN
  have HNN := hideP hNN
  obtain ⟨ok, hok⟩ : ∃ ok, ok = askB xs mode size := ⟨_, rfl⟩
  rw [← hok] at HC
  obtain ⟨va, n, vc, rfl, hl, -⟩ := hN
  cases ok with
  | false =>
    have HNO : Hid (hpOk xs mode size = false) := hideP (ask_no hok.symm)
    clear hok hNN
    go_enter Tryz.func12, Tryz.ntmps12
    go_wp2_with fail
    refine (HC.out _ (below1 _ _)).mono ?_
    rintro e w1 ⟨rfl, hb1⟩
    have HP1 : Hid (PB w w1) := hideP ((PB.start w).below hb1)
    clear hb1 HC
    obtain ⟨r0, r1, r2, r3, r4, r5, r6⟩ := pack_cells HP1.out.box
    have fR : ∀ j, w1.frozen? ⟨w.heap.size, j, none⟩ = false := fun j => frozen_of_row w1 w.heap.size j _ _ HP1.out.box
    have HF : Hid ((sev w1 w.heap.size (.slice none 0 0) 0 0 0 0 0 0).heap[w.heap.size]? = some (packO (.slice none 0 0) 0 0 0 0 0 0) ∧ Below w.heap.size w (sev w1 w.heap.size (.slice none 0 0) 0 0 0 0 0 0)) := hideP ⟨sev_heap HP1.out.box _ _ _ _ _ _ _, sev_below HP1.out.bel (Nat.le_refl _) _ _ _ _ _ _ _⟩
    go_wp2
    exact bodyPost_ret (v := packV (.slice none 0 0) ⟨0, 0, 0, 0, 0, 0⟩) (results_one_cell rfl _ _ w.heap.size _ rfl (loadPack HF.out.1)) rfl ⟨HF.out.2, by rw [HNO.out]; exact rfl⟩
  | true =>
    have hask := hok.symm
    have hlist : listB xs = true := by unfold askB at hask; simp only [Bool.and_eq_true] at hask; exact hask.2
    have hfs : fitsB size = true := by unfold askB at hask; simp only [Bool.and_eq_true] at hask; exact hask.1.2
    have HPR : Hid (prgB xs mode size = hpOk xs mode size) := hideP (prg_ok hask)
    have HRO : Hid (∀ W, Below w.heap.size w W → Calls Tryz.prog 46 #[.slice va n vc] W fun e W' => (∃ g p, e = .returned (.pointer (some ⟨W.heap.size, 0, none⟩)) ∧ Bun W' W.heap.size 6 0 (hpS xs).h (hpS xs).d (hpS xs).w g p ∧ W'.ownsRow W.heap.size 50 5 g (hpS xs).gs.length (f5 (hpS xs).gs) ∧ W'.ownsRow W.heap.size 3 1 p (gluesAt xs (begins xs)).length ((natI (gluesAt xs (begins xs))).map (Value.int .i64))) ∧ Below W.heap.size W W') := hideP (fun W hW => callsIn_wide.1 (rowOf_in (HN.out.below ndStable hW) (allOk hlist) (list_in hlist) (list_sh hlist)))
    have HPA : Hid (∀ (W : World) (R B0 : Nat) (g p : Value), Below w.heap.size w W → Bun W R 6 0 (hpS xs).h (hpS xs).d (hpS xs).w g p → W.ownsRow B0 50 5 g (hpS xs).gs.length (f5 (hpS xs).gs) → W.ownsRow B0 3 1 p (gluesAt xs (begins xs)).length ((natI (gluesAt xs (begins xs))).map (Value.int .i64)) → Calls Tryz.prog 47 #[.pointer (some ⟨R, 0, none⟩), .slice va n vc, .int .i64 mode, .int .i64 size] W fun e w' => Below W.heap.size W w' ∧ PakP xs mode size W.heap.size (prgB xs mode size) e w') := hideP (fun W R B0 g p hW h1 h2 h3 => pack_any mode size h1 h2 h3 (nn_below HNN.out hW) hlist hfs)
    clear hok hNN hask hlist hfs
    go_enter Tryz.func12, Tryz.ntmps12
    go_wp2_with fail
    refine (HC.out _ (below1 _ _)).mono ?_
    rintro e w1 ⟨rfl, hb1⟩
    have HP1 : Hid (PB w w1) := hideP ((PB.start w).below hb1)
    clear hb1 HC
    go_wp2_with fail
    refine (HRO.out _ HP1.out.bel).mono ?_
    rintro e w2 ⟨⟨g, p, rfl, hbun, hg, hp⟩, hb2⟩
    have HP2 : Hid (PB w w2) := hideP (HP1.out.below hb2)
    have HPK := hideP (HPA.out w2 _ _ g p HP2.out.bel hbun hg hp)
    obtain ⟨R, hR⟩ : ∃ R, R = w1.heap.size := ⟨_, rfl⟩
    rw [← hR] at HPK ⊢
    clear hbun hg hp hb2 hR HP1 HRO HPA
    go_wp2_with fail
    refine HPK.out.mono ?_
    rintro e w3 ⟨hb3, hpk⟩
    have HP3 : Hid (PB w w3) := hideP (HP2.out.below hb3)
    obtain ⟨r0, r1, r2, r3, r4, r5, r6⟩ := pack_cells HP3.out.box
    have fR : ∀ j, w3.frozen? ⟨w.heap.size, j, none⟩ = false := fun j => frozen_of_row w3 w.heap.size j _ _ HP3.out.box
    rw [HPR.out] at hpk
    obtain ⟨yes, hyes⟩ : ∃ y, y = hpOk xs mode size := ⟨_, rfl⟩
    rw [← hyes] at hpk
    have HYE := hideP hyes
    clear hyes HPR
    cases yes with
    | false =>
      have hpk2 : e = .returned (packV (.slice none 0 0) ⟨0, 0, 0, 0, 0, 0⟩) := hpk
      subst hpk2
      have HF : Hid ((sev w3 w.heap.size (.slice none 0 0) 0 0 0 0 0 0).heap[w.heap.size]? = some (packO (.slice none 0 0) 0 0 0 0 0 0) ∧ Below w.heap.size w (sev w3 w.heap.size (.slice none 0 0) 0 0 0 0 0 0)) := hideP ⟨sev_heap HP3.out.box _ _ _ _ _ _ _, sev_below HP3.out.bel (Nat.le_refl _) _ _ _ _ _ _ _⟩
      clear hpk hb3 HPK
      go_wp2
      exact bodyPost_ret (v := packV (.slice none 0 0) ⟨0, 0, 0, 0, 0, 0⟩) (results_one_cell rfl _ _ w.heap.size _ rfl (loadPack HF.out.1)) rfl ⟨HF.out.2, by rw [← HYE.out]; exact rfl⟩
    | true =>
      obtain ⟨u, he, hu⟩ := hpk
      obtain ⟨Z, hZ⟩ : ∃ Z, Shr.shareS (hpS xs).gs (hpQ xs mode size) = Z := ⟨_, rfl⟩
      obtain ⟨z0, z1, z2, z3, z4, z5⟩ := Z
      rw [hZ] at he
      subst he
      obtain ⟨ua, uc, rfl⟩ := ownG_shape hu
      have HF : Hid ((sev w3 w.heap.size (.slice ua (xs.length + 1) uc) z0 z1 z2 z3 z4 z5).heap[w.heap.size]? = some (packO (.slice ua (xs.length + 1) uc) z0 z1 z2 z3 z4 z5) ∧ Below w.heap.size w (sev w3 w.heap.size (.slice ua (xs.length + 1) uc) z0 z1 z2 z3 z4 z5) ∧ (sev w3 w.heap.size (.slice ua (xs.length + 1) uc) z0 z1 z2 z3 z4 z5).ownsRow w.heap.size 77 15 (.slice ua (xs.length + 1) uc) (xs.length + 1) (flatN (hpN xs mode size))) := hideP ⟨sev_heap HP3.out.box _ _ _ _ _ _ _, sev_below HP3.out.bel (Nat.le_refl _) _ _ _ _ _ _ _, own_sev HP3.out (ownG_mono hu HP2.out.bel.size) _ _ _ _ _ _ _⟩
      have HZ := hideP hZ
      obtain ⟨N1, hN1⟩ : ∃ N1, N1 = xs.length + 1 := ⟨_, rfl⟩
      rw [← hN1] at HF ⊢
      have HN1 := hideP hN1
      clear hu hb3 HPK hZ hN1
      go_wp2
      exact bodyPost_ret (v := packV (.slice ua N1 uc) ⟨z0, z1, z2, z3, z4, z5⟩) (results_one_cell rfl _ _ w.heap.size _ rfl (loadPack HF.out.1)) rfl ⟨HF.out.2.1, by rw [← HYE.out]; exact ⟨_, by rw [HZ.out], by rw [← HN1.out]; exact HF.out.2.2⟩⟩
end Go.Proofs.YticalmdhbgkbbaaGreat

namespace Go.Proofs.YticalmdhbgkbbaaGreat
open Go.RowKit
set_option linter.unusedVariables false
set_option linter.unusedSimpArgs false

set_option maxRecDepth 20000 in
set_option maxHeartbeats 4000000 in
theorem eqSetting_same (z0 z1 z2 z3 z4 z5 : Int) (w : World) : Calls Tryz.prog 48 #[Shr.setV z0 z1 z2 z3 z4 z5, Shr.setV z0 z1 z2 z3 z4 z5] w fun e w' => e = .returned (.bool true) ∧ Below w.heap.size w w' := by
  go_enter Tryz.func48, Tryz.ntmps48
  go_wp2
  go_ret
  exact ⟨rfl, below2 _ _ _⟩

set_option maxRecDepth 20000 in
set_option maxHeartbeats 4000000 in
theorem eqPacked_same {u v : Value} {L : List Nd} {n b1 b2 : Nat} {w : World} (z0 z1 z2 z3 z4 z5 : Int) (hu : w.ownsRow b1 77 15 u n (flatN L)) (hv : w.ownsRow b2 77 15 v n (flatN L)) (hl : L.length = n) (hn : n ≤ 1048576) :
    Calls Tryz.prog 13 #[packV u ⟨z0, z1, z2, z3, z4, z5⟩, packV v ⟨z0, z1, z2, z3, z4, z5⟩] w fun e w' => e = .returned (.bool true) ∧ Below w.heap.size w w' := by
  obtain ⟨ua, uc, rfl⟩ := ownG_shape hu
  obtain ⟨va, vc, rfl⟩ := ownG_shape hv
  have HE : Hid (∀ W, Below w.heap.size w W → Calls Tryz.prog 14 #[.slice ua n uc, .slice va n vc] W fun e w' => e = .returned (.bool true) ∧ Below W.heap.size W w') := hideP (fun W hW => eqNodeS_same (SRow.mono ndStable (own_NRow (ownG_below hu hW) hl) (Nat.zero_le _)) (SRow.mono ndStable (own_NRow (ownG_below hv hW) hl) (Nat.zero_le _)) (by rw [hl]; exact hn))
  clear hu hv hl hn
  go_enter Tryz.func13, Tryz.ntmps13
  go_wp2_with fail
  refine (HE.out _ (below2 _ _ _)).mono ?_
  rintro e w1 ⟨rfl, hb1⟩
  obtain ⟨W2, hW2⟩ : ∃ W2, W2 = (w.alloc (.cells #[.slice ua n uc, .int .i64 z0, .int .i64 z1, .int .i64 z2, .int .i64 z3, .int .i64 z4, .int .i64 z5] 28)).alloc (.cells #[.slice va n vc, .int .i64 z0, .int .i64 z1, .int .i64 z2, .int .i64 z3, .int .i64 z4, .int .i64 z5] 28) := ⟨_, rfl⟩
  have k1 : w1.heap[w.heap.size]? = some (packO (.slice ua n uc) z0 z1 z2 z3 z4 z5) := (hb1.block _ (by simp; omega)).trans ((Below.heap_alloc _ _ _ (by simp)).trans (heap_alloc_new w _))
  have k2 : w1.heap[w.heap.size + 1]? = some (packO (.slice va n vc) z0 z1 z2 z3 z4 z5) := (hb1.block _ (by simp)).trans (by simpa using heap_alloc_new (w.alloc (.cells #[.slice ua n uc, .int .i64 z0, .int .i64 z1, .int .i64 z2, .int .i64 z3, .int .i64 z4, .int .i64 z5] 28)) (.cells #[.slice va n vc, .int .i64 z0, .int .i64 z1, .int .i64 z2, .int .i64 z3, .int .i64 z4, .int .i64 z5] 28))
  obtain ⟨p0, p1, p2, p3, p4, p5, p6⟩ := pack_cells k1
  obtain ⟨q0, q1, q2, q3, q4, q5, q6⟩ := pack_cells k2
  have HB1 : Hid (Below w.heap.size w w1) := hideP (below_more (below2 _ _ _) hb1 (by simp; omega))
  clear hb1 k1 k2 hW2
  go_wp2_with fail
  refine (eqSetting_same z0 z1 z2 z3 z4 z5 _).mono ?_
  rintro e w3 ⟨rfl, hb3⟩
  have HB3 : Hid (Below w.heap.size w w3) := hideP (below_more HB1.out hb3 HB1.out.size)
  clear hb3
  go_wp2
  go_ret
  exact ⟨rfl, HB3.out⟩

set_option maxRecDepth 20000 in
set_option maxHeartbeats 4000000 in
theorem markPacked_own {base n k : Nat} {v : Value} {L : List Value} {w : World} (z0 z1 z2 z3 z4 z5 : Int) (h : w.ownsRow base 77 15 v n L) (hn : n ≤ 1048576) (hk0 : 0 < k) (hk1 : k ≤ 1048576) (hb : base ≤ w.heap.size) :
    Calls Tryz.prog 16 #[packV v ⟨z0, z1, z2, z3, z4, z5⟩, .int .i64 (k : Int)] w fun e w' => e = .returned (.int .i64 ((k + 15 * n : Nat) : Int)) ∧ w'.ownsRow base 77 15 v n (flatN (marksN k n)) ∧ Below base w w' ∧ (∀ b, b < w.heap.size → v.ownBlock ≠ some b → w'.heap[b]? = w.heap[b]?) := by
  obtain ⟨ua, uc, rfl⟩ := ownG_shape h
  have HM := hideP (mark_own (k := k) (h.alloc (.cells #[.slice ua n uc, .int .i64 z0, .int .i64 z1, .int .i64 z2, .int .i64 z3, .int .i64 z4, .int .i64 z5] 28)) hn hk0 hk1)
  clear h
  go_enter Tryz.func16, Tryz.ntmps16
  go_wp2_with fail
  refine HM.out.mono ?_
  rintro e w1 ⟨rfl, ho, hb1, hq1⟩
  have HO := hideP ho
  have HB1 : Hid (Below base w w1) := hideP (Below.trans ((below1 w _).mono hb) (hb1.mono (Nat.le_min.2 ⟨Nat.le_refl _, by simp; omega⟩)))
  have HQ : Hid (∀ b, b < w.heap.size → (Value.slice ua n uc).ownBlock ≠ some b → w1.heap[b]? = w.heap[b]?) := hideP (fun b hlt hne => (hq1 b (by simp; omega) hne).trans (Below.heap_alloc _ _ _ hlt))
  clear ho hb1 hq1 HM
  go_wp2
  go_ret
  exact ⟨rfl, HO.out, HB1.out, HQ.out⟩

set_option maxRecDepth 20000 in
set_option maxHeartbeats 4000000 in
theorem heldPacked_own {base n k : Nat} {v : Value} {w : World} (z0 z1 z2 z3 z4 z5 : Int) (h : w.ownsRow base 77 15 v n (flatN (marksN k n))) (hn : n ≤ 1048576) (hk0 : 0 < k) (hk1 : k ≤ 1048576) :
    Calls Tryz.prog 17 #[packV v ⟨z0, z1, z2, z3, z4, z5⟩, .int .i64 (k : Int)] w fun e w' => e = .returned (.int .i64 ((k + 15 * n : Nat) : Int)) ∧ Below w.heap.size w w' := by
  obtain ⟨ua, uc, rfl⟩ := ownG_shape h
  obtain ⟨r, hr⟩ : ∃ r : Int, r = ((k + 15 * n : Nat) : Int) := ⟨_, rfl⟩
  have HM : Hid (∀ W, Below w.heap.size w W → Calls Tryz.prog 51 #[.slice ua n uc, .int .i64 (k : Int)] W fun e w' => e = .returned (.int .i64 r) ∧ Below W.heap.size W w') := hideP (fun W hW => by rw [hr]; exact heldNodeS_any (SRow.mono ndStable (own_NRow (ownG_below h hW) (marksN_len k n)) (Nat.zero_le _)) hn hk0 hk1)
  have hr0 : ¬ r < 0 := by omega
  rw [← hr]
  clear h hr
  go_enter Tryz.func17, Tryz.ntmps17
  go_wp2_with fail
  refine (HM.out _ (below1 _ _)).mono ?_
  rintro e w1 ⟨rfl, hb1⟩
  have HB1 : Hid (Below w.heap.size w w1) := hideP (below_more (below1 _ _) hb1 (by simp))
  clear hb1
  go_wp2
  go_ret
  exact ⟨rfl, HB1.out⟩
end Go.Proofs.YticalmdhbgkbbaaGreat

namespace Go.Proofs.YticalmdhbgkbbaaGreat
open Go.RowKit
set_option linter.unusedVariables false
set_option linter.unusedSimpArgs false

/-- What HPack gives: its nodes and its setting. -/
def hpR (xs : List Nd) (mode size : Int) : List Nd := if hpOk xs mode size = true then hpN xs mode size else []
def hpT (xs : List Nd) (mode size : Int) : Shr.Sett := if hpOk xs mode size = true then Shr.shareS (hpS xs).gs (hpQ xs mode size) else ⟨0, 0, 0, 0, 0, 0⟩
theorem hpN_len (xs : List Nd) (mode size : Int) : (hpN xs mode size).length = xs.length + 1 := by
  unfold hpN
  rw [List.length_cons, setL_len]
theorem hpR_len (xs : List Nd) (mode size : Int) : (hpR xs mode size).length ≤ xs.length + 1 := by
  unfold hpR
  split
  · rw [hpN_len]; exact Nat.le_refl _
  · exact Nat.zero_le _
theorem hpR_short {xs : List Nd} {mode size : Int} (h : xs.length ≤ 1048576) : (hpR xs mode size).length ≤ 1048576 := by
  unfold hpR
  split
  · rename_i hok
    unfold hpOk packB canB at hok
    simp only [Bool.and_eq_true, decide_eq_true_eq] at hok
    rw [hpN_len]
    omega
  · exact Nat.zero_le _
theorem own_NN {w : World} {base n : Nat} {v : Value} {xs : List Nd} (h : w.ownsRow base 77 15 v n (flatN xs)) (hn : xs.length = n) : NN 0 w v xs := by
  have hc := own_cap h
  rcases h.2 with ⟨rfl, h0⟩ | ⟨g, cap, cur, rfl, hb, hg, _⟩
  · exact .inl ⟨rfl, List.eq_nil_of_length_eq_zero (by omega)⟩
  · subst hn
    exact .inr ⟨g, 0, cap, rfl, (hc _ _ _ rfl).1, Nat.zero_le _, fun _ => (Array.getElem?_eq_some_iff.1 hg).1, fun j u hj => by rw [Nat.zero_add]; exact (own_cell h hj).1⟩
theorem specH {v : Value} {xs : List Nd} {w : World} {base n : Nat} (mode size : Int) (h : w.ownsRow base 77 15 v n (flatN xs)) (hn : xs.length = n) (hs : n ≤ 1048576) :
    Calls Tryz.prog 10 #[v, .int .i64 mode, .int .i64 size] w fun e w' => ∃ u, e = .returned (packV u (hpT xs mode size)) ∧ w'.ownsRow w.heap.size 77 15 u (hpR xs mode size).length (flatN (hpR xs mode size)) ∧ Below w.heap.size w w' := by
  have hN := SRow.mono ndStable (own_NRow h hn) (Nat.zero_le base)
  cases hok : hpOk xs mode size with
  | false =>
    have e1 : hpR xs mode size = [] := by unfold hpR; rw [hok]; rfl
    have e2 : hpT xs mode size = ⟨0, 0, 0, 0, 0, 0⟩ := by unfold hpT; rw [hok]; rfl
    rw [e1, e2]
    refine (specHPack_no mode size hN (by omega) hok).mono ?_
    rintro e w' ⟨rfl, hb⟩
    exact ⟨_, rfl, World.ownsRow_nil _ _ _ _, hb⟩
  | true =>
    have e1 : hpR xs mode size = hpN xs mode size := by unfold hpR; rw [if_pos hok]
    have e2 : hpT xs mode size = Shr.shareS (hpS xs).gs (hpQ xs mode size) := by unfold hpT; rw [if_pos hok]
    rw [e1, e2, hpN_len]
    refine (specHPack_ok mode size hN (own_NN h hn) (by omega) hok).mono ?_
    rintro e w' ⟨u, he, ho, hb⟩
    exact ⟨u, he, ho, hb⟩
theorem implH {v : Value} {xs : List Nd} {w : World} {base n : Nat} (mode size : Int) (h : w.ownsRow base 77 15 v n (flatN xs)) (hn : xs.length = n) (hs : n ≤ 1048576) :
    Calls Tryz.prog 12 #[v, .int .i64 mode, .int .i64 size] w fun e w' => ∃ u, e = .returned (packV u (hpT xs mode size)) ∧ w'.ownsRow w.heap.size 77 15 u (hpR xs mode size).length (flatN (hpR xs mode size)) ∧ Below w.heap.size w w' := by
  have hN := SRow.mono ndStable (own_NRow h hn) (Nat.zero_le base)
  refine (implHPack_any mode size hN (own_NN h hn) (by omega)).mono ?_
  rintro e w' ⟨hb, hp⟩
  cases hok : hpOk xs mode size with
  | false =>
    have e1 : hpR xs mode size = [] := by unfold hpR; rw [hok]; rfl
    have e2 : hpT xs mode size = ⟨0, 0, 0, 0, 0, 0⟩ := by unfold hpT; rw [hok]; rfl
    rw [hok] at hp
    rw [e1, e2]
    exact ⟨_, hp, World.ownsRow_nil _ _ _ _, hb⟩
  | true =>
    have e1 : hpR xs mode size = hpN xs mode size := by unfold hpR; rw [if_pos hok]
    have e2 : hpT xs mode size = Shr.shareS (hpS xs).gs (hpQ xs mode size) := by unfold hpT; rw [if_pos hok]
    rw [hok] at hp
    obtain ⟨u, he, ho⟩ := hp
    rw [e1, e2, hpN_len]
    exact ⟨u, he, ho, hb⟩

set_option maxRecDepth 20000 in
set_option maxHeartbeats 8000000 in
theorem lawHPack_any {v : Value} {xs : List Nd} {w : World} (mode size : Int) (h : NRow 0 w v xs) (hf : xs.length ≤ 9223372036854775807 ∧ ∀ i, i < xs.length → FnN (xs.getD i Nd.none)) :
    Calls Tryz.prog 3 #[v, .int .i64 mode, .int .i64 size] w fun e w' => e = .returned (.bool true) ∧ Below w.heap.size w w' := by
  have HX := hideP h
  obtain ⟨ao, n, cap, rfl⟩ : ∃ a n c, v = .slice a n c := by obtain ⟨a, c, rfl⟩ := h.shape; exact ⟨_, _, _, rfl⟩
  have HF := hideP hf
  clear h hf
  go_enter Tryz.func3, Tryz.ntmps3
  go_wp2_with fail
  refine (szNodeS_any HX.out HF.out (by omega) (by omega)).mono ?_
  rintro e w1 ⟨⟨m, rfl, hml, hm⟩, hb1⟩
  have B1 : Hid (Below w.heap.size w w1) := hb1
  have HM := hideP hm
  clear hb1 hm
  by_cases hneg : m < 0
  · go_wp2
    go_ret
    exact ⟨rfl, B1⟩
  · have HS : Hid (xs.length ≤ 1048576) := hideP (HM.out (by omega)).1
    have HI : Hid ((hpR xs mode size).length ≤ 1048576) := hideP (hpR_short HS.out)
    clear HM HF
    obtain ⟨z, hz⟩ : ∃ z, z = xs.length := ⟨_, rfl⟩
    obtain ⟨ins, hins⟩ : ∃ ins, ins = hpR xs mode size := ⟨_, rfl⟩
    obtain ⟨⟨t0, t1, t2, t3, t4, t5⟩, hT⟩ : ∃ T, T = hpT xs mode size := ⟨_, rfl⟩
    rw [← hins] at HI
    have CS : Hid (∀ (V : Value) (W : World) (base : Nat), W.ownsRow base 77 15 V z (flatN xs) → Calls Tryz.prog 10 #[V, .int .i64 mode, .int .i64 size] W fun e W' => ∃ u, e = .returned (packV u ⟨t0, t1, t2, t3, t4, t5⟩) ∧ W'.ownsRow W.heap.size 77 15 u ins.length (flatN ins) ∧ Below W.heap.size W W') := hideP (fun V W base ho => by rw [hins, hT]; exact specH mode size ho hz.symm (by rw [hz]; exact HS.out))
    have CI : Hid (∀ (V : Value) (W : World) (base : Nat), W.ownsRow base 77 15 V z (flatN xs) → Calls Tryz.prog 12 #[V, .int .i64 mode, .int .i64 size] W fun e W' => ∃ u, e = .returned (packV u ⟨t0, t1, t2, t3, t4, t5⟩) ∧ W'.ownsRow W.heap.size 77 15 u ins.length (flatN ins) ∧ Below W.heap.size W W') := hideP (fun V W base ho => by rw [hins, hT]; exact implH mode size ho hz.symm (by rw [hz]; exact HS.out))
    clear hins hT
    obtain ⟨r, hr⟩ : ∃ r, r = ins.length := ⟨_, rfl⟩
    have CE : Hid (∀ (V U : Value) (W : World) (b1 b2 : Nat), W.ownsRow b1 77 15 V r (flatN ins) → W.ownsRow b2 77 15 U r (flatN ins) → Calls Tryz.prog 13 #[packV V ⟨t0, t1, t2, t3, t4, t5⟩, packV U ⟨t0, t1, t2, t3, t4, t5⟩] W fun e w' => e = .returned (.bool true) ∧ Below W.heap.size W w') := hideP (fun V U W b1 b2 ho1 ho2 => eqPacked_same t0 t1 t2 t3 t4 t5 ho1 ho2 hr.symm (by rw [hr]; exact HI.out))
    rw [← hr] at CS CI HI
    have CT : Hid (∀ W, Below w.heap.size w W → Calls Tryz.prog 11 #[.slice ao n cap] W fun e w' => e = .returned (.slice (some ⟨W.heap.size, 0, none⟩) z z) ∧ w'.ownsRow W.heap.size 77 15 (.slice (some ⟨W.heap.size, 0, none⟩) z z) z (flatN xs) ∧ Below W.heap.size W w') := hideP (fun W hW => by rw [hz]; exact toNodeS_own (SRow.below ndStable HX.out hW) HS.out)
    have CQ : Hid (∀ (V U : Value) (W : World) (b1 b2 : Nat), W.ownsRow b1 77 15 V z (flatN xs) → W.ownsRow b2 77 15 U z (flatN xs) → Calls Tryz.prog 14 #[V, U] W fun e w' => e = .returned (.bool true) ∧ Below W.heap.size W w') := hideP (fun V U W b1 b2 ho1 ho2 => eqNodeS_same (SRow.mono ndStable (own_NRow ho1 hz.symm) (Nat.zero_le _)) (SRow.mono ndStable (own_NRow ho2 hz.symm) (Nat.zero_le _)) HS.out)
    rw [← hz] at HS
    clear hz hr HX
    go_wp2_with fail
    refine (CT.out w1 B1.out).mono ?_
    rintro e w2 ⟨rfl, ho2, hb2⟩
    have B2 : Hid (Below w.heap.size w w2) := hideP (below_more B1.out hb2 B1.out.size)
    have O2 := hideP ho2
    clear ho2 hb2
    go_wp2_with fail
    refine (CS.out _ _ _ O2.out).mono ?_
    rintro e w3 ⟨u0, rfl, ho3, hb3⟩
    obtain ⟨au, cu, rfl⟩ := ownG_shape ho3
    have B3 : Hid (Below w.heap.size w w3) := hideP (below_more B2.out hb3 B2.out.size)
    have U3 := hideP ho3
    have hsz2 : w.heap.size ≤ w2.heap.size := B2.out.size
    clear ho3 hb3 O2
    obtain ⟨R0, hR0⟩ : ∃ R0, R0 = w3.heap.size := ⟨_, rfl⟩
    go_wp2_with fail
    obtain ⟨w3a, hw3a⟩ : ∃ w3a, w3a = w3.alloc (.cells #[.slice au r cu, .int .i64 t0, .int .i64 t1, .int .i64 t2, .int .i64 t3, .int .i64 t4, .int .i64 t5] 28) := ⟨_, rfl⟩
    rw [← hw3a, ← hR0]
    have B3a : Hid (Below w.heap.size w w3a) := hideP (by rw [hw3a]; exact B3.out.alloc B3.out.size _)
    have U3a := hideP (show w3a.ownsRow w2.heap.size 77 15 (.slice au r cu) r (flatN ins) by rw [hw3a]; exact U3.out.alloc _)
    have P3a : Hid (w3a.heap[R0]? = some (packO (.slice au r cu) t0 t1 t2 t3 t4 t5)) := hideP (by rw [hw3a, hR0]; exact heap_alloc_new w3 _)
    have HBU : Hid (∀ b, (Value.slice au r cu).ownBlock = some b → b < R0) := hideP (fun b e => by rw [hR0]; exact (World.ownsRow.lt U3.out b e).2)
    have hX0 : w3a.heap.size = R0 + 1 := by rw [hw3a, hR0]; simp
    clear hw3a hR0 U3
    refine (CT.out w3a B3a.out).mono ?_
    rintro e w4 ⟨rfl, ho4, hb4⟩
    rw [hX0] at ho4 ⊢
    have hX1 : R0 + 1 < w4.heap.size := (World.ownsRow.lt ho4 _ rfl).2
    have B4 : Hid (Below w.heap.size w w4) := hideP (below_more B3a.out hb4 B3a.out.size)
    have X4 := hideP ho4
    have U4 := hideP (ownG_below U3a.out hb4)
    have P4 := hideP ((hb4.block _ (Array.getElem?_eq_some_iff.1 P3a.out).1).trans P3a.out)
    clear U3a P3a
    clear ho4 hb4
    go_wp2_with fail
    refine (CI.out _ _ _ X4.out).mono ?_
    rintro e w5 ⟨g0, rfl, ho5, hb5⟩
    obtain ⟨ag, cg, rfl⟩ := ownG_shape ho5
    have B5 : Hid (Below w.heap.size w w5) := hideP (below_more B4.out hb5 B4.out.size)
    have G5 := hideP (ownG_mono ho5 B4.out.size)
    have hw45 : w4.heap.size ≤ w5.heap.size := hb5.size
    have hw34 : w.heap.size ≤ R0 + 1 := by rw [← hX0]; exact B3a.out.size
    have HBG : Hid (∀ b, (Value.slice ag r cg).ownBlock = some b → R0 + 1 < b ∧ b < w5.heap.size) := hideP (fun b e => by have := World.ownsRow.lt ho5 b e; omega)
    have U5 := hideP (ownG_below U4.out hb5)
    have X5 := hideP (ownG_below X4.out hb5)
    have P5 := hideP ((hb5.block _ (Array.getElem?_eq_some_iff.1 P4.out).1).trans P4.out)
    clear U4 X4 P4
    clear ho5 hb5
    obtain ⟨RG, hRG⟩ : ∃ RG, RG = w5.heap.size := ⟨_, rfl⟩
    rw [← hRG] at HBG
    have hRG1 : R0 + 1 < RG := by rw [hRG]; omega
    have hR5 : R0 < w5.heap.size := (Array.getElem?_eq_some_iff.1 P5.out).1
    obtain ⟨p0, p1, p2, p3, p4, p5, p6⟩ := pack_cells P5.out
    go_wp2_with fail
    clear p0 p1 p2 p3 p4 p5 p6
    obtain ⟨w5a, hw5a⟩ : ∃ w5a, w5a = w5.alloc (.cells #[.slice ag r cg, .int .i64 t0, .int .i64 t1, .int .i64 t2, .int .i64 t3, .int .i64 t4, .int .i64 t5] 28) := ⟨_, rfl⟩
    rw [← hw5a, ← hRG]
    have hb5a : Below w5.heap.size w5 w5a := by rw [hw5a]; exact below1 _ _
    have B5a : Hid (Below w.heap.size w w5a) := hideP (below_more B5.out hb5a B5.out.size)
    have Q5a : Hid (w5a.heap[RG]? = some (packO (.slice ag r cg) t0 t1 t2 t3 t4 t5)) := hideP (by rw [hw5a, hRG]; exact heap_alloc_new w5 _)
    have U5a := hideP (ownG_below U5.out hb5a)
    have X5a := hideP (ownG_below X5.out hb5a)
    have G5a := hideP (ownG_below G5.out hb5a)
    have P5a := hideP ((hb5a.block _ (Array.getElem?_eq_some_iff.1 P5.out).1).trans P5.out)
    clear U5 X5 G5 P5
    clear hw5a hb5a
    refine (CE.out _ _ _ _ _ G5a.out U5a.out).mono ?_
    rintro e w6 ⟨rfl, hb6⟩
    have B6 : Hid (Below w.heap.size w w6) := hideP (below_more B5a.out hb6 B5a.out.size)
    have U6 := hideP (ownG_below U5a.out hb6)
    have X6 := hideP (ownG_below X5a.out hb6)
    have G6 := hideP (ownG_below G5a.out hb6)
    have P6 := hideP ((hb6.block _ (Array.getElem?_eq_some_iff.1 P5a.out).1).trans P5a.out)
    have Q6 := hideP ((hb6.block _ (Array.getElem?_eq_some_iff.1 Q5a.out).1).trans Q5a.out)
    clear U5a X5a G5a P5a Q5a
    clear hb6 hRG
    go_wp2_with fail
    refine (CT.out w6 B6.out).mono ?_
    rintro e w7 ⟨rfl, ho7, hb7⟩
    have B7 : Hid (Below w.heap.size w w7) := hideP (below_more B6.out hb7 B6.out.size)
    have Y7 := hideP ho7
    have U7 := hideP (ownG_below U6.out hb7)
    have X7 := hideP (ownG_below X6.out hb7)
    have G7 := hideP (ownG_below G6.out hb7)
    have P7 := hideP ((hb7.block _ (Array.getElem?_eq_some_iff.1 P6.out).1).trans P6.out)
    have Q7 := hideP ((hb7.block _ (Array.getElem?_eq_some_iff.1 Q6.out).1).trans Q6.out)
    clear U6 X6 G6 P6 Q6
    clear hb7 ho7
    go_wp2_with fail
    refine (CQ.out _ _ _ _ _ X7.out Y7.out).mono ?_
    rintro e w8 ⟨rfl, hb8⟩
    have B8 : Hid (Below w.heap.size w w8) := hideP (below_more B7.out hb8 B7.out.size)
    have U8 := hideP (ownG_below U7.out hb8)
    have X8 := hideP (ownG_below X7.out hb8)
    have G8 := hideP (ownG_below G7.out hb8)
    have P8 := hideP ((hb8.block _ (Array.getElem?_eq_some_iff.1 P7.out).1).trans P7.out)
    have Q8 := hideP ((hb8.block _ (Array.getElem?_eq_some_iff.1 Q7.out).1).trans Q7.out)
    clear U7 X7 G7 P7 Q7
    clear hb8 Y7
    go_wp2_with fail
    refine (mark_own (k := 1) X8.out HS.out (by omega) (by omega)).mono ?_
    rintro e w9 ⟨rfl, ho9, hb9, hq9⟩
    have B9 : Hid (Below w.heap.size w w9) := hideP (B8.out.trans (hb9.mono (Nat.le_min.2 ⟨hw34, B8.out.size⟩)))
    have U9 := hideP (own_others U8.out hq9 (fun b e => by have h1 := HBU.out b e; show some (R0 + 1) ≠ some b; intro e2; cases e2; omega))
    have G9 := hideP (own_others G8.out hq9 (fun b e => by have h1 := HBG.out b e; show some (R0 + 1) ≠ some b; intro e2; cases e2; omega))
    have P9 := hideP ((hq9 R0 (Array.getElem?_eq_some_iff.1 P8.out).1 (by show some (R0 + 1) ≠ some R0; intro e2; simp at e2)).trans P8.out)
    have Q9 := hideP ((hq9 RG (Array.getElem?_eq_some_iff.1 Q8.out).1 (by show some (R0 + 1) ≠ some RG; intro e2; cases e2; omega)).trans Q8.out)
    clear hb9 hq9 ho9 G8 U8 X8 P8 Q8
    obtain ⟨kz, hkz⟩ : ∃ kz : Int, kz = ((1 + 15 * z : Nat) : Int) := ⟨_, rfl⟩
    rw [← hkz]
    have hkn : ¬ kz < 0 := by omega
    have hkd : decide (kz < 0) = false := by simp; omega
    clear hkz
    obtain ⟨p0, p1, p2, p3, p4, p5, p6⟩ := pack_cells P9.out
    obtain ⟨q0, q1, q2, q3, q4, q5, q6⟩ := pack_cells Q9.out
    go_wp2_with fail
    clear p0 p1 p2 p3 p4 p5 p6 q0 q1 q2 q3 q4 q5 q6
    refine (CE.out _ _ _ _ _ G9.out U9.out).mono ?_
    rintro e w10 ⟨rfl, hb10⟩
    have B10 : Hid (Below w.heap.size w w10) := hideP (below_more B9.out hb10 B9.out.size)
    have U10 := hideP (ownG_below U9.out hb10)
    have G10 := hideP (ownG_below G9.out hb10)
    have P10 := hideP ((hb10.block _ (Array.getElem?_eq_some_iff.1 P9.out).1).trans P9.out)
    have Q10 := hideP ((hb10.block _ (Array.getElem?_eq_some_iff.1 Q9.out).1).trans Q9.out)
    clear U9 G9 P9 Q9
    clear hb10
    obtain ⟨q0, q1, q2, q3, q4, q5, q6⟩ := pack_cells Q10.out
    go_wp2_with fail
    clear q0 q1 q2 q3 q4 q5 q6
    refine (markPacked_own (k := 1) t0 t1 t2 t3 t4 t5 G10.out HI.out (by omega) (by omega) B10.out.size).mono ?_
    rintro e w11 ⟨rfl, ho11, hb11, hq11⟩
    have B11 : Hid (Below w.heap.size w w11) := hideP (B10.out.trans hb11)
    have G11 := hideP ho11
    have U11 := hideP (own_others U10.out hq11 (fun b e e2 => by have h1 := HBU.out b e; have h2 := HBG.out b e2; omega))
    have P11 := hideP ((hq11 R0 (Array.getElem?_eq_some_iff.1 P10.out).1 (fun e2 => by have h2 := HBG.out _ e2; omega)).trans P10.out)
    have Q11 := hideP ((hq11 RG (Array.getElem?_eq_some_iff.1 Q10.out).1 (fun e2 => by have h2 := HBG.out _ e2; omega)).trans Q10.out)
    have CH : Hid (∀ (W : World), W.ownsRow w.heap.size 77 15 (.slice ag r cg) r (flatN (marksN 1 r)) → Calls Tryz.prog 17 #[packV (.slice ag r cg) ⟨t0, t1, t2, t3, t4, t5⟩, .int .i64 ((1 : Nat) : Int)] W fun e w' => e = .returned (.int .i64 ((1 + 15 * r : Nat) : Int)) ∧ Below W.heap.size W w') := hideP (fun W ho => heldPacked_own t0 t1 t2 t3 t4 t5 ho HI.out (by omega) (by omega))
    obtain ⟨kr, hkr⟩ : ∃ kr : Int, kr = ((1 + 15 * r : Nat) : Int) := ⟨_, rfl⟩
    rw [← hkr] at CH
    rw [← hkr]
    have hkn2 : ¬ kr < 0 := by omega
    clear hkr hb11 hq11 ho11 G10 U10 P10 Q10
    obtain ⟨q0, q1, q2, q3, q4, q5, q6⟩ := pack_cells Q11.out
    go_wp2_with fail
    clear q0 q1 q2 q3 q4 q5 q6
    refine (CH.out _ G11.out).mono ?_
    rintro e w12 ⟨rfl, hb12⟩
    have B12 : Hid (Below w.heap.size w w12) := hideP (below_more B11.out hb12 B11.out.size)
    have U12 := hideP (ownG_below U11.out hb12)
    have G12 := hideP (ownG_below G11.out hb12)
    have P12 := hideP ((hb12.block _ (Array.getElem?_eq_some_iff.1 P11.out).1).trans P11.out)
    have Q12 := hideP ((hb12.block _ (Array.getElem?_eq_some_iff.1 Q11.out).1).trans Q11.out)
    clear U11 G11 P11 Q11
    clear hb12
    go_wp2_with fail
    refine (CT.out w12 B12.out).mono ?_
    rintro e w13 ⟨rfl, ho13, hb13⟩
    have B13 : Hid (Below w.heap.size w w13) := hideP (below_more B12.out hb13 B12.out.size)
    have Y13 := hideP ho13
    have U13 := hideP (ownG_below U12.out hb13)
    have G13 := hideP (ownG_below G12.out hb13)
    have P13 := hideP ((hb13.block _ (Array.getElem?_eq_some_iff.1 P12.out).1).trans P12.out)
    have Q13 := hideP ((hb13.block _ (Array.getElem?_eq_some_iff.1 Q12.out).1).trans Q12.out)
    clear U12 G12 P12 Q12
    clear hb13 ho13
    go_wp2_with fail
    refine (CI.out _ _ _ Y13.out).mono ?_
    rintro e w14 ⟨h0, rfl, ho14, hb14⟩
    obtain ⟨ah, ch, rfl⟩ := ownG_shape ho14
    have B14 : Hid (Below w.heap.size w w14) := hideP (below_more B13.out hb14 B13.out.size)
    have H14 := hideP ho14
    have U14 := hideP (ownG_below U13.out hb14)
    have G14 := hideP (ownG_below G13.out hb14)
    have P14 := hideP ((hb14.block _ (Array.getElem?_eq_some_iff.1 P13.out).1).trans P13.out)
    have Q14 := hideP ((hb14.block _ (Array.getElem?_eq_some_iff.1 Q13.out).1).trans Q13.out)
    clear U13 G13 P13 Q13
    clear ho14 hb14 Y13
    have hR14 : R0 < w14.heap.size := (Array.getElem?_eq_some_iff.1 P14.out).1
    obtain ⟨p0, p1, p2, p3, p4, p5, p6⟩ := pack_cells P14.out
    go_wp2_with fail
    clear p0 p1 p2 p3 p4 p5 p6
    obtain ⟨w14a, hw14a⟩ : ∃ w14a, w14a = w14.alloc (.cells #[.slice ah r ch, .int .i64 t0, .int .i64 t1, .int .i64 t2, .int .i64 t3, .int .i64 t4, .int .i64 t5] 28) := ⟨_, rfl⟩
    rw [← hw14a]
    have hb14a : Below w14.heap.size w14 w14a := by rw [hw14a]; exact below1 _ _
    have B14a : Hid (Below w.heap.size w w14a) := hideP (below_more B14.out hb14a B14.out.size)
    have U14a := hideP (ownG_below U14.out hb14a)
    have G14a := hideP (ownG_below G14.out hb14a)
    have H14a := hideP (ownG_below H14.out hb14a)
    have Q14a := hideP ((hb14a.block _ (Array.getElem?_eq_some_iff.1 Q14.out).1).trans Q14.out)
    clear U14 G14 H14 Q14
    clear hw14a hb14a hR14
    refine (CE.out _ _ _ _ _ H14a.out U14a.out).mono ?_
    rintro e w15 ⟨rfl, hb15⟩
    have B15 : Hid (Below w.heap.size w w15) := hideP (below_more B14a.out hb15 B14a.out.size)
    have G15 := hideP (ownG_below G14a.out hb15)
    have Q15 := hideP ((hb15.block _ (Array.getElem?_eq_some_iff.1 Q14a.out).1).trans Q14a.out)
    clear G14a Q14a
    clear hb15
    obtain ⟨q0, q1, q2, q3, q4, q5, q6⟩ := pack_cells Q15.out
    go_wp2_with fail
    clear q0 q1 q2 q3 q4 q5 q6
    refine (CH.out _ G15.out).mono ?_
    rintro e w16 ⟨rfl, hb16⟩
    have B16 : Hid (Below w.heap.size w w16) := hideP (below_more B15.out hb16 B15.out.size)
    clear hb16 G15 Q15
    go_wp2
    go_ret
    exact ⟨rfl, B16.out⟩
end Go.Proofs.YticalmdhbgkbbaaGreat

