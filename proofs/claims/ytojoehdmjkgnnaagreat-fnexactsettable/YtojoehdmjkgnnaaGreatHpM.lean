import Derived.Test.YtojoehdmjkgnnaaGreatPal
import Derived.Test.YtojoehdmjkgnnaaGreatPak
namespace Go.Proofs.YtojoehdmjkgnnaaGreat
open Go.RowKit
set_option linter.unusedVariables false
set_option linter.unusedSimpArgs false
theorem pack_any {v : Value} {xs : List Nd} {w : World} {R B0 : Nat} {g p : Value} (mode size : Int) (B : Bun w R 6 0 (hpS xs).h (hpS xs).d (hpS xs).w g p) (og : w.ownsRow B0 34 5 g (hpS xs).gs.length (f5 (hpS xs).gs)) (op : w.ownsRow B0 3 1 p (gluesAt xs (begins xs)).length ((natI (gluesAt xs (begins xs))).map (Value.int .i64))) (hN : NN 0 w v xs) (hl : listB xs = true) (hfs : fitsB size = true) :
 Calls Tryz.prog 45 #[.pointer (some ⟨R, 0, none⟩), v, .int .i64 mode, .int .i64 size] w fun e w' => Below w.heap.size w w' ∧ PakP xs mode size w.heap.size (prgB xs mode size) e w' := by
 cases h : (decide ((hpS xs).gs.length ≤ 10000) && fitsB (hpS xs).w && fitsB (hpTo xs mode size))
 ·exact pack_no mode size B og op hN hl hfs h
 ·exact pack_yes mode size B og op hN hl hfs h
theorem ask_no {xs : List Nd} {mode size : Int} (h : askB xs mode size = false) : hpOk xs mode size = false := by
 have h2 : packB xs mode size = false := by
  cases hp : packB xs mode size with
  | false => rfl
  | true =>
   unfold packB at hp
   simp only [Bool.and_eq_true] at hp
   unfold askB at h
   rw [hp.1.2, hp.2, can_list hp.1.1] at h
   exact absurd h (by decide)
 unfold hpOk
 rw [h2]
 rfl
set_option maxRecDepth 20000 in
set_option maxHeartbeats 8000000 in
theorem implHPack_any {v : Value} {xs : List Nd} {w : World} (mode size : Int) (hN : NRow 0 w v xs) (hNN : NN 0 w v xs) (hs : xs.length ≤ 1048576) :
 Calls Tryz.prog 11 #[v, .int .i64 mode, .int .i64 size] w fun e w' => Below w.heap.size w w' ∧ PakP xs mode size w.heap.size (hpOk xs mode size) e w' := by
 have HC : Hid (∀ W, Below w.heap.size w W → Calls Tryz.prog 43 #[v, .int .i64 mode, .int .i64 size] W fun e w' => e = .returned (.bool (askB xs mode size)) ∧ Below W.heap.size W w') := hideP (fun W hW => implCan_any mode size (hN.below ndStable hW) hs)
 have HN := hideP hN
 have HNN := hideP hNN
 obtain ⟨ok, hok⟩ := exq (askB xs mode size)
 rw [← hok] at HC
 obtain ⟨va, n, vc, rfl, hl, -⟩ := hN
 cases ok with
 | false =>
  have HNO : Hid (hpOk xs mode size = false) := hideP (ask_no hok.symm)
  clear hok hNN
  go_enter Tryz.func11, Tryz.ntmps11
  go_wp2_with fail
  refine (HC.out _ (below1 _ _)).mono ?_
  rintro e w1 ⟨rfl, hb1⟩
  have HP1 : Hid (PB w w1) := hideP ((PB.start w).below hb1)
  clear hb1 HC
  obtain ⟨r0, r1, r2, r3, r4, r5, r6⟩ := pack_cells HP1.out.box
  have fR : ∀ j, w1.frozen? ⟨w.heap.size, j, none⟩ = false := fun j => frozen_of_row w1 w.heap.size j _ _ HP1.out.box
  have HF : Hid ((sev w1 w.heap.size (.slice none 0 0) 0 0 0 0 0 0).heap[w.heap.size]? = some (packO (.slice none 0 0) 0 0 0 0 0 0) ∧ Below w.heap.size w (sev w1 w.heap.size (.slice none 0 0) 0 0 0 0 0 0)) := hideP ⟨sev_heap HP1.out.box _ _ _ _ _ _ _, sev_below HP1.out.bel (Nat.le_refl _) _ _ _ _ _ _ _⟩
  go_wp2
  exact bodyPost_ret (v := packV (.slice none 0 0) ⟨0, 0, 0, 0, 0, 0⟩) (results_one_cell rfl _ _ w.heap.size _ rfl (loadPack HF.out.1)) rfl ⟨HF.out.2, by rw [HNO.out]; exact rfl⟩
 | true =>
  have hask := hok.symm
  have hlist : listB xs = true := by unfold askB at hask; simp only [Bool.and_eq_true] at hask; exact hask.2
  have hfs : fitsB size = true := by unfold askB at hask; simp only [Bool.and_eq_true] at hask; exact hask.1.2
  have HPR : Hid (prgB xs mode size = hpOk xs mode size) := hideP (prg_ok hask)
  have HRO : Hid (∀ W, Below w.heap.size w W → Calls Tryz.prog 44 #[.slice va n vc] W fun e W' => (∃ g p, e = .returned (.pointer (some ⟨W.heap.size, 0, none⟩)) ∧ Bun W' W.heap.size 6 0 (hpS xs).h (hpS xs).d (hpS xs).w g p ∧ W'.ownsRow W.heap.size 34 5 g (hpS xs).gs.length (f5 (hpS xs).gs) ∧ W'.ownsRow W.heap.size 3 1 p (gluesAt xs (begins xs)).length ((natI (gluesAt xs (begins xs))).map (Value.int .i64))) ∧ Below W.heap.size W W') := hideP (fun W hW => callsIn_wide.1 (rowOf_in (HN.out.below ndStable hW) (allOk hlist) (list_in hlist) (list_sh hlist)))
  have HPA : Hid (∀ (W : World) (R B0 : Nat) (g p : Value), Below w.heap.size w W → Bun W R 6 0 (hpS xs).h (hpS xs).d (hpS xs).w g p → W.ownsRow B0 34 5 g (hpS xs).gs.length (f5 (hpS xs).gs) → W.ownsRow B0 3 1 p (gluesAt xs (begins xs)).length ((natI (gluesAt xs (begins xs))).map (Value.int .i64)) → Calls Tryz.prog 45 #[.pointer (some ⟨R, 0, none⟩), .slice va n vc, .int .i64 mode, .int .i64 size] W fun e w' => Below W.heap.size W w' ∧ PakP xs mode size W.heap.size (prgB xs mode size) e w') := hideP (fun W R B0 g p hW h1 h2 h3 => pack_any mode size h1 h2 h3 (nn_below HNN.out hW) hlist hfs)
  clear hok hNN hask hlist hfs
  go_enter Tryz.func11, Tryz.ntmps11
  go_wp2_with fail
  refine (HC.out _ (below1 _ _)).mono ?_
  rintro e w1 ⟨rfl, hb1⟩
  have HP1 : Hid (PB w w1) := hideP ((PB.start w).below hb1)
  clear hb1 HC
  go_wp2_with fail
  refine (HRO.out _ HP1.out.bel).mono ?_
  rintro e w2 ⟨⟨g, p, rfl, hbun, hg, hp⟩, hb2⟩
  have HP2 : Hid (PB w w2) := hideP (HP1.out.below hb2)
  have HPK := hideP (HPA.out w2 _ _ g p HP2.out.bel hbun hg hp)
  obtain ⟨R, hR⟩ := exq (w1.heap.size)
  rw [← hR] at HPK ⊢
  clear hbun hg hp hb2 hR HP1 HRO HPA
  go_wp2_with fail
  refine HPK.out.mono ?_
  rintro e w3 ⟨hb3, hpk⟩
  have HP3 : Hid (PB w w3) := hideP (HP2.out.below hb3)
  obtain ⟨r0, r1, r2, r3, r4, r5, r6⟩ := pack_cells HP3.out.box
  have fR : ∀ j, w3.frozen? ⟨w.heap.size, j, none⟩ = false := fun j => frozen_of_row w3 w.heap.size j _ _ HP3.out.box
  rw [HPR.out] at hpk
  obtain ⟨yes, hyes⟩ := exq (hpOk xs mode size)
  rw [← hyes] at hpk
  have HYE := hideP hyes
  clear hyes HPR
  cases yes with
  | false =>
   have hpk2 : e = .returned (packV (.slice none 0 0) ⟨0, 0, 0, 0, 0, 0⟩) := hpk
   subst hpk2
   have HF : Hid ((sev w3 w.heap.size (.slice none 0 0) 0 0 0 0 0 0).heap[w.heap.size]? = some (packO (.slice none 0 0) 0 0 0 0 0 0) ∧ Below w.heap.size w (sev w3 w.heap.size (.slice none 0 0) 0 0 0 0 0 0)) := hideP ⟨sev_heap HP3.out.box _ _ _ _ _ _ _, sev_below HP3.out.bel (Nat.le_refl _) _ _ _ _ _ _ _⟩
   clear hpk hb3 HPK
   go_wp2
   exact bodyPost_ret (v := packV (.slice none 0 0) ⟨0, 0, 0, 0, 0, 0⟩) (results_one_cell rfl _ _ w.heap.size _ rfl (loadPack HF.out.1)) rfl ⟨HF.out.2, by rw [← HYE.out]; exact rfl⟩
  | true =>
   obtain ⟨u, he, hu⟩ := hpk
   obtain ⟨Z, hZ⟩ : ∃ Z, Shr.shareS (hpS xs).gs (hpQ xs mode size) = Z := ⟨_, rfl⟩
   obtain ⟨z0, z1, z2, z3, z4, z5⟩ := Z
   rw [hZ] at he
   subst he
   obtain ⟨ua, uc, rfl⟩ := ownG_shape hu
   have HF : Hid ((sev w3 w.heap.size (.slice ua (xs.length + 1) uc) z0 z1 z2 z3 z4 z5).heap[w.heap.size]? = some (packO (.slice ua (xs.length + 1) uc) z0 z1 z2 z3 z4 z5) ∧ Below w.heap.size w (sev w3 w.heap.size (.slice ua (xs.length + 1) uc) z0 z1 z2 z3 z4 z5) ∧ (sev w3 w.heap.size (.slice ua (xs.length + 1) uc) z0 z1 z2 z3 z4 z5).ownsRow w.heap.size 36 15 (.slice ua (xs.length + 1) uc) (xs.length + 1) (flatN (hpN xs mode size))) := hideP ⟨sev_heap HP3.out.box _ _ _ _ _ _ _, sev_below HP3.out.bel (Nat.le_refl _) _ _ _ _ _ _ _, own_sev HP3.out (ownG_mono hu HP2.out.bel.size) _ _ _ _ _ _ _⟩
   have HZ := hideP hZ
   obtain ⟨N1, hN1⟩ := exq (xs.length + 1)
   rw [← hN1] at HF ⊢
   have HN1 := hideP hN1
   clear hu hb3 HPK hZ hN1
   go_wp2
   exact bodyPost_ret (v := packV (.slice ua N1 uc) ⟨z0, z1, z2, z3, z4, z5⟩) (results_one_cell rfl _ _ w.heap.size _ rfl (loadPack HF.out.1)) rfl ⟨HF.out.2.1, by rw [← HYE.out]; exact ⟨_, by rw [HZ.out], by rw [← HN1.out]; exact HF.out.2.2⟩⟩
def hpR (xs : List Nd) (mode size : Int) : List Nd := if hpOk xs mode size = true then hpN xs mode size else []
def hpT (xs : List Nd) (mode size : Int) : Shr.Sett := if hpOk xs mode size = true then Shr.shareS (hpS xs).gs (hpQ xs mode size) else ⟨0, 0, 0, 0, 0, 0⟩
theorem hpN_len (xs : List Nd) (mode size : Int) : (hpN xs mode size).length = xs.length + 1 := by
 unfold hpN
 rw [List.length_cons, setL_len]
theorem own_NN {w : World} {base n : Nat} {v : Value} {xs : List Nd} (h : w.ownsRow base 36 15 v n (flatN xs)) (hn : xs.length = n) : NN 0 w v xs := by
 have hc := own_cap h
 rcases h.2 with ⟨rfl, h0⟩ | ⟨g, cap, cur, rfl, hb, hg, _⟩
 ·exact .inl ⟨rfl, List.eq_nil_of_length_eq_zero (by omega)⟩
 ·subst hn
  exact .inr ⟨g, 0, cap, rfl, (hc _ _ _ rfl).1, Nat.zero_le _, fun _ => (glt hg), fun j u hj => by rw [Nat.zero_add]; exact (own_cell h hj).1⟩
theorem specH {v : Value} {xs : List Nd} {w : World} {base n : Nat} (mode size : Int) (h : w.ownsRow base 36 15 v n (flatN xs)) (hn : xs.length = n) (hs : n ≤ 1048576) :
 Calls Tryz.prog 104 #[v, .int .i64 mode, .int .i64 size] w fun e w' => ∃ u, e = .returned (packV u (hpT xs mode size)) ∧ w'.ownsRow w.heap.size 36 15 u (hpR xs mode size).length (flatN (hpR xs mode size)) ∧ Below w.heap.size w w' := by
 have hN := SRow.mono ndStable (own_NRow h hn) (Nat.zero_le base)
 cases hok : hpOk xs mode size with
 | false =>
  have e1 : hpR xs mode size = [] := by unfold hpR; rw [hok]; rfl
  have e2 : hpT xs mode size = ⟨0, 0, 0, 0, 0, 0⟩ := by unfold hpT; rw [hok]; rfl
  rw [e1, e2]
  refine (specHPack_no mode size hN (by omega) hok).mono ?_
  rintro e w' ⟨rfl, hb⟩
  exact ⟨_, rfl, World.ownsRow_nil _ _ _ _, hb⟩
 | true =>
  have e1 : hpR xs mode size = hpN xs mode size := by unfold hpR; rw [if_pos hok]
  have e2 : hpT xs mode size = Shr.shareS (hpS xs).gs (hpQ xs mode size) := by unfold hpT; rw [if_pos hok]
  rw [e1, e2, hpN_len]
  refine (specHPack_ok mode size hN (own_NN h hn) (by omega) hok).mono ?_
  rintro e w' ⟨u, he, ho, hb⟩
  exact ⟨u, he, ho, hb⟩
theorem implH {v : Value} {xs : List Nd} {w : World} {base n : Nat} (mode size : Int) (h : w.ownsRow base 36 15 v n (flatN xs)) (hn : xs.length = n) (hs : n ≤ 1048576) :
 Calls Tryz.prog 11 #[v, .int .i64 mode, .int .i64 size] w fun e w' => ∃ u, e = .returned (packV u (hpT xs mode size)) ∧ w'.ownsRow w.heap.size 36 15 u (hpR xs mode size).length (flatN (hpR xs mode size)) ∧ Below w.heap.size w w' := by
 have hN := SRow.mono ndStable (own_NRow h hn) (Nat.zero_le base)
 refine (implHPack_any mode size hN (own_NN h hn) (by omega)).mono ?_
 rintro e w' ⟨hb, hp⟩
 cases hok : hpOk xs mode size with
 | false =>
  have e1 : hpR xs mode size = [] := by unfold hpR; rw [hok]; rfl
  have e2 : hpT xs mode size = ⟨0, 0, 0, 0, 0, 0⟩ := by unfold hpT; rw [hok]; rfl
  rw [hok] at hp
  rw [e1, e2]
  exact ⟨_, hp, World.ownsRow_nil _ _ _ _, hb⟩
 | true =>
  have e1 : hpR xs mode size = hpN xs mode size := by unfold hpR; rw [if_pos hok]
  have e2 : hpT xs mode size = Shr.shareS (hpS xs).gs (hpQ xs mode size) := by unfold hpT; rw [if_pos hok]
  rw [hok] at hp
  obtain ⟨u, he, ho⟩ := hp
  rw [e1, e2, hpN_len]
  exact ⟨u, he, ho, hb⟩
end Go.Proofs.YtojoehdmjkgnnaaGreat
