/-
  The specification's l12RowOk and TableOk.
-/
import Derived.Test.YtojoehdmjkgnnaaGreatPal
import Derived.Test.YtojoehdmjkgnnaaGreatHso
import Derived.Test.YtojoehdmjkgnnaaGreatOpt
namespace Go.Proofs.YtojoehdmjkgnnaaGreat
open Go.RowKit
set_option linter.unusedVariables false
set_option linter.unusedSimpArgs false

theorem pack_any {v : Value} {xs : List Nd} {w : World} {R B0 : Nat} {g p : Value} (mode size : Int) (B : Bun w R 6 0 (hpS xs).h (hpS xs).d (hpS xs).w g p) (og : w.ownsRow B0 34 5 g (hpS xs).gs.length (f5 (hpS xs).gs)) (op : w.ownsRow B0 3 1 p (gluesAt xs (begins xs)).length ((natI (gluesAt xs (begins xs))).map (Value.int .i64))) (hN : NN 0 w v xs) (hl : listB xs = true) (hfs : fitsB size = true) :
    Calls Tryz.prog 45 #[.pointer (some ⟨R, 0, none⟩), v, .int .i64 mode, .int .i64 size] w fun e w' => Below w.heap.size w w' ∧ PakP xs mode size w.heap.size (prgB xs mode size) e w' := by
  cases h : (decide ((hpS xs).gs.length ≤ 10000) && fitsB (hpS xs).w && fitsB (hpTo xs mode size))
  · exact pack_no mode size B og op hN hl hfs h
  · exact pack_yes mode size B og op hN hl hfs h
theorem ask_no {xs : List Nd} {mode size : Int} (h : askB xs mode size = false) : hpOk xs mode size = false := by
  have h2 : packB xs mode size = false := by
    cases hp : packB xs mode size with
    | false => rfl
    | true =>
      unfold packB at hp
      simp only [Bool.and_eq_true] at hp
      unfold askB at h
      rw [hp.1.2, hp.2, can_list hp.1.1] at h
      exact absurd h (by decide)
  unfold hpOk
  rw [h2]
  rfl

set_option maxRecDepth 20000 in
set_option maxHeartbeats 8000000 in
theorem implHPack_any {v : Value} {xs : List Nd} {w : World} (mode size : Int) (hN : NRow 0 w v xs) (hNN : NN 0 w v xs) (hs : xs.length ≤ 1048576) :
    Calls Tryz.prog 11 #[v, .int .i64 mode, .int .i64 size] w fun e w' => Below w.heap.size w w' ∧ PakP xs mode size w.heap.size (hpOk xs mode size) e w' := by
  have HC : Hid (∀ W, Below w.heap.size w W → Calls Tryz.prog 43 #[v, .int .i64 mode, .int .i64 size] W fun e w' => e = .returned (.bool (askB xs mode size)) ∧ Below W.heap.size W w') := hideP (fun W hW => implCan_any mode size (hN.below ndStable hW) hs)
  have HN := hideP hN
  have HNN := hideP hNN
  obtain ⟨ok, hok⟩ : ∃ ok, ok = askB xs mode size := ⟨_, rfl⟩
  rw [← hok] at HC
  obtain ⟨va, n, vc, rfl, hl, -⟩ := hN
  cases ok with
  | false =>
    have HNO : Hid (hpOk xs mode size = false) := hideP (ask_no hok.symm)
    clear hok hNN
    go_enter Tryz.func11, Tryz.ntmps11
    go_wp2_with fail
    refine (HC.out _ (below1 _ _)).mono ?_
    rintro e w1 ⟨rfl, hb1⟩
    have HP1 : Hid (PB w w1) := hideP ((PB.start w).below hb1)
    clear hb1 HC
    obtain ⟨r0, r1, r2, r3, r4, r5, r6⟩ := pack_cells HP1.out.box
    have fR : ∀ j, w1.frozen? ⟨w.heap.size, j, none⟩ = false := fun j => frozen_of_row w1 w.heap.size j _ _ HP1.out.box
    have HF : Hid ((sev w1 w.heap.size (.slice none 0 0) 0 0 0 0 0 0).heap[w.heap.size]? = some (packO (.slice none 0 0) 0 0 0 0 0 0) ∧ Below w.heap.size w (sev w1 w.heap.size (.slice none 0 0) 0 0 0 0 0 0)) := hideP ⟨sev_heap HP1.out.box _ _ _ _ _ _ _, sev_below HP1.out.bel (Nat.le_refl _) _ _ _ _ _ _ _⟩
    go_wp2
    exact bodyPost_ret (v := packV (.slice none 0 0) ⟨0, 0, 0, 0, 0, 0⟩) (results_one_cell rfl _ _ w.heap.size _ rfl (loadPack HF.out.1)) rfl ⟨HF.out.2, by rw [HNO.out]; exact rfl⟩
  | true =>
    have hask := hok.symm
    have hlist : listB xs = true := by unfold askB at hask; simp only [Bool.and_eq_true] at hask; exact hask.2
    have hfs : fitsB size = true := by unfold askB at hask; simp only [Bool.and_eq_true] at hask; exact hask.1.2
    have HPR : Hid (prgB xs mode size = hpOk xs mode size) := hideP (prg_ok hask)
    have HRO : Hid (∀ W, Below w.heap.size w W → Calls Tryz.prog 44 #[.slice va n vc] W fun e W' => (∃ g p, e = .returned (.pointer (some ⟨W.heap.size, 0, none⟩)) ∧ Bun W' W.heap.size 6 0 (hpS xs).h (hpS xs).d (hpS xs).w g p ∧ W'.ownsRow W.heap.size 34 5 g (hpS xs).gs.length (f5 (hpS xs).gs) ∧ W'.ownsRow W.heap.size 3 1 p (gluesAt xs (begins xs)).length ((natI (gluesAt xs (begins xs))).map (Value.int .i64))) ∧ Below W.heap.size W W') := hideP (fun W hW => callsIn_wide.1 (rowOf_in (HN.out.below ndStable hW) (allOk hlist) (list_in hlist) (list_sh hlist)))
    have HPA : Hid (∀ (W : World) (R B0 : Nat) (g p : Value), Below w.heap.size w W → Bun W R 6 0 (hpS xs).h (hpS xs).d (hpS xs).w g p → W.ownsRow B0 34 5 g (hpS xs).gs.length (f5 (hpS xs).gs) → W.ownsRow B0 3 1 p (gluesAt xs (begins xs)).length ((natI (gluesAt xs (begins xs))).map (Value.int .i64)) → Calls Tryz.prog 45 #[.pointer (some ⟨R, 0, none⟩), .slice va n vc, .int .i64 mode, .int .i64 size] W fun e w' => Below W.heap.size W w' ∧ PakP xs mode size W.heap.size (prgB xs mode size) e w') := hideP (fun W R B0 g p hW h1 h2 h3 => pack_any mode size h1 h2 h3 (nn_below HNN.out hW) hlist hfs)
    clear hok hNN hask hlist hfs
    go_enter Tryz.func11, Tryz.ntmps11
    go_wp2_with fail
    refine (HC.out _ (below1 _ _)).mono ?_
    rintro e w1 ⟨rfl, hb1⟩
    have HP1 : Hid (PB w w1) := hideP ((PB.start w).below hb1)
    clear hb1 HC
    go_wp2_with fail
    refine (HRO.out _ HP1.out.bel).mono ?_
    rintro e w2 ⟨⟨g, p, rfl, hbun, hg, hp⟩, hb2⟩
    have HP2 : Hid (PB w w2) := hideP (HP1.out.below hb2)
    have HPK := hideP (HPA.out w2 _ _ g p HP2.out.bel hbun hg hp)
    obtain ⟨R, hR⟩ : ∃ R, R = w1.heap.size := ⟨_, rfl⟩
    rw [← hR] at HPK ⊢
    clear hbun hg hp hb2 hR HP1 HRO HPA
    go_wp2_with fail
    refine HPK.out.mono ?_
    rintro e w3 ⟨hb3, hpk⟩
    have HP3 : Hid (PB w w3) := hideP (HP2.out.below hb3)
    obtain ⟨r0, r1, r2, r3, r4, r5, r6⟩ := pack_cells HP3.out.box
    have fR : ∀ j, w3.frozen? ⟨w.heap.size, j, none⟩ = false := fun j => frozen_of_row w3 w.heap.size j _ _ HP3.out.box
    rw [HPR.out] at hpk
    obtain ⟨yes, hyes⟩ : ∃ y, y = hpOk xs mode size := ⟨_, rfl⟩
    rw [← hyes] at hpk
    have HYE := hideP hyes
    clear hyes HPR
    cases yes with
    | false =>
      have hpk2 : e = .returned (packV (.slice none 0 0) ⟨0, 0, 0, 0, 0, 0⟩) := hpk
      subst hpk2
      have HF : Hid ((sev w3 w.heap.size (.slice none 0 0) 0 0 0 0 0 0).heap[w.heap.size]? = some (packO (.slice none 0 0) 0 0 0 0 0 0) ∧ Below w.heap.size w (sev w3 w.heap.size (.slice none 0 0) 0 0 0 0 0 0)) := hideP ⟨sev_heap HP3.out.box _ _ _ _ _ _ _, sev_below HP3.out.bel (Nat.le_refl _) _ _ _ _ _ _ _⟩
      clear hpk hb3 HPK
      go_wp2
      exact bodyPost_ret (v := packV (.slice none 0 0) ⟨0, 0, 0, 0, 0, 0⟩) (results_one_cell rfl _ _ w.heap.size _ rfl (loadPack HF.out.1)) rfl ⟨HF.out.2, by rw [← HYE.out]; exact rfl⟩
    | true =>
      obtain ⟨u, he, hu⟩ := hpk
      obtain ⟨Z, hZ⟩ : ∃ Z, Shr.shareS (hpS xs).gs (hpQ xs mode size) = Z := ⟨_, rfl⟩
      obtain ⟨z0, z1, z2, z3, z4, z5⟩ := Z
      rw [hZ] at he
      subst he
      obtain ⟨ua, uc, rfl⟩ := ownG_shape hu
      have HF : Hid ((sev w3 w.heap.size (.slice ua (xs.length + 1) uc) z0 z1 z2 z3 z4 z5).heap[w.heap.size]? = some (packO (.slice ua (xs.length + 1) uc) z0 z1 z2 z3 z4 z5) ∧ Below w.heap.size w (sev w3 w.heap.size (.slice ua (xs.length + 1) uc) z0 z1 z2 z3 z4 z5) ∧ (sev w3 w.heap.size (.slice ua (xs.length + 1) uc) z0 z1 z2 z3 z4 z5).ownsRow w.heap.size 36 15 (.slice ua (xs.length + 1) uc) (xs.length + 1) (flatN (hpN xs mode size))) := hideP ⟨sev_heap HP3.out.box _ _ _ _ _ _ _, sev_below HP3.out.bel (Nat.le_refl _) _ _ _ _ _ _ _, own_sev HP3.out (ownG_mono hu HP2.out.bel.size) _ _ _ _ _ _ _⟩
      have HZ := hideP hZ
      obtain ⟨N1, hN1⟩ : ∃ N1, N1 = xs.length + 1 := ⟨_, rfl⟩
      rw [← hN1] at HF ⊢
      have HN1 := hideP hN1
      clear hu hb3 HPK hZ hN1
      go_wp2
      exact bodyPost_ret (v := packV (.slice ua N1 uc) ⟨z0, z1, z2, z3, z4, z5⟩) (results_one_cell rfl _ _ w.heap.size _ rfl (loadPack HF.out.1)) rfl ⟨HF.out.2.1, by rw [← HYE.out]; exact ⟨_, by rw [HZ.out], by rw [← HN1.out]; exact HF.out.2.2⟩⟩
end Go.Proofs.YtojoehdmjkgnnaaGreat

namespace Go.Proofs.YtojoehdmjkgnnaaGreat
open Go.RowKit
set_option linter.unusedVariables false
set_option linter.unusedSimpArgs false

/-- What HPack gives: its nodes and its setting. -/
def hpR (xs : List Nd) (mode size : Int) : List Nd := if hpOk xs mode size = true then hpN xs mode size else []
def hpT (xs : List Nd) (mode size : Int) : Shr.Sett := if hpOk xs mode size = true then Shr.shareS (hpS xs).gs (hpQ xs mode size) else ⟨0, 0, 0, 0, 0, 0⟩
theorem hpN_len (xs : List Nd) (mode size : Int) : (hpN xs mode size).length = xs.length + 1 := by
  unfold hpN
  rw [List.length_cons, setL_len]
end Go.Proofs.YtojoehdmjkgnnaaGreat

namespace Go.Proofs.YtojoehdmjkgnnaaGreat
open Go.RowKit
set_option linter.unusedVariables false
set_option linter.unusedSimpArgs false

/-- Whether a cell can be, in a table of so many columns. -/
def cellB (c : Cl) (cols : Int) : Bool := decide (1 ≤ c.sp) && decide (c.sp ≤ cols) && decide (0 ≤ c.al) && decide (c.al ≤ 2) && hpOk c.ns 0 0
def cellsB (cs : List Cl) (cols : Int) : Nat → Bool
  | 0 => true
  | k + 1 => cellsB cs cols k && cellB (cs.getD k Cl.none) cols
/-- Where the cell number k begins. -/
def spK (cs : List Cl) : Nat → Int
  | 0 => 0
  | k + 1 => spK cs k + (cs.getD k Cl.none).sp
theorem spK_succ (cs : List Cl) (k : Nat) : spK cs (k + 1) = spK cs k + (cs.getD k Cl.none).sp := rfl
def rowB (r : Rw) (cols : Int) : Bool := if r.ru = 0 then cellsB r.cs cols r.cs.length && decide (spK r.cs r.cs.length ≤ cols) else decide (0 < r.ru) && decide (r.ru ≤ 1073741823) && decide (r.cs.length = 0)
def rowsB (rs : List Rw) (cols : Int) : Nat → Bool
  | 0 => true
  | k + 1 => rowsB rs cols k && rowB (rs.getD k Rw.none) cols
def headB (t : Tb) : Bool := decide (1 ≤ t.co) && decide (t.co ≤ 20) && glB t.gs t.gp t.gpo t.gm t.gmo && decide (t.rs.length ≤ 200)
def tabB (t : Tb) : Bool := headB t && rowsB t.rs t.co t.rs.length

theorem cellsB_down {cs : List Cl} {cols : Int} : ∀ {n k : Nat}, k ≤ n → cellsB cs cols k = false → cellsB cs cols n = false
  | 0, k, h, h0 => by obtain rfl : k = 0 := by omega
                      exact h0
  | n + 1, k, h, h0 => by
    by_cases hk : k = n + 1
    · subst hk; exact h0
    · unfold cellsB
      rw [cellsB_down (show k ≤ n by omega) h0]
      rfl
theorem rowsB_down {rs : List Rw} {cols : Int} : ∀ {n k : Nat}, k ≤ n → rowsB rs cols k = false → rowsB rs cols n = false
  | 0, k, h, h0 => by obtain rfl : k = 0 := by omega
                      exact h0
  | n + 1, k, h, h0 => by
    by_cases hk : k = n + 1
    · subst hk; exact h0
    · unfold rowsB
      rw [rowsB_down (show k ≤ n by omega) h0]
      rfl
theorem cellsB_at {cs : List Cl} {cols : Int} : ∀ {n : Nat}, cellsB cs cols n = true → ∀ k, k < n → cellB (cs.getD k Cl.none) cols = true
  | 0, _, k, hk => by omega
  | n + 1, h, k, hk => by
    unfold cellsB at h
    rw [Bool.and_eq_true] at h
    by_cases e : k = n
    · subst e; exact h.2
    · exact cellsB_at h.1 k (by omega)
theorem rowsB_at {rs : List Rw} {cols : Int} : ∀ {n : Nat}, rowsB rs cols n = true → ∀ k, k < n → rowB (rs.getD k Rw.none) cols = true
  | 0, _, k, hk => by omega
  | n + 1, h, k, hk => by
    unfold rowsB at h
    rw [Bool.and_eq_true] at h
    by_cases e : k = n
    · subst e; exact h.2
    · exact rowsB_at h.1 k (by omega)
theorem cellB_sp {c : Cl} {cols : Int} (h : cellB c cols = true) : 1 ≤ c.sp ∧ c.sp ≤ cols := by
  unfold cellB at h
  simp only [Bool.and_eq_true, decide_eq_true_eq] at h
  exact ⟨h.1.1.1.1, h.1.1.1.2⟩
theorem cellB_hp {c : Cl} {cols : Int} (h : cellB c cols = true) : hpOk c.ns 0 0 = true := by
  unfold cellB at h
  simp only [Bool.and_eq_true, decide_eq_true_eq] at h
  exact h.2
theorem spK_bound {cs : List Cl} {cols : Int} (hc : cols ≤ 20) : ∀ {n : Nat}, cellsB cs cols n = true → (n : Int) ≤ spK cs n ∧ spK cs n ≤ 20 * n
  | 0, _ => ⟨Int.le_refl _, Int.le_refl _⟩
  | n + 1, h => by
    unfold cellsB at h
    rw [Bool.and_eq_true] at h
    have h1 := spK_bound hc h.1
    have h2 := cellB_sp h.2
    rw [spK_succ]
    omega
theorem spK_mono {cs : List Cl} {cols : Int} : ∀ {n k : Nat}, k ≤ n → cellsB cs cols n = true → spK cs k ≤ spK cs n
  | 0, k, hk, _ => by obtain rfl : k = 0 := by omega
                      exact Int.le_refl _
  | n + 1, k, hk, h => by
    by_cases e : k = n + 1
    · subst e; exact Int.le_refl _
    · unfold cellsB at h
      rw [Bool.and_eq_true] at h
      have h1 := spK_mono (show k ≤ n by omega) h.1
      have h2 := cellB_sp h.2
      rw [spK_succ]
      omega
theorem hpR_none {xs : List Nd} : ((hpR xs 0 0).length = 0) ↔ hpOk xs 0 0 = false := by
  unfold hpR
  cases h : hpOk xs 0 0 with
  | false => simp
  | true => simp [hpN_len]
/-- How wide a cell is by itself. -/
def natW (xs : List Nd) : Int := hpTo xs 0 0
theorem hpR_head {xs : List Nd} (h : hpOk xs 0 0 = true) : ∃ t, hpR xs 0 0 = boxN 6 (natW xs) (hpS xs).h (hpS xs).d xs.length :: t := by
  unfold hpR
  rw [if_pos h]
  exact ⟨_, rfl⟩
theorem natW_fits {xs : List Nd} (h : hpOk xs 0 0 = true) : -1073741823 ≤ natW xs ∧ natW xs ≤ 1073741823 := by
  unfold hpOk at h
  simp only [Bool.and_eq_true] at h
  have h1 := h.1.1.1.2.1
  unfold Shr.fitsB at h1
  simp only [Bool.and_eq_true, decide_eq_true_eq] at h1
  unfold natW
  omega

theorem specHN {v : Value} {xs : List Nd} {w : World} (mode size : Int) (hN : NRow 0 w v xs) (hNN : NN 0 w v xs) (hs : xs.length ≤ 1048576) :
    Calls Tryz.prog 104 #[v, .int .i64 mode, .int .i64 size] w fun e w' => ∃ u, e = .returned (packV u (hpT xs mode size)) ∧ w'.ownsRow w.heap.size 36 15 u (hpR xs mode size).length (flatN (hpR xs mode size)) ∧ Below w.heap.size w w' := by
  cases hok : hpOk xs mode size with
  | false =>
    have e1 : hpR xs mode size = [] := by unfold hpR; rw [hok]; rfl
    have e2 : hpT xs mode size = ⟨0, 0, 0, 0, 0, 0⟩ := by unfold hpT; rw [hok]; rfl
    rw [e1, e2]
    refine (specHPack_no mode size hN hs hok).mono ?_
    rintro e w' ⟨rfl, hb⟩
    exact ⟨_, rfl, World.ownsRow_nil _ _ _ _, hb⟩
  | true =>
    have e1 : hpR xs mode size = hpN xs mode size := by unfold hpR; rw [if_pos hok]
    have e2 : hpT xs mode size = Shr.shareS (hpS xs).gs (hpQ xs mode size) := by unfold hpT; rw [if_pos hok]
    rw [e1, e2, hpN_len]
    refine (specHPack_ok mode size hN hNN hs hok).mono ?_
    rintro e w' ⟨u, he, ho, hb⟩
    exact ⟨u, he, ho, hb⟩
theorem implHN {v : Value} {xs : List Nd} {w : World} (mode size : Int) (hN : NRow 0 w v xs) (hNN : NN 0 w v xs) (hs : xs.length ≤ 1048576) :
    Calls Tryz.prog 11 #[v, .int .i64 mode, .int .i64 size] w fun e w' => ∃ u, e = .returned (packV u (hpT xs mode size)) ∧ w'.ownsRow w.heap.size 36 15 u (hpR xs mode size).length (flatN (hpR xs mode size)) ∧ Below w.heap.size w w' := by
  refine (implHPack_any mode size hN hNN hs).mono ?_
  rintro e w' ⟨hb, hp⟩
  cases hok : hpOk xs mode size with
  | false =>
    have e1 : hpR xs mode size = [] := by unfold hpR; rw [hok]; rfl
    have e2 : hpT xs mode size = ⟨0, 0, 0, 0, 0, 0⟩ := by unfold hpT; rw [hok]; rfl
    rw [hok] at hp
    rw [e1, e2]
    exact ⟨_, hp, World.ownsRow_nil _ _ _ _, hb⟩
  | true =>
    have e1 : hpR xs mode size = hpN xs mode size := by unfold hpR; rw [if_pos hok]
    have e2 : hpT xs mode size = Shr.shareS (hpS xs).gs (hpQ xs mode size) := by unfold hpT; rw [if_pos hok]
    rw [hok] at hp
    obtain ⟨u, he, ho⟩ := hp
    rw [e1, e2, hpN_len]
    exact ⟨u, he, ho, hb⟩
end Go.Proofs.YtojoehdmjkgnnaaGreat

namespace Go.Proofs.YtojoehdmjkgnnaaGreat
open Go.RowKit
set_option linter.unusedVariables false
set_option linter.unusedSimpArgs false

theorem fld28 (u : Value) (s : Shr.Sett) (W : World) : (Instr.field 30 (packV u s) 0).run Tryz.prog W = .ok u W := by kernel_rfl
set_option maxHeartbeats 4000000 in
theorem l12RowOk_rule (x : Rw) {v : Value} {w : World} (cols : Int) (h : CRowN 0 w v x.cs) (hru : x.ru ≠ 0) (hlen : x.cs.length ≤ 1048576) :
    Calls Tryz.prog 101 #[rwV x v, .int .i64 cols] w fun e w' => e = .returned (.bool (rowB x cols)) ∧ Below w.heap.size w w' := by
  obtain ⟨ua, uc, rfl⟩ := h.shape
  clear h
  obtain ⟨rcs, ru⟩ := x
  have HF : Hid (∀ b : Bool, b = (decide (0 < ru) && decide (ru ≤ 1073741823) && decide (rcs.length = 0)) → rowB ⟨rcs, ru⟩ cols = b) := hideP (fun b hb => by rw [hb]; unfold rowB; rw [if_neg hru])
  dsimp only at hru hlen ⊢
  obtain ⟨n, hn⟩ : ∃ n, n = rcs.length := ⟨_, rfl⟩
  rw [← hn] at HF hlen ⊢
  clear hn
  by_cases h1 : 0 < ru
  · by_cases h2 : ru ≤ 1073741823
    · by_cases h3 : n = 0
      · subst h3
        go_enter Tryz.func101, Tryz.ntmps101
        go_wp2
        go_ret
        exact ⟨retB (HF.out _ (by simp [h1, h2])).symm, below1 _ _⟩
      · have h4 : ¬ (n : Int) = 0 := by omega
        go_enter Tryz.func101, Tryz.ntmps101
        go_wp2
        go_ret
        exact ⟨retB (HF.out _ (by simp [h1, h2, h3])).symm, below1 _ _⟩
    · go_enter Tryz.func101, Tryz.ntmps101
      go_wp2
      go_ret
      exact ⟨retB (HF.out _ (by simp [h1]; omega)).symm, below1 _ _⟩
  · go_enter Tryz.func101, Tryz.ntmps101
    go_wp2
    go_ret
    exact ⟨retB (HF.out _ (by simp; omega)).symm, below1 _ _⟩

set_option maxRecDepth 20000 in
set_option maxHeartbeats 8000000 in
theorem l12RowOk_cells (x : Rw) {v : Value} {w : World} (cols : Int) (h : CRowN 0 w v x.cs) (hru : x.ru = 0) (hs : SmW x) (hc0 : 1 ≤ cols) (hc1 : cols ≤ 20) :
    Calls Tryz.prog 101 #[rwV x v, .int .i64 cols] w fun e w' => e = .returned (.bool (rowB x cols)) ∧ Below w.heap.size w w' := by
  obtain ⟨ua, n, uc, rfl, hn, hr⟩ := h
  obtain ⟨rcs, ru⟩ := x
  dsimp only at hru hs hn hr ⊢
  have hlen : n ≤ 1048576 := by rw [← hn]; exact hs.1
  have HR : Hid (0 < n → ∃ b off, ua = some ⟨b, off, none⟩ ∧ 0 ≤ b ∧ b < w.heap.size ∧ ∀ i, i < n → ∃ cs : List Value, cs.length = 3 ∧ ClN 0 w cs (rcs.getD i Cl.none) ∧ ∀ j, j < 3 → w.cell? ⟨b, off + i * 3 + j, none⟩ = cs[j]?) := hr
  have HS : Hid (∀ i, i < n → SmC (rcs.getD i Cl.none)) := hideP (by rw [← hn]; exact hs.2)
  have HV : Hid (rowB ⟨rcs, ru⟩ cols = (cellsB rcs cols n && decide (spK rcs n ≤ cols))) := hideP (by unfold rowB; rw [if_pos hru, ← hn])
  clear hr hs hn
  subst hru
  go_enter Tryz.func101, Tryz.ntmps101
  go_wp2
  go_loopw [5, 6] (fun s i wr => ∃ (k : Nat) (m : Int), k ≤ n ∧ i = .int .i64 k ∧ s = .int .i64 m ∧ Hid (m = spK rcs k ∧ cellsB rcs cols k = true) ∧ (k : Int) ≤ m ∧ m ≤ 20 * k ∧ Below (w.heap.size + 1) (w.alloc (.cells #[.slice ua n uc, .int .i64 0] 51)) wr)
    (fun _ i _ => n - (intOf i).toNat)
  case atStart => exact ⟨0, 0, by omega, rfl, rfl, hideP ⟨rfl, rfl⟩, by omega, by omega, Below.refl _ _⟩
  case round =>
    obtain ⟨k, m, hk, rfl, rfl, HM, hm0, hm1, hbel⟩ := hrel
    have HB : Hid (Below w.heap.size w wr) := hideP ((below1 w _).trans (hbel.mono (by omega)))
    have hxs : w.heap.size < wr.heap.size := by have := hbel.size; simp at this; omega
    have t0 : wr.cell? ⟨w.heap.size, 0, none⟩ = some (.slice ua n uc) := (hbel.cell (p := ⟨w.heap.size, 0, none⟩) (by simp)).trans (by simp)
    by_cases hkn : k < n
    · have hki : (k : Int) < (n : Int) := by omega
      obtain ⟨b, off, rfl, hlo, hb, hc⟩ := HR (by omega)
      obtain ⟨cs, hcl, hRel, hcj⟩ := hc k hkn
      have hsk := HS k hkn
      obtain ⟨t, ht⟩ : ∃ t, t = rcs.getD k Cl.none := ⟨_, rfl⟩
      rw [← ht] at hRel hsk
      have HT : Hid (t = rcs.getD k Cl.none) := ht
      obtain ⟨u, hcs, hu, huN⟩ := hRel
      obtain ⟨va, vn, vc, rfl⟩ : ∃ a n c, u = .slice a n c := by obtain ⟨a, c, rfl⟩ := hu.shape; exact ⟨_, _, _, rfl⟩
      obtain ⟨nH, hnH⟩ : ∃ nH, nH = (hpR t.ns 0 0).length := ⟨_, rfl⟩
      have HC : Hid (∀ W : World, Below w.heap.size w W → Calls Tryz.prog 104 #[.slice va vn vc, .int .i64 0, .int .i64 0] W fun e w' => ∃ a c s, e = .returned (packV (.slice a nH c) s) ∧ Below W.heap.size W w') := hideP (fun W hW => by
        refine (specHN 0 0 (hu.below ndStable hW) (huN.abv ⟨hW.size, fun k _ hk => hW.block k hk⟩) hsk.1).mono ?_
        rintro e w' ⟨u, rfl, ho, hb⟩
        obtain ⟨a, c, rfl⟩ := ownG_shape ho
        rw [← hnH]
        exact ⟨a, c, _, rfl, hb⟩)
      have HN : Hid (nH = 0 ↔ hpOk t.ns 0 0 = false) := hideP (by rw [hnH]; exact hpR_none)
      have HF : Hid (cellB t cols = false → rowB ⟨rcs, 0⟩ cols = false) := hideP (fun hf => by
        have h0 : cellsB rcs cols (k + 1) = false := by unfold cellsB; rw [← ht, hf, Bool.and_false]
        rw [HV.out, cellsB_down (show k + 1 ≤ n by omega) h0]
        rfl)
      clear hu huN hsk hnH
      have HQ : Hid (cellB t cols = (decide (1 ≤ t.sp) && decide (t.sp ≤ cols) && decide (0 ≤ t.al) && decide (t.al ≤ 2) && hpOk t.ns 0 0)) := hideP rfl
      obtain ⟨sp, al, ns⟩ := t
      rw [show cs = _ from hcs] at hcj
      dsimp only at hcj HN HQ
      have g0 : wr.cell? ⟨b, off + k * 3, none⟩ = some (.int .i64 sp) := (HB.out.cell (p := ⟨b, off + k * 3, none⟩) hb).trans (hcj 0 (by omega))
      have g1 : wr.cell? ⟨b, off + k * 3 + 1, none⟩ = some (.int .i64 al) := (HB.out.cell (p := ⟨b, off + k * 3 + 1, none⟩) hb).trans (hcj 1 (by omega))
      have g2 : wr.cell? ⟨b, off + k * 3 + 2, none⟩ = some (.slice va vn vc) := (HB.out.cell (p := ⟨b, off + k * 3 + 2, none⟩) hb).trans (hcj 2 (by omega))
      have HBT : Hid (Below (w.heap.size + 1) (w.alloc (.cells #[.slice (some ⟨b, off, none⟩) n uc, .int .i64 0] 51)) wr) := hideP hbel
      clear hc hcj hcl hbel ht hcs
      by_cases e1 : sp < 1
      · go_wp2
        go_ret
        refine ⟨retB (HF.out ?_).symm, ?_⟩
        · rw [HQ.out]; simp; omega
        · have HBo := HB.out
          have HBs := HBo.size
          clear g0 g1 g2
          repeat (first | with_reducible exact HBo | (with_reducible refine Below.setCell ?_ ?_ _; rotate_left; focus (first | (simp; done) | (simp; omega))) | (with_reducible refine Below.alloc ?_ ?_ _; rotate_left; focus (first | exact HBs | (simp; omega))))
      by_cases e2 : cols < sp
      · go_wp2
        go_ret
        refine ⟨retB (HF.out ?_).symm, ?_⟩
        · rw [HQ.out]; simp; omega
        · have HBo := HB.out
          have HBs := HBo.size
          clear g0 g1 g2
          repeat (first | with_reducible exact HBo | (with_reducible refine Below.setCell ?_ ?_ _; rotate_left; focus (first | (simp; done) | (simp; omega))) | (with_reducible refine Below.alloc ?_ ?_ _; rotate_left; focus (first | exact HBs | (simp; omega))))
      by_cases e3 : al < 0
      · go_wp2
        go_ret
        refine ⟨retB (HF.out ?_).symm, ?_⟩
        · rw [HQ.out]; simp; omega
        · have HBo := HB.out
          have HBs := HBo.size
          clear g0 g1 g2
          repeat (first | with_reducible exact HBo | (with_reducible refine Below.setCell ?_ ?_ _; rotate_left; focus (first | (simp; done) | (simp; omega))) | (with_reducible refine Below.alloc ?_ ?_ _; rotate_left; focus (first | exact HBs | (simp; omega))))
      by_cases e4 : 2 < al
      · go_wp2
        go_ret
        refine ⟨retB (HF.out ?_).symm, ?_⟩
        · rw [HQ.out]; simp; omega
        · have HBo := HB.out
          have HBs := HBo.size
          clear g0 g1 g2
          repeat (first | with_reducible exact HBo | (with_reducible refine Below.setCell ?_ ?_ _; rotate_left; focus (first | (simp; done) | (simp; omega))) | (with_reducible refine Below.alloc ?_ ?_ _; rotate_left; focus (first | exact HBs | (simp; omega))))
      by_cases e5 : nH = 0
      · subst e5
        go_wp2_with fail
        refine (HC.out _ (by have HBo := HB.out; have HBs := HBo.size; repeat (first | with_reducible exact HBo | (with_reducible refine Below.setCell ?_ ?_ _; rotate_left; focus (first | (simp; done) | (simp; omega))) | (with_reducible refine Below.alloc ?_ ?_ _; rotate_left; focus (first | exact HBs | (simp; omega)))))).mono ?_
        rintro e w2 ⟨ra, rc, rs, rfl, hb1⟩
        have B2 : Hid (Below w.heap.size w w2) := hideP (below_more (by have HBo := HB.out; have HBs := HBo.size; repeat (first | with_reducible exact HBo | (with_reducible refine Below.setCell ?_ ?_ _; rotate_left; focus (first | (simp; done) | (simp; omega))) | (with_reducible refine Below.alloc ?_ ?_ _; rotate_left; focus (first | exact HBs | (simp; omega))))) hb1 (by have := HB.out.size; simp; omega))
        clear hb1
        have hfd := fld28 (.slice ra 0 rc) rs w2
        go_wp2
        go_ret
        refine ⟨retB (HF.out ?_).symm, B2.out⟩
        rw [HQ.out, HN.out.1 trivial]; simp
      · have e6 : ¬ (nH : Int) = 0 := by omega
        have wadd : IntKind.i64.wrap (m + sp) = m + sp := by rw [IntKind.wrap_i64]; omega
        go_wp2_with fail
        refine (HC.out _ (by have HBo := HB.out; have HBs := HBo.size; repeat (first | with_reducible exact HBo | (with_reducible refine Below.setCell ?_ ?_ _; rotate_left; focus (first | (simp; done) | (simp; omega))) | (with_reducible refine Below.alloc ?_ ?_ _; rotate_left; focus (first | exact HBs | (simp; omega)))))).mono ?_
        rintro e w2 ⟨ra, rc, rs, rfl, hb1⟩
        have hc2 : w2.cell? ⟨wr.heap.size, 0, none⟩ = some (.int .i64 sp) := (hb1.cell (p := ⟨wr.heap.size, 0, none⟩) (by simp)).trans (by simp)
        have hx2 : wr.heap.size < w2.heap.size := by have := hb1.size; simp at this; omega
        have B2 : Hid (Below (w.heap.size + 1) (w.alloc (.cells #[.slice (some ⟨b, off, none⟩) n uc, .int .i64 0] 51)) w2) := hideP (below_more (by have HBo := HBT.out; have HBs : w.heap.size + 1 ≤ wr.heap.size := (by have := HBo.size; simpa using this); repeat (first | with_reducible exact HBo | (with_reducible refine Below.setCell ?_ ?_ _; rotate_left; focus (first | (simp; done) | (simp; omega))) | (with_reducible refine Below.alloc ?_ ?_ _; rotate_left; focus (first | exact HBs | (simp; omega))))) hb1 (by have := HBT.out.size; simp at this ⊢; omega))
        clear hb1
        have hfd := fld28 (.slice ra nH rc) rs w2
        go_wp2
        go_roundw
        case rel =>
          refine ⟨k + 1, m + sp, by omega, by go_num, rfl, hideP ⟨?_, ?_⟩, by omega, by omega, B2.out⟩
          · rw [spK_succ, ← HT.out, HM.out.1]
          · have h9 : hpOk ns 0 0 = true := by
              cases hk : hpOk ns 0 0 with
              | true => rfl
              | false => exact absurd (HN.out.2 hk) e5
            unfold cellsB
            rw [HM.out.2, ← HT.out, HQ.out, h9]
            simp
            omega
        case measure => simp [intOf]; omega
    · have hki : ¬ (k : Int) < (n : Int) := by omega
      obtain rfl : k = n := by omega
      clear hbel
      by_cases e7 : m ≤ cols
      · go_wp2
        go_ret
        refine ⟨retB ?_, HB.out⟩
        rw [HV.out, HM.out.2, ← HM.out.1]
        simp [e7]
      · go_wp2
        go_ret
        refine ⟨retB ?_, HB.out⟩
        rw [HV.out, HM.out.2, ← HM.out.1]
        simp [e7]
theorem l12RowOk_any (x : Rw) {v : Value} {w : World} (cols : Int) (h : CRowN 0 w v x.cs) (hs : SmW x) (hc0 : 1 ≤ cols) (hc1 : cols ≤ 20) :
    Calls Tryz.prog 101 #[rwV x v, .int .i64 cols] w fun e w' => e = .returned (.bool (rowB x cols)) ∧ Below w.heap.size w w' := by
  by_cases hru : x.ru = 0
  · exact l12RowOk_cells x cols h hru hs hc0 hc1
  · exact l12RowOk_rule x cols h hru hs.1

abbrev tbO (t : Tb) (v : Value) : Obj := .cells #[.int .i64 t.co, .int .i64 t.gs, .int .i64 t.gp, .int .i64 t.gpo, .int .i64 t.gm, .int .i64 t.gmo, v] 44
set_option maxRecDepth 20000 in
set_option maxHeartbeats 8000000 in
theorem specTableOk_any (t : Tb) {v : Value} {w : World} (h : RRowN 0 w v t.rs) (hs : SmT t) :
    Calls Tryz.prog 60 #[tbV t v] w fun e w' => e = .returned (.bool (tabB t)) ∧ Below w.heap.size w w' := by
  obtain ⟨ua, n, uc, rfl, hn, hr⟩ := h
  have hlen : n ≤ 1048576 := by rw [← hn]; exact hs.1
  have HR : Hid (0 < n → ∃ b off, ua = some ⟨b, off, none⟩ ∧ 0 ≤ b ∧ b < w.heap.size ∧ ∀ i, i < n → ∃ cs : List Value, cs.length = 2 ∧ RwN 0 w cs (t.rs.getD i Rw.none) ∧ ∀ j, j < 2 → w.cell? ⟨b, off + i * 2 + j, none⟩ = cs[j]?) := hr
  have HS : Hid (∀ i, i < n → SmW (t.rs.getD i Rw.none)) := hideP (by rw [← hn]; exact hs.2)
  have HV : Hid (tabB t = (decide (1 ≤ t.co) && decide (t.co ≤ 20) && glB t.gs t.gp t.gpo t.gm t.gmo && decide (n ≤ 200) && rowsB t.rs t.co n)) := hideP (by unfold tabB headB; rw [← hn])
  have HG : Hid (∀ W, Calls Tryz.prog 100 #[glueV t.gs t.gp t.gpo t.gm t.gmo] W fun e w' => e = .returned (.bool (glB t.gs t.gp t.gpo t.gm t.gmo)) ∧ Below W.heap.size W w') := hideP (fun W => specGlueOk_any _ _ _ _ _ W)
  clear hr hs hn
  obtain ⟨co, gs, gp, gpo, gm, gmo, rs⟩ := t
  dsimp only at HR HS HV HG ⊢
  by_cases e1 : co < 1
  · go_enter Tryz.func60, Tryz.ntmps60
    go_wp2
    go_ret
    refine ⟨retB ?_, below1 _ _⟩
    rw [HV.out, decide_eq_false (show ¬ 1 ≤ co by omega)]
    simp
  by_cases e2 : 20 < co
  · go_enter Tryz.func60, Tryz.ntmps60
    go_wp2
    go_ret
    refine ⟨retB ?_, below1 _ _⟩
    rw [HV.out, decide_eq_false (show ¬ co ≤ 20 by omega)]
    simp
  cases e3 : glB gs gp gpo gm gmo with
  | false =>
    rw [e3] at HG HV
    go_enter Tryz.func60, Tryz.ntmps60
    go_wp2_with fail
    refine (HG.out _).mono ?_
    rintro e w1 ⟨rfl, hb1⟩
    have hx1 : w.heap.size < w1.heap.size := by have := hb1.size; simp at this; omega
    have B1 : Hid (Below w.heap.size w w1) := hideP (below_more (below1 _ _) hb1 (by simp))
    obtain ⟨hc1, hf1⟩ := bcell hb1
    simp only [World.size_alloc, World.size_setCell] at hc1 hf1
    clear hb1
    go_wp2
    go_ret
    refine ⟨retB ?_, B1.out⟩
    rw [HV.out]
    simp
  | true =>
    rw [e3] at HG HV
    by_cases e4 : 200 < n
    · have e5 : (200 : Int) < n := by omega
      go_enter Tryz.func60, Tryz.ntmps60
      go_wp2_with fail
      refine (HG.out _).mono ?_
      rintro e w1 ⟨rfl, hb1⟩
      have hx1 : w.heap.size < w1.heap.size := by have := hb1.size; simp at this; omega
      have B1 : Hid (Below w.heap.size w w1) := hideP (below_more (below1 _ _) hb1 (by simp))
      obtain ⟨hc1, hf1⟩ := bcell hb1
      simp only [World.size_alloc, World.size_setCell] at hc1 hf1
      clear hb1
      go_wp2
      go_ret
      refine ⟨retB ?_, B1.out⟩
      rw [HV.out, decide_eq_false (show ¬ n ≤ 200 by omega)]
      simp
    · have e5 : ¬ (200 : Int) < n := by omega
      have HV2 : Hid (tabB ⟨co, gs, gp, gpo, gm, gmo, rs⟩ = rowsB rs co n) := hideP (by
        rw [HV.out, decide_eq_true (show 1 ≤ co by omega), decide_eq_true (show co ≤ 20 by omega), decide_eq_true (show n ≤ 200 by omega)]
        simp)
      clear HV
      go_enter Tryz.func60, Tryz.ntmps60
      go_wp2_with fail
      refine (HG.out _).mono ?_
      rintro e w1 ⟨rfl, hb1⟩
      have hx1 : w.heap.size < w1.heap.size := by have := hb1.size; simp at this; omega
      have B1 : Hid (Below (w.heap.size + 1) (w.alloc (tbO ⟨co, gs, gp, gpo, gm, gmo, rs⟩ (.slice ua n uc))) w1) := hideP (hb1.mono (by simp))
      obtain ⟨hc1, hf1⟩ := bcell hb1
      simp only [World.size_alloc, World.size_setCell] at hc1 hf1
      clear hb1
      go_wp2
      clear hc1 hf1 hx1
      go_loopw [3] (fun i wr => ∃ (k : Nat), k ≤ n ∧ i = .int .i64 k ∧ Hid (rowsB rs co k = true) ∧ Below (w.heap.size + 1) (w.alloc (tbO ⟨co, gs, gp, gpo, gm, gmo, rs⟩ (.slice ua n uc))) wr)
        (fun i _ => n - (intOf i).toNat)
      case atStart => exact ⟨0, by omega, rfl, hideP rfl, B1.out⟩
      case round =>
        obtain ⟨k, hk, rfl, HM, hbel⟩ := hrel
        have HB : Hid (Below w.heap.size w wr) := hideP ((below1 w _).trans (hbel.mono (by omega)))
        have hxs : w.heap.size < wr.heap.size := by have := hbel.size; simp at this; omega
        have QT : Hid (∀ x, Below (w.heap.size + 1) (w.alloc (tbO ⟨co, gs, gp, gpo, gm, gmo, rs⟩ (.slice ua n uc))) x → x.cell? ⟨w.heap.size, 0, none⟩ = some (.int .i64 co) ∧ x.cell? ⟨w.heap.size, 6, none⟩ = some (.slice ua n uc)) := hideP (fun x hx => ⟨(hx.cell (p := ⟨w.heap.size, 0, none⟩) (by simp)).trans (by simp), (hx.cell (p := ⟨w.heap.size, 6, none⟩) (by simp)).trans (by simp)⟩)
        have t6 := (QT.out _ hbel).2
        by_cases hkn : k < n
        · have hki : (k : Int) < (n : Int) := by omega
          obtain ⟨b, off, rfl, hlo, hb, hc⟩ := HR (by omega)
          obtain ⟨cs, hcl, hRel, hcj⟩ := hc k hkn
          have hsk := HS k hkn
          obtain ⟨t, ht⟩ : ∃ t, t = rs.getD k Rw.none := ⟨_, rfl⟩
          rw [← ht] at hRel hsk
          have HT : Hid (t = rs.getD k Rw.none) := ht
          obtain ⟨u, hcs, hu⟩ := hRel
          obtain ⟨va, vn, vc, rfl⟩ : ∃ a n c, u = .slice a n c := by obtain ⟨a, c, rfl⟩ := hu.shape; exact ⟨_, _, _, rfl⟩
          obtain ⟨R, hR⟩ : ∃ R, R = rowB t co := ⟨_, rfl⟩
          have HC : Hid (∀ W : World, Below w.heap.size w W → Calls Tryz.prog 101 #[rwV t (.slice va vn vc), .int .i64 co] W fun e w' => e = .returned (.bool R) ∧ Below W.heap.size W w') := hideP (fun W hW => by rw [hR]; exact l12RowOk_any t co (hu.below clNStable hW) hsk (by omega) (by omega))
          have HR9 := hideP hR
          clear hu hsk hR
          obtain ⟨rcs, ru⟩ := t
          rw [show cs = _ from hcs] at hcj
          dsimp only at hcj
          simp only [rwV] at HC
          have QA : Hid (∀ x, Below (w.heap.size + 1) (w.alloc (tbO ⟨co, gs, gp, gpo, gm, gmo, rs⟩ (.slice (some ⟨b, off, none⟩) n uc))) x → x.cell? ⟨b, off + k * 2, none⟩ = some (.slice va vn vc) ∧ x.cell? ⟨b, off + k * 2 + 1, none⟩ = some (.int .i64 ru)) := hideP (fun x hx => by
            have h2 : Below w.heap.size w x := (below1 w _).trans (hx.mono (by omega))
            exact ⟨(h2.cell (p := ⟨b, off + k * 2 + 0, none⟩) hb).trans (hcj 0 (by omega)), (h2.cell (p := ⟨b, off + k * 2 + 1, none⟩) hb).trans (hcj 1 (by omega))⟩)
          have HBT : Hid (Below (w.heap.size + 1) (w.alloc (tbO ⟨co, gs, gp, gpo, gm, gmo, rs⟩ (.slice (some ⟨b, off, none⟩) n uc))) wr) := hideP hbel
          have HBD : Hid (Below (w.heap.size + 1) (w.alloc (tbO ⟨co, gs, gp, gpo, gm, gmo, rs⟩ (.slice (some ⟨b, off, none⟩) n uc))) wr.drew) := hideP (Below.drew hbel)
          have HB2 : Hid (Below w.heap.size w wr.drew) := hideP (Below.drew HB.out)
          have hxd : w.heap.size + 1 ≤ wr.drew.heap.size := hxs
          have HSZ := hideP hxd
          clear hc hcj hcl hbel ht hcs hxd
          go_wp2_with fail
          go_region_held3 (fun x => (x.cell? ⟨b, off + k * 2, none⟩ = some (.slice va vn vc) ∧ x.cell? ⟨b, off + k * 2 + 1, none⟩ = some (.int .i64 ru)) ∧ (x.cell? ⟨w.heap.size, 0, none⟩ = some (.int .i64 co) ∧ x.cell? ⟨w.heap.size, 6, none⟩ = some (.slice (some ⟨b, off, none⟩) n uc))) (first | exact ⟨QA.out _ HBD.out, QT.out _ HBD.out⟩ | exact ⟨QA.out _ ‹Hid (Below (w.heap.size + 1) _ w2)›, QT.out _ ‹Hid (Below (w.heap.size + 1) _ w2)›⟩) ((go_at_call 101; refine (HC.out _ HB2.out).mono ?_; rintro e w2 ⟨rfl, hb1⟩; have hb2 : Hid (Below (w.heap.size + 1) (w.alloc (tbO ⟨co, gs, gp, gpo, gm, gmo, rs⟩ (.slice (some ⟨b, off, none⟩) n uc))) w2) := hideP (below_more HBD.out hb1 HSZ.out); clear hb1))
          all_goals
            cases R with
            | false =>
              go_wp2
              go_ret
              refine ⟨retB ?_, (below1 w _).trans (Below.mono ‹Hid (Below (w.heap.size + 1) _ w2)› (by omega))⟩
              have h0 : rowsB rs co (k + 1) = false := by unfold rowsB; rw [← HT.out, ← HR9.out, Bool.and_false]
              rw [HV2.out, rowsB_down (show k + 1 ≤ n by omega) h0]
            | true =>
              go_wp2
              go_roundw
              case rel =>
                refine ⟨k + 1, by omega, by go_num, hideP ?_, ‹Hid (Below (w.heap.size + 1) _ w2)›⟩
                unfold rowsB
                rw [HM.out, ← HT.out, ← HR9.out]
                rfl
              case measure => simp [intOf]; omega
        · have hki : ¬ (k : Int) < (n : Int) := by omega
          obtain rfl : k = n := by omega
          clear hbel
          go_wp2
          go_ret
          refine ⟨retB ?_, HB.out⟩
          rw [HV2.out, HM.out]
end Go.Proofs.YtojoehdmjkgnnaaGreat

