import Derived.Test.YtojoehdmjkgnnaaGreatTwi
import Derived.Test.YtojoehdmjkgnnaaGreatTin
import Derived.Deep.DeepCutAuto
import Derived.Test.YtojoehdmjkgnnaaGreatSse
import Derived.Test.YtojoehdmjkgnnaaGreatTks
namespace Go.Proofs.YtojoehdmjkgnnaaGreat
open Go.RowKit
set_option linter.unusedVariables false
set_option linter.unusedSimpArgs false
def wdK (zs : List Int) : Nat → Bool
 | 0 => true
 | k + 1 => wdK zs k && uptoB (zs.getD k 0) 1073741823
def wdB (zs : List Int) (cols : Int) : Bool := decide ((zs.length : Int) = cols) && wdK zs zs.length
theorem wdK_down {zs : List Int} : ∀ {n k : Nat}, k ≤ n → wdK zs k = false → wdK zs n = false
 | 0, k, h, h0 => by
  obtain rfl : k = 0 := by omega
  exact h0
 | n + 1, k, h, h0 => by
  by_cases hk : k = n + 1
  ·subst hk; exact h0
  ·unfold wdK
   rw [wdK_down (show k ≤ n by omega) h0]
   rfl
theorem wdK_at {zs : List Int} : ∀ {n : Nat}, wdK zs n = true → ∀ k, k < n → 0 ≤ zs.getD k 0 ∧ zs.getD k 0 ≤ 1073741823
 | 0, _, k, hk => by omega
 | n + 1, h, k, hk => by
  unfold wdK at h
  rw [Bool.and_eq_true] at h
  by_cases e : k = n
  ·subst e; exact of_decide_eq_true h.2
  ·exact wdK_at h.1 k (by omega)
def wdF (zs : List Int) (k i : Nat) : Int := if i < k then zs.getD i 0 else 0
theorem wdF_all (zs : List Int) : wdF zs zs.length = fun i => zs.getD i 0 := by
 funext i
 unfold wdF
 split
 ·rfl
 ·rename_i h
  simp [List.getD, List.getElem?_eq_none (show zs.length ≤ i by omega)]
theorem wdF_upd (zs : List Int) (k : Nat) : upd (wdF zs k) k (zs.getD k 0) = wdF zs (k + 1) := by
 funext i
 unfold upd wdF
 by_cases h : i = k
 ·subst h; simp
 ·rw [if_neg h]
  by_cases h2 : i < k
  ·rw [if_pos h2, if_pos (by omega)]
  ·rw [if_neg h2, if_neg (by omega)]
theorem wdB_bd {zs : List Int} {cols : Int} (h : wdB zs cols = true) : (zs.length : Int) = cols ∧ Bd (fun i => zs.getD i 0) := by
 unfold wdB at h
 rw [Bool.and_eq_true, decide_eq_true_eq] at h
 refine ⟨h.1, fun i => ?_⟩
 by_cases hi : i < zs.length
 ·have := wdK_at h.2 i hi
  exact ⟨this.1, Int.le_trans this.2 (by omega)⟩
 ·have : zs.getD i 0 = 0 := by simp [List.getD, List.getElem?_eq_none (show zs.length ≤ i by omega)]
  simp only [this]
  omega
set_option maxRecDepth 20000 in
set_option maxHeartbeats 8000000 in
theorem checked_any {v : Value} {zs : List Int} {w : World} (cols : Nat) (h : Shr.Row w v zs) (hz : zs.length ≤ 9223372036854775807) (h1 : 1 ≤ cols) (h2 : cols ≤ 20) :
 Calls Tryz.prog 64 #[v, .int .i64 (cols : Int)] w fun e w' => (∃ arr : Array Value, ∃ F : Nat → Int, e = .returned (.tuple #[.agg arr, .bool (wdB zs cols)]) ∧ arr.size = 20 ∧ (∀ i, i < 20 → arr[i]? = some (.int .i64 (F i))) ∧ (wdB zs cols = true → F = fun i => zs.getD i 0)) ∧ Below w.heap.size w w' := by
 obtain ⟨ao, n, cap, rfl, hn, hr⟩ := h
 rw [hn] at hz
 have HR : Hid (0 < n → ∃ b off, ao = some ⟨b, off, none⟩ ∧ b < w.heap.size ∧ ∀ i, i < n → w.cell? ⟨b, off + i, none⟩ = some (.int .i64 (zs.getD i 0))) := hr
 have HN := hideP hn
 have HV : Hid (wdB zs cols = (decide ((n : Int) = (cols : Int)) && wdK zs n)) := hideP (by unfold wdB; rw [hn])
 have A0 : Hid (ArrAt (w.alloc (.cells #[.int .i64 0, .int .i64 0, .int .i64 0, .int .i64 0, .int .i64 0, .int .i64 0, .int .i64 0, .int .i64 0, .int .i64 0, .int .i64 0, .int .i64 0, .int .i64 0, .int .i64 0, .int .i64 0, .int .i64 0, .int .i64 0, .int .i64 0, .int .i64 0, .int .i64 0, .int .i64 0] 104)) w.heap.size (wdF zs 0)) := hideP ⟨_, heap_alloc_new w _, rfl, fun i hi => by
  have e : wdF zs 0 i = 0 := by unfold wdF; rw [if_neg (by omega)]
  rw [e]
  match i, hi with
  | 0, _ => rfl
  | 1, _ => rfl
  | 2, _ => rfl
  | 3, _ => rfl
  | 4, _ => rfl
  | 5, _ => rfl
  | 6, _ => rfl
  | 7, _ => rfl
  | 8, _ => rfl
  | 9, _ => rfl
  | 10, _ => rfl
  | 11, _ => rfl
  | 12, _ => rfl
  | 13, _ => rfl
  | 14, _ => rfl
  | 15, _ => rfl
  | 16, _ => rfl
  | 17, _ => rfl
  | 18, _ => rfl
  | 19, _ => rfl
  | k + 20, hk => exact absurd hk (by omega)⟩
 have BA : Hid (Below w.heap.size w (w.alloc (.cells #[.int .i64 0, .int .i64 0, .int .i64 0, .int .i64 0, .int .i64 0, .int .i64 0, .int .i64 0, .int .i64 0, .int .i64 0, .int .i64 0, .int .i64 0, .int .i64 0, .int .i64 0, .int .i64 0, .int .i64 0, .int .i64 0, .int .i64 0, .int .i64 0, .int .i64 0, .int .i64 0] 104))) := hideP (below1 _ _)
 obtain ⟨W1, hW1⟩ : ∃ W1, W1 = w.alloc (.cells #[.int .i64 0, .int .i64 0, .int .i64 0, .int .i64 0, .int .i64 0, .int .i64 0, .int .i64 0, .int .i64 0, .int .i64 0, .int .i64 0, .int .i64 0, .int .i64 0, .int .i64 0, .int .i64 0, .int .i64 0, .int .i64 0, .int .i64 0, .int .i64 0, .int .i64 0, .int .i64 0] 104) := ⟨_, rfl⟩
 have HSZ : Hid (∀ arr : Array Value, arr.size = 20 → (Tryz.prog.info? 104).map (·.size) = some arr.size) := hideP (fun arr ha => by rw [ha]; kernel_rfl)
 have HW1 := hideP hW1
 clear hr hn
 by_cases hne : n = cols
 ·subst hne
  have he : ((n : Int) != (n : Int)) = false := by simp
  go_enter Tryz.func64, Tryz.ntmps64
  go_wp2_with fail
  rw [← HW1.out] at A0 BA ⊢
  clear hW1
  go_loopw [6, 7, 15] (fun _ _ i wr => ∃ k : Nat, k ≤ n ∧ i = .int .i64 k ∧ Hid (wdK zs k = true ∧ ArrAt wr w.heap.size (wdF zs k)) ∧ Below w.heap.size w wr) (fun _ _ i _ => n - (intOf i).toNat)
  case atStart => exact ⟨0, by omega, rfl, hideP ⟨rfl, A0.out⟩, BA.out⟩
  case round =>
   obtain ⟨k, hk, rfl, HK, hbel⟩ := hrel
   have BP := hideP hbel
   clear hbel A0 BA
   by_cases hkn : k < n
   ·have hki : (k : Int) < (n : Int) := by omega
    obtain ⟨b, off, rfl, hb, hc⟩ := HR.out (by omega)
    have g0 : wr.cell? ⟨b, off + k, none⟩ = some (.int .i64 (zs.getD k 0)) := (BP.out.cell (p := ⟨b, off + k, none⟩) hb).trans (hc k hkn)
    obtain ⟨z, hz2⟩ : ∃ z, z = zs.getD k 0 := ⟨_, rfl⟩
    rw [← hz2] at g0
    have HU : Hid (∀ W, Calls Tryz.prog 93 #[.int .i64 z, .int .i64 1073741823] W fun e w' => e = .returned (.bool (uptoB z 1073741823)) ∧ w' = W) := hideP (fun W => upTo_any z 1073741823 W)
    have HST : Hid (wdK zs (k + 1) = uptoB z 1073741823) := hideP (by unfold wdK; rw [HK.out.1, ← hz2]; rfl)
    have HAN : Hid (ArrAt (wr.setCell ⟨w.heap.size, k, none⟩ (.int .i64 z)) w.heap.size (wdF zs (k + 1))) := hideP (by rw [← wdF_upd, ← hz2]; exact HK.out.2.set (by omega) z)
    have fz := HK.out.2.free k
    have hlt := HK.out.2.lt
    have hk0 := HK.out.2.cell (i := k) (by omega)
    clear hc hz2
    cases hu : uptoB z 1073741823 with
    | false =>
     rw [hu] at HU HST
     obtain ⟨arr, ha1, ha2, ha3⟩ := HK.out.2
     have HA1 := hideP ha1
     have HA3 := hideP ha3
     have hone : arr.all (·.oneCell') = true := arr_one ha2 ha3
     have hfin : wdB zs n = false := by rw [HV.out, wdK_down (show k + 1 ≤ n by omega) HST.out, Bool.and_false]
     clear ha1 ha3
     clear fz hk0 HAN
     go_wp2_with fail
     refine (HU.out _).mono ?_
     rintro e w2 ⟨rfl, rfl⟩
     go_simp
     iterate 8 (first | go_values | go_skip | go_guarded | go_step | go_upon | go_in | go_back)
     refine wp_seq (wp_region_lit ?_)
     refine wpList_load_row rfl 104 _ rfl w.heap.size rfl arr 104 (0, 0) HA1.out _ Tryz.underlying104 rfl (HSZ.out _ ha2) ?_
     refine wpList_store_row rfl 104 _ _ rfl w.heap.size rfl arr arr rfl 104 HA1.out (HSZ.out _ ha2) rfl hone ?_
     go_wp2
     exact bodyPost_ret (v := .tuple #[.agg arr, .bool false]) (results_cell_tmp rfl _ _ w.heap.size _ _ rfl rfl (run_loadVar_row _ _ 104 104 arr (0, 0) _ (setRow_heap _ _ _ _ _ _ HA1.out) Tryz.underlying104 rfl (HSZ.out _ ha2))) rfl ⟨⟨arr, _, by rw [hfin], ha2, HA3.out, fun h => by rw [hfin] at h; cases h⟩, below_setRow BP.out (Nat.le_refl _) _⟩
    | true =>
     rw [hu] at HU HST
     go_wp2_with (go_at_call 93; refine (HU.out _).mono ?_; rintro e w2 ⟨rfl, rfl⟩)
     go_roundw
     case rel => exact ⟨k + 1, by omega, by go_num, hideP ⟨HST.out, HAN.out⟩, BP.out.setCell (Nat.le_refl _) _⟩
     case measure => simp [intOf]; omega
   ·have hki : ¬ (k : Int) < (n : Int) := by omega
    obtain rfl : k = n := by omega
    obtain ⟨arr, ha1, ha2, ha3⟩ := HK.out.2
    have HA1 := hideP ha1
    have HA3 := hideP ha3
    have hone : arr.all (·.oneCell') = true := arr_one ha2 ha3
    have hfin : wdB zs k = true := by rw [HV.out, HK.out.1]; simp
    clear ha1 ha3
    rename_i K1 h1'
    have H1 := hideP h1'
    clear h1'
    go_wp2
    refine H1.out _ _ ?_
    clear H1
    refine wp_seq (wp_region_lit ?_)
    refine wpList_load_row rfl 104 _ rfl w.heap.size rfl arr 104 (0, 0) HA1.out _ Tryz.underlying104 rfl (HSZ.out _ ha2) ?_
    refine wpList_store_row rfl 104 _ _ rfl w.heap.size rfl arr arr rfl 104 HA1.out (HSZ.out _ ha2) rfl hone ?_
    go_wp2
    exact bodyPost_ret (v := .tuple #[.agg arr, .bool true]) (results_cell_tmp rfl _ _ w.heap.size _ _ rfl rfl (run_loadVar_row _ _ 104 104 arr (0, 0) _ (setRow_heap _ _ _ _ _ _ HA1.out) Tryz.underlying104 rfl (HSZ.out _ ha2))) rfl ⟨⟨arr, _, by rw [hfin], ha2, HA3.out, fun _ => by rw [← HN.out, wdF_all]⟩, below_setRow BP.out (Nat.le_refl _) _⟩
 ·have he : ((n : Int) != (cols : Int)) = true := by simp; omega
  have hfin : wdB zs cols = false := by rw [HV.out, decide_eq_false (by omega), Bool.false_and]
  rw [hfin]
  obtain ⟨arr, ha1, ha2, ha3⟩ := A0.out
  rw [← hW1] at ha1
  have HA1 := hideP ha1
  have HA3 := hideP ha3
  have hone : arr.all (·.oneCell') = true := arr_one ha2 ha3
  clear ha1 ha3 A0
  go_enter Tryz.func64, Tryz.ntmps64
  go_upto_region 2 with fail
  rw [← HW1.out] at BA ⊢
  clear hW1
  refine wp_region_lit ?_
  refine wpList_load_row rfl 104 _ rfl w.heap.size rfl arr 104 (0, 0) HA1.out _ Tryz.underlying104 rfl (HSZ.out _ ha2) ?_
  refine wpList_store_row rfl 104 _ _ rfl w.heap.size rfl arr arr rfl 104 HA1.out (HSZ.out _ ha2) rfl hone ?_
  go_wp2
  exact bodyPost_ret (v := .tuple #[.agg arr, .bool false]) (results_cell_tmp rfl _ _ w.heap.size _ _ rfl rfl (run_loadVar_row _ _ 104 104 arr (0, 0) _ (setRow_heap _ _ _ _ _ _ HA1.out) Tryz.underlying104 rfl (HSZ.out _ ha2))) rfl ⟨⟨arr, _, rfl, ha2, HA3.out, fun h => by cases h⟩, below_setRow BA.out (Nat.le_refl _) _⟩
set_option maxRecDepth 20000 in
set_option maxHeartbeats 8000000 in
theorem rowSet_any {w0 w : World} {S G A cols n0 : Nat} {gs gp gpo gm gmo ru : Int} {u lv : Value} {f : Nat → Int} {L0 : List Value} {cs : List Cl} {cv : Value} {ps : List Pl}
 (hb0 : Below w0.heap.size w0 w) (hS0 : w0.heap.size ≤ S) (hS : w.heap[S]? = some (stO G A lv)) (hG : w.heap[G]? = some (grO (cols : Int) gs gp gpo gm gmo u)) (hA : ArrAt w A f) (hf : Bd f) (h1 : 1 ≤ cols) (h2 : cols ≤ 20) (hgs : -1073741823 ≤ gs ∧ gs ≤ 1073741823) (o : w.ownsRow w0.heap.size 36 15 lv n0 L0) (ol : w.ownsRow w0.heap.size 123 5 cv cs.length (flatP ps)) (hp : PlOk w0 cs ps cs.length) (hin : RowIn cs (cols : Int)) :
 Calls Tryz.prog 56 #[.pointer (some ⟨S, 0, none⟩), .agg #[.int .i64 ru, cv]] w fun e w' => ∃ a c lv' n' L', e = .returned (.slice a (rowR f gs (gapN gs gp gpo gm gmo) (cols : Int) ⟨cs, ru⟩).length c) ∧ w'.ownsRow w.heap.size 36 15 (.slice a (rowR f gs (gapN gs gp gpo gm gmo) (cols : Int) ⟨cs, ru⟩).length c) (rowR f gs (gapN gs gp gpo gm gmo) (cols : Int) ⟨cs, ru⟩).length (flatN (rowR f gs (gapN gs gp gpo gm gmo) (cols : Int) ⟨cs, ru⟩)) ∧ w'.heap[S]? = some (stO G A lv') ∧ w'.ownsRow w0.heap.size 36 15 lv' n' L' ∧ (∀ b, lv'.ownBlock = some b → lv.ownBlock = some b ∨ w.heap.size ≤ b) ∧ Frs (fun b => b = S ∨ lv.ownBlock = some b) w w' := by
 by_cases hru : 0 < ru
 ·have hSl : S < w.heap.size := (Array.getElem?_eq_some_iff.1 hS).1
  have e : rowR f gs (gapN gs gp gpo gm gmo) (cols : Int) ⟨cs, ru⟩ = hpR [rulN (acr f gs 0 (cols - 1)) ru] 0 0 := by
   unfold rowR
   rw [if_pos hru, show ((cols : Int)).toNat = cols by omega]
  rw [e]
  obtain ⟨ca, cc, rfl⟩ := ownG_shape ol
  have HL : Hid (∀ W, Below w.heap.size w W → Calls Tryz.prog 95 #[.pointer (some ⟨S, 0, none⟩), .int .i64 ru] W _) := hideP (fun W hW => line_any ru ((hW.block _ hSl).trans hS) ((hW.block _ (Array.getElem?_eq_some_iff.1 hG).1).trans hG) (hA.below hW) hf h1 h2 hgs)
  obtain ⟨R, hR⟩ : ∃ R, R = hpR [rulN (acr f gs 0 (cols - 1)) ru] 0 0 := ⟨_, rfl⟩
  rw [← hR] at HL ⊢
  have HS := hideP hS
  have HO := hideP o
  have hrd : decide (0 < ru) = true := decide_eq_true hru
  clear hS hG hA hf hgs o ol hp hin hb0 e hR
  go_enter Tryz.func56, Tryz.ntmps56
  go_wp2_with fail
  refine (HL.out _ (below1 _ _)).mono ?_
  rintro e w1 ⟨a, c, rfl, ho, hb⟩
  have B1 := hideP (below_more (below1 _ _) hb (by simp))
  have O1 := hideP (ownG_base ho (show w.heap.size ≤ _ by simp))
  clear ho hb HL
  go_wp2
  go_ret
  exact ⟨a, c, lv, n0, L0, rfl, O1.out, (B1.out.block _ hSl).trans HS.out, ownG_below HO.out B1.out, fun b hb => .inl hb, (Frs.refl _ _).below B1.out⟩
 ·exact rowSet_cells hru hb0 hS0 hS hG hA hf h1 h2 hgs o ol hp hin
def srR (x : Tb) (row : Int) (zs : List Int) : List Nd := if (tabB x && (decide (0 ≤ row) && decide (row < (x.rs.length : Int)) && wdB zs x.co)) = true then rowR (fun i => zs.getD i 0) x.gs (gapN x.gs x.gp x.gpo x.gm x.gmo) x.co (x.rs.getD row.toNat Rw.none) else []
set_option maxRecDepth 20000 in
set_option maxHeartbeats 8000000 in
theorem implSetRow_any (x : Tb) (row : Int) {v wv : Value} {zs : List Int} {w : World} (h : RRowN 0 w v x.rs) (hs : SmT x) (hw : Shr.Row w wv zs) (hz : zs.length ≤ 1048576) :
 Calls Tryz.prog 27 #[tbV x v, .int .i64 row, wv] w fun e w' => ∃ a c, e = .returned (.slice a (srR x row zs).length c) ∧ w'.ownsRow w.heap.size 36 15 (.slice a (srR x row zs).length c) (srR x row zs).length (flatN (srR x row zs)) ∧ Below w.heap.size w w' := by
 obtain ⟨va, vn, vc, rfl⟩ : ∃ a n c, v = .slice a n c := by obtain ⟨a, c, rfl⟩ := h.shape; exact ⟨_, _, _, rfl⟩
 obtain ⟨wa, wn, wc, rfl⟩ : ∃ a n c, wv = .slice a n c := by obtain ⟨a, n, c, rfl, _⟩ := hw; exact ⟨_, _, _, rfl⟩
 have HC : Hid (∀ W, Below w.heap.size w W → Calls Tryz.prog 50 #[tbV x (.slice va vn vc)] W fun e w' => (∃ p, e = .returned (.tuple #[.pointer p, .bool (tabB x)]) ∧ (tabB x = true → ∃ G ua uc ls, p = some ⟨G, 0, none⟩ ∧ w'.heap[G]? = some (grO x.co x.gs x.gp x.gpo x.gm x.gmo (.slice ua x.rs.length uc)) ∧ w'.ownsRow W.heap.size 119 2 (.slice ua x.rs.length uc) x.rs.length (flatL ls) ∧ GRows W w' x.rs ls x.rs.length)) ∧ Below W.heap.size W w') := hideP (fun W hW => (gridOf_any x (h.below rwNStable hW) hs).mono (fun e w' ⟨h1, h2⟩ => by
  refine ⟨?_, h2⟩
  cases hb : tabB x with
  | false =>
   rw [hb] at h1
   exact ⟨none, h1, fun h => by cases h⟩
  | true =>
   rw [hb] at h1
   obtain ⟨G, rfl, u, ls, hG, hg, ho, hr⟩ := h1
   obtain ⟨ua, uc, rfl⟩ := ownG_shape ho
   exact ⟨_, rfl, fun _ => ⟨G, ua, uc, ls, rfl, hg, ho, hr⟩⟩))
 have hTP : tabB x = true → 1 ≤ x.co ∧ x.co ≤ 20 ∧ (-1073741823 ≤ x.gs ∧ x.gs ≤ 1073741823) ∧ x.rs.length ≤ 200 ∧ ∀ i, i < x.rs.length → RowIn (x.rs.getD i Rw.none).cs x.co := tabB_parts
 have HWD : Hid (∀ W, Below w.heap.size w W → ∀ cols : Nat, 1 ≤ cols → cols ≤ 20 → Calls Tryz.prog 64 #[.slice wa wn wc, .int .i64 (cols : Int)] W _) := hideP (fun W hW cols h1 h2 => checked_any cols (hw.below hW) (by omega) h1 h2)
 obtain ⟨R, hR⟩ : ∃ R, R = srR x row zs := ⟨_, rfl⟩
 rw [← hR]
 unfold srR at hR
 obtain ⟨T, hT⟩ : ∃ T, T = tabB x := ⟨_, rfl⟩
 rw [← hT] at HC hTP hR
 have HR := hideP hR
 clear hT hR h hs hw
 obtain ⟨co, gs, gp, gpo, gm, gmo, rs⟩ := x
 dsimp only at hTP HR ⊢
 simp only [tbV] at HC ⊢
 cases T with
 | false =>
  have hR0 : R = [] := by rw [HR.out]; rfl
  subst hR0
  go_enter Tryz.func27, Tryz.ntmps27
  go_wp2_with fail
  refine (HC.out _ (below1 _ _)).mono ?_
  rintro e w1 ⟨⟨p, rfl, _⟩, hb1⟩
  have B1 : Hid (Below w.heap.size w w1) := hideP (below_more (below1 _ _) hb1 (by simp))
  clear hb1
  go_wp2
  go_ret
  exact ⟨_, 0, rfl, own_mt B1.out.size (heap_alloc_new w1 _), B1.out.alloc B1.out.size _⟩
 | true =>
  obtain ⟨hc1, hc2, hg, hlen, hin⟩ := hTP (by first | rfl | trivial)
  obtain ⟨cols, hcols⟩ : ∃ cols : Nat, (cols : Int) = co := ⟨co.toNat, by omega⟩
  subst hcols
  obtain ⟨n, hn⟩ : ∃ n, n = rs.length := ⟨_, rfl⟩
  have HN := hideP hn
  rw [← hn] at hlen hin HC HR
  have HIN := hideP hin
  have HG := hideP hg
  clear hin hTP hn hg
  by_cases hr0 : row < 0
  ·have hR0 : R = [] := by rw [HR.out, decide_eq_false (show ¬ 0 ≤ row by omega)]; rfl
   subst hR0
   go_enter Tryz.func27, Tryz.ntmps27
   go_wp2_with fail
   refine (HC.out _ (below1 _ _)).mono ?_
   rintro e w1 ⟨⟨p, rfl, _⟩, hb1⟩
   have B1 : Hid (Below w.heap.size w w1) := hideP (below_more (below1 _ _) hb1 (by simp))
   clear hb1
   go_wp2
   go_ret
   exact ⟨_, 0, rfl, own_mt B1.out.size (heap_alloc_new w1 _), B1.out.alloc B1.out.size _⟩
  ·by_cases hr1 : (n : Int) ≤ row
   ·have hR0 : R = [] := by rw [HR.out, decide_eq_false (show ¬ row < (n : Int) by omega), Bool.and_false]; rfl
    subst hR0
    go_enter Tryz.func27, Tryz.ntmps27
    go_wp2_with fail
    refine (HC.out _ (below1 _ _)).mono ?_
    rintro e w1 ⟨⟨p, rfl, hp⟩, hb1⟩
    obtain ⟨G, ua, uc, ls, rfl, hgr, _, _⟩ := hp (by first | rfl | trivial)
    have B1 : Hid (Below w.heap.size w w1) := hideP (below_more (below1 _ _) hb1 (by simp))
    have g6 : w1.cell? ⟨G, 6, none⟩ = some (.slice ua n uc) := cell_of_row _ _ 6 _ 109 _ hgr
    have hGl := (Array.getElem?_eq_some_iff.1 hgr).1
    clear hb1 hp hgr
    go_wp2
    go_ret
    exact ⟨_, 0, rfl, own_mt B1.out.size (heap_alloc_new w1 _), B1.out.alloc B1.out.size _⟩
   ·obtain ⟨i, hi⟩ : ∃ i : Nat, (i : Int) = row := ⟨row.toNat, by omega⟩
    subst hi
    have hii : i < n := by omega
    have HR2 : Hid (R = if wdB zs cols = true then rowR (fun i => zs.getD i 0) gs (gapN gs gp gpo gm gmo) (cols : Int) (rs.getD i Rw.none) else []) := hideP (by rw [HR.out, decide_eq_true (show (0 : Int) ≤ (i : Int) by omega), decide_eq_true (show (i : Int) < (n : Int) by omega)]; simp)
    have hnr : ¬ (i : Int) < 0 := by omega
    have hnr2 : ¬ (n : Int) ≤ (i : Int) := by omega
    have hir : (i : Int) < (n : Int) := by omega
    clear HR hr0 hr1
    go_enter Tryz.func27, Tryz.ntmps27
    go_wp2_with fail
    refine (HC.out _ (below1 _ _)).mono ?_
    rintro e w1 ⟨⟨p, rfl, hp⟩, hb1⟩
    obtain ⟨G, ua, uc, ls, rfl, hgr, hown, hrows⟩ := hp (by first | rfl | trivial)
    have B1 : Hid (Below w.heap.size w w1) := hideP (below_more (below1 _ _) hb1 (by simp))
    obtain ⟨W0, hW0⟩ : ∃ W0 : World, W0 = w.alloc (.cells #[.int .i64 (cols : Int), .int .i64 gs, .int .i64 gp, .int .i64 gpo, .int .i64 gm, .int .i64 gmo, .slice va vn vc] 44) := ⟨_, rfl⟩
    rw [← hW0] at hown hrows hb1
    have hW0s : w.heap.size ≤ W0.heap.size := by rw [hW0]; simp
    have B0 := hideP hb1
    have HGR := hideP hgr
    have HOW := hideP hown
    have HRW := hideP hrows
    have g6 : w1.cell? ⟨G, 6, none⟩ = some (.slice ua n uc) := cell_of_row _ _ 6 _ 109 _ hgr
    have g0 : w1.cell? ⟨G, 0, none⟩ = some (.int .i64 (cols : Int)) := cell_of_row _ _ 0 _ 109 _ hgr
    have hGl := (Array.getElem?_eq_some_iff.1 hgr).1
    clear hb1 hp hgr hown hrows hW0 HC
    go_wp2_with fail
    refine (HWD.out _ B1.out cols (by omega) (by omega)).mono ?_
    rintro e w2 ⟨⟨arr, F, rfl, ha2, ha3, hF⟩, hb2⟩
    have B2 : Hid (Below w.heap.size w w2) := hideP (below_more B1.out hb2 B1.out.size)
    have B02 : Hid (Below W0.heap.size W0 w2) := hideP (below_more B0.out hb2 B0.out.size)
    have GR2 := hideP ((hb2.block _ (Array.getElem?_eq_some_iff.1 HGR.out).1).trans HGR.out)
    have OW2 := hideP (ownG_below HOW.out hb2)
    have RW2 := hideP (HRW.out.below hb2)
    have hone : arr.all (·.oneCell') = true := arr_one ha2 ha3
    have HSZ : Hid ((Tryz.prog.info? 104).map (·.size) = some arr.size) := hideP (by rw [ha2]; kernel_rfl)
    have HA3 := hideP ha3
    have HF := hideP hF
    clear hb2 ha3 hF HWD HGR HOW HRW B1 B0 g6 g0 hGl
    go_simp
    iterate 13 (first | go_values | go_skip | go_guarded | go_step | go_upon | go_in | go_back)
    refine wpList_store_row rfl 104 _ _ rfl w2.heap.size rfl _ arr rfl 104 (heap_alloc_new w2 _) HSZ.out (by rw [ha2]; rfl) hone ?_
    obtain ⟨W, hW⟩ : ∃ W, W = (w2.alloc (.cells #[.int .i64 0, .int .i64 0, .int .i64 0, .int .i64 0, .int .i64 0, .int .i64 0, .int .i64 0, .int .i64 0, .int .i64 0, .int .i64 0, .int .i64 0, .int .i64 0, .int .i64 0, .int .i64 0, .int .i64 0, .int .i64 0, .int .i64 0, .int .i64 0, .int .i64 0, .int .i64 0] 104)).setRow w2.heap.size arr := ⟨_, rfl⟩
    rw [← hW]
    have hk : ∀ b, b < w2.heap.size → W.heap[b]? = w2.heap[b]? := fun b hb => by rw [hW, setRow_other _ _ _ _ (by omega), Below.heap_alloc _ _ _ hb]
    have BW : Hid (Below w2.heap.size w2 W) := hideP (by rw [hW]; exact below_setRow ((Below.refl _ _).alloc (Nat.le_refl _) _) (Nat.le_refl _) _)
    obtain ⟨A, hA⟩ : ∃ A, A = w2.heap.size := ⟨_, rfl⟩
    have AW : Hid (ArrAt W A F) := hideP ⟨arr, by rw [hW, hA]; exact setRow_heap _ _ _ _ _ _ (heap_alloc_new w2 _), ha2, HA3.out⟩
    rw [← hA]
    clear hW hk HSZ hone hA
    have BW2 : Hid (Below w.heap.size w W) := hideP (below_more B2.out BW.out B2.out.size)
    cases hwb : wdB zs cols with
    | false =>
     have hR0 : R = [] := by rw [HR2.out, hwb]; rfl
     subst hR0
     go_wp2
     go_ret
     exact ⟨_, 0, rfl, own_mt BW2.out.size (heap_alloc_new W _), BW2.out.alloc BW2.out.size _⟩
    | true =>
     have hF2 := HF.out hwb
     have hR1 : R = rowR F gs (gapN gs gp gpo gm gmo) (cols : Int) (rs.getD i Rw.none) := by rw [HR2.out, hwb, hF2]; rfl
     have HBD : Hid (Bd F) := hideP (by rw [hF2]; exact (wdB_bd hwb).2)
     have GW := hideP ((BW.out.block _ (Array.getElem?_eq_some_iff.1 GR2.out).1).trans GR2.out)
     have OW := hideP (ownG_below OW2.out BW.out)
     have RW := hideP (RW2.out.below BW.out)
     have B0W : Hid (Below W0.heap.size W0 W) := hideP (below_more B02.out BW.out B02.out.size)
     have HR1 := hideP hR1
     clear hF2 hR1 HF HR2 GR2 OW2 RW2 B2 B02 BW hwb
     obtain ⟨gl, rfl, hgl⟩ := ownG_addr OW.out (by omega)
     obtain ⟨hru, ps, ol, hp⟩ := RW.out.2 i hii
     obtain ⟨r, hr⟩ : ∃ r, r = rs.getD i Rw.none := ⟨_, rfl⟩
     rw [← hr] at hru ol hp HR1
     have hri := HIN.out i hii
     rw [← hr] at hri
     obtain ⟨l, hl⟩ : ∃ l, l = ls.getD i Ln.none := ⟨_, rfl⟩
     have r0 : W.cell? ⟨gl, i * 2, none⟩ = some (.int .i64 l.ru) := by rw [hl]; exact ownG_cell OW.out (flatL_get ls i (by rw [RW.out.1]; exact hii) 0 (by omega))
     have r1 : W.cell? ⟨gl, i * 2 + 1, none⟩ = some l.v := by rw [hl]; exact ownG_cell OW.out (flatL_get ls i (by rw [RW.out.1]; exact hii) 1 (by omega))
     rw [← hl] at hru ol
     obtain ⟨rcs, rru⟩ := r
     obtain ⟨lru, lv⟩ := l
     dsimp only at hru ol hp hri r0 r1
     subst hru
     obtain ⟨la0, lc0, rfl⟩ := ownG_shape ol
     have g6 : W.cell? ⟨G, 6, none⟩ = some (.slice (some ⟨gl, 0, none⟩) n uc) := cell_of_row _ _ 6 _ 109 _ GW.out
     have hGl := (Array.getElem?_eq_some_iff.1 GW.out).1
     have HRO : Hid (∀ W', Below W.heap.size W W' → ∀ S, W.heap.size ≤ S → W'.heap[S]? = some (stO G A (.slice none 0 0)) → Calls Tryz.prog 56 #[.pointer (some ⟨S, 0, none⟩), .agg #[.int .i64 lru, .slice la0 rcs.length lc0]] W' fun e w' => ∃ a c, e = .returned (.slice a R.length c) ∧ w'.ownsRow W'.heap.size 36 15 (.slice a R.length c) R.length (flatN R) ∧ Below W.heap.size W w') := hideP (fun W' hW' S hS hst => by
      rw [HR1.out]
      refine (rowSet_any (below_more B0W.out hW' B0W.out.size) (Nat.le_trans B0W.out.size hS) hst ((hW'.block _ hGl).trans GW.out) (AW.out.below hW') HBD.out (by omega) (by omega) HG.out (World.ownsRow_nil _ _ _ _) (ownG_below ol hW') hp hri).mono (fun e w' ⟨a, c, lv', n', L', q1, q2, _, _, _, q6⟩ => ⟨a, c, q1, q2, Frs.toBelow hW' q6 ?_ hW'.size⟩)
      rintro b (e | e)
      ·omega
      ·cases e)
     clear hp hri hr hl OW RW GW AW HBD
     go_wp2_with fail
     generalize hWS : W.alloc _ = WS
     have ES : Hid (WS.heap[W.heap.size]? = some (stO G A (.slice none 0 0))) := hideP (by rw [← hWS]; exact heap_alloc_new W _)
     have BS : Hid (Below W.heap.size W WS) := hideP (by rw [← hWS]; exact below1 _ _)
     clear hWS
     refine (HRO.out _ BS.out _ (Nat.le_refl _) ES.out).mono ?_
     rintro e w5 ⟨a5, c5, rfl, ho5, hb5⟩
     have O5 := hideP (ownG_base ho5 (Nat.le_trans BW2.out.size BS.out.size))
     have B5 := hideP (below_more BW2.out hb5 BW2.out.size)
     clear ho5 hb5
     go_wp2
     go_ret
     exact ⟨a5, c5, rfl, O5.out, B5.out⟩
theorem l12Row_any {w : World} {co gs gp gpo gm gmo : Int} {rs : List Rw} {r : Rw} {tv rv : Value} {g n cap : Nat} {f : Nat → Int} (hcr : CRowN 0 w rv r.cs) (hin : RowIn r.cs co) (hn : (n : Int) = co) (h1 : 1 ≤ n) (h2 : n ≤ 20) (hgs : -1073741823 ≤ gs ∧ gs ≤ 1073741823) (hA : IntsAt w g n f) (hf : Bd f) :
 Calls Tryz.prog 61 #[tbV ⟨co, gs, gp, gpo, gm, gmo, rs⟩ tv, rwV r rv, .slice (some ⟨g, 0, none⟩) n cap] w fun e w' => ∃ a c, e = .returned (.slice a (rowR f gs (gapN gs gp gpo gm gmo) co r).length c) ∧ w'.ownsRow w.heap.size 36 15 (.slice a (rowR f gs (gapN gs gp gpo gm gmo) co r).length c) (rowR f gs (gapN gs gp gpo gm gmo) co r).length (flatN (rowR f gs (gapN gs gp gpo gm gmo) co r)) ∧ Below w.heap.size w w' := by
 by_cases hru : 0 < r.ru
 ·refine (l12Row_rule ⟨co, gs, gp, gpo, gm, gmo, rs⟩ r hru hn h1 h2 hgs hA hf).mono (fun e w' ⟨u, q1, q2, q3⟩ => ?_)
  obtain ⟨a, c, rfl⟩ := ownG_shape q2
  exact ⟨a, c, q1, q2, q3⟩
 ·obtain ⟨cs, ru⟩ := r
  exact l12Row_cells hru hcr hin hn h1 h2 hgs hA hf
theorem wp_bs0 {w : World} {o : Oper} {a : Act} {K : Act → World → Prop} {Q : Exit → Act → World → Prop} (ho : o.op = .buildSlice 24 0 #[])
 (h : K (a.put o.dst (.slice (some ⟨w.heap.size, 0, none⟩) 0 0)) (w.alloc (.cells #[] 36))) : o.wp Tryz.prog a w K Q := by
 have hr : (Instr.buildSlice 24 0 #[]).run Tryz.prog w = .ok (.slice (some ⟨w.heap.size, 0, none⟩) 0 0) (w.alloc (.cells #[] 36)) := by kernel_rfl
 unfold Oper.wp
 simp only [execOp, ho, List.map_toArray, List.map_nil, Sem.run_bind, hr, Result.andThen_ok, Sem.run_pure]
 exact h
set_option maxRecDepth 20000 in
set_option maxHeartbeats 8000000 in
theorem specSetRow_any (x : Tb) (row : Int) {v : Value} {zs : List Int} {w : World} {g n : Nat} (h : RRowN 0 w v x.rs) (hs : SmT x) (hn : zs.length = n) (hz : n ≤ 1048576) (hgl : g < w.heap.size) (hA : IntsAt w g n (fun i => zs.getD i 0)) :
 Calls Tryz.prog 24 #[tbV x v, .int .i64 row, .slice (some ⟨g, 0, none⟩) n n] w fun e w' => ∃ a c, e = .returned (.slice a (srR x row zs).length c) ∧ w'.ownsRow w.heap.size 36 15 (.slice a (srR x row zs).length c) (srR x row zs).length (flatN (srR x row zs)) ∧ Below w.heap.size w w' := by
 have HT : Hid (∀ W, Below w.heap.size w W → Calls Tryz.prog 60 #[tbV x v] W _) := hideP (fun W hW => specTableOk_any x (h.below rwNStable hW) hs)
 have hTP : tabB x = true → 1 ≤ x.co ∧ x.co ≤ 20 ∧ (-1073741823 ≤ x.gs ∧ x.gs ≤ 1073741823) ∧ x.rs.length ≤ 200 ∧ ∀ i, i < x.rs.length → RowIn (x.rs.getD i Rw.none).cs x.co := tabB_parts
 obtain ⟨ua, m, uc, rfl, hm, hr⟩ := h
 have hm0 : m ≤ 1048576 := by rw [← hm]; exact hs.1
 have HRR : Hid (∀ i, i < m → ∃ b off, ua = some ⟨b, off, none⟩ ∧ ∃ (ca : Option Addr) (cn cc : Nat), (∀ W, Below w.heap.size w W → b < W.heap.size ∧ W.cell? ⟨b, off + i * 2, none⟩ = some (.slice ca cn cc) ∧ W.cell? ⟨b, off + i * 2 + 1, none⟩ = some (.int .i64 (x.rs.getD i Rw.none).ru) ∧ CRowN 0 W (.slice ca cn cc) (x.rs.getD i Rw.none).cs)) := hideP (fun i hi => by
  obtain ⟨b, off, rfl, hlo, hb, hc⟩ := hr (by omega)
  obtain ⟨vs, hcl, hRel, hcj⟩ := hc i hi
  obtain ⟨u, hcs, hu⟩ := hRel
  obtain ⟨ca, cc, rfl⟩ := hu.shape
  refine ⟨b, off, rfl, ca, (x.rs.getD i Rw.none).cs.length, cc, fun W hW => ?_⟩
  rw [show vs = _ from hcs] at hcj
  exact ⟨Nat.lt_of_lt_of_le hb hW.size, (hW.cell (p := ⟨b, off + i * 2, none⟩) hb).trans (hcj 0 (by omega)), (hW.cell (p := ⟨b, off + i * 2 + 1, none⟩) hb).trans (hcj 1 (by omega)), hu.below clNStable hW⟩)
 have HAX : Hid (∀ W, Below w.heap.size w W → ∀ i, i < n → W.cell? ⟨g, i, none⟩ = some (.int .i64 (zs.getD i 0))) := hideP (fun W hW i hi => (hA.below hW).cell hi)
 obtain ⟨R, hR⟩ : ∃ R, R = srR x row zs := ⟨_, rfl⟩
 rw [← hR]
 unfold srR at hR
 obtain ⟨T, hT⟩ : ∃ T, T = tabB x := ⟨_, rfl⟩
 rw [← hT] at HT hTP hR
 rw [hm] at hTP hR
 have HW : Hid (wdB zs x.co = (decide ((n : Int) = x.co) && wdK zs n)) := hideP (by unfold wdB; rw [hn])
 have HR := hideP hR
 have HA := hideP hA
 clear hT hR hs hA hr hm hn
 obtain ⟨co, gs, gp, gpo, gm, gmo, rs⟩ := x
 dsimp only at hTP HR HW HRR ⊢
 simp only [tbV] at HT ⊢
 cases T with
 | false =>
  have hR0 : R = [] := by rw [HR.out]; rfl
  subst hR0
  go_enter Tryz.func24, Tryz.ntmps24
  go_wp2_with fail
  refine (HT.out _ (below1 _ _)).mono ?_
  rintro e w1 ⟨rfl, hb1⟩
  have B1 : Hid (Below w.heap.size w w1) := hideP (below_more (below1 _ _) hb1 (by simp))
  clear hb1
  go_wp2
  go_ret
  exact ⟨_, 0, rfl, own_mt B1.out.size (heap_alloc_new w1 _), B1.out.alloc B1.out.size _⟩
 | true =>
  obtain ⟨hc1, hc2, hg, hlen, hin⟩ := hTP (by first | rfl | trivial)
  have HIN := hideP hin
  have HG := hideP hg
  clear hin hTP hg
  by_cases hr0 : row < 0
  ·have hR0 : R = [] := by rw [HR.out, decide_eq_false (show ¬ 0 ≤ row by omega)]; rfl
   subst hR0
   go_enter Tryz.func24, Tryz.ntmps24
   go_wp2_with fail
   refine (HT.out _ (below1 _ _)).mono ?_
   rintro e w1 ⟨rfl, hb1⟩
   have B1 : Hid (Below w.heap.size w w1) := hideP (below_more (below1 _ _) hb1 (by simp))
   clear hb1
   go_wp2
   go_ret
   exact ⟨_, 0, rfl, own_mt B1.out.size (heap_alloc_new w1 _), B1.out.alloc B1.out.size _⟩
  ·have BOX : Hid (∀ w1, Below (w.heap.size + 1) (w.alloc (.cells #[.int .i64 co, .int .i64 gs, .int .i64 gp, .int .i64 gpo, .int .i64 gm, .int .i64 gmo, .slice ua m uc] 44)) w1 → w1.heap[w.heap.size]? = some (tbC co gs gp gpo gm gmo (.slice ua m uc))) := hideP (fun w1 hb => (hb.block _ (by omega)).trans (heap_alloc_new w _))
   by_cases hr1 : (m : Int) ≤ row
   ·have hR0 : R = [] := by rw [HR.out, decide_eq_false (show ¬ row < (m : Int) by omega), Bool.and_false]; rfl
    subst hR0
    go_enter Tryz.func24, Tryz.ntmps24
    go_wp2_with fail
    refine (HT.out _ (below1 _ _)).mono ?_
    rintro e w1 ⟨rfl, hb1⟩
    have B1 : Hid (Below w.heap.size w w1) := hideP (below_more (below1 _ _) hb1 (by simp))
    rw [World.size_alloc] at hb1
    have t6 : w1.cell? ⟨w.heap.size, 6, none⟩ = some (.slice ua m uc) := cell_of_row _ _ 6 _ 44 _ (BOX.out w1 hb1)
    have hl1 := (Array.getElem?_eq_some_iff.1 (BOX.out w1 hb1)).1
    clear hb1
    go_wp2
    go_ret
    exact ⟨_, 0, rfl, own_mt B1.out.size (heap_alloc_new w1 _), B1.out.alloc B1.out.size _⟩
   ·obtain ⟨i, hi⟩ : ∃ i : Nat, (i : Int) = row := ⟨row.toNat, by omega⟩
    subst hi
    have hii : i < m := by omega
    have HR2 : Hid (R = if wdB zs co = true then rowR (fun i => zs.getD i 0) gs (gapN gs gp gpo gm gmo) co (rs.getD i Rw.none) else []) := hideP (by rw [HR.out, decide_eq_true (show (0 : Int) ≤ (i : Int) by omega), decide_eq_true (show (i : Int) < (m : Int) by omega)]; simp)
    have hnr : ¬ (i : Int) < 0 := by omega
    have hnr2 : ¬ (m : Int) ≤ (i : Int) := by omega
    have hir : (i : Int) < (m : Int) := by omega
    clear HR hr0 hr1
    by_cases hnc : (n : Int) = co
    ·subst hnc
     have hne : ((n : Int) != (n : Int)) = false := by simp
     have HW2 : Hid (wdB zs n = wdK zs n) := hideP (by rw [HW.out]; simp)
     clear HW
     go_enter Tryz.func24, Tryz.ntmps24
     go_wp2_with fail
     refine (HT.out _ (below1 _ _)).mono ?_
     rintro e w1 ⟨rfl, hb1⟩
     have B1 : Hid (Below w.heap.size w w1) := hideP (below_more (below1 _ _) hb1 (by simp))
     rw [World.size_alloc] at hb1
     have BX := hideP (BOX.out w1 hb1)
     have t6 : w1.cell? ⟨w.heap.size, 6, none⟩ = some (.slice ua m uc) := cell_of_row _ _ 6 _ 44 _ BX.out
     have t0 : w1.cell? ⟨w.heap.size, 0, none⟩ = some (.int .i64 (n : Int)) := cell_of_row _ _ 0 _ 44 _ BX.out
     have hl1 := (Array.getElem?_eq_some_iff.1 BX.out).1
     clear hb1 BOX HT
     go_wp2_with fail
     clear t6 t0
     go_loopw [7] (fun s wr => ∃ k : Nat, k ≤ n ∧ s = .int .i64 (k : Int) ∧ Hid (wdK zs k = true) ∧ wr = w1) (fun s _ => n - (intOf s).toNat)
     case atStart => exact ⟨0, by omega, rfl, hideP rfl, rfl⟩
     case round =>
      obtain ⟨k, hk, rfl, HK, hww⟩ := hrel
      have hww' := hww.symm
      subst hww'
      clear hww
      by_cases hkn : k < n
      ·have hki : (k : Int) < (n : Int) := by omega
       have g0 := HAX.out w1 B1.out k hkn
       obtain ⟨z, hz2⟩ : ∃ z, z = zs.getD k 0 := ⟨_, rfl⟩
       rw [← hz2] at g0
       have HST : Hid (wdK zs (k + 1) = uptoB z 1073741823) := hideP (by unfold wdK; rw [HK.out, ← hz2]; rfl)
       have hgw : g < w1.heap.size := Nat.lt_of_lt_of_le hgl B1.out.size
       clear hz2
       by_cases hu : 0 ≤ z ∧ z ≤ 1073741823
       ·obtain ⟨hu0, hu1⟩ := hu
        have hn0 : ¬ z < 0 := by omega
        have hn1 : ¬ 1073741823 < z := by omega
        have HSN : Hid (wdK zs (k + 1) = true) := hideP (by rw [HST.out]; exact upto_yes hu0 hu1)
        go_wp2
        go_roundw
        case rel => exact ⟨k + 1, by omega, by go_num, HSN, trivial⟩
        case measure => simp [intOf]; omega
       ·have hR0 : R = [] := by
         rw [HR2.out, HW2.out, wdK_down (show k + 1 ≤ n by omega) (by rw [HST.out]; exact upto_no hu)]
         rfl
        subst hR0
        by_cases hu0 : z < 0
        ·go_wp2
         go_ret
         exact ⟨_, 0, rfl, own_mt B1.out.size (heap_alloc_new w1 _), B1.out.alloc B1.out.size _⟩
        ·have hu1 : 1073741823 < z := by omega
         go_wp2
         go_ret
         exact ⟨_, 0, rfl, own_mt B1.out.size (heap_alloc_new w1 _), B1.out.alloc B1.out.size _⟩
      ·have hki : ¬ (k : Int) < (n : Int) := by omega
       obtain rfl : k = n := by omega
       have hwb : wdB zs k = true := by rw [HW2.out, HK.out]
       obtain ⟨b, off, rfl, ca, cn, cc, hrr⟩ := HRR.out i hii
       obtain ⟨r, hr⟩ : ∃ r, r = rs.getD i Rw.none := ⟨_, rfl⟩
       rw [← hr] at hrr
       have HL : Hid (∀ W, Below w.heap.size w W → Calls Tryz.prog 61 #[.agg #[.int .i64 (k : Int), .int .i64 gs, .int .i64 gp, .int .i64 gpo, .int .i64 gm, .int .i64 gmo, .slice (some ⟨b, off, none⟩) m uc], .agg #[.slice ca cn cc, .int .i64 r.ru], .slice (some ⟨g, 0, none⟩) k k] W fun e w' => ∃ a c, e = .returned (.slice a R.length c) ∧ w'.ownsRow W.heap.size 36 15 (.slice a R.length c) R.length (flatN R) ∧ Below W.heap.size W w') := hideP (fun W hW => by
        have e : R = rowR (fun i => zs.getD i 0) gs (gapN gs gp gpo gm gmo) (k : Int) r := by rw [HR2.out, hwb, if_pos rfl, hr]
        rw [e]
        exact l12Row_any (rs := rs) (hrr W hW).2.2.2 (by rw [hr]; exact HIN.out i hii) rfl (by omega) (by omega) HG.out (HA.out.below hW) (wdB_bd hwb).2)
       have hRl : R.length ≤ 20000 := by
        rw [HR2.out, hwb, if_pos rfl]
        unfold rowR
        split
        ·exact hpR_le
        ·split
         ·exact hpR_le
         ·simp
       have HRX : Hid (∀ W, Below w.heap.size w W → b < W.heap.size ∧ W.cell? ⟨b, off + i * 2, none⟩ = some (.slice ca cn cc) ∧ W.cell? ⟨b, off + i * 2 + 1, none⟩ = some (.int .i64 r.ru)) := hideP (fun W hW => ⟨(hrr W hW).1, (hrr W hW).2.1, (hrr W hW).2.2.1⟩)
       obtain ⟨ru, hru⟩ : ∃ ru, ru = r.ru := ⟨_, rfl⟩
       rw [← hru] at HL HRX
       have HQ : Hid (∀ X : World, Below w1.heap.size w1 X → (X.cell? ⟨w.heap.size, 0, none⟩ = some (.int .i64 (k : Int)) ∧ X.cell? ⟨w.heap.size, 1, none⟩ = some (.int .i64 gs) ∧ X.cell? ⟨w.heap.size, 2, none⟩ = some (.int .i64 gp) ∧ X.cell? ⟨w.heap.size, 3, none⟩ = some (.int .i64 gpo) ∧ X.cell? ⟨w.heap.size, 4, none⟩ = some (.int .i64 gm) ∧ X.cell? ⟨w.heap.size, 5, none⟩ = some (.int .i64 gmo) ∧ X.cell? ⟨w.heap.size, 6, none⟩ = some (.slice (some ⟨b, off, none⟩) m uc)) ∧ X.cell? ⟨b, off + i * 2, none⟩ = some (.slice ca cn cc) ∧ X.cell? ⟨b, off + i * 2 + 1, none⟩ = some (.int .i64 ru)) := hideP (fun X hX => by
        have q := (hX.block _ hl1).trans BX.out
        exact ⟨⟨cell_of_row _ _ 0 _ 44 _ q, cell_of_row _ _ 1 _ 44 _ q, cell_of_row _ _ 2 _ 44 _ q, cell_of_row _ _ 3 _ 44 _ q, cell_of_row _ _ 4 _ 44 _ q, cell_of_row _ _ 5 _ 44 _ q, cell_of_row _ _ 6 _ 44 _ q⟩, (HRX.out X (below_more B1.out hX B1.out.size)).2.1, (HRX.out X (below_more B1.out hX B1.out.size)).2.2⟩)
       have hb1 := (HRX.out w1 B1.out).1
       clear hrr hr hru HRX HRR HAX HIN HG HA HR2 HW2 HK hwb
       go_wp2_with fail
       refine wp_region_held_drew (S := fun X => (X.cell? ⟨w.heap.size, 0, none⟩ = some (.int .i64 (k : Int)) ∧ X.cell? ⟨w.heap.size, 1, none⟩ = some (.int .i64 gs) ∧ X.cell? ⟨w.heap.size, 2, none⟩ = some (.int .i64 gp) ∧ X.cell? ⟨w.heap.size, 3, none⟩ = some (.int .i64 gpo) ∧ X.cell? ⟨w.heap.size, 4, none⟩ = some (.int .i64 gm) ∧ X.cell? ⟨w.heap.size, 5, none⟩ = some (.int .i64 gmo) ∧ X.cell? ⟨w.heap.size, 6, none⟩ = some (.slice (some ⟨b, off, none⟩) m uc)) ∧ X.cell? ⟨b, off + i * 2, none⟩ = some (.slice ca cn cc) ∧ X.cell? ⟨b, off + i * 2 + 1, none⟩ = some (.int .i64 ru)) (by kernel_rfl) (HQ.out _ ((Below.refl _ _).drew)) (fun hS => ?_)
       refine tkS (i := 1) (v := .agg #[.int .i64 (k : Int), .int .i64 gs, .int .i64 gp, .int .i64 gpo, .int .i64 gm, .int .i64 gmo, .slice (some ⟨b, off, none⟩) m uc]) rfl (by kernel_rfl) (by first | rfl | go_simp) (fun wx hx => by obtain ⟨⟨h0, h1, h2, h3, h4, h5, h6⟩, h7, h8⟩ := hx; go_simp) hS ?_
       try simp only [sput]
       refine tkS (i := 2) (v := .pointer (some ⟨w.heap.size, 6, none⟩)) rfl (by kernel_rfl) (by first | rfl | go_simp) (fun wx hx => by obtain ⟨⟨h0, h1, h2, h3, h4, h5, h6⟩, h7, h8⟩ := hx; go_simp) hS ?_
       try simp only [sput]
       refine tkS (i := 3) (v := .slice (some ⟨b, off, none⟩) m uc) rfl (by kernel_rfl) (by first | rfl | go_simp) (fun wx hx => by obtain ⟨⟨h0, h1, h2, h3, h4, h5, h6⟩, h7, h8⟩ := hx; go_simp) hS ?_
       try simp only [sput]
       refine tkS (i := 4) (v := .int .i64 (i : Int)) rfl (by kernel_rfl) (by first | rfl | go_simp) (fun wx hx => by obtain ⟨⟨h0, h1, h2, h3, h4, h5, h6⟩, h7, h8⟩ := hx; go_simp) hS ?_
       try simp only [sput]
       refine tkS (i := 5) (v := .pointer (some ⟨b, off + i * 2, none⟩)) rfl (by kernel_rfl) (by first | rfl | go_simp) (fun wx hx => by obtain ⟨⟨h0, h1, h2, h3, h4, h5, h6⟩, h7, h8⟩ := hx; go_simp) hS ?_
       try simp only [sput]
       refine tkS (i := 6) (v := .agg #[.slice ca cn cc, .int .i64 ru]) rfl (by kernel_rfl) (by first | rfl | go_simp) (fun wx hx => by obtain ⟨⟨h0, h1, h2, h3, h4, h5, h6⟩, h7, h8⟩ := hx; go_simp) hS ?_
       try simp only [sput]
       refine tkS (i := 7) (v := .slice (some ⟨g, 0, none⟩) k k) rfl (by kernel_rfl) (by first | rfl | go_simp) (fun wx hx => by obtain ⟨⟨h0, h1, h2, h3, h4, h5, h6⟩, h7, h8⟩ := hx; go_simp) hS ?_
       try simp only [sput]
       refine wpAnyH_ready (rs := [0, 8]) (by kernel_rfl) (by simp) ?_
       refine AllReadyH.cons rfl (fun K hK => ?_) (AllReadyH.cons rfl (fun K hK => ?_) AllReadyH.nil)
       ·rw [if_pos (by first | rfl | go_simp)]
        refine wp_bs0 rfl ?_
        have BA : Hid (Below w1.heap.size w1 (w1.drew.alloc (.cells #[] 36))) := hideP (((Below.refl _ _).drew).alloc (Nat.le_refl _) _)
        have EA : Hid ((w1.drew.alloc (.cells #[] 36)).heap[w1.drew.heap.size]? = some (.cells #[] 36 (0, 0))) := hideP (heap_alloc_new w1.drew _)
        refine hK.out _ _ (HQ.out _ BA.out) (fun hS => ?_)
        try simp only [sput]
        clear hK K
        refine wpAnyH_ready (rs := [8]) (by kernel_rfl) (by simp) ?_
        refine AllReadyH.cons rfl (fun K hK => ?_) AllReadyH.nil
        rw [if_pos (by first | rfl | go_simp)]
        obtain ⟨WA, hWA⟩ : ∃ WA, WA = w1.drew.alloc (.cells #[] 36) := ⟨_, rfl⟩
        rw [← hWA] at BA EA ⊢
        have HWA := hideP hWA
        clear hWA
        go_simp
        go_at_call 61
        refine (HL.out _ (below_more B1.out BA.out B1.out.size)).mono ?_
        rintro e w3 ⟨a3, c3, rfl, ho3, hb3⟩
        have BE : Hid (Below w1.heap.size w1 w3) := hideP (below_more BA.out hb3 BA.out.size)
        have N3 : Hid (NN 0 w3 (.slice a3 R.length c3) R) := hideP (own_NN ho3 rfl)
        have E3 : Hid (w3.ownsRow w.heap.size 36 15 (.slice (some ⟨w1.drew.heap.size, 0, none⟩) 0 0) 0 (flatN [])) := hideP (own_mt (show w.heap.size ≤ w1.heap.size from B1.out.size) ((hb3.block _ (Array.getElem?_eq_some_iff.1 EA.out).1).trans EA.out))
        have HGE : Hid (∀ j, (Value.slice (some ⟨w1.drew.heap.size, 0, none⟩) 0 0).ownBlock = some j → w1.heap.size ≤ j) := hideP (fun j hj => by simp only [Value.ownBlock, Option.some.injEq] at hj; subst hj; exact Nat.le_refl _)
        clear ho3 hb3 EA BA
        refine hK.out _ _ (HQ.out _ BE.out) (fun hS => ?_)
        try simp only [sput]
        clear hK K
        refine wpAnyH_ready (rs := [9]) (by kernel_rfl) (by simp) ?_
        refine AllReadyH.cons rfl (fun K hK => ?_) AllReadyH.nil
        rw [if_pos (by first | rfl | go_simp)]
        refine wp_appN _ _ rfl w.heap.size (.slice (some ⟨w1.drew.heap.size, 0, none⟩) 0 0) 0 [] rfl E3.out (.slice a3 R.length c3) R rfl N3.out (by omega) (Nat.le_trans B1.out.size BE.out.size) ?_
        intro v7 w7 ho hg ha
        rw [Nat.zero_add, List.nil_append] at ho
        obtain ⟨u7, d7, rfl⟩ := ownG_shape ho
        have B7 : Hid (Below w1.heap.size w1 w7) := hideP (Below.grown BE.out hg BE.out.size (fun j hj => HGE.out j hj))
        have O7 := hideP ho
        clear ho hg ha
        refine hK.out _ _ (HQ.out _ B7.out) (fun hS => ?_)
        try simp only [sput]
        clear hK K
        refine tkS (i := 10) (v := .slice u7 R.length d7) rfl (by kernel_rfl) (by first | rfl | go_simp) (fun wx hx => by obtain ⟨⟨h0, h1, h2, h3, h4, h5, h6⟩, h7, h8⟩ := hx; go_simp) hS ?_
        try simp only [sput]
        refine wpAnyH_done (by kernel_rfl) ?_ _
        clear hS
        go_wp2
        go_ret
        exact ⟨u7, d7, rfl, O7.out, below_more B1.out B7.out B1.out.size⟩
       ·rw [if_pos (by first | rfl | go_simp)]
        go_simp
        go_at_call 61
        refine (HL.out _ (B1.out.drew)).mono ?_
        rintro e w3 ⟨a3, c3, rfl, ho3, hb3⟩
        have B3 : Hid (Below w1.heap.size w1 w3) := hideP (below_more ((Below.refl _ _).drew) hb3 (Nat.le_refl _))
        have N3 : Hid (NN 0 w3 (.slice a3 R.length c3) R) := hideP (own_NN ho3 rfl)
        clear ho3 hb3
        refine hK.out _ _ (HQ.out _ B3.out) (fun hS => ?_)
        try simp only [sput]
        clear hK K
        refine wpAnyH_ready (rs := [0]) (by kernel_rfl) (by simp) ?_
        refine AllReadyH.cons rfl (fun K hK => ?_) AllReadyH.nil
        rw [if_pos (by first | rfl | go_simp)]
        refine wp_bs0 rfl ?_
        have BE : Hid (Below w1.heap.size w1 (w3.alloc (.cells #[] 36))) := hideP (B3.out.alloc B3.out.size _)
        have N4 : Hid (NN 0 (w3.alloc (.cells #[] 36)) (.slice a3 R.length c3) R) := hideP (N3.out.bel (below1 _ _))
        have E3 : Hid ((w3.alloc (.cells #[] 36)).ownsRow w.heap.size 36 15 (.slice (some ⟨w3.heap.size, 0, none⟩) 0 0) 0 (flatN [])) := hideP (own_mt (Nat.le_trans B1.out.size B3.out.size) (heap_alloc_new w3 _))
        have HGE : Hid (∀ j, (Value.slice (some ⟨w3.heap.size, 0, none⟩) 0 0).ownBlock = some j → w1.heap.size ≤ j) := hideP (fun j hj => by simp only [Value.ownBlock, Option.some.injEq] at hj; subst hj; exact B3.out.size)
        refine hK.out _ _ (HQ.out _ BE.out) (fun hS => ?_)
        try simp only [sput]
        clear hK K
        refine wpAnyH_ready (rs := [9]) (by kernel_rfl) (by simp) ?_
        refine AllReadyH.cons rfl (fun K hK => ?_) AllReadyH.nil
        rw [if_pos (by first | rfl | go_simp)]
        refine wp_appN _ _ rfl w.heap.size (.slice (some ⟨w3.heap.size, 0, none⟩) 0 0) 0 [] rfl E3.out (.slice a3 R.length c3) R rfl N4.out (by omega) (Nat.le_trans B1.out.size BE.out.size) ?_
        intro v7 w7 ho hg ha
        rw [Nat.zero_add, List.nil_append] at ho
        obtain ⟨u7, d7, rfl⟩ := ownG_shape ho
        have B7 : Hid (Below w1.heap.size w1 w7) := hideP (Below.grown BE.out hg BE.out.size (fun j hj => HGE.out j hj))
        have O7 := hideP ho
        clear ho hg ha
        refine hK.out _ _ (HQ.out _ B7.out) (fun hS => ?_)
        try simp only [sput]
        clear hK K
        refine tkS (i := 10) (v := .slice u7 R.length d7) rfl (by kernel_rfl) (by first | rfl | go_simp) (fun wx hx => by obtain ⟨⟨h0, h1, h2, h3, h4, h5, h6⟩, h7, h8⟩ := hx; go_simp) hS ?_
        try simp only [sput]
        refine wpAnyH_done (by kernel_rfl) ?_ _
        clear hS
        go_wp2
        go_ret
        exact ⟨u7, d7, rfl, O7.out, below_more B1.out B7.out B1.out.size⟩
    ·have hne : ((n : Int) != co) = true := by simpa using hnc
     have hR0 : R = [] := by rw [HR2.out, HW.out, decide_eq_false hnc]; rfl
     subst hR0
     go_enter Tryz.func24, Tryz.ntmps24
     go_wp2_with fail
     refine (HT.out _ (below1 _ _)).mono ?_
     rintro e w1 ⟨rfl, hb1⟩
     have B1 : Hid (Below w.heap.size w w1) := hideP (below_more (below1 _ _) hb1 (by simp))
     rw [World.size_alloc] at hb1
     have t6 : w1.cell? ⟨w.heap.size, 6, none⟩ = some (.slice ua m uc) := cell_of_row _ _ 6 _ 44 _ (BOX.out w1 hb1)
     have t0 : w1.cell? ⟨w.heap.size, 0, none⟩ = some (.int .i64 co) := cell_of_row _ _ 0 _ 44 _ (BOX.out w1 hb1)
     have hl1 := (Array.getElem?_eq_some_iff.1 (BOX.out w1 hb1)).1
     clear hb1
     go_wp2
     go_ret
     exact ⟨_, 0, rfl, own_mt B1.out.size (heap_alloc_new w1 _), B1.out.alloc B1.out.size _⟩
end Go.Proofs.YtojoehdmjkgnnaaGreat
