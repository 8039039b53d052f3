import Derived.Test.YtlohbaoigfaneaaGreatFlp
import Derived.Test.YtlohbaoigfaneaaGreatSln
namespace Go.Proofs.YtlohbaoigfaneaaGreat
open Go.RowKit
set_option linter.unusedVariables false
set_option linter.unusedSimpArgs false
theorem bl_ne {xs : List Nd} {S : Sy} (h : syB S = true ∧ listB xs = true ∧ (its xs).length ≤ 2000 ∧ (bl0 xs S).length ≤ 300) : blL xs S ≠ [] := by
 unfold blL
 rw [if_pos h]
 intro h0
 have hl : (rowI xs S).length = ((its xs).take (trm (its xs) (its xs).length)).length + 3 := by unfold rowI; simp
 have hg : (rowI xs S).getD ((rowI xs S).length - 1) It.none = (penN (-10000), 0, 0) := by
  rw [hl]
  unfold rowI
  rw [List.getD_eq_getElem?_getD, List.getElem?_append_right (by omega), show ((its xs).take (trm (its xs) (its xs).length)).length + 3 - 1 - ((its xs).take (trm (its xs) (its xs).length)).length = 2 by omega]
  rfl
 have hm : (((rowI xs S).length - 1 : Nat) : Int) ∈ bl0 xs S := by
  unfold bl0
  rw [List.mem_map]
  refine ⟨(rowI xs S).length - 1, List.mem_filter.2 ⟨List.mem_range.2 (by omega), ?_⟩, rfl⟩
  unfold trnB brkB
  rw [hg]
  rfl
 rw [h0] at hm
 simp at hm
theorem way_cells {W : World} {A : Nat} {tn ln hg cw dm : Int} {ah : Option Addr} (h : W.heap[A]? = some (wayO tn ah ln hg cw dm)) : W.cell? ⟨A, 0, none⟩ = some (.int .i64 tn) ∧ W.cell? ⟨A, 1, none⟩ = some (.pointer ah) ∧ W.cell? ⟨A, 2, none⟩ = some (.int .i64 ln) ∧ W.cell? ⟨A, 3, none⟩ = some (.int .i64 hg) ∧ W.cell? ⟨A, 4, none⟩ = some (.int .i64 cw) ∧ W.cell? ⟨A, 5, none⟩ = some (.int .i64 dm) :=
 ⟨by rw [cell_of_row _ _ _ _ _ _ h]; rfl, by rw [cell_of_row _ _ _ _ _ _ h]; rfl, by rw [cell_of_row _ _ _ _ _ _ h]; rfl, by rw [cell_of_row _ _ _ _ _ _ h]; rfl, by rw [cell_of_row _ _ _ _ _ _ h]; rfl, by rw [cell_of_row _ _ _ _ _ _ h]; rfl⟩
theorem way_set {W : World} {A : Nat} {tn ln hg cw dm tn' ln' hg' cw' dm' : Int} {ah ah' : Option Addr} (h : W.heap[A]? = some (wayO tn ah ln hg cw dm)) : ((((((W.setCell ⟨A, 0, none⟩ (.int .i64 tn')).setCell ⟨A, 1, none⟩ (.pointer ah')).setCell ⟨A, 2, none⟩ (.int .i64 ln')).setCell ⟨A, 3, none⟩ (.int .i64 hg')).setCell ⟨A, 4, none⟩ (.int .i64 cw')).setCell ⟨A, 5, none⟩ (.int .i64 dm')).heap[A]? = some (wayO tn' ah' ln' hg' cw' dm') :=
 heap_setCell_same _ _ 5 _ 77 _ (heap_setCell_same _ _ 4 _ 77 _ (heap_setCell_same _ _ 3 _ 77 _ (heap_setCell_same _ _ 2 _ 77 _ (heap_setCell_same _ _ 1 _ 77 _ (heap_setCell_same _ _ 0 _ 77 _ h)))))
theorem tgt_pick (S : Sy) (L : List Int) (k : Nat) : (if 0 < hgI S k then Shr.fillV (fB L S.nw) (fC L S.nw) else Shr.fillV (fB L S.wd) (fC L S.wd)) = Shr.fillV (fB L (tgtI S (k : Int))) (fC L (tgtI S (k : Int))) := by
 unfold tgtI
 by_cases h : (k : Int) < S.hg
 ·rw [if_pos ((hgI_pos k).2 h), if_pos h]
 ·rw [if_neg (fun q => h ((hgI_pos k).1 q)), if_neg h]
set_option maxRecDepth 20000 in
set_option maxHeartbeats 8000000 in
theorem implDem_any {v u : Value} {xs : List Nd} {bs : List Int} {w : World} (S : Sy) (h : NRow 0 w v xs) (hs : xs.length ≤ 1048576) (hcp : ∀ a n c, v = .slice a n c → n ≤ c ∧ c ≤ 9223372036854775807) (hNN : NN 0 w v xs) (hb : Row w u bs) (hbl : bs.length ≤ 1048576) :
 Calls Tryz.prog 11 #[v, syV S, u] w fun e w' => e = .returned (.tuple #[.int .i64 (demR S (rowI xs S) (blL xs S) bs).1, .bool (demR S (rowI xs S) (blL xs S) bs).2]) ∧ Below w.heap.size w w' := by
 have PC : Hid (∀ W, Below w.heap.size w W → Calls Tryz.prog 30 #[v, syV S] W (ParR xs S W)) := hideP (fun W hW => par_any S (SRow.below ndStable h hW) hs hcp (hNN.bel hW))
 have hsy : ∃ cs : Array Value, syV S = .agg cs ∧ cs.size = 23 := ⟨_, rfl, rfl⟩
 obtain ⟨cs, hcs, hsz⟩ := hsy
 rw [hcs] at PC ⊢
 obtain ⟨va, vn, vc, rfl, _⟩ := h
 obtain ⟨R, hR⟩ : ∃ R, R = demR S (rowI xs S) (blL xs S) bs := ⟨_, rfl⟩
 rw [← hR]
 have HR := hideP hR
 obtain ⟨ua, n, uc, rfl, hun, hur⟩ := hb
 have UR : Hid (0 < n → ∃ b off, ua = some ⟨b, off, none⟩ ∧ b < w.heap.size ∧ ∀ i, i < n → w.cell? ⟨b, off + i, none⟩ = some (.int .i64 (bs.getD i 0))) := hideP hur
 have UN := hideP hun
 have hn : n ≤ 1048576 := by omega
 clear hcs hs hcp hR hNN hun hur hbl
 have hG0 := heap_alloc_new w (.cells cs 35)
 have B0 := hideP (below1 w (.cells cs 35))
 go_enter Tryz.func11, Tryz.ntmps11
 go_upto_region 1 with fail
 generalize World.alloc _ _ = W0 at B0 hG0 ⊢
 go_wp2_with (refine wpList_load_row rfl 35 _ rfl w.heap.size rfl cs 35 (0, 0) hG0 _ Tryz.underlying35 rfl (by rw [hsz]; kernel_rfl) ?_)
 refine (PC.out W0 B0.out).mono ?_
 rintro e w1 ⟨⟨p, ok, rfl, hno, hyes⟩, hb1⟩
 have B1 : Hid (Below w.heap.size w w1) := hideP (below_more B0.out hb1 B0.out.size)
 clear hb1 hG0 PC
 cases ok with
 | false =>
  have HE : Hid (R = (0, false)) := hideP (by
   rw [HR.out]
   have h1 := hno rfl
   exact demR_pre (by rw [h1]; simp) (.inl h1))
  clear hno hyes
  go_wp2
  go_ret2
  exact ⟨by rw [HE.out]; rfl, B1.out⟩
 | true =>
  obtain ⟨PB, L, ts, nv, B, ic, sv, g, m, c, rfl, hPB, hPO⟩ := hyes rfl
  have HPO := hideP hPO
  have hm : m ≤ 5001 := by
   have h1 := congrArg List.length hPO.tf
   rw [List.length_map, hPO.tl, List.length_cons] at h1
   have h2 := bl_len5 xs S
   omega
  have hm0 : 0 < m := by
   have h1 := congrArg List.length hPO.tf
   rw [List.length_map, hPO.tl, List.length_cons] at h1
   omega
  obtain ⟨Y, hY⟩ : ∃ Y, Y = its L := ⟨_, rfl⟩
  obtain ⟨K, hK⟩ : ∃ K, K = blL xs S := ⟨_, rfl⟩
  have HRY : Hid (R = demR S Y K bs) := hideP (by rw [HR.out, hY, hK]; exact (demR_fst hPO.hd _ _).symm)
  have hf := hPO.tf
  have hl := hPO.tl
  have hsY : syB S = true := hPO.ok.2
  have hlB : listB xs = true := hPO.ok.1
  have hfst : Y.map Prod.fst = (rowI xs S).map Prod.fst := by rw [hY]; exact hPO.hd
  have hYl : Y.length ≤ 2003 := by rw [hY]; exact hPO.few
  have hPl := hPO.par.lt
  have hmc : m ≤ c := (ownG_cap hPO.trn).1
  have SRT : Hid (∀ p q, p < q → q < m → (ts.getD p Tn.none).1 < (ts.getD q Tn.none).1) := hideP (fun p q h1 h2 => ts_sorted hf p q h1 (by rw [hl]; exact h2))
  have T0 : Hid ((ts.getD 0 Tn.none).1 = -1) := hideP (by rw [ts_get hf (by omega)]; rfl)
  have TN : Hid (∀ (x : Int) W, Below w1.heap.size w1 W → Calls Tryz.prog 32 #[.pointer (some ⟨PB, 0, none⟩), .int .i64 x] W fun e w' => FndP ts m x e ∧ Below W.heap.size W w') := hideP (fun x W hW => turnNumbered_any x ((World.cell?_of_block (a := ⟨PB, 26, none⟩) (hW.block PB hPl)).trans hPO.par.c26) (ownG_below hPO.trn hW) hPO.tl hm SRT.out)
  have CF : Hid (∀ W, Below w1.heap.size w1 W → ∀ a n2 cp, a + n2 ≤ m → Calls Tryz.prog 33 #[.slice (some ⟨g, a * 4, none⟩) n2 cp, .func (.func 34) #[] #[]] W fun e w' => e = .returned (.bool (fcB ts a n2)) ∧ Below W.heap.size W w') := hideP (fun W hW a n2 cp ha => containsF_any a n2 (ownG_below hPO.trn hW) hl hm ha hm0)
  have FC : Hid (∀ W, Below w1.heap.size w1 W → ∀ i j, i < j → j < m → Calls Tryz.prog 36 #[.pointer (some ⟨PB, 0, none⟩), .int .i64 (i : Int), .int .i64 (j : Int)] W fun e w' => (∃ Z, Z = linH S Y ((ts.getD i Tn.none).1 + 1).toNat (ts.getD j Tn.none).1.toNat ∧ e = .returned (.agg #[.int .i64 (fB Z S.wd), .int .i64 (fC Z S.wd), .int .i64 (fB Z S.nw), .int .i64 (fC Z S.nw)])) ∧ Below W.heap.size W w') := hideP (fun W hW i j hij hj => by
   have hi1 := (turn_low (hPO.shw _ (tn_mem (show i < ts.length by omega)))).1
   have hj1 := turn_low (hPO.shw _ (tn_mem (show j < ts.length by omega)))
   have h1 := SRT.out i j hij hj
   rw [← hY] at hj1
   have hv := row_vin hlB hsY hfst
   obtain ⟨⟨s1, s2⟩, ⟨s3, s4⟩, _⟩ := sy_wd hsY
   have key := fills_any (w := W) i j (hPO.par.keep (hW.block PB hPl)) (ownG_below hPO.trn hW) hl hm (ys := Y) rfl (by omega) (by rw [hY]; exact ownG_below hPO.sms hW) hij hj (fun t ht => by rw [hY]; exact (hPO.shw t ht).keep (KeepH.below hW)) ((ts.getD i Tn.none).1 + 1).toNat (ts.getD j Tn.none).1.toNat (by omega) (by omega) (by omega) hsY (mea_in hsY hv (by omega) (by omega) (by omega) _ ⟨s1, s2⟩) (mea_in hsY hv (by omega) (by omega) (by omega) _ ⟨s3, s4⟩)
   exact key.mono fun e w' hh => ⟨⟨_, rfl, hh.1⟩, hh.2⟩)
  have LC : Hid (∀ W, Below w1.heap.size w1 W → ∀ i j, i < j → j < m → ∀ (A : Nat) (ah : Option Addr) (ln hg cw dm bd cl : Int), W.heap[A]? = some (wayO (i : Int) ah ln hg cw dm) → Calls Tryz.prog 35 #[.pointer (some ⟨PB, 0, none⟩), .pointer (some ⟨A, 0, none⟩), .int .i64 (j : Int), .agg #[.int .i64 bd, .int .i64 cl]] W fun e w' => e = .returned (wayV (j : Int) (some ⟨A, 0, none⟩) (wrap64 (ln + 1)) (mxZ (wrap64 (hg - 1))) cl (wrap64 (dm + demI S bd (prT S Y (ts.getD j Tn.none).1) (hyI Y (ts.getD i Tn.none).1 && hyI Y (ts.getD j Tn.none).1) cl cw))) ∧ Below W.heap.size W w') := hideP (fun W hW i j hij hj A ah ln hg cw dm bd cl hA => by
   have hT : ∀ t ∈ ts, TurnP S.hy Y t w1 := fun t ht => by rw [hY]; exact hPO.shw t ht
   have e1 := (turn_cost hf hl hT hj (by omega)).1
   have e2 := (turn_says (hT _ (tn_mem (show i < ts.length by omega)))).2
   have e3 := (turn_says (hT _ (tn_mem (show j < ts.length by omega)))).2
   have hj1 := turn_low (hT _ (tn_mem (show j < ts.length by omega)))
   have h1 := SRT.out i j hij hj
   have hi1 := (turn_low (hT _ (tn_mem (show i < ts.length by omega)))).1
   have hp := prT_low hlB hsY hfst (ts.getD j Tn.none).1 (by omega)
   rw [← e1, ← e2, ← e3]
   exact longer_any i j (hPO.par.keep (hW.block PB hPl)) (ownG_below hPO.trn hW) hl hm (by omega) hj ah ln hg cw dm bd cl hA (by rw [e1]; exact hp))
  have ST : Hid (∀ i j, i < j → j < m → okI S Y K (ts.getD i Tn.none).1 (ts.getD j Tn.none).1 = !(fcB ts (i + 1) (j - (i + 1)))) := hideP (fun i j h1 h2 => by rw [hK]; exact ok_is hf hl (fun t ht => by rw [hY]; exact hPO.shw t ht) h1 h2)
  have SL : Hid (∀ i j, i < m → j ≤ i → okI S Y K (ts.getD i Tn.none).1 (ts.getD j Tn.none).1 = false) := hideP (fun i j h1 h2 => by rw [hK]; exact ok_low hf hl h1 h2)
  have SN : Hid (∀ f t, (∀ p, p < m → (ts.getD p Tn.none).1 ≠ t) → okI S Y K f t = false) := hideP (fun f t h => by rw [hK]; exact ok_no hf hl h)
  have SE : Hid (∀ i, i < m → ((K ≠ [] ∧ (ts.getD i Tn.none).1 = K.getLastD 0) ↔ i = m - 1)) := hideP (fun i hi => by
   have h1 := congrArg List.length hf
   rw [List.length_map, hl, List.length_cons, ← hK] at h1
   constructor
   ·rintro ⟨hne, he⟩
    have hk := List.length_pos_iff.2 hne
    rw [last_get _ _ hne, ts_get hf (by omega)] at he
    by_cases hi2 : i = m - 1
    ·exact hi2
    ·exfalso
     have h3 := SRT.out i (m - 1) (by omega) (by omega)
     rw [ts_get hf (by omega), ts_get hf (by omega), he] at h3
     rw [show m - 1 = (K.length - 1) + 1 by omega, List.getD_cons_succ, ← hK] at h3
     omega
   ·intro he
    have hne : K ≠ [] := by rw [hK]; exact bl_ne hPO.cnd
    refine ⟨hne, ?_⟩
    have hk := List.length_pos_iff.2 hne
    rw [last_get _ _ hne, he, ts_get hf (by omega), show m - 1 = (K.length - 1) + 1 by omega, List.getD_cons_succ, ← hK])
  have c2 : w1.cell? ⟨PB, 2, none⟩ = some (.int .i64 S.hg) := hPO.par.sty 2 (by omega)
  have HG0 : Hid (hgI S 0 = S.hg) := hideP (hgI_zero hsY)
  have HGS : Hid (∀ i, mxZ (wrap64 (hgI S i - 1)) = hgI S (i + 1)) := hideP (hgI_succ hsY)
  have PBC : Hid (∀ W, Below w1.heap.size w1 W → W.cell? ⟨PB, 26, none⟩ = some (.slice (some ⟨g, 0, none⟩) m c)) := hideP (fun W hW => (World.cell?_of_block (a := ⟨PB, 26, none⟩) (hW.block PB hPl)).trans hPO.par.c26)
  clear hno hyes hPO hPB hf hfst hsY hlB hYl hY hK
  go_wp2_with fail
  refine (beginning_any S.hg PB w1 c2).mono ?_
  rintro e w2 ⟨rfl, hb2⟩
  have B2 : Hid (Below w1.heap.size w1 w2) := hideP hb2
  clear hb2 c2
  obtain ⟨AB, hAB⟩ : ∃ A, A = w2.heap.size := ⟨_, rfl⟩
  have hAB1 : w1.heap.size ≤ AB := by rw [hAB]; exact B2.out.size
  have HAB := hideP hAB
  have W3 : Hid ((w2.alloc (wayO 0 none 0 S.hg 2 0)).heap[AB]? = some (wayO 0 none 0 S.hg 2 0)) := hideP (by rw [hAB]; exact heap_alloc_new w2 _)
  have B3 : Hid (Below w1.heap.size w1 (w2.alloc (wayO 0 none 0 S.hg 2 0))) := hideP (B2.out.alloc B2.out.size _)
  go_upto_region 5 with fail
  rw [← hAB]
  clear hAB
  obtain ⟨W4, hW4⟩ : ∃ W, W = w2.alloc (wayO 0 none 0 S.hg 2 0) := ⟨_, rfl⟩
  rw [← hW4] at W3 B3
  simp only [wayO] at hW4
  rw [← hW4]
  clear hW4
  go_wp2_with fail
  go_loopw [28] (fun s wr => ∃ (k tn : Nat) (ah : Option Addr) (ln cw dm : Int), k ≤ n ∧ s = .int .i64 (k : Int) ∧ tn < m ∧ Hid (demL S Y K bs (-1) 0 2 0 = demL S Y K (bs.drop k) (ts.getD tn Tn.none).1 k cw dm) ∧ Hid (wr.heap[AB]? = some (wayO (tn : Int) ah ln (hgI S k) cw dm)) ∧ Hid (Below w1.heap.size w1 wr)) (fun s _ => n - (intOf s).toNat)
  case atStart => exact ⟨0, 0, none, 0, 2, 0, by omega, rfl, hm0, hideP (by rw [T0.out, List.drop_zero]), hideP (by rw [HG0.out]; exact W3.out), B3⟩
  case round =>
   obtain ⟨k, tn, ah, ln, cw, dm, hk, rfl, htn, HD, HW, HB⟩ := hrel
   have hABl : AB < wr.heap.size := (Array.getElem?_eq_some_iff.1 HW.out).1
   have BW : Hid (Below w.heap.size w wr) := hideP (below_more B1.out HB.out B1.out.size)
   by_cases hkn : k < n
   ·have hki : (k : Int) < (n : Int) := by omega
    obtain ⟨b, off, rfl, hb, hc⟩ := UR.out (by omega)
    have hbw : b < w1.heap.size := Nat.lt_of_lt_of_le hb B1.out.size
    obtain ⟨x, hx⟩ : ∃ x, x = bs.getD k 0 := ⟨_, rfl⟩
    have hcell : wr.cell? ⟨b, off + k, none⟩ = some (.int .i64 x) := by rw [hx]; exact (BW.out.cell (p := ⟨b, off + k, none⟩) hb).trans (hc k hkn)
    have HDK : Hid (bs.drop k = x :: bs.drop (k + 1)) := hideP (by rw [hx]; exact drop_get (by rw [UN.out]; exact hkn))
    clear hx hc
    go_wp2_with fail
    refine (TN.out x wr HB.out).mono ?_
    rintro e w5 ⟨⟨k2, ok2, rfl, hy2, hn2⟩, hb5⟩
    have B5 : Hid (Below w1.heap.size w1 w5) := hideP (below_more HB.out hb5 HB.out.size)
    have BW5 : Hid (Below w.heap.size w w5) := hideP (below_more B1.out B5.out B1.out.size)
    have W5 : Hid (w5.heap[AB]? = some (wayO (tn : Int) ah ln (hgI S k) cw dm)) := hideP ((hb5.block AB hABl).trans HW.out)
    have HY2 := hideP hy2
    have HN2 := hideP hn2
    clear hb5 hy2 hn2 hcell HW HB BW hABl
    cases ok2 with
    | false =>
     have HE : Hid (R = (0, false)) := hideP (by rw [HRY.out, demR_none (by rw [HD.out, HDK.out]; exact demL_no (SN.out _ _ (HN2.out rfl)))])
     clear HY2 HN2 HD HDK
     go_upto_region 9 with fail
     go_region
     go_wp2
     go_ret2
     exact ⟨by rw [HE.out]; rfl, Below.drew BW5.out⟩
    | true =>
     obtain ⟨hk2m, hk2x⟩ := HY2.out rfl
     subst hk2x
     obtain ⟨q0, q1, q2, q3, q4, q5⟩ := way_cells W5.out
     have hABl5 : AB < w5.heap.size := (Array.getElem?_eq_some_iff.1 W5.out).1
     clear HY2 HN2
     by_cases hlt : tn < k2
     ·have hle : ¬ (k2 : Int) ≤ (tn : Int) := by omega
      have hleb : decide ((k2 : Int) ≤ (tn : Int)) = false := decide_eq_false hle
      have hleN : decide (k2 ≤ tn) = false := decide_eq_false (by omega)
      have hleM : ¬ k2 ≤ tn := by omega
      have t26 := PBC.out w5 B5.out
      have hPl5 : PB < w5.heap.size := World.block_lt_of_cell? w5 _ t26
      obtain ⟨t1, ht1⟩ : ∃ t1, t1 = tn + 1 := ⟨_, rfl⟩
      obtain ⟨d, hd⟩ : ∃ d, d = k2 - t1 := ⟨_, rfl⟩
      have hk2c : (k2 : Int) ≤ (c : Int) := by have := hmc; omega
      have htk : (t1 : Int) ≤ (k2 : Int) := by omega
      have htd : t1 + d ≤ m := by omega
      have htd2 : k2 - t1 = d := hd.symm
      have CF5 : Hid (∀ W, Below w1.heap.size w1 W → ∀ cp, Calls Tryz.prog 33 #[.slice (some ⟨g, t1 * 4, none⟩) d cp, .func (.func 34) #[] #[]] W fun e w' => e = .returned (.bool (fcB ts t1 d)) ∧ Below W.heap.size W w') := hideP (fun W hW cp => CF.out W hW t1 d cp htd)
      have hct : ¬ c = t1 := by omega
      have hT1w : IntKind.i64.wrap ((tn : Int) + 1) = (t1 : Int) := by rw [IntKind.wrap_i64]; omega
      have HT1 := hideP ht1
      have HDd := hideP hd
      clear hd ht1
      go_upto_region 9 with fail
      go_cut [57] (fun s57 wc => s57 = .bool (fcB ts t1 d) ∧ Hid (Below w5.heap.size w5 wc))
      case first =>
       obtain ⟨SS, hSS⟩ : ∃ SS : World → Prop, SS = (fun x : World => x.cell? ⟨PB, 26, none⟩ = some (.slice (some ⟨g, 0, none⟩) m c) ∧ x.cell? ⟨AB, 0, none⟩ = some (.int .i64 (tn : Int))) := ⟨_, rfl⟩
       have S26 : ∀ x, SS x → x.cell? ⟨PB, 26, none⟩ = some (.slice (some ⟨g, 0, none⟩) m c) := fun x hx => by rw [hSS] at hx; exact hx.1
       have S0 : ∀ x, SS x → x.cell? ⟨AB, 0, none⟩ = some (.int .i64 (tn : Int)) := fun x hx => by rw [hSS] at hx; exact hx.2
       have hS : SS w5.drew := by rw [hSS]; exact ⟨t26, q0⟩
       have SB : ∀ X, Below w5.drew.heap.size w5.drew X → SS X := fun X hX => by rw [hSS]; exact ⟨(hX.cell (p := ⟨PB, 26, none⟩) hPl5).trans t26, (hX.cell (p := ⟨AB, 0, none⟩) hABl5).trans q0⟩
       clear hSS
       refine wp_noPanic ?_
       refine wp_region_held_drew (S := SS) (by kernel_rfl) hS (fun hS => ?_)
       refine tkS (i := 0) (v := .bool true) rfl hS ?_
       try simp only [Act.put, List.getElem_toArray, List.getElem_cons_zero, List.getElem_cons_succ, List.setIfInBounds_toArray, List.set_cons_zero, List.set_cons_succ]
       refine tkS (i := 1) (v := .bool false) rfl hS ?_
       try simp only [Act.put, List.getElem_toArray, List.getElem_cons_zero, List.getElem_cons_succ, List.setIfInBounds_toArray, List.set_cons_zero, List.set_cons_succ]
       refine tkS (i := 2) (v := .bool false) rfl hS ?_
       try simp only [Act.put, List.getElem_toArray, List.getElem_cons_zero, List.getElem_cons_succ, List.setIfInBounds_toArray, List.set_cons_zero, List.set_cons_succ]
       refine tkS (i := 3) (v := .int .i64 (k2 : Int)) rfl hS ?_
       try simp only [Act.put, List.getElem_toArray, List.getElem_cons_zero, List.getElem_cons_succ, List.setIfInBounds_toArray, List.set_cons_zero, List.set_cons_succ]
       refine tkS (i := 4) (v := .pointer (some ⟨AB, 0, none⟩)) rfl hS ?_
       try simp only [Act.put, List.getElem_toArray, List.getElem_cons_zero, List.getElem_cons_succ, List.setIfInBounds_toArray, List.set_cons_zero, List.set_cons_succ]
       refine tkS (i := 5) (v := .int .i64 (tn : Int)) rfl hS ?_ (hr := fun wx hx => by have hx0 := S0 wx hx; go_simp)
       try simp only [Act.put, List.getElem_toArray, List.getElem_cons_zero, List.getElem_cons_succ, List.setIfInBounds_toArray, List.set_cons_zero, List.set_cons_succ]
       refine tkS (i := 6) (v := .bool false) rfl hS ?_
       try simp only [Act.put, List.getElem_toArray, List.getElem_cons_zero, List.getElem_cons_succ, List.setIfInBounds_toArray, List.set_cons_zero, List.set_cons_succ]
       refine tkS (i := 7) (v := .bool false) rfl hS ?_
       try simp only [Act.put, List.getElem_toArray, List.getElem_cons_zero, List.getElem_cons_succ, List.setIfInBounds_toArray, List.set_cons_zero, List.set_cons_succ]
       refine tkS (i := 8) (v := .bool false) rfl hS ?_
       try simp only [Act.put, List.getElem_toArray, List.getElem_cons_zero, List.getElem_cons_succ, List.setIfInBounds_toArray, List.set_cons_zero, List.set_cons_succ]
       refine tkS (i := 9) (v := .pointer (some ⟨PB, 0, none⟩)) rfl hS ?_
       try simp only [Act.put, List.getElem_toArray, List.getElem_cons_zero, List.getElem_cons_succ, List.setIfInBounds_toArray, List.set_cons_zero, List.set_cons_succ]
       refine tkS (i := 10) (v := .pointer (some ⟨PB, 0, none⟩)) rfl hS ?_
       try simp only [Act.put, List.getElem_toArray, List.getElem_cons_zero, List.getElem_cons_succ, List.setIfInBounds_toArray, List.set_cons_zero, List.set_cons_succ]
       refine tkS (i := 11) (v := .pointer (some ⟨PB, 26, none⟩)) rfl hS ?_
       try simp only [Act.put, List.getElem_toArray, List.getElem_cons_zero, List.getElem_cons_succ, List.setIfInBounds_toArray, List.set_cons_zero, List.set_cons_succ]
       refine tkS (i := 12) (v := .slice (some ⟨g, 0, none⟩) m c) rfl hS ?_ (hr := fun wx hx => by have hx0 := S26 wx hx; go_simp)
       try simp only [Act.put, List.getElem_toArray, List.getElem_cons_zero, List.getElem_cons_succ, List.setIfInBounds_toArray, List.set_cons_zero, List.set_cons_succ]
       refine tkS (i := 13) (v := .pointer (some ⟨AB, 0, none⟩)) rfl hS ?_
       try simp only [Act.put, List.getElem_toArray, List.getElem_cons_zero, List.getElem_cons_succ, List.setIfInBounds_toArray, List.set_cons_zero, List.set_cons_succ]
       refine tkS (i := 14) (v := .int .i64 (tn : Int)) rfl hS ?_ (hr := fun wx hx => by have hx0 := S0 wx hx; go_simp)
       try simp only [Act.put, List.getElem_toArray, List.getElem_cons_zero, List.getElem_cons_succ, List.setIfInBounds_toArray, List.set_cons_zero, List.set_cons_succ]
       refine tkS (i := 15) (v := .int .i64 (t1 : Int)) rfl hS ?_
       try simp only [Act.put, List.getElem_toArray, List.getElem_cons_zero, List.getElem_cons_succ, List.setIfInBounds_toArray, List.set_cons_zero, List.set_cons_succ]
       refine tkS (i := 16) (v := .int .i64 (k2 : Int)) rfl hS ?_
       try simp only [Act.put, List.getElem_toArray, List.getElem_cons_zero, List.getElem_cons_succ, List.setIfInBounds_toArray, List.set_cons_zero, List.set_cons_succ]
       refine tkS (i := 17) (v := .slice (some ⟨g, t1 * 4, none⟩) d (c - t1)) rfl hS ?_
       try simp only [Act.put, List.getElem_toArray, List.getElem_cons_zero, List.getElem_cons_succ, List.setIfInBounds_toArray, List.set_cons_zero, List.set_cons_succ]
       refine rdS (i := 18) rfl (fun K hK => ?_)
       go_simp
       go_at_call 33
       refine (CF5.out _ (show Below w1.heap.size w1 w5.drew from Below.drew B5.out) _).mono ?_
       rintro e w6 ⟨rfl, hb6⟩
       have hS6 : SS w6 := SB w6 hb6
       refine hK.out _ _ hS6 (fun _ => ?_)
       try simp only [Act.put, List.getElem_toArray, List.getElem_cons_zero, List.getElem_cons_succ, List.setIfInBounds_toArray, List.set_cons_zero, List.set_cons_succ]
       clear hK K
       refine tkS (i := 19) (v := .bool (fcB ts t1 d)) rfl hS6 ?_
       try simp only [Act.put, List.getElem_toArray, List.getElem_cons_zero, List.getElem_cons_succ, List.setIfInBounds_toArray, List.set_cons_zero, List.set_cons_succ]
       refine wpAnyH_done (by kernel_rfl) ?_ _
       go_wp2_with fail
       go_meet
       case rel => exact ⟨rfl, hideP (show Below w5.heap.size w5 w6 from (below_more (Below.drew (Below.refl _ w5)) hb6 (Nat.le_refl _)))⟩
      case rest =>
       obtain ⟨rfl, HBC⟩ := hcut
       have HST : Hid (okI S Y K (ts.getD tn Tn.none).1 (ts.getD k2 Tn.none).1 = !(fcB ts t1 d)) := hideP (by have h9 := ST.out tn k2 hlt hk2m; rw [HDd.out, HT1.out]; exact h9)
       obtain ⟨fb, hfb⟩ : ∃ fb, fb = fcB ts t1 d := ⟨_, rfl⟩
       rw [← hfb] at HST ⊢
       have BW6 : Hid (Below w.heap.size w wc) := hideP (below_more BW5.out HBC.out BW5.out.size)
       clear hfb CF5 hT1w hct htd htd2 htk hk2c t26 q0 q1 q2 q3 q4 q5
       cases fb with
       | true =>
        have HE : Hid (R = (0, false)) := hideP (by rw [HRY.out, demR_none (by rw [HD.out, HDK.out]; exact demL_no HST.out)])
        clear HD HDK HST
        go_wp2
        go_ret2
        exact ⟨by rw [HE.out]; rfl, BW6.out⟩
       | false =>
        obtain ⟨f, hff⟩ : ∃ f, f = (ts.getD tn Tn.none).1 := ⟨_, rfl⟩
        obtain ⟨t, htt⟩ : ∃ t, t = (ts.getD k2 Tn.none).1 := ⟨_, rfl⟩
        have HDN : Hid (demL S Y K bs (-1) 0 2 0 = demL S Y K (bs.drop (k + 1)) t (k + 1) (lcI S Y f t k) (nxD S Y f t k cw dm)) := hideP (by rw [HD.out, HDK.out, demL_ok HST.out, hff, htt])
        have B6 : Hid (Below w1.heap.size w1 wc) := hideP (below_more B5.out HBC.out B5.out.size)
        have W6 : Hid (wc.heap[AB]? = some (wayO (tn : Int) ah ln (hgI S k) cw dm)) := hideP ((HBC.out.block AB hABl5).trans W5.out)
        obtain ⟨q0, q1, q2, q3, q4, q5⟩ := way_cells W6.out
        have hABl6 : AB < wc.heap.size := (Array.getElem?_eq_some_iff.1 W6.out).1
        have HFF := hideP hff
        have HTT := hideP htt
        obtain ⟨DB, hDB⟩ : ∃ D, D = wc.heap.size := ⟨_, rfl⟩
        obtain ⟨W7, hW7⟩ : ∃ X, X = wc.alloc (wayO (tn : Int) ah ln (hgI S k) cw dm) := ⟨_, rfl⟩
        have D7 : Hid (W7.heap[DB]? = some (wayO (tn : Int) ah ln (hgI S k) cw dm)) := hideP (by rw [hDB, hW7]; exact heap_alloc_new wc _)
        have B7 : Hid (Below w1.heap.size w1 W7) := hideP (by rw [hW7]; exact B6.out.alloc B6.out.size _)
        have A7 : Hid (W7.heap[AB]? = some (wayO (tn : Int) ah ln (hgI S k) cw dm)) := hideP (by rw [hW7]; exact (Below.heap_alloc _ _ _ hABl6).trans W6.out)
        have hADB : AB ≠ DB := by omega
        simp only [wayO] at hW7
        clear hff htt HST HD HDK W5 B5 W6
        go_upto_region 12 with fail
        rw [← hW7, ← hDB]
        clear hW7 hDB q0 q1 q2 q3 q4 q5
        obtain ⟨q0, q1, q2, q3, q4, q5⟩ := way_cells D7.out
        have hDBl7 : DB < W7.heap.size := (Array.getElem?_eq_some_iff.1 D7.out).1
        have hABl7 : AB < W7.heap.size := (Array.getElem?_eq_some_iff.1 A7.out).1
        go_wp2_with fail
        refine (FC.out W7 B7.out tn k2 hlt hk2m).mono ?_
        rintro e w8 ⟨⟨Z, hZ, rfl⟩, hb8⟩
        have B8 : Hid (Below w1.heap.size w1 w8) := hideP (below_more B7.out hb8 B7.out.size)
        have D8 : Hid (w8.heap[DB]? = some (wayO (tn : Int) ah ln (hgI S k) cw dm)) := hideP ((hb8.block DB hDBl7).trans D7.out)
        have A8 : Hid (w8.heap[AB]? = some (wayO (tn : Int) ah ln (hgI S k) cw dm)) := hideP ((hb8.block AB hABl7).trans A7.out)
        have HZ : Hid (Z = linH S Y (f + 1).toNat t.toNat) := hideP (by rw [HFF.out, HTT.out]; exact hZ)
        clear hb8 hZ q0 q1 q2 q3 q4 q5 D7 A7 hDBl7 hABl7
        obtain ⟨q0, q1, q2, q3, q4, q5⟩ := way_cells D8.out
        have hDBl8 : DB < w8.heap.size := (Array.getElem?_eq_some_iff.1 D8.out).1
        have hABl8 : AB < w8.heap.size := (Array.getElem?_eq_some_iff.1 A8.out).1
        go_wp2_with fail
        refine (behind_any _ _ _ _ (hgI S k) ⟨DB, 0, none⟩ DB w8 rfl q3).mono ?_
        rintro e w9 ⟨hre, hb9⟩
        rw [tgt_pick] at hre
        obtain ⟨bd, hbd⟩ : ∃ x, x = fB Z (tgtI S (k : Int)) := ⟨_, rfl⟩
        obtain ⟨cl, hcl⟩ : ∃ x, x = fC Z (tgtI S (k : Int)) := ⟨_, rfl⟩
        rw [← hbd, ← hcl] at hre
        subst hre
        have HBD : Hid (bd = lbI S Y f t k) := hideP (by rw [hbd, HZ.out]; rfl)
        have HCL : Hid (cl = lcI S Y f t k) := hideP (by rw [hcl, HZ.out]; rfl)
        have B9 : Hid (Below w1.heap.size w1 w9) := hideP (below_more B8.out hb9 B8.out.size)
        have D9 : Hid (w9.heap[DB]? = some (wayO (tn : Int) ah ln (hgI S k) cw dm)) := hideP ((hb9.block DB hDBl8).trans D8.out)
        have A9 : Hid (w9.heap[AB]? = some (wayO (tn : Int) ah ln (hgI S k) cw dm)) := hideP ((hb9.block AB hABl8).trans A8.out)
        have hABl9 : AB < w9.heap.size := (Array.getElem?_eq_some_iff.1 A9.out).1
        clear hb9 hbd hcl q0 q1 q2 q3 q4 q5 D8 A8 hDBl8 hABl8
        simp only [Shr.fillV]
        go_wp2_with fail
        refine (LC.out w9 B9.out tn k2 hlt hk2m DB ah ln (hgI S k) cw dm bd cl D9.out).mono ?_
        rintro e w10 ⟨rfl, hb10⟩
        have B10 : Hid (Below w1.heap.size w1 w10) := hideP (below_more B9.out hb10 B9.out.size)
        have A10 : Hid (w10.heap[AB]? = some (wayO (tn : Int) ah ln (hgI S k) cw dm)) := hideP ((hb10.block AB hABl9).trans A9.out)
        have hABl10 : AB < w10.heap.size := (Array.getElem?_eq_some_iff.1 A10.out).1
        obtain ⟨dn, hdn⟩ : ∃ x, x = wrap64 (dm + demI S bd (prT S Y (ts.getD k2 Tn.none).1) (hyI Y (ts.getD tn Tn.none).1 && hyI Y (ts.getD k2 Tn.none).1) cl cw) := ⟨_, rfl⟩
        rw [← hdn]
        have HDN2 : Hid (dn = nxD S Y f t k cw dm) := hideP (by rw [hdn, HBD.out, HCL.out, ← HFF.out, ← HTT.out]; rfl)
        obtain ⟨ln2, hln2⟩ : ∃ x, x = wrap64 (ln + 1) := ⟨_, rfl⟩
        obtain ⟨hg2, hhg2⟩ : ∃ x, x = mxZ (wrap64 (hgI S k - 1)) := ⟨_, rfl⟩
        rw [← hln2, ← hhg2]
        have HHG2 : Hid (hg2 = hgI S (k + 1)) := hideP (by rw [hhg2]; exact HGS.out k)
        clear hb10 hdn hln2 hhg2 D9 A9 hABl9
        obtain ⟨q0, q1, q2, q3, q4, q5⟩ := way_cells A10.out
        have fz : ∀ j, w10.frozen? ⟨AB, j, none⟩ = false := fun j => frozen_of_row _ _ j _ 77 A10.out
        simp only [wayV]
        go_upto_region 13 with fail
        obtain ⟨X, hX⟩ : ∃ X, X = ((((((w10.setCell ⟨AB, 0, none⟩ (.int .i64 (k2 : Int))).setCell ⟨AB, 1, none⟩ (.pointer (some ⟨DB, 0, none⟩))).setCell ⟨AB, 2, none⟩ (.int .i64 ln2)).setCell ⟨AB, 3, none⟩ (.int .i64 hg2)).setCell ⟨AB, 4, none⟩ (.int .i64 cl)).setCell ⟨AB, 5, none⟩ (.int .i64 dn)) := ⟨_, rfl⟩
        have AX : Hid (X.heap[AB]? = some (wayO (k2 : Int) (some ⟨DB, 0, none⟩) ln2 (hgI S (k + 1)) cl dn)) := hideP (by rw [hX, ← HHG2.out]; exact way_set A10.out)
        have BX : Hid (Below w1.heap.size w1 X) := hideP (by rw [hX]; exact (((((B10.out.setCell hAB1 _).setCell hAB1 _).setCell hAB1 _).setCell hAB1 _).setCell hAB1 _).setCell hAB1 _)
        rw [← hX]
        clear hX q0 q1 q2 q3 q4 q5 fz
        go_wp2_with fail
        go_roundw
        case rel => exact ⟨k + 1, k2, some ⟨DB, 0, none⟩, ln2, cl, dn, by omega, by go_num, hk2m, hideP (by rw [HDN.out, ← HCL.out, ← HDN2.out, HTT.out]), AX, BX⟩
        case measure => simp [intOf]; omega
     ·have hle : (k2 : Int) ≤ (tn : Int) := by omega
      have hleb : decide ((k2 : Int) ≤ (tn : Int)) = true := decide_eq_true hle
      have HE : Hid (R = (0, false)) := hideP (by rw [HRY.out, demR_none (by rw [HD.out, HDK.out]; exact demL_no (SL.out _ _ htn (by omega)))])
      clear HD HDK
      go_upto_region 9 with fail
      go_region
      go_wp2
      go_ret2
      exact ⟨by rw [HE.out]; rfl, Below.drew BW5.out⟩
   ·obtain rfl : k = n := by omega
    have HDF : Hid (demL S Y K bs (-1) 0 2 0 = some ((ts.getD tn Tn.none).1, dm)) := hideP (by rw [HD.out, List.drop_eq_nil_of_le (by rw [UN.out]; exact Nat.le_refl _)]; rfl)
    have hki : ¬ (k : Int) < (k : Int) := by omega
    obtain ⟨q0, q1, q2, q3, q4, q5⟩ := way_cells HW.out
    have t26 := PBC.out wr HB.out
    have hPl2 : PB < wr.heap.size := World.block_lt_of_cell? wr _ t26
    have hlen : (m : Int) ≥ 1 := by omega
    have hm1 : IntKind.i64.wrap ((m : Int) - 1) = ((m - 1 : Nat) : Int) := by rw [IntKind.wrap_i64]; omega
    by_cases he : tn = m - 1
    ·have HE : Hid (R = (dm, true)) := hideP (by rw [HRY.out, demR_some HDF.out, if_pos ((SE.out tn htn).2 he)])
     have hei : (((tn : Int)) != ((m - 1 : Nat) : Int)) = false := by simp [he]
     obtain ⟨m1, hmm⟩ : ∃ m1, m1 = m - 1 := ⟨_, rfl⟩
     rw [← hmm] at hm1 hei he
     subst he
     clear hmm hei HD HDF
     go_upto_region 14 with fail
     go_region
     go_wp2
     go_ret2
     exact ⟨by rw [HE.out]; rfl, Below.drew BW.out⟩
    ·have HE : Hid (R = (0, false)) := hideP (by rw [HRY.out, demR_some HDF.out, if_neg (fun q => he ((SE.out tn htn).1 q))])
     obtain ⟨m1, hmm⟩ : ∃ m1, m1 = m - 1 := ⟨_, rfl⟩
     rw [← hmm] at hm1 he
     have hei : (((tn : Int)) != ((m1 : Nat) : Int)) = true := by simp; omega
     have hei2 : (((tn : Int)) == ((m1 : Nat) : Int)) = false := by simp; omega
     have hei3 : ¬ (tn : Int) = (m1 : Int) := by omega
     clear hmm HD HDF
     go_upto_region 14 with fail
     go_region
     go_wp2
     go_ret2
     exact ⟨by rw [HE.out]; rfl, Below.drew BW.out⟩
end Go.Proofs.YtlohbaoigfaneaaGreat
