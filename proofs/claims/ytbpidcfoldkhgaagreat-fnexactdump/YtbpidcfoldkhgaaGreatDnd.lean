import Derived.Test.YtbpidcfoldkhgaaGreatDnb
namespace Go.Proofs.YtbpidcfoldkhgaaGreat
open Go.RowKit
set_option linter.unusedVariables false
set_option linter.unusedSimpArgs false
theorem take_flat {α : Type} {f : α → List Int} {ts : List α} {k : Nat} (d : α) (hk : k < ts.length) : (ts.take (k + 1)).flatMap f = (ts.take k).flatMap f ++ f (ts.getD k d) := by
 rw [List.take_add_one, List.flatMap_append, List.getElem?_eq_getElem hk]
 simp [List.getD_eq_getElem?_getD, List.getElem?_eq_getElem hk]
theorem flat_le {α : Type} {f : α → List Int} {ts : List α} {k : Nat} (d : α) (hk : k < ts.length) : ((ts.take k).flatMap f).length + (f (ts.getD k d)).length ≤ (ts.flatMap f).length := by
 have h1 := take_flat (f := f) d hk
 have h2 : ts.flatMap f = (ts.take (k + 1)).flatMap f ++ (ts.drop (k + 1)).flatMap f := by rw [← List.flatMap_append, List.take_append_drop]
 rw [h2, h1, List.length_append, List.length_append]
 omega
theorem getD_in {α : Type} {ts : List α} {k : Nat} (d : α) (hk : k < ts.length) : ts.getD k d ∈ ts := by
 rw [List.getD_eq_getElem?_getD, List.getElem?_eq_getElem hk]
 exact List.getElem_mem hk
def TkD (t : Tk) : Prop := (0 ≤ t.c ∧ t.c < 256) ∧ (t.c ≠ 0 → 0 ≤ t.h ∧ t.h < 256)
set_option maxRecDepth 20000 in
set_option maxHeartbeats 4000000 in
theorem l16Row_any {W w0 : World} {base : Nat} {ts : List Tk} {tv v : Value} {zs : List Int} (h : BO base W v zs) (hb : base ≤ W.heap.size) (hT : TRow w0 tv ts) (h0 : Below w0.heap.size w0 W) (hs : w0.heap.size ≤ base) (hn : ts.length ≤ 1048576) (hk : ∀ t ∈ ts, TkD t) (hl : zs.length + (rwB ts).length ≤ 70368744177664) :
 Calls Tryz.prog 22 #[v, tv] W fun e W' => PutQ base v W (zs ++ rwB ts) e W' := by
 obtain ⟨ta, m, tc, rfl, hm, hr⟩ := hT
 have hl2 : zs.length + ((numB m).length + (ts.flatMap tkB).length) ≤ 70368744177664 := by
  unfold rwB at hl
  rw [List.length_append, hm] at hl
  exact hl
 have NC := hideP (l15Num_any (n := m) h hb (by omega) (by omega))
 have TC : Hid (∀ k, k < m → ∀ v' w', BO base w' v' (zs ++ numB m ++ (ts.take k).flatMap tkB) → base ≤ w'.heap.size → Calls Tryz.prog 33 #[v', (ts.getD k Tk.none).v] w' fun e W' => PutQ base v' w' (zs ++ numB m ++ (ts.take (k + 1)).flatMap tkB) e W') := hideP (fun k hkm v' w' h1 h2 => by
  have hkl : k < ts.length := by omega
  have hd := hk _ (getD_in Tk.none hkl)
  have hle := flat_le (f := tkB) Tk.none hkl
  rw [take_flat Tk.none hkl, ← List.append_assoc]
  exact l16Token_any h1 h2 hd.1 hd.2 (by rw [List.length_append, List.length_append]; omega))
 have HR := hideP hr
 have HO := hideP h
 have H0 := hideP h0
 have HM := hideP hm
 have hm2 : m ≤ 1048576 := by omega
 have HS := hideP hs
 obtain ⟨ao, n, cap, rfl⟩ := BO.shp h
 clear h hl hr h0 hk hl2 hn hm hs
 go_enter Tryz.func22, Tryz.ntmps22
 go_wp2_with fail
 refine NC.out.mono ?_
 rintro e w1 ⟨v1, rfl, ho1, hb1⟩
 have O1 := hideP ho1
 have B1 := hideP hb1
 clear ho1 hb1 NC
 go_wp2
 go_loopw [0, 5] (fun s0 s5 wr => ∃ k : Nat, s5 = .int .i64 (k : Int) ∧ k ≤ m ∧ BO base wr s0 (zs ++ numB m ++ (ts.take k).flatMap tkB) ∧ GO (.slice ao n cap) W s0 wr) (fun _ s _ => m - (intOf s).toNat)
 case atStart => exact ⟨0, rfl, by omega, by rw [List.take_zero, List.flatMap_nil, List.append_nil]; exact O1.out, B1.out⟩
 case round =>
  obtain ⟨k, rfl, hkm, ho, hg⟩ := hrel
  by_cases hkn : k < m
  ·have hki : (k : Int) < (m : Int) := by omega
   obtain ⟨b, off, rfl, hbl, hc⟩ := HR.out (by omega)
   obtain ⟨c0, c1, c2⟩ := hc k hkn
   have bw : Below w0.heap.size w0 wr := H0.out.trans ((hg.below HO.out hb).mono HS.out)
   have g0 := (bw.cell (p := ⟨b, off + k * 3, none⟩) hbl).trans c0
   have g1 := (bw.cell (p := ⟨b, off + k * 3 + 1, none⟩) hbl).trans c1
   have g2 := (bw.cell (p := ⟨b, off + k * 3 + 2, none⟩) hbl).trans c2
   have TK := hideP (TC.out k hkn _ wr ho (Nat.le_trans hb hg.size))
   obtain ⟨t, ht⟩ : ∃ t, t = ts.getD k Tk.none := ⟨_, rfl⟩
   rw [← ht] at g0 g1 g2 TK
   have HG := hideP hg
   obtain ⟨a1, n1, p1, rfl⟩ := BO.shp ho
   clear ho hg bw hc c0 c1 c2 ht
   obtain ⟨tc', th', ts'⟩ := t
   simp only at g0 g1 g2
   go_wp2_with fail
   refine TK.out.mono ?_
   rintro e w2 ⟨v2, rfl, ho2, hb2⟩
   have O2 := hideP ho2
   have B2 := hideP (HG.out.trans hb2)
   clear ho2 hb2
   go_wp2
   go_roundw
   case rel => exact ⟨k + 1, by simp, by omega, O2.out, B2.out⟩
   case measure => simp [intOf]; omega
  ·obtain rfl : k = m := by omega
   have hki : ¬ (k : Int) < (k : Int) := by omega
   have O2 := hideP ho
   have B2 := hideP hg
   clear ho hg
   go_wp2
   go_ret
   refine ⟨_, rfl, ?_, B2.out⟩
   have h := O2.out
   rw [List.take_of_length_le (by rw [HM.out]; exact Nat.le_refl _), List.append_assoc] at h
   unfold rwB
   rw [HM.out]
   exact h
def MnD (m : Mn) : Prop := (m.k = 1 ∧ 0 ≤ m.n ∧ m.n ≤ 1152921504606846976) ∨ (m.k = 2 ∧ TkD m.t) ∨ (m.k = 3 ∧ (0 ≤ m.sl ∧ m.sl ≤ 1152921504606846976) ∧ (m.p.length ≤ 1048576 ∧ m.b.length ≤ 1048576) ∧ (∀ t ∈ m.p, TkD t) ∧ ∀ t ∈ m.b, TkD t)
set_option maxRecDepth 20000 in
set_option maxHeartbeats 8000000 in
theorem l16Mean_any {W w0 : World} {base : Nat} {m : Mn} {vp vb v : Value} {zs : List Int} (h : BO base W v zs) (hb : base ≤ W.heap.size) (hP : TRow w0 vp m.p) (hB : TRow w0 vb m.b) (h0 : Below w0.heap.size w0 W) (hs : w0.heap.size ≤ base) (hm : MnD m) (hl : zs.length + (mnB m).length ≤ 70368744177664) :
 Calls Tryz.prog 19 #[v, meanV m.k m.n m.t vp m.sl vb] W fun e W' => PutQ base v W (zs ++ mnB m) e W' := by
 have HO := hideP h
 have hown : v.ownBlock ≠ some W.heap.size := fun e => by have := (h.row _ e).2; omega
 have hl1 : zs.length + 1 ≤ 70368744177664 := by
  unfold mnB at hl
  rw [List.length_cons] at hl
  omega
 have HW := hideP hown
 have HL1 := hideP hl1
 have HL := hideP hl
 have HP := hideP hP
 have HB := hideP hB
 have H0w := hideP h0
 have HS := hideP hs
 have HM := hideP hm
 obtain ⟨pa, pn, pc, rfl, _⟩ := hP
 obtain ⟨ba, bn, bc, rfl, _⟩ := hB
 obtain ⟨ao, n, cap, rfl⟩ := BO.shp h
 have hk : 0 ≤ m.k ∧ m.k < 256 := by rcases hm with h | h | h <;> omega
 have H0 : Hid (∀ v2 w2, GO (.slice ao n cap) ((W.alloc (.cells #[.int .i64 m.k, .int .i64 m.n, .int .i64 m.t.c, .int .i64 m.t.h, .string m.t.s, .slice pa pn pc, .int .i64 m.sl, .slice ba bn bc] 56)).alloc (.cells #[.int .u8 m.k] 5)) v2 w2 → (w2.cell? ⟨W.heap.size, 0, none⟩ = some (.int .i64 m.k) ∧ w2.cell? ⟨W.heap.size, 1, none⟩ = some (.int .i64 m.n) ∧ w2.cell? ⟨W.heap.size, 2, none⟩ = some (.int .i64 m.t.c) ∧ w2.cell? ⟨W.heap.size, 3, none⟩ = some (.int .i64 m.t.h) ∧ w2.cell? ⟨W.heap.size, 4, none⟩ = some (.string m.t.s) ∧ w2.cell? ⟨W.heap.size, 5, none⟩ = some (.slice pa pn pc) ∧ w2.cell? ⟨W.heap.size, 6, none⟩ = some (.int .i64 m.sl) ∧ w2.cell? ⟨W.heap.size, 7, none⟩ = some (.slice ba bn bc))) := hideP (fun v2 w2 hg => by
  have h2 := ((hg.block (by simp; omega) HW.out).trans (Below.heap_alloc _ _ _ (by simp))).trans (heap_alloc_new W (.cells #[.int .i64 m.k, .int .i64 m.n, .int .i64 m.t.c, .int .i64 m.t.h, .string m.t.s, .slice pa pn pc, .int .i64 m.sl, .slice ba bn bc] 56))
  refine ⟨?_, ?_, ?_, ?_, ?_, ?_, ?_, ?_⟩ <;> (rw [cell_of_row _ _ _ _ 56 _ h2]; rfl))
 have TC : Hid (∀ v' w', BO base w' v' (zs ++ [m.k]) → base ≤ w'.heap.size → m.k = 2 → Calls Tryz.prog 33 #[v', .agg #[.int .i64 m.t.c, .int .i64 m.t.h, .string m.t.s]] w' fun e W' => PutQ base v' w' (zs ++ mnB m) e W') := hideP (fun v' w' h1 h2 h3 => by
  have ht : TkD m.t := by
   rcases HM.out with h | h | h
   ·omega
   ·exact h.2
   ·omega
  have e : mnB m = [m.k] ++ tkB m.t := by unfold mnB; rw [if_neg (by omega), if_pos h3]; rfl
  rw [e, ← List.append_assoc]
  exact l16Token_any (t := m.t) h1 h2 ht.1 ht.2 (by
   have := HL.out
   rw [e, List.length_append] at this
   rw [List.length_append]
   omega))
 have NC : Hid (∀ v' w' (z : Int), BO base w' v' (zs ++ [m.k]) → base ≤ w'.heap.size → m.k = 1 → z = m.n → Calls Tryz.prog 18 #[v', .int .u64 z] w' fun e W' => PutQ base v' w' (zs ++ mnB m) e W') := hideP (fun v' w' z h1 h2 h3 hz => by
  have hn : 0 ≤ m.n ∧ m.n ≤ 1152921504606846976 := by rcases HM.out with h | h | h <;> omega
  have e : mnB m = [m.k] ++ numB m.n.toNat := by unfold mnB; rw [if_pos h3]; rfl
  rw [e, ← List.append_assoc, hz, show m.n = ((m.n.toNat : Nat) : Int) by omega, Int.toNat_natCast]
  exact l15Num_any h1 h2 (by omega) (by
   have := HL.out
   rw [e, List.length_append] at this
   rw [List.length_append]
   omega))
 have MX : Hid (m.k = 3 → (0 ≤ m.sl ∧ m.sl ≤ 1152921504606846976) ∧ (m.p.length ≤ 1048576 ∧ m.b.length ≤ 1048576) ∧ (∀ t ∈ m.p, TkD t) ∧ (∀ t ∈ m.b, TkD t) ∧ mnB m = [m.k] ++ numB m.sl.toNat ++ rwB m.p ++ rwB m.b) := hideP (fun h3 => by
  rcases HM.out with h | h | h
  ·omega
  ·omega
  ·refine ⟨h.2.1, h.2.2.1, h.2.2.2.1, h.2.2.2.2, ?_⟩
   unfold mnB mcB
   rw [if_neg (by omega), if_neg (by omega)]
   simp)
 have NB : Hid (m.k = 1 → 0 ≤ m.n ∧ m.n ≤ 1152921504606846976) := hideP (fun h3 => by rcases HM.out with h | h | h <;> omega)
 show Calls Tryz.prog 19 #[.slice ao n cap, .agg #[.int .i64 m.k, .int .i64 m.n, .int .i64 m.t.c, .int .i64 m.t.h, .string m.t.s, .slice pa pn pc, .int .i64 m.sl, .slice ba bn bc]] W _
 clear h hl hown hl1 h0 hs
 have h1b : m.k = 1 ∨ m.k = 2 ∨ m.k = 3 := by rcases hm with h | h | h <;> omega
 clear hm
 have HR : Hid (∀ L : List Int, mnB m = L → mnB m = L) := hideP (fun _ h => h)
 obtain ⟨k, mn, t, p, sl, b⟩ := m
 obtain ⟨tc, th, ts⟩ := t
 simp only at H0 TC NC MX NB hk h1b ⊢
 obtain ⟨MB, hMB⟩ : ∃ z, z = mnB ⟨k, mn, ⟨tc, th, ts⟩, p, sl, b⟩ := ⟨_, rfl⟩
 rw [← hMB] at TC NC MX HL ⊢
 clear hMB HM HR
 go_enter Tryz.func19, Tryz.ntmps19
 go_wp2_with (at_builtin; refine wpList_byte rfl _ _ rfl rfl rfl (BO.alloc (BO.alloc HO.out _) _) (cell_new2 _ _ _ _) (by simp; omega) HL1.out ?_)
 intro v2 w2 ho2 hb2
 obtain ⟨c0, c1, c2, c3, c4, c5, c6, c7⟩ := H0.out _ _ hb2
 have hz2 : base ≤ w2.heap.size := by have := hb2.size; simp at this; omega
 have O2 := hideP ho2
 have G2 := hideP hb2
 have B2 := hideP ((((GO.refl (.slice ao n cap) W).alloc _).alloc _).trans hb2)
 obtain ⟨a2, n2, cp2, rfl⟩ := BO.shp ho2
 clear ho2 hb2
 rcases h1b with rfl | rfl | rfl
 ·obtain ⟨nb0, nb1⟩ := NB.out rfl
  go_wp2_with fail
  refine (NC.out _ _ _ O2.out hz2 trivial rfl).mono ?_
  rintro e w3 ⟨v3, rfl, ho3, hb3⟩
  have O3 := hideP ho3
  have B3 := hideP (B2.out.trans hb3)
  clear ho3 hb3
  go_wp2
  go_ret
  exact ⟨_, rfl, O3.out, B3.out⟩
 ·go_wp2_with fail
  refine (TC.out _ _ O2.out hz2 trivial).mono ?_
  rintro e w3 ⟨v3, rfl, ho3, hb3⟩
  have O3 := hideP ho3
  have B3 := hideP (B2.out.trans hb3)
  clear ho3 hb3
  go_wp2
  go_ret
  exact ⟨_, rfl, O3.out, B3.out⟩
 ·obtain ⟨⟨s0, s1⟩, ⟨lp, lb⟩, dp, db, hMB⟩ := MX.out rfl
  have HMB := hideP hMB
  have hll := HL.out
  rw [hMB] at hll
  simp only [List.length_append] at hll
  obtain ⟨sn, hsn⟩ : ∃ sn : Nat, sl = (sn : Int) := ⟨sl.toNat, by omega⟩
  subst hsn
  rw [Int.toNat_natCast] at hll HMB
  have N3 := hideP (l15Num_any (n := sn) O2.out hz2 (by omega) (by rw [List.length_append]; omega))
  have R4 : Hid (∀ v' w', BO base w' v' (zs ++ [3] ++ numB sn) → Below w0.heap.size w0 w' → base ≤ w'.heap.size → Calls Tryz.prog 22 #[v', .slice pa pn pc] w' fun e W' => PutQ base v' w' (zs ++ [3] ++ numB sn ++ rwB p) e W') := hideP (fun v' w' h1 h2 h3 => l16Row_any h1 h3 HP.out h2 HS.out lp dp (by simp only [List.length_append]; omega))
  have R5 : Hid (∀ v' w', BO base w' v' (zs ++ [3] ++ numB sn ++ rwB p) → Below w0.heap.size w0 w' → base ≤ w'.heap.size → Calls Tryz.prog 22 #[v', .slice ba bn bc] w' fun e W' => PutQ base v' w' (zs ++ [3] ++ numB sn ++ rwB p ++ rwB b) e W') := hideP (fun v' w' h1 h2 h3 => l16Row_any h1 h3 HB.out h2 HS.out lb db (by simp only [List.length_append]; omega))
  have BW : Hid (∀ v' w', GO (.slice ao n cap) W v' w' → Below w0.heap.size w0 w' ∧ base ≤ w'.heap.size) := hideP (fun v' w' hg => ⟨H0w.out.trans ((hg.below HO.out hb).mono HS.out), Nat.le_trans hb hg.size⟩)
  clear hll hMB dp db lp lb
  go_wp2_with fail
  refine N3.out.mono ?_
  rintro e w3 ⟨v3, rfl, ho3, hb3⟩
  obtain ⟨d0, d1, d2, d3, d4, d5, d6, d7⟩ := H0.out _ _ (G2.out.trans hb3)
  have O3 := hideP ho3
  have G3 := hideP (G2.out.trans hb3)
  have B3 := hideP (B2.out.trans hb3)
  obtain ⟨a3, n3, cp3, rfl⟩ := BO.shp ho3
  clear ho3 hb3 N3 c0 c1 c2 c3 c4 c5 c6 c7
  go_wp2_with fail
  refine (R4.out _ _ O3.out (BW.out _ _ B3.out).1 (BW.out _ _ B3.out).2).mono ?_
  rintro e w4 ⟨v4, rfl, ho4, hb4⟩
  obtain ⟨e0, e1, e2, e3, e4, e5, e6, e7⟩ := H0.out _ _ (G3.out.trans hb4)
  have O4 := hideP ho4
  have B4 := hideP (B3.out.trans hb4)
  obtain ⟨a4, n4, cp4, rfl⟩ := BO.shp ho4
  clear ho4 hb4 R4 d0 d1 d2 d3 d4 d5 d6 d7
  go_wp2_with fail
  refine (R5.out _ _ O4.out (BW.out _ _ B4.out).1 (BW.out _ _ B4.out).2).mono ?_
  rintro e w5 ⟨v5, rfl, ho5, hb5⟩
  have O5 := hideP ho5
  have B5 := hideP (B4.out.trans hb5)
  clear ho5 hb5
  go_wp2
  go_ret
  refine ⟨_, rfl, ?_, B5.out⟩
  rw [HMB.out]
  have h := O5.out
  simp only [List.append_assoc] at h ⊢
  exact h
end Go.Proofs.YtbpidcfoldkhgaaGreat
