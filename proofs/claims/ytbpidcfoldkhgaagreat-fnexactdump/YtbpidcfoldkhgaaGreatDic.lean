import Derived.Test.YtbpidcfoldkhgaaGreatDia
namespace Go.Proofs.YtbpidcfoldkhgaaGreat
open Go.RowKit
set_option linter.unusedVariables false
set_option linter.unusedSimpArgs false
set_option maxRecDepth 20000 in
set_option maxHeartbeats 4000000 in
theorem eachTok_any {W w0 : World} {base : Nat} {ts : List Tk} {tv v : Value} {zs : List Int} (h : BO base W v zs) (hb : base ≤ W.heap.size) (hT : TRow w0 tv ts) (h0 : Below w0.heap.size w0 W) (hs : w0.heap.size ≤ base) (hn : ts.length ≤ 1048576) (hk : ∀ t ∈ ts, TkD t) (hl : zs.length + (ts.flatMap tkB).length ≤ 70368744177664) :
 Calls Tryz.prog 103 #[v, tv, .func (.func 73) #[] #[]] W fun e W' => PutQ base v W (zs ++ ts.flatMap tkB) e W' := by
 obtain ⟨ta, m, tc, rfl, hm, hr⟩ := hT
 have TC : Hid (∀ k, k < m → ∀ v' w', BO base w' v' (zs ++ (ts.take k).flatMap tkB) → base ≤ w'.heap.size → Calls Tryz.prog 73 #[v', (ts.getD k Tk.none).v] w' fun e W' => PutQ base v' w' (zs ++ (ts.take (k + 1)).flatMap tkB) e W') := hideP (fun k hkm v' w' h1 h2 => by
  have hkl : k < ts.length := by omega
  have hd := hk _ (getD_in Tk.none hkl)
  have hle := flat_le (f := tkB) Tk.none hkl
  rw [take_flat Tk.none hkl, ← List.append_assoc]
  exact putToken_any h1 h2 hd (by rw [List.length_append]; omega))
 have HR := hideP hr
 have HO := hideP h
 have H0 := hideP h0
 have HM := hideP hm
 have hm2 : m ≤ 1048576 := by omega
 have HS := hideP hs
 obtain ⟨ao, n, cap, rfl⟩ := BO.shp h
 clear h hl hr h0 hk hn hm hs
 go_enter Tryz.func103, Tryz.ntmps103
 go_wp2
 go_loopw [0, 11] (fun s0 s5 wr => ∃ k : Nat, s5 = .int .i64 (k : Int) ∧ k ≤ m ∧ BO base wr s0 (zs ++ (ts.take k).flatMap tkB) ∧ GO (.slice ao n cap) W s0 wr) (fun _ s _ => m - (intOf s).toNat)
 case atStart => exact ⟨0, rfl, by omega, by rw [List.take_zero, List.flatMap_nil, List.append_nil]; exact HO.out, GO.refl _ _⟩
 case round =>
  obtain ⟨k, rfl, hkm, ho, hg⟩ := hrel
  by_cases hkn : k < m
  ·have hki : (k : Int) < (m : Int) := by omega
   obtain ⟨b, off, rfl, hbl, hc⟩ := HR.out (by omega)
   obtain ⟨c0, c1, c2⟩ := hc k hkn
   have bw : Below w0.heap.size w0 wr := H0.out.trans ((hg.below HO.out hb).mono HS.out)
   have g0 := (bw.cell (p := ⟨b, off + k * 3, none⟩) hbl).trans c0
   have g1 := (bw.cell (p := ⟨b, off + k * 3 + 1, none⟩) hbl).trans c1
   have g2 := (bw.cell (p := ⟨b, off + k * 3 + 2, none⟩) hbl).trans c2
   have TK := hideP (fun o => TC.out k hkn _ (wr.alloc o) (ho.alloc o) (by have := hg.size; simp; omega))
   obtain ⟨t, ht⟩ : ∃ t, t = ts.getD k Tk.none := ⟨_, rfl⟩
   rw [← ht] at g0 g1 g2 TK
   have HG := hideP hg
   obtain ⟨a1, n1, p1, rfl⟩ := BO.shp ho
   clear ho hg bw hc c0 c1 c2 ht
   obtain ⟨tc', th', ts'⟩ := t
   simp only at g0 g1 g2
   go_wp2_with fail
   refine (TK.out _).mono ?_
   rintro e w2 ⟨v2, rfl, ho2, hb2⟩
   have O2 := hideP ho2
   have B2 := hideP ((HG.out.alloc _).trans hb2)
   clear ho2 hb2
   go_wp2
   go_roundw
   case rel => exact ⟨k + 1, by simp, by omega, O2.out, B2.out⟩
   case measure => simp [intOf]; omega
  ·obtain rfl : k = m := by omega
   have hki : ¬ (k : Int) < (k : Int) := by omega
   have O2 := hideP ho
   have B2 := hideP hg
   clear ho hg
   go_wp2
   go_ret
   refine ⟨_, rfl, ?_, B2.out⟩
   have h := O2.out
   rw [List.take_of_length_le (by rw [HM.out]; exact Nat.le_refl _)] at h
   exact h
set_option maxRecDepth 20000 in
set_option maxHeartbeats 4000000 in
theorem allTok_any {W w0 : World} {base : Nat} {ts : List Tk} {tv v : Value} {zs : List Int} (h : BO base W v zs) (hb : base ≤ W.heap.size) (hT : TRow w0 tv ts) (h0 : Below w0.heap.size w0 W) (hs : w0.heap.size ≤ base) (hn : ts.length ≤ 1048576) (hk : ∀ t ∈ ts, TkD t) (hl : zs.length + (rwB ts).length ≤ 70368744177664) :
 Calls Tryz.prog 76 #[v, tv, .func (.func 73) #[] #[]] W fun e W' => PutQ base v W (zs ++ rwB ts) e W' := by
 have hT2 := hT
 obtain ⟨ta, m, tc, rfl, hm, hr⟩ := hT
 have hl2 : zs.length + ((numB m).length + (ts.flatMap tkB).length) ≤ 70368744177664 := by
  unfold rwB at hl
  rw [List.length_append, hm] at hl
  exact hl
 have NC := hideP (putNum_any (n := m) h hb (by omega) (by omega))
 have EC : Hid (∀ v' w', BO base w' v' (zs ++ numB m) → Below w0.heap.size w0 w' → base ≤ w'.heap.size → Calls Tryz.prog 103 #[v', .slice ta m tc, .func (.func 73) #[] #[]] w' fun e W' => PutQ base v' w' (zs ++ rwB ts) e W') := hideP (fun v' w' h1 h2 h3 => by
  unfold rwB
  rw [hm, ← List.append_assoc]
  exact eachTok_any h1 h3 hT2 h2 hs hn hk (by rw [List.length_append]; omega))
 have HO := hideP h
 have H0 := hideP h0
 have hm2 : m ≤ 1048576 := by omega
 have HS := hideP hs
 obtain ⟨ao, n, cap, rfl⟩ := BO.shp h
 clear h hl hl2 hr h0 hk hn hm hs hT2
 go_enter Tryz.func76, Tryz.ntmps76
 go_wp2_with fail
 refine NC.out.mono ?_
 rintro e w1 ⟨v1, rfl, ho1, hb1⟩
 have O1 := hideP ho1
 have B1 := hideP hb1
 clear ho1 hb1 NC
 go_wp2_with fail
 refine (EC.out _ _ O1.out (H0.out.trans ((B1.out.below HO.out hb).mono HS.out)) (Nat.le_trans hb B1.out.size)).mono ?_
 rintro e w2 ⟨v2, rfl, ho2, hb2⟩
 have O2 := hideP ho2
 have B2 := hideP (B1.out.trans hb2)
 clear ho2 hb2
 go_wp2
 go_ret
 exact ⟨_, rfl, O2.out, B2.out⟩
set_option maxRecDepth 20000 in
set_option maxHeartbeats 4000000 in
theorem putRow_any {W w0 : World} {base : Nat} {ts : List Tk} {tv v : Value} {zs : List Int} (h : BO base W v zs) (hb : base ≤ W.heap.size) (hT : TRow w0 tv ts) (h0 : Below w0.heap.size w0 W) (hs : w0.heap.size ≤ base) (hn : ts.length ≤ 1048576) (hk : ∀ t ∈ ts, TkD t) (hl : zs.length + (rwB ts).length ≤ 70368744177664) :
 Calls Tryz.prog 46 #[v, tv] W fun e W' => PutQ base v W (zs ++ rwB ts) e W' := by
 have AC := hideP (allTok_any h hb hT h0 hs hn hk hl)
 obtain ⟨ta, m, tc, rfl, hm, hr⟩ := hT
 obtain ⟨ao, n, cap, rfl⟩ := BO.shp h
 clear h hl hr h0 hk hn hm hs
 go_enter Tryz.func46, Tryz.ntmps46
 go_wp2_with fail
 refine AC.out.mono ?_
 rintro e w2 ⟨v2, rfl, ho2, hb2⟩
 have O2 := hideP ho2
 have B2 := hideP hb2
 clear ho2 hb2
 go_wp2
 go_ret
 exact ⟨_, rfl, O2.out, B2.out⟩
set_option maxRecDepth 20000 in
set_option maxHeartbeats 4000000 in
theorem putMacro_any {W w0 : World} {base : Nat} {p b : List Tk} {sl : Int} {vp vb v : Value} {zs : List Int} (h : BO base W v zs) (hb : base ≤ W.heap.size) (hP : TRow w0 vp p) (hB : TRow w0 vb b) (h0 : Below w0.heap.size w0 W) (hs : w0.heap.size ≤ base) (hsl : 0 ≤ sl ∧ sl ≤ 1152921504606846976) (hlp : p.length ≤ 1048576) (hlb : b.length ≤ 1048576) (hdp : ∀ t ∈ p, TkD t) (hdb : ∀ t ∈ b, TkD t) (hl : zs.length + (numB sl.toNat ++ rwB p ++ rwB b).length ≤ 70368744177664) :
 Calls Tryz.prog 74 #[v, .agg #[vp, .int .i64 sl, vb]] W fun e W' => PutQ base v W (zs ++ (numB sl.toNat ++ rwB p ++ rwB b)) e W' := by
 obtain ⟨sn, hsn⟩ : ∃ sn : Nat, sl = (sn : Int) := ⟨sl.toNat, by omega⟩
 subst hsn
 rw [Int.toNat_natCast] at hl ⊢
 simp only [List.length_append] at hl
 have HL := hideP hl
 have HO := hideP h
 have HP := hideP hP
 have HB := hideP hB
 have H0w := hideP h0
 have HS := hideP hs
 have hown : v.ownBlock ≠ some W.heap.size := fun e => by have := (h.row _ e).2; omega
 have HW := hideP hown
 obtain ⟨pa, pn, pc, rfl, _⟩ := hP
 obtain ⟨ba, bn, bc, rfl, _⟩ := hB
 obtain ⟨ao, n, cap, rfl⟩ := BO.shp h
 have H0 : Hid (∀ v2 w2, GO (.slice ao n cap) (W.alloc (.cells #[.slice pa pn pc, .int .i64 sn, .slice ba bn bc] 54)) v2 w2 → (w2.cell? ⟨W.heap.size, 0, none⟩ = some (.slice pa pn pc) ∧ w2.cell? ⟨W.heap.size, 1, none⟩ = some (.int .i64 sn) ∧ w2.cell? ⟨W.heap.size, 2, none⟩ = some (.slice ba bn bc))) := hideP (fun v2 w2 hg => by
  have h2 := (hg.block (by simp) HW.out).trans (heap_alloc_new W (.cells #[.slice pa pn pc, .int .i64 sn, .slice ba bn bc] 54))
  refine ⟨?_, ?_, ?_⟩ <;> (rw [cell_of_row _ _ _ _ 54 _ h2]; rfl))
 have N3 := hideP (fun o => putNum_any (n := sn) (HO.out.alloc o) (by simp; omega) (by omega) (by omega))
 have R4 : Hid (∀ v' w', BO base w' v' (zs ++ numB sn) → Below w0.heap.size w0 w' → base ≤ w'.heap.size → Calls Tryz.prog 46 #[v', .slice pa pn pc] w' fun e W' => PutQ base v' w' (zs ++ numB sn ++ rwB p) e W') := hideP (fun v' w' h1 h2 h3 => putRow_any h1 h3 HP.out h2 HS.out hlp hdp (by simp only [List.length_append]; omega))
 have R5 : Hid (∀ v' w', BO base w' v' (zs ++ numB sn ++ rwB p) → Below w0.heap.size w0 w' → base ≤ w'.heap.size → Calls Tryz.prog 46 #[v', .slice ba bn bc] w' fun e W' => PutQ base v' w' (zs ++ numB sn ++ rwB p ++ rwB b) e W') := hideP (fun v' w' h1 h2 h3 => putRow_any h1 h3 HB.out h2 HS.out hlb hdb (by simp only [List.length_append]; omega))
 have BW : Hid (∀ v' w', GO (.slice ao n cap) W v' w' → Below w0.heap.size w0 w' ∧ base ≤ w'.heap.size) := hideP (fun v' w' hg => ⟨H0w.out.trans ((hg.below HO.out hb).mono HS.out), Nat.le_trans hb hg.size⟩)
 have Z : Hid (GO (.slice ao n cap) W (.slice ao n cap) (W.alloc (.cells #[.slice pa pn pc, .int .i64 sn, .slice ba bn bc] 54))) := hideP ((GO.refl (.slice ao n cap) W).alloc _)
 clear h hl hown h0 hs hlp hlb hdp hdb
 go_enter Tryz.func74, Tryz.ntmps74
 go_wp2_with fail
 refine (N3.out _).mono ?_
 rintro e w3 ⟨v3, rfl, ho3, hb3⟩
 obtain ⟨d0, d1, d2⟩ := H0.out _ _ hb3
 have O3 := hideP ho3
 have G3 := hideP hb3
 have B3 := hideP (Z.out.trans hb3)
 obtain ⟨a3, n3, cp3, rfl⟩ := BO.shp ho3
 clear ho3 hb3 N3
 go_wp2_with fail
 refine (R4.out _ _ O3.out (BW.out _ _ B3.out).1 (BW.out _ _ B3.out).2).mono ?_
 rintro e w4 ⟨v4, rfl, ho4, hb4⟩
 obtain ⟨e0, e1, e2⟩ := H0.out _ _ (G3.out.trans hb4)
 have O4 := hideP ho4
 have B4 := hideP (B3.out.trans hb4)
 obtain ⟨a4, n4, cp4, rfl⟩ := BO.shp ho4
 clear ho4 hb4 R4 d0 d1 d2
 go_wp2_with fail
 refine (R5.out _ _ O4.out (BW.out _ _ B4.out).1 (BW.out _ _ B4.out).2).mono ?_
 rintro e w5 ⟨v5, rfl, ho5, hb5⟩
 have O5 := hideP ho5
 have B5 := hideP (B4.out.trans hb5)
 clear ho5 hb5
 go_wp2
 go_ret
 refine ⟨_, rfl, ?_, B5.out⟩
 have h := O5.out
 simp only [List.append_assoc] at h ⊢
 exact h
end Go.Proofs.YtbpidcfoldkhgaaGreat
