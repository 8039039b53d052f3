import Derived.Test.YtbpidcfoldkhgaaGreatDnb
namespace Go.Proofs.YtbpidcfoldkhgaaGreat
open Go.RowKit
set_option linter.unusedVariables false
set_option linter.unusedSimpArgs false
theorem take_flat {α : Type} {f : α → List Int} {ts : List α} {k : Nat} (d : α) (hk : k < ts.length) : (ts.take (k + 1)).flatMap f = (ts.take k).flatMap f ++ f (ts.getD k d) := by
 rw [List.take_add_one, List.flatMap_append, List.getElem?_eq_getElem hk]
 simp [List.getD_eq_getElem?_getD, List.getElem?_eq_getElem hk]
theorem flat_le {α : Type} {f : α → List Int} {ts : List α} {k : Nat} (d : α) (hk : k < ts.length) : ((ts.take k).flatMap f).length + (f (ts.getD k d)).length ≤ (ts.flatMap f).length := by
 have h1 := take_flat (f := f) d hk
 have h2 : ts.flatMap f = (ts.take (k + 1)).flatMap f ++ (ts.drop (k + 1)).flatMap f := by rw [← List.flatMap_append, List.take_append_drop]
 rw [h2, h1, List.length_append, List.length_append]
 omega
theorem getD_in {α : Type} {ts : List α} {k : Nat} (d : α) (hk : k < ts.length) : ts.getD k d ∈ ts := by
 rw [List.getD_eq_getElem?_getD, List.getElem?_eq_getElem hk]
 exact List.getElem_mem hk
def TkD (t : Tk) : Prop := (0 ≤ t.c ∧ t.c < 256) ∧ (t.c ≠ 0 → 0 ≤ t.h ∧ t.h < 256)
set_option maxRecDepth 20000 in
set_option maxHeartbeats 4000000 in
theorem l16Row_any {W w0 : World} {base : Nat} {ts : List Tk} {tv v : Value} {zs : List Int} (h : BO base W v zs) (hb : base ≤ W.heap.size) (hT : TRow w0 tv ts) (h0 : Below w0.heap.size w0 W) (hs : w0.heap.size ≤ base) (hn : ts.length ≤ 1048576) (hk : ∀ t ∈ ts, TkD t) (hl : zs.length + (rwB ts).length ≤ 70368744177664) :
 Calls Tryz.prog 22 #[v, tv] W fun e W' => PutQ base v W (zs ++ rwB ts) e W' := by
 obtain ⟨ta, m, tc, rfl, hm, hr⟩ := hT
 have hl2 : zs.length + ((numB m).length + (ts.flatMap tkB).length) ≤ 70368744177664 := by
  unfold rwB at hl
  rw [List.length_append, hm] at hl
  exact hl
 have NC := hideP (l15Num_any (n := m) h hb (by omega) (by omega))
 have TC : Hid (∀ k, k < m → ∀ v' w', BO base w' v' (zs ++ numB m ++ (ts.take k).flatMap tkB) → base ≤ w'.heap.size → Calls Tryz.prog 33 #[v', (ts.getD k Tk.none).v] w' fun e W' => PutQ base v' w' (zs ++ numB m ++ (ts.take (k + 1)).flatMap tkB) e W') := hideP (fun k hkm v' w' h1 h2 => by
  have hkl : k < ts.length := by omega
  have hd := hk _ (getD_in Tk.none hkl)
  have hle := flat_le (f := tkB) Tk.none hkl
  rw [take_flat Tk.none hkl, ← List.append_assoc]
  exact l16Token_any h1 h2 hd.1 hd.2 (by rw [List.length_append, List.length_append]; omega))
 have HR := hideP hr
 have HO := hideP h
 have H0 := hideP h0
 have HM := hideP hm
 have hm2 : m ≤ 1048576 := by omega
 have HS := hideP hs
 obtain ⟨ao, n, cap, rfl⟩ := BO.shp h
 clear h hl hr h0 hk hl2 hn hm hs
 go_enter Tryz.func22, Tryz.ntmps22
 go_wp2_with fail
 refine NC.out.mono ?_
 rintro e w1 ⟨v1, rfl, ho1, hb1⟩
 have O1 := hideP ho1
 have B1 := hideP hb1
 clear ho1 hb1 NC
 go_wp2
 go_loopw [0, 5] (fun s0 s5 wr => ∃ k : Nat, s5 = .int .i64 (k : Int) ∧ k ≤ m ∧ BO base wr s0 (zs ++ numB m ++ (ts.take k).flatMap tkB) ∧ GO (.slice ao n cap) W s0 wr) (fun _ s _ => m - (intOf s).toNat)
 case atStart => exact ⟨0, rfl, by omega, by rw [List.take_zero, List.flatMap_nil, List.append_nil]; exact O1.out, B1.out⟩
 case round =>
  obtain ⟨k, rfl, hkm, ho, hg⟩ := hrel
  by_cases hkn : k < m
  ·have hki : (k : Int) < (m : Int) := by omega
   obtain ⟨b, off, rfl, hbl, hc⟩ := HR.out (by omega)
   obtain ⟨c0, c1, c2⟩ := hc k hkn
   have bw : Below w0.heap.size w0 wr := H0.out.trans ((hg.below HO.out hb).mono HS.out)
   have g0 := (bw.cell (p := ⟨b, off + k * 3, none⟩) hbl).trans c0
   have g1 := (bw.cell (p := ⟨b, off + k * 3 + 1, none⟩) hbl).trans c1
   have g2 := (bw.cell (p := ⟨b, off + k * 3 + 2, none⟩) hbl).trans c2
   have TK := hideP (TC.out k hkn _ wr ho (Nat.le_trans hb hg.size))
   obtain ⟨t, ht⟩ : ∃ t, t = ts.getD k Tk.none := ⟨_, rfl⟩
   rw [← ht] at g0 g1 g2 TK
   have HG := hideP hg
   obtain ⟨a1, n1, p1, rfl⟩ := BO.shp ho
   clear ho hg bw hc c0 c1 c2 ht
   obtain ⟨tc', th', ts'⟩ := t
   simp only at g0 g1 g2
   go_wp2_with fail
   refine TK.out.mono ?_
   rintro e w2 ⟨v2, rfl, ho2, hb2⟩
   have O2 := hideP ho2
   have B2 := hideP (HG.out.trans hb2)
   clear ho2 hb2
   go_wp2
   go_roundw
   case rel => exact ⟨k + 1, by simp, by omega, O2.out, B2.out⟩
   case measure => simp [intOf]; omega
  ·obtain rfl : k = m := by omega
   have hki : ¬ (k : Int) < (k : Int) := by omega
   have O2 := hideP ho
   have B2 := hideP hg
   clear ho hg
   go_wp2
   go_ret
   refine ⟨_, rfl, ?_, B2.out⟩
   have h := O2.out
   rw [List.take_of_length_le (by rw [HM.out]; exact Nat.le_refl _), List.append_assoc] at h
   unfold rwB
   rw [HM.out]
   exact h
end Go.Proofs.YtbpidcfoldkhgaaGreat
