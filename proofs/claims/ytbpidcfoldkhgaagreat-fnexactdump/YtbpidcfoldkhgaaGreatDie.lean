import Derived.Test.YtbpidcfoldkhgaaGreatDid
namespace Go.Proofs.YtbpidcfoldkhgaaGreat
open Go.RowKit
set_option linter.unusedVariables false
set_option linter.unusedSimpArgs false
set_option maxRecDepth 20000 in
set_option maxHeartbeats 8000000 in
theorem putBind_any {W w0 : World} {base : Nat} {y : Bd} {vp vb v : Value} {zs : List Int} (h : BO base W v zs) (hb : base ≤ W.heap.size) (hP : TRow w0 vp y.m.p) (hB : TRow w0 vb y.m.b) (h0 : Below w0.heap.size w0 W) (hs : w0.heap.size ≤ base) (hd : MnD y.m) (hl : zs.length + (bnB y).length ≤ 70368744177664) :
 Calls Tryz.prog 41 #[v, .agg #[.string y.nm, .int .i64 y.m.k, .int .i64 y.m.n, .int .i64 y.m.t.c, .int .i64 y.m.t.h, .string y.m.t.s, vp, .int .i64 y.m.sl, vb]] W fun e W' => PutQ base v W (zs ++ bnB y) e W' := by
 obtain ⟨nm, ⟨k, mn, ⟨tc, th, ts⟩, p, sl, b⟩⟩ := y
 simp only at hP hB hd ⊢
 have hb2 : (bnB ⟨nm, ⟨k, mn, ⟨tc, th, ts⟩, p, sl, b⟩⟩).length = (namB nm).length + (mnB ⟨k, mn, ⟨tc, th, ts⟩, p, sl, b⟩).length := by unfold bnB; rw [List.length_append]
 rw [hb2] at hl
 have hbn : zs ++ bnB ⟨nm, ⟨k, mn, ⟨tc, th, ts⟩, p, sl, b⟩⟩ = zs ++ namB nm ++ mnB ⟨k, mn, ⟨tc, th, ts⟩, p, sl, b⟩ := by unfold bnB; rw [List.append_assoc]
 rw [hbn]
 have hmc : 1 ≤ (mnB ⟨k, mn, ⟨tc, th, ts⟩, p, sl, b⟩).length := by unfold mnB; rw [List.length_cons]; omega
 have hl1 : zs.length + (namB nm).length + 1 ≤ 70368744177664 := by omega
 have HL := hideP hl
 have HO := hideP h
 have HP := hideP hP
 have HB := hideP hB
 have H0w := hideP h0
 have HS := hideP hs
 have HM := hideP hd
 have HW : Hid (v.ownBlock ≠ some W.heap.size) := hideP (fun e => by have := (h.row _ e).2; omega)
 have HW2 : Hid (v.ownBlock ≠ some (W.heap.size + 1)) := hideP (fun e => by have := (h.row _ e).2; omega)
 have hk3 : k = 1 ∨ k = 2 ∨ k = 3 := by rcases hd with h | h | h <;> (have := h.1; simp only at this; omega)
 have hk2 : 0 ≤ k ∧ k < 256 := by omega
 obtain ⟨pa, pn, pc, rfl, _⟩ := hP
 obtain ⟨ba, bn, bc, rfl, _⟩ := hB
 obtain ⟨ao, n, cap, rfl⟩ := BO.shp h
 obtain ⟨MB, hMB⟩ : ∃ z, z = mnB ⟨k, mn, ⟨tc, th, ts⟩, p, sl, b⟩ := ⟨_, rfl⟩
 have HMB := hideP hMB
 obtain ⟨X, hX⟩ : ∃ X, X = (W.alloc (.cells #[.string nm, .int .i64 k, .int .i64 mn, .int .i64 tc, .int .i64 th, .string ts, .slice pa pn pc, .int .i64 sl, .slice ba bn bc] 58)).alloc (.cells #[.int .i64 k, .int .i64 mn, .int .i64 tc, .int .i64 th, .string ts, .slice pa pn pc, .int .i64 sl, .slice ba bn bc] 56) := ⟨_, rfl⟩
 have HX := hideP hX
 have HR : Hid (∀ v2 w2, GO (.slice ao n cap) X v2 w2 → w2.heap[W.heap.size]? = some (.cells #[.string nm, .int .i64 k, .int .i64 mn, .int .i64 tc, .int .i64 th, .string ts, .slice pa pn pc, .int .i64 sl, .slice ba bn bc] 58) ∧ w2.heap[W.heap.size + 1]? = some (.cells #[.int .i64 k, .int .i64 mn, .int .i64 tc, .int .i64 th, .string ts, .slice pa pn pc, .int .i64 sl, .slice ba bn bc] 56)) := hideP (fun v2 w2 hg => by
  refine ⟨?_, ?_⟩
  ·rw [hg.block (k := W.heap.size) (by rw [HX.out]; simp; omega) HW.out, HX.out]
   exact (Below.heap_alloc _ _ _ (by simp)).trans (heap_alloc_new W _)
  ·rw [hg.block (k := W.heap.size + 1) (by rw [HX.out]; simp) HW2.out, HX.out]
   have := heap_alloc_new (W.alloc (.cells #[.string nm, .int .i64 k, .int .i64 mn, .int .i64 tc, .int .i64 th, .string ts, .slice pa pn pc, .int .i64 sl, .slice ba bn bc] 58)) (.cells #[.int .i64 k, .int .i64 mn, .int .i64 tc, .int .i64 th, .string ts, .slice pa pn pc, .int .i64 sl, .slice ba bn bc] 56)
   rw [World.size_alloc] at this
   exact this)
 have HC : Hid (∀ v2 w2, GO (.slice ao n cap) X v2 w2 → w2.cell? ⟨W.heap.size + 1, 0, none⟩ = some (.int .i64 k) ∧ w2.cell? ⟨W.heap.size + 1, 1, none⟩ = some (.int .i64 mn) ∧ w2.cell? ⟨W.heap.size + 1, 2, none⟩ = some (.int .i64 tc) ∧ w2.cell? ⟨W.heap.size + 1, 3, none⟩ = some (.int .i64 th) ∧ w2.cell? ⟨W.heap.size + 1, 4, none⟩ = some (.string ts) ∧ w2.cell? ⟨W.heap.size + 1, 5, none⟩ = some (.slice pa pn pc) ∧ w2.cell? ⟨W.heap.size + 1, 6, none⟩ = some (.int .i64 sl) ∧ w2.cell? ⟨W.heap.size + 1, 7, none⟩ = some (.slice ba bn bc)) := hideP (fun v2 w2 hg => by
  have h3 := (HR.out v2 w2 hg).2
  refine ⟨?_, ?_, ?_, ?_, ?_, ?_, ?_, ?_⟩ <;> (rw [cell_of_row _ _ _ _ 56 _ h3]; rfl))
 have C72 : Hid (∀ v' w', BO base w' v' zs → base ≤ w'.heap.size → Calls Tryz.prog 72 #[v', .string nm] w' fun e W' => PutQ base v' w' (zs ++ namB nm) e W') := hideP (fun v' w' h1 h2 => putName_any h1 h2 (by omega))
 have C39 : Hid (∀ v' w', BO base w' v' (zs ++ namB nm) → base ≤ w'.heap.size → Calls Tryz.prog 39 #[v', .int .i64 k] w' fun e W' => PutQ base v' w' (zs ++ namB nm ++ [k]) e W') := hideP (fun v' w' h1 h2 => putByte_any h1 h2 hk2 (by rw [List.length_append]; exact hl1))
 have NC : Hid (∀ v' w', k = 1 → BO base w' v' (zs ++ namB nm ++ [k]) → base ≤ w'.heap.size → Calls Tryz.prog 71 #[v', .int .i64 mn] w' fun e W' => PutQ base v' w' (zs ++ namB nm ++ MB) e W') := hideP (fun v' w' h3 h1 h2 => by
  have hn : 0 ≤ mn ∧ mn ≤ 1152921504606846976 := by rcases HM.out with h | h | h <;> (have := h.1; simp only at this h; omega)
  have e : MB = [k] ++ numB mn.toNat := by rw [HMB.out]; unfold mnB; rw [if_pos h3]; rfl
  have e2 : MB.length = 1 + (numB mn.toNat).length := by rw [e, List.length_append]; rfl
  have hl := HL.out
  rw [← hMB, e2] at hl
  rw [e, ← List.append_assoc]
  have hq := putNum_any (n := mn.toNat) h1 h2 (by omega) (by simp only [List.length_append, List.length_cons, List.length_nil]; omega)
  rw [show ((mn.toNat : Nat) : Int) = mn by omega] at hq
  exact hq)
 have TC : Hid (∀ v' w', k = 2 → BO base w' v' (zs ++ namB nm ++ [k]) → base ≤ w'.heap.size → Calls Tryz.prog 73 #[v', .agg #[.int .i64 tc, .int .i64 th, .string ts]] w' fun e W' => PutQ base v' w' (zs ++ namB nm ++ MB) e W') := hideP (fun v' w' h3 h1 h2 => by
  have ht : TkD ⟨tc, th, ts⟩ := by
   rcases HM.out with h | h | h
   ·have := h.1; simp only at this; omega
   ·exact h.2
   ·have := h.1; simp only at this; omega
  have e : MB = [k] ++ tkB ⟨tc, th, ts⟩ := by rw [HMB.out]; unfold mnB; rw [if_neg (by simp only; omega), if_pos h3]; rfl
  have e2 : MB.length = 1 + (tkB ⟨tc, th, ts⟩).length := by rw [e, List.length_append]; rfl
  have hl := HL.out
  rw [← hMB, e2] at hl
  rw [e, ← List.append_assoc]
  exact putToken_any (t := ⟨tc, th, ts⟩) h1 h2 ht (by simp only [List.length_append, List.length_cons, List.length_nil]; omega))
 have MC : Hid (∀ v' w', k = 3 → BO base w' v' (zs ++ namB nm ++ [k]) → Below w0.heap.size w0 w' → base ≤ w'.heap.size → Calls Tryz.prog 74 #[v', .agg #[.slice pa pn pc, .int .i64 sl, .slice ba bn bc]] w' fun e W' => PutQ base v' w' (zs ++ namB nm ++ MB) e W') := hideP (fun v' w' h3 h1 hw h2 => by
  have hm : (0 ≤ sl ∧ sl ≤ 1152921504606846976) ∧ (p.length ≤ 1048576 ∧ b.length ≤ 1048576) ∧ (∀ t ∈ p, TkD t) ∧ ∀ t ∈ b, TkD t := by
   rcases HM.out with h | h | h
   ·have := h.1; simp only at this; omega
   ·have := h.1; simp only at this; omega
   ·exact h.2
  have e : MB = [k] ++ (numB sl.toNat ++ rwB p ++ rwB b) := by rw [HMB.out]; unfold mnB mcB; rw [if_neg (by simp only; omega), if_neg (by simp only; omega)]; rfl
  have e2 : MB.length = 1 + (numB sl.toNat ++ rwB p ++ rwB b).length := by rw [e, List.length_append]; rfl
  have hl := HL.out
  rw [← hMB, e2] at hl
  rw [e, ← List.append_assoc]
  exact putMacro_any h1 h2 HP.out HB.out hw hs hm.1 hm.2.1.1 hm.2.1.2 hm.2.2.1 hm.2.2.2 (by rw [List.length_append, List.length_append]; simp only [List.length_cons, List.length_nil]; omega))
 have BX : Hid (BO base X (.slice ao n cap) zs ∧ base ≤ X.heap.size ∧ GO (.slice ao n cap) W (.slice ao n cap) X) := hideP (by rw [HX.out]; exact ⟨(HO.out.alloc _).alloc _, by simp; omega, ((GO.refl _ _).alloc _).alloc _⟩)
 have BW : Hid (∀ v' w', GO (.slice ao n cap) W v' w' → Below w0.heap.size w0 w' ∧ base ≤ w'.heap.size) := hideP (fun v' w' hg => ⟨H0w.out.trans ((hg.below HO.out hb).mono HS.out), Nat.le_trans hb hg.size⟩)
 rw [← hMB]
 clear h hl h0 hs hd hb2 hbn hmc hl1 hk2 hMB hX HMB HM HL HP HB
 go_enter Tryz.func41, Tryz.ntmps41
 go_upto_region 2 with fail
 have hz : ∀ y, y = (W.alloc (.cells #[.string nm, .int .i64 k, .int .i64 mn, .int .i64 tc, .int .i64 th, .string ts, .slice pa pn pc, .int .i64 sl, .slice ba bn bc] 58)).alloc (.cells #[.int .i64 k, .int .i64 mn, .int .i64 tc, .int .i64 th, .string ts, .slice pa pn pc, .int .i64 sl, .slice ba bn bc] 56) → y = X := fun y hy => hy.trans HX.out.symm
 rw [hz _ rfl]
 clear hz
 refine wp_region_noPanic ?_
 have g0 : GO (.slice ao n cap) X (.slice ao n cap) X.drew := GO.of_below (Below.drew (Below.refl _ _))
 refine wp_region_held_drew (S := fun Y => Y.heap[W.heap.size]? = some (.cells #[.string nm, .int .i64 k, .int .i64 mn, .int .i64 tc, .int .i64 th, .string ts, .slice pa pn pc, .int .i64 sl, .slice ba bn bc] 58) ∧ Y.heap[W.heap.size + 1]? = some (.cells #[.int .i64 k, .int .i64 mn, .int .i64 tc, .int .i64 th, .string ts, .slice pa pn pc, .int .i64 sl, .slice ba bn bc] 56)) (by kernel_rfl) (HR.out _ _ g0) (fun hS => ?_)
 have G0 := hideP g0
 have O0 : Hid (BO base X.drew (.slice ao n cap) zs) := hideP BX.out.1
 clear g0
 refine tkS (i := 0) (v := .slice ao n cap) rfl hS ?_ (hr := fun wx hx => by go_simp)
 try simp only [Act.put, List.getElem_toArray, List.getElem_cons_zero, List.getElem_cons_succ, List.setIfInBounds_toArray, List.set_cons_zero, List.set_cons_succ]
 refine tkS (i := 1) (v := .pointer (some ⟨W.heap.size, 0, none⟩)) rfl hS ?_ (hr := fun wx hx => by go_simp)
 try simp only [Act.put, List.getElem_toArray, List.getElem_cons_zero, List.getElem_cons_succ, List.setIfInBounds_toArray, List.set_cons_zero, List.set_cons_succ]
 refine tkS (i := 2) (v := .string nm) rfl hS ?_ (hr := fun wx hx => by have h0 : wx.cell? ⟨W.heap.size, 0, none⟩ = some _ := (cell_of_row _ _ _ _ 58 _ hx.1).trans rfl; go_simp)
 try simp only [Act.put, List.getElem_toArray, List.getElem_cons_zero, List.getElem_cons_succ, List.setIfInBounds_toArray, List.set_cons_zero, List.set_cons_succ]
 refine tkS (i := 4) (v := .pointer (some ⟨W.heap.size + 1, 0, none⟩)) rfl hS ?_ (hr := fun wx hx => by go_simp)
 try simp only [Act.put, List.getElem_toArray, List.getElem_cons_zero, List.getElem_cons_succ, List.setIfInBounds_toArray, List.set_cons_zero, List.set_cons_succ]
 refine tkS (i := 5) (v := .int .i64 k) rfl hS ?_ (hr := fun wx hx => by have h0 : wx.cell? ⟨W.heap.size + 1, 0, none⟩ = some _ := (cell_of_row _ _ _ _ 56 _ hx.2).trans rfl; go_simp)
 try simp only [Act.put, List.getElem_toArray, List.getElem_cons_zero, List.getElem_cons_succ, List.setIfInBounds_toArray, List.set_cons_zero, List.set_cons_succ]
 refine rdS (i := 3) rfl (fun K hK => ?_)
 go_simp
 go_at_call 72
 refine (C72.out _ X.drew O0.out (Nat.le_trans BX.out.2.1 G0.out.size)).mono ?_
 rintro e w3 ⟨v3, rfl, ho3, hb3⟩
 have O3 := hideP ho3
 have G3 := hideP (G0.out.trans hb3)
 obtain ⟨a3, n3, p3, rfl⟩ := BO.shp ho3
 clear ho3 hb3
 refine hK.out _ _ (HR.out _ _ G3.out) (fun _ => ?_)
 try simp only [Act.put, List.getElem_toArray, List.getElem_cons_zero, List.getElem_cons_succ, List.setIfInBounds_toArray, List.set_cons_zero, List.set_cons_succ]
 clear hK K
 refine rdS (i := 6) rfl (fun K hK => ?_)
 go_simp
 go_at_call 39
 refine (C39.out _ w3 O3.out (Nat.le_trans BX.out.2.1 G3.out.size)).mono ?_
 rintro e w4 ⟨v4, rfl, ho4, hb4⟩
 have O4 := hideP ho4
 have G4 := hideP (G3.out.trans hb4)
 obtain ⟨a4, n4, p4, rfl⟩ := BO.shp ho4
 clear ho4 hb4
 refine hK.out _ _ (HR.out _ _ G4.out) (fun _ => ?_)
 try simp only [Act.put, List.getElem_toArray, List.getElem_cons_zero, List.getElem_cons_succ, List.setIfInBounds_toArray, List.set_cons_zero, List.set_cons_succ]
 clear hK K
 refine tkS (i := 7) (v := .slice a4 n4 p4) rfl (HR.out _ _ G4.out) ?_
 try simp only [Act.put, List.getElem_toArray, List.getElem_cons_zero, List.getElem_cons_succ, List.setIfInBounds_toArray, List.set_cons_zero, List.set_cons_succ]
 refine wpAnyH_done (by kernel_rfl) ?_ _
 refine NoPanic.normal ?_
 have B4 := hideP (BX.out.2.2.trans G4.out)
 obtain ⟨bw4, bz4⟩ := BW.out _ _ B4.out
 have BW4 := hideP bw4
 obtain ⟨c0, c1, c2, c3, c4, c5, c6, c7⟩ := HC.out _ _ G4.out
 clear hS bw4
 rcases hk3 with rfl | rfl | rfl
 ·go_wp2_with fail
  refine (NC.out _ w4 trivial O4.out bz4).mono ?_
  rintro e w5 ⟨v5, rfl, ho5, hb5⟩
  have O5 := hideP ho5
  have B5 := hideP (B4.out.trans hb5)
  clear ho5 hb5
  go_wp2
  go_ret
  exact ⟨_, rfl, O5.out, B5.out⟩
 ·go_wp2_with fail
  refine (TC.out _ w4 trivial O4.out bz4).mono ?_
  rintro e w5 ⟨v5, rfl, ho5, hb5⟩
  have O5 := hideP ho5
  have B5 := hideP (B4.out.trans hb5)
  clear ho5 hb5
  go_wp2
  go_ret
  exact ⟨_, rfl, O5.out, B5.out⟩
 ·go_wp2_with fail
  refine (MC.out _ w4 trivial O4.out BW4.out bz4).mono ?_
  rintro e w5 ⟨v5, rfl, ho5, hb5⟩
  have O5 := hideP ho5
  have B5 := hideP (B4.out.trans hb5)
  clear ho5 hb5
  go_wp2
  go_ret
  exact ⟨_, rfl, O5.out, B5.out⟩
end Go.Proofs.YtbpidcfoldkhgaaGreat
