import Derived.Test.YtbpidcfoldkhgaaGreatDwd
import Derived.Test.YtbpidcfoldkhgaaGreatEok
namespace Go.Proofs.YtbpidcfoldkhgaaGreat
open Go.RowKit
set_option linter.unusedVariables false
set_option linter.unusedSimpArgs false
theorem alt_below {B D : Nat} {W X : World} (h : Alt D W X) (hB : B ≤ D) : Below B W X := ⟨h.os, h.tape, h.output, Nat.le_of_eq h.size.symm, fun k hk => h.block k (by omega)⟩
set_option maxRecDepth 20000 in
set_option maxHeartbeats 4000000 in
theorem wsize_any {W : World} {B D : Nat} {ps : List (List Int)} {pv : Value} {vs : List Value} (hd : DW B D W 0 ps ps pv vs) (hl : ps.flatten.length ≤ 70368744177000) :
 Calls Tryz.prog 30 #[.pointer (some ⟨D, 0, none⟩)] W fun e W' => e = .returned (.int .i64 ((ps.flatten.length + 2 : Nat) : Int)) ∧ Below B W W' := by
 have LK := hideP (lockFree ⟨D, 0, none⟩ W hd.f.cells.1 (hd.f.frozen 0))
 have A1 : Hid (Alt D W (W.setCell ⟨D, 0, none⟩ (.int .i32 1))) := hideP ((Alt.refl D W).set 0 _)
 have D1 : Hid (DW B D (W.setCell ⟨D, 0, none⟩ (.int .i32 1)) 1 ps ps pv vs) := hideP (hd.alt A1.out (hd.f.set0 1))
 obtain ⟨W1, hW1⟩ : ∃ X, X = W.setCell ⟨D, 0, none⟩ (.int .i32 1) := ⟨_, rfl⟩
 rw [← hW1] at LK A1 D1
 obtain ⟨c0, c2, c3, c4⟩ := D1.out.f.cells
 obtain ⟨N, hN⟩ : ∃ n, n = ps.flatten.length := ⟨_, rfl⟩
 rw [← hN] at c2 hl ⊢
 have hDl := hideP hd.l
 have hl2 : (N : Int) ≤ 70368744177000 := by omega
 clear hd hW1 c0 c3 c4 hN hl
 go_enter_defers Tryz.func30, Tryz.ntmps30
 go_wp2_with fail
 refine LK.out.mono ?_
 rintro e w1 ⟨rfl, rfl⟩
 go_wp2
 refine leaves_cons (f := 48) (args := #[.pointer (some ⟨D, 0, none⟩)]) (by simp) (by simp [go_sem]) ?_
 refine (unlockD ⟨D, 0, none⟩ _ _ D1.out.f.cells.1 (D1.out.f.frozen 0)).mono ?_
 rintro e u' w'' ⟨rfl, rfl, rfl⟩
 exact ⟨_, results_tmp rfl _ _ _, by simp, alt_below (A1.out.set 0 _) hDl.out⟩
set_option maxRecDepth 20000 in
set_option maxHeartbeats 4000000 in
theorem hasBytes_any {v : Value} {xs : List Lv} {w : World} (h : LRow 0 w v xs) (hs : SmE xs) :
 Calls Tryz.prog 25 #[.agg #[v]] w fun e W' => e = .returned (.bool (decide (xs.length = 1) && envB xs)) ∧ Below w.heap.size w W' := by
 have EC : Hid (∀ W, Below w.heap.size w W → Calls Tryz.prog 36 #[.agg #[v]] W fun e w' => e = .returned (.bool (envB xs)) ∧ Below W.heap.size W w') := hideP (fun W hW => implEnvOk_any (SRow.below lvStable h hW) hs)
 obtain ⟨ao, n, cap, rfl, hn, hr⟩ := h
 have HN := hideP hn
 obtain ⟨eb, heb⟩ : ∃ b, b = envB xs := ⟨_, rfl⟩
 rw [← heb] at EC ⊢
 rw [hn]
 clear hr hn heb hs
 by_cases h1 : n = 1
 ·subst h1
  go_enter Tryz.func25, Tryz.ntmps25
  go_wp2_with fail
  refine (EC.out _ (below1 _ _)).mono ?_
  rintro e w1 ⟨rfl, hb1⟩
  have B1 : Hid (Below w.heap.size w w1) := hideP ((below1 _ _).trans (hb1.mono (by simp)))
  clear hb1
  go_wp2
  go_ret
  exact ⟨by simp, B1.out⟩
 ·have h2 : ¬ (n : Int) = 1 := by omega
  have h3 : ((n : Int) == 1) = false := by simp [h2]
  go_enter Tryz.func25, Tryz.ntmps25
  go_wp2
  go_ret
  exact ⟨by simp [h1], below1 _ _⟩
set_option maxRecDepth 20000 in
set_option maxHeartbeats 4000000 in
theorem specSize_any {v : Value} {xs : List Lv} {w : World} (h : LRow 0 w v xs) (hs : SmE xs) :
 Calls Tryz.prog 14 #[.agg #[v]] w fun e W' => e = .returned (.int .i64 ((dmpB xs).length : Int)) ∧ Below w.heap.size w W' := by
 have EC : Hid (∀ W, Below w.heap.size w W → Calls Tryz.prog 6 #[.agg #[v]] W fun e W' => (∃ u, e = .returned u ∧ BO W.heap.size W' u (dmpB xs)) ∧ Below W.heap.size W W') := hideP (fun W hW => specDump_any (SRow.below lvStable h hW) hs)
 obtain ⟨ao, n, cap, rfl, hn, hr⟩ := h
 obtain ⟨L, hL⟩ : ∃ L, L = dmpB xs := ⟨_, rfl⟩
 rw [← hL] at EC ⊢
 clear hr hn hs hL
 go_enter Tryz.func14, Tryz.ntmps14
 go_wp2_with fail
 refine (EC.out _ (below1 _ _)).mono ?_
 rintro e w1 ⟨⟨u, rfl, ho⟩, hb1⟩
 have B1 : Hid (Below w.heap.size w w1) := hideP ((below1 _ _).trans (hb1.mono (by simp)))
 obtain ⟨ua, uc, rfl⟩ := BO.shape ho
 clear hb1 ho
 go_wp2
 go_ret
 exact ⟨rfl, B1.out⟩
theorem dmp_len {xs : List Lv} (h : envB xs = true ∧ xs.length = 1) : (dmpB xs).length = (lvlB (xs.getD 0 Lv.none)).length + 2 := by
 unfold dmpB
 rw [if_pos h, List.length_append]
 rfl
set_option maxRecDepth 20000 in
set_option maxHeartbeats 4000000 in
theorem implSize_any {v : Value} {xs : List Lv} {w : World} (h : LRow 0 w v xs) (hs : SmE xs) :
 Calls Tryz.prog 15 #[.agg #[v]] w fun e W' => e = .returned (.int .i64 ((dmpB xs).length : Int)) ∧ Below w.heap.size w W' := by
 have HC : Hid (∀ W, Below w.heap.size w W → Calls Tryz.prog 25 #[.agg #[v]] W fun e W' => e = .returned (.bool (decide (xs.length = 1) && envB xs)) ∧ Below W.heap.size W W') := hideP (fun W hW => hasBytes_any (SRow.below lvStable h hW) hs)
 obtain ⟨ao, n, cap, rfl, hn, hr⟩ := h
 have HR := hideP hr
 have HN := hideP hn
 obtain ⟨D, hD⟩ : ∃ D, D = (dmpB xs).length := ⟨_, rfl⟩
 rw [← hD]
 have HD := hideP hD
 obtain ⟨eb, heb⟩ : ∃ b, b = (decide (xs.length = 1) && envB xs) := ⟨_, rfl⟩
 rw [← heb] at HC
 have HEB := hideP heb
 clear hr hn hD heb hs
 go_enter Tryz.func15, Tryz.ntmps15
 go_wp2_with fail
 refine (HC.out _ (below1 _ _)).mono ?_
 rintro e w1 ⟨rfl, hb1⟩
 obtain ⟨W1, hW1⟩ : ∃ X, X = w.alloc (.cells #[.slice ao n cap] 30) := ⟨_, rfl⟩
 rw [← hW1] at hb1
 have hz1 : w.heap.size < W1.heap.size := by rw [hW1]; simp
 have e0 : W1.heap[w.heap.size]? = some (.cells #[.slice ao n cap] 30 (0, 0)) := by rw [hW1]; exact heap_alloc_new _ _
 have q0 := (hb1.block _ hz1).trans e0
 have c0 : w1.cell? ⟨w.heap.size, 0, none⟩ = some (.slice ao n cap) := by rw [cell_of_row _ _ _ _ 30 _ q0]; rfl
 have bW1 : Below w.heap.size w W1 := by rw [hW1]; exact below1 _ _
 have B1 := hideP (below_more bW1 hb1 bW1.size)
 clear hb1 hW1 hz1 e0 q0 bW1 HC
 cases eb with
 | false =>
  have HE : Hid (D = 0) := hideP (by
   rw [HD.out]; unfold dmpB
   rw [if_neg (fun h => by have := HEB.out; rw [h.1, decide_eq_true h.2] at this; exact absurd this (by decide))]
   rfl)
  go_wp2
  go_ret
  rw [HE.out]
  exact ⟨rfl, B1.out⟩
 | true =>
  have hb2 := HEB.out.symm
  simp only [Bool.and_eq_true, decide_eq_true_eq] at hb2
  obtain ⟨hl1, hev⟩ := hb2
  obtain rfl : n = 1 := by have := HN.out; omega
  obtain ⟨b, off, rfl, _, hbl, hcx⟩ := HR.out (by omega)
  obtain ⟨cs, hcl, hlv, hcj⟩ := hcx 0 (by omega)
  obtain ⟨x, hx⟩ : ∃ x, x = xs.getD 0 Lv.none := ⟨_, rfl⟩
  rw [← hx] at hlv
  have hok : levB x = true := by
   have h1 := hev
   unfold envB at h1
   simp only [Bool.and_eq_true] at h1
   rw [hx]
   exact all_in h1.2 _ (getD_in _ (by rw [HN.out]; omega))
  have HDE : Hid (D = (lvlB x).length + 2) := hideP (by rw [HD.out, dmp_len ⟨hev, HN.out⟩, ← hx])
  have ld := levB_d hok
  obtain ⟨a0, a1, a2, a3, a4, a5, p0, p1, p2, p3, p4, p5, rfl, hlx⟩ := lv_read hlv
  have hlx1 := hlx.below B1.out
  have cj : ∀ j, j < 6 → w1.cell? ⟨b, off + j, none⟩ = [Value.slice a0 x.cats.length p0, .slice a1 x.binds.length p1, .slice a2 x.counts.length p2, .slice a3 x.lens.length p3, .slice a4 x.glues.length p4, .slice a5 x.toks.length p5][j]? := fun j hj => by
   have h1 := hcj j hj
   rw [show off + 0 * 6 + j = off + j by omega] at h1
   exact (B1.out.cell (p := ⟨b, off + j, none⟩) hbl).trans h1
  have j0 : w1.cell? ⟨b, off, none⟩ = some (.slice a0 x.cats.length p0) := cj 0 (by omega)
  have j1 : w1.cell? ⟨b, off + 1, none⟩ = some (.slice a1 x.binds.length p1) := cj 1 (by omega)
  have j2 : w1.cell? ⟨b, off + 2, none⟩ = some (.slice a2 x.counts.length p2) := cj 2 (by omega)
  have j3 : w1.cell? ⟨b, off + 3, none⟩ = some (.slice a3 x.lens.length p3) := cj 3 (by omega)
  have j4 : w1.cell? ⟨b, off + 4, none⟩ = some (.slice a4 x.glues.length p4) := cj 4 (by omega)
  have j5 : w1.cell? ⟨b, off + 5, none⟩ = some (.slice a5 x.toks.length p5) := cj 5 (by omega)
  have DC := hideP (dumped_any hlx1 ld)
  have LL := hideP ld.all
  clear cj hcj hcx hlv hlx hlx1 hok hev hx ld HR HD HEB hl1
  go_wp2_with fail
  refine DC.out.mono ?_
  rintro e w2 ⟨rfl, ⟨ps, pv, vs, ⟨hfl, hpl⟩, dw⟩, hb2⟩
  have SC := hideP (wsize_any dw (by rw [hfl]; have := LL.out; omega))
  rw [hfl, ← HDE.out] at SC
  have hD1 : w.heap.size ≤ w1.heap.size + 1 := by have := B1.out.size; omega
  have B2 : Hid (Below w.heap.size w w2) := hideP (B1.out.trans (hb2.mono B1.out.size))
  clear dw hb2 hfl
  go_wp2_with fail
  refine SC.out.mono ?_
  rintro e w3 ⟨rfl, hb3⟩
  have B3 : Hid (Below w.heap.size w w3) := hideP (B2.out.trans (hb3.mono hD1))
  clear hb3
  go_wp2
  go_ret
  exact ⟨rfl, B3.out⟩
end Go.Proofs.YtbpidcfoldkhgaaGreat
