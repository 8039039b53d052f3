import Derived.Test.YtbpidcfoldkhgaaGreatLev
namespace Go.Proofs.YtbpidcfoldkhgaaGreat
open Go.RowKit
set_option linter.unusedVariables false
set_option linter.unusedSimpArgs false
set_option maxHeartbeats 8000000 in
theorem toLevel_any {v0 v1 v2 v3 v4 v5 : Value} {x : Lv} {w : World} (h : Six 0 w v0 v1 v2 v3 v4 v5 x) (hs : SmL x) :
 Calls Tryz.prog 35 #[levV v0 v1 v2 v3 v4 v5] w fun e w' => ∃ r0 r1 r2 r3 r4 r5, e = .returned (levV r0 r1 r2 r3 r4 r5) ∧ Six w.heap.size w' r0 r1 r2 r3 r4 r5 x ∧ Below w.heap.size w w' := by
 have HX : Hid (Six 0 w v0 v1 v2 v3 v4 v5 x) := h
 obtain ⟨a0, c0, a1, c1, a2, c2, a3, c3, a4, c4, a5, c5, rfl, rfl, rfl, rfl, rfl, rfl⟩ := h.shape
 have HS : Hid (SmL x) := hs
 clear h hs
 obtain ⟨k0, hk0⟩ : ∃ k, k = x.cats.length := ⟨_, rfl⟩
 obtain ⟨k1, hk1⟩ : ∃ k, k = x.binds.length := ⟨_, rfl⟩
 obtain ⟨k2, hk2⟩ : ∃ k, k = x.counts.length := ⟨_, rfl⟩
 obtain ⟨k3, hk3⟩ : ∃ k, k = x.lens.length := ⟨_, rfl⟩
 obtain ⟨k4, hk4⟩ : ∃ k, k = x.glues.length := ⟨_, rfl⟩
 obtain ⟨k5, hk5⟩ : ∃ k, k = x.toks.length := ⟨_, rfl⟩
 rw [← hk0, ← hk1, ← hk2, ← hk3, ← hk4, ← hk5] at HX
 rw [← hk0, ← hk1, ← hk2, ← hk3, ← hk4, ← hk5]
 clear hk0 hk1 hk2 hk3 hk4 hk5
 go_enter Tryz.func35, Tryz.ntmps35
 go_wp2_with fail
 refine (toInts_in ((show Six 0 w _ _ _ _ _ _ x from HX).h0.below (below3 _ _ _ _) |>.1) HS.1).mono ?_
 rintro e w1 ⟨u0, rfl, hp0, hb1⟩
 obtain ⟨r0, d0, rfl⟩ := hp0.shape
 obtain ⟨s0, hs0⟩ : ∃ s, s = x.cats.length := ⟨_, rfl⟩
 rw [← hs0] at hp0
 rw [← hs0]
 clear hs0
 have hz1 : w.heap.size + 1 + 1 < w1.heap.size := by have := hb1.size; simp at this; omega
 have hy1 : w.heap.size + 1 < w1.heap.size := by omega
 have hx1 : w.heap.size < w1.heap.size := by omega
 obtain ⟨hc1, hf1⟩ := bcell hb1
 have B1 : Hid (Below w.heap.size w w1) := below_more (below3 _ _ _ _) hb1 (by simp; omega)
 have P0_1 : Hid (RIn (w.heap.size + 1 + 1 + 1) w1 (.slice r0 s0 d0) x.cats) := hp0.mono (by simp; try omega)
 simp only [World.size_alloc, World.size_setCell] at hc1 hf1
 clear hb1 hp0
 go_wp2_with fail
 have BW1 : Below w.heap.size w (w1.setCell ⟨w.heap.size + 1 + 1, 0, none⟩ (.slice r0 s0 d0)) := Below.setCell B1 (by simp; omega) _
 refine (toBinds_any ((show Six 0 w _ _ _ _ _ _ x from HX).h1.below bdStable BW1) HS.2.1).mono ?_
 rintro e w2 ⟨u1, rfl, hp1, hb2⟩
 obtain ⟨r1, d1, rfl⟩ := hp1.shape
 obtain ⟨s1, hs1⟩ : ∃ s, s = x.binds.length := ⟨_, rfl⟩
 rw [← hs1] at hp1
 rw [← hs1]
 clear hs1
 have hz2 : w.heap.size + 1 + 1 < w2.heap.size := by have := hb2.size; simp at this; omega
 have hy2 : w.heap.size + 1 < w2.heap.size := by omega
 have hx2 : w.heap.size < w2.heap.size := by omega
 obtain ⟨hc2, hf2⟩ := bcell hb2
 have B2 : Hid (Below w.heap.size w w2) := below_more BW1 hb2 (Below.size BW1)
 have P0_2 : Hid (RIn (w.heap.size + 1 + 1 + 1) w2 (.slice r0 s0 d0) x.cats) := (RIn.abv (show RIn _ w1 _ _ from P0_1) (Abv.set (by omega) _)).abv (Abv.below hb2)
 have P1_2 : Hid (BRow (w.heap.size + 1 + 1 + 1) w2 (.slice r1 s1 d1) x.binds) := hp1.mono bdStable (by simp; try omega)
 simp only [World.size_alloc, World.size_setCell] at hc2 hf2
 clear hb2 hp1 BW1 P0_1
 go_wp2_with fail
 have BW2 : Below w.heap.size w (w2.setCell ⟨w.heap.size + 1 + 1, 1, none⟩ (.slice r1 s1 d1)) := Below.setCell B2 (by simp; omega) _
 refine (toInts_in ((show Six 0 w _ _ _ _ _ _ x from HX).h2.below BW2 |>.1) HS.2.2.1).mono ?_
 rintro e w3 ⟨u2, rfl, hp2, hb3⟩
 obtain ⟨r2, d2, rfl⟩ := hp2.shape
 obtain ⟨s2, hs2⟩ : ∃ s, s = x.counts.length := ⟨_, rfl⟩
 rw [← hs2] at hp2
 rw [← hs2]
 clear hs2
 have hz3 : w.heap.size + 1 + 1 < w3.heap.size := by have := hb3.size; simp at this; omega
 have hy3 : w.heap.size + 1 < w3.heap.size := by omega
 have hx3 : w.heap.size < w3.heap.size := by omega
 obtain ⟨hc3, hf3⟩ := bcell hb3
 have B3 : Hid (Below w.heap.size w w3) := below_more BW2 hb3 (Below.size BW2)
 have P0_3 : Hid (RIn (w.heap.size + 1 + 1 + 1) w3 (.slice r0 s0 d0) x.cats) := (RIn.abv (show RIn _ w2 _ _ from P0_2) (Abv.set (by omega) _)).abv (Abv.below hb3)
 have P1_3 : Hid (BRow (w.heap.size + 1 + 1 + 1) w3 (.slice r1 s1 d1) x.binds) := SRow.abv bdStable (SRow.abv bdStable (show BRow _ w2 _ _ from P1_2) (Abv.set (by omega) _)) (Abv.below hb3)
 have P2_3 : Hid (RIn (w.heap.size + 1 + 1 + 1) w3 (.slice r2 s2 d2) x.counts) := hp2.mono (by simp; try omega)
 simp only [World.size_alloc, World.size_setCell] at hc3 hf3
 clear hb3 hp2 BW2 P0_2 P1_2
 go_wp2_with fail
 have BW3 : Below w.heap.size w (w3.setCell ⟨w.heap.size + 1 + 1, 2, none⟩ (.slice r2 s2 d2)) := Below.setCell B3 (by simp; omega) _
 refine (toInts_in ((show Six 0 w _ _ _ _ _ _ x from HX).h3.below BW3 |>.1) HS.2.2.2.1).mono ?_
 rintro e w4 ⟨u3, rfl, hp3, hb4⟩
 obtain ⟨r3, d3, rfl⟩ := hp3.shape
 obtain ⟨s3, hs3⟩ : ∃ s, s = x.lens.length := ⟨_, rfl⟩
 rw [← hs3] at hp3
 rw [← hs3]
 clear hs3
 have hz4 : w.heap.size + 1 + 1 < w4.heap.size := by have := hb4.size; simp at this; omega
 have hy4 : w.heap.size + 1 < w4.heap.size := by omega
 have hx4 : w.heap.size < w4.heap.size := by omega
 obtain ⟨hc4, hf4⟩ := bcell hb4
 have B4 : Hid (Below w.heap.size w w4) := below_more BW3 hb4 (Below.size BW3)
 have P0_4 : Hid (RIn (w.heap.size + 1 + 1 + 1) w4 (.slice r0 s0 d0) x.cats) := (RIn.abv (show RIn _ w3 _ _ from P0_3) (Abv.set (by omega) _)).abv (Abv.below hb4)
 have P1_4 : Hid (BRow (w.heap.size + 1 + 1 + 1) w4 (.slice r1 s1 d1) x.binds) := SRow.abv bdStable (SRow.abv bdStable (show BRow _ w3 _ _ from P1_3) (Abv.set (by omega) _)) (Abv.below hb4)
 have P2_4 : Hid (RIn (w.heap.size + 1 + 1 + 1) w4 (.slice r2 s2 d2) x.counts) := (RIn.abv (show RIn _ w3 _ _ from P2_3) (Abv.set (by omega) _)).abv (Abv.below hb4)
 have P3_4 : Hid (RIn (w.heap.size + 1 + 1 + 1) w4 (.slice r3 s3 d3) x.lens) := hp3.mono (by simp; try omega)
 simp only [World.size_alloc, World.size_setCell] at hc4 hf4
 clear hb4 hp3 BW3 P0_3 P1_3 P2_3
 go_wp2_with fail
 have BW4 : Below w.heap.size w (w4.setCell ⟨w.heap.size + 1 + 1, 3, none⟩ (.slice r3 s3 d3)) := Below.setCell B4 (by simp; omega) _
 refine (toGlues_in ((show Six 0 w _ _ _ _ _ _ x from HX).h4.below BW4 |>.1) HS.2.2.2.2.1).mono ?_
 rintro e w5 ⟨u4, rfl, hp4, hb5⟩
 obtain ⟨r4, d4, rfl⟩ := hp4.shape
 obtain ⟨s4, hs4⟩ : ∃ s, s = x.glues.length := ⟨_, rfl⟩
 rw [← hs4] at hp4
 rw [← hs4]
 clear hs4
 have hz5 : w.heap.size + 1 + 1 < w5.heap.size := by have := hb5.size; simp at this; omega
 have hy5 : w.heap.size + 1 < w5.heap.size := by omega
 have hx5 : w.heap.size < w5.heap.size := by omega
 obtain ⟨hc5, hf5⟩ := bcell hb5
 have B5 : Hid (Below w.heap.size w w5) := below_more BW4 hb5 (Below.size BW4)
 have P0_5 : Hid (RIn (w.heap.size + 1 + 1 + 1) w5 (.slice r0 s0 d0) x.cats) := (RIn.abv (show RIn _ w4 _ _ from P0_4) (Abv.set (by omega) _)).abv (Abv.below hb5)
 have P1_5 : Hid (BRow (w.heap.size + 1 + 1 + 1) w5 (.slice r1 s1 d1) x.binds) := SRow.abv bdStable (SRow.abv bdStable (show BRow _ w4 _ _ from P1_4) (Abv.set (by omega) _)) (Abv.below hb5)
 have P2_5 : Hid (RIn (w.heap.size + 1 + 1 + 1) w5 (.slice r2 s2 d2) x.counts) := (RIn.abv (show RIn _ w4 _ _ from P2_4) (Abv.set (by omega) _)).abv (Abv.below hb5)
 have P3_5 : Hid (RIn (w.heap.size + 1 + 1 + 1) w5 (.slice r3 s3 d3) x.lens) := (RIn.abv (show RIn _ w4 _ _ from P3_4) (Abv.set (by omega) _)).abv (Abv.below hb5)
 have P4_5 : Hid (GIn (w.heap.size + 1 + 1 + 1) w5 (.slice r4 s4 d4) x.glues) := hp4.mono (by simp; try omega)
 simp only [World.size_alloc, World.size_setCell] at hc5 hf5
 clear hb5 hp4 BW4 P0_4 P1_4 P2_4 P3_4
 go_wp2_with fail
 have BW5 : Below w.heap.size w (w5.setCell ⟨w.heap.size + 1 + 1, 4, none⟩ (.slice r4 s4 d4)) := Below.setCell B5 (by simp; omega) _
 refine (toTss_any ((show Six 0 w _ _ _ _ _ _ x from HX).h5.below tsStable BW5) HS.2.2.2.2.2).mono ?_
 rintro e w6 ⟨u5, rfl, hp5, hb6⟩
 obtain ⟨r5, d5, rfl⟩ := hp5.shape
 obtain ⟨s5, hs5⟩ : ∃ s, s = x.toks.length := ⟨_, rfl⟩
 rw [← hs5] at hp5
 rw [← hs5]
 clear hs5
 have hz6 : w.heap.size + 1 + 1 < w6.heap.size := by have := hb6.size; simp at this; omega
 have hy6 : w.heap.size + 1 < w6.heap.size := by omega
 have hx6 : w.heap.size < w6.heap.size := by omega
 obtain ⟨hc6, hf6⟩ := bcell hb6
 have B6 : Hid (Below w.heap.size w w6) := below_more BW5 hb6 (Below.size BW5)
 have P0_6 : Hid (RIn (w.heap.size + 1 + 1 + 1) w6 (.slice r0 s0 d0) x.cats) := (RIn.abv (show RIn _ w5 _ _ from P0_5) (Abv.set (by omega) _)).abv (Abv.below hb6)
 have P1_6 : Hid (BRow (w.heap.size + 1 + 1 + 1) w6 (.slice r1 s1 d1) x.binds) := SRow.abv bdStable (SRow.abv bdStable (show BRow _ w5 _ _ from P1_5) (Abv.set (by omega) _)) (Abv.below hb6)
 have P2_6 : Hid (RIn (w.heap.size + 1 + 1 + 1) w6 (.slice r2 s2 d2) x.counts) := (RIn.abv (show RIn _ w5 _ _ from P2_5) (Abv.set (by omega) _)).abv (Abv.below hb6)
 have P3_6 : Hid (RIn (w.heap.size + 1 + 1 + 1) w6 (.slice r3 s3 d3) x.lens) := (RIn.abv (show RIn _ w5 _ _ from P3_5) (Abv.set (by omega) _)).abv (Abv.below hb6)
 have P4_6 : Hid (GIn (w.heap.size + 1 + 1 + 1) w6 (.slice r4 s4 d4) x.glues) := (GIn.abv (show GIn _ w5 _ _ from P4_5) (Abv.set (by omega) _)).abv (Abv.below hb6)
 have P5_6 : Hid (TsRow (w.heap.size + 1 + 1 + 1) w6 (.slice r5 s5 d5) x.toks) := hp5.mono tsStable (by simp; try omega)
 simp only [World.size_alloc, World.size_setCell] at hc6 hf6
 clear hb6 hp5 BW5 P0_5 P1_5 P2_5 P3_5 P4_5
 go_wp2
 refine bodyPost_ret (v := levV (.slice r0 s0 d0) (.slice r1 s1 d1) (.slice r2 s2 d2) (.slice r3 s3 d3) (.slice r4 s4 d4) (.slice r5 s5 d5)) (by simp [results, Tryz.results35, go_sem, hc6, hx6, hy6, hz6, hc1, hx1, hy1, hz1, hc2, hx2, hy2, hz2, hc3, hx3, hy3, hz3, hc4, hx4, hy4, hz4, hc5, hx5, hy5, hz5, hc6, hx6, hy6, hz6]) rfl ⟨_, _, _, _, _, _, rfl, ?_, ?_⟩
 ·exact Six.mono (Six.abv (Six.abv (Six.abv (Six.abv (Six.abv (Six.abv (Six.abv ((show Six (w.heap.size + 1 + 1 + 1) w6 _ _ _ _ _ _ x from ⟨(show RIn _ w6 _ _ from P0_6), (show BRow _ w6 _ _ from P1_6), (show RIn _ w6 _ _ from P2_6), (show RIn _ w6 _ _ from P3_6), (show GIn _ w6 _ _ from P4_6), (show TsRow _ w6 _ _ from P5_6)⟩)) (Abv.set (by omega) _)) (Abv.set (by omega) _)) (Abv.set (by omega) _)) (Abv.set (by omega) _)) (Abv.set (by omega) _)) (Abv.set (by omega) _)) (Abv.set (by omega) _)) (by omega)
 ·exact Below.setCell (Below.setCell (Below.setCell (Below.setCell (Below.setCell (Below.setCell (Below.setCell (B6) (by first | (simp; done) | (simp; omega)) _) (by first | (simp; done) | (simp; omega)) _) (by first | (simp; done) | (simp; omega)) _) (by first | (simp; done) | (simp; omega)) _) (by first | (simp; done) | (simp; omega)) _) (by first | (simp; done) | (simp; omega)) _) (by first | (simp; done) | (simp; omega)) _
theorem eqInts_yes {v1 v2 : Value} {xs : List Int} {w : World} (h1 : Row w v1 xs) (h2 : Row w v2 xs) (hx : xs.length ≤ 1048576) : Calls Tryz.prog 79 #[v1, v2] w fun e w' => e = .returned (.bool true) ∧ Below w.heap.size w w' := by
 refine (eqInts_any h1 h2 hx).mono ?_
 rintro e w' ⟨rfl, hb⟩
 exact ⟨by simp, hb⟩
set_option maxHeartbeats 8000000 in
theorem eqLevel_same {v0 v1 v2 v3 v4 v5 u0 u1 u2 u3 u4 u5 : Value} {x : Lv} {w : World} (h : Six 0 w v0 v1 v2 v3 v4 v5 x) (g : Six 0 w u0 u1 u2 u3 u4 u5 x) (hs : SmL x) :
 Calls Tryz.prog 50 #[levV v0 v1 v2 v3 v4 v5, levV u0 u1 u2 u3 u4 u5] w fun e w' => e = .returned (.bool true) ∧ Below w.heap.size w w' := by
 have HX : Hid (Six 0 w v0 v1 v2 v3 v4 v5 x ∧ Six 0 w u0 u1 u2 u3 u4 u5 x) := ⟨h, g⟩
 obtain ⟨a0, c0, a1, c1, a2, c2, a3, c3, a4, c4, a5, c5, rfl, rfl, rfl, rfl, rfl, rfl⟩ := h.shape
 obtain ⟨b0, d0, b1, d1, b2, d2, b3, d3, b4, d4, b5, d5, rfl, rfl, rfl, rfl, rfl, rfl⟩ := g.shape
 have HS : Hid (SmL x) := hs
 clear h g hs
 go_enter Tryz.func50, Tryz.ntmps50
 go_wp2_with fail
 refine (eqInts_yes ((RIn.below HX.1.h0 (below2 _ _ _)).1) ((RIn.below HX.2.h0 (below2 _ _ _)).1) HS.1).mono ?_
 rintro e w1 ⟨rfl, hb1⟩
 have hy1 : w.heap.size + 1 < w1.heap.size := by have := hb1.size; simp at this; omega
 have hx1 : w.heap.size < w1.heap.size := by omega
 obtain ⟨hc1, hf1⟩ := bcell hb1
 have B1 : Hid (Below w.heap.size w w1) := below_more (below2 _ _ _) hb1 (by simp; omega)
 simp only [World.size_alloc] at hc1 hf1
 clear hb1
 go_wp2_with fail
 refine (eqBinds_same (SRow.below bdStable HX.1.h1 B1) (SRow.below bdStable HX.2.h1 B1) HS.2.1).mono ?_
 rintro e w2 ⟨rfl, hb2⟩
 have hy2 : w.heap.size + 1 < w2.heap.size := by have := hb2.size; omega
 have hx2 : w.heap.size < w2.heap.size := by omega
 obtain ⟨hc2, hf2⟩ := bcell hb2
 have B2 : Hid (Below w.heap.size w w2) := below_more B1 hb2 (Below.size B1)
 clear hb2
 go_wp2_with fail
 refine (eqInts_yes ((RIn.below HX.1.h2 B2).1) ((RIn.below HX.2.h2 B2).1) HS.2.2.1).mono ?_
 rintro e w3 ⟨rfl, hb3⟩
 have hy3 : w.heap.size + 1 < w3.heap.size := by have := hb3.size; omega
 have hx3 : w.heap.size < w3.heap.size := by omega
 obtain ⟨hc3, hf3⟩ := bcell hb3
 have B3 : Hid (Below w.heap.size w w3) := below_more B2 hb3 (Below.size B2)
 clear hb3
 go_wp2_with fail
 refine (eqInts_yes ((RIn.below HX.1.h3 B3).1) ((RIn.below HX.2.h3 B3).1) HS.2.2.2.1).mono ?_
 rintro e w4 ⟨rfl, hb4⟩
 have hy4 : w.heap.size + 1 < w4.heap.size := by have := hb4.size; omega
 have hx4 : w.heap.size < w4.heap.size := by omega
 obtain ⟨hc4, hf4⟩ := bcell hb4
 have B4 : Hid (Below w.heap.size w w4) := below_more B3 hb4 (Below.size B3)
 clear hb4
 go_wp2_with fail
 refine (eqGlues_same ((GIn.below HX.1.h4 B4).1) ((GIn.below HX.2.h4 B4).1) HS.2.2.2.2.1).mono ?_
 rintro e w5 ⟨rfl, hb5⟩
 have hy5 : w.heap.size + 1 < w5.heap.size := by have := hb5.size; omega
 have hx5 : w.heap.size < w5.heap.size := by omega
 obtain ⟨hc5, hf5⟩ := bcell hb5
 have B5 : Hid (Below w.heap.size w w5) := below_more B4 hb5 (Below.size B4)
 clear hb5
 go_wp2_with fail
 refine (eqTss_same (SRow.below tsStable HX.1.h5 B5) (SRow.below tsStable HX.2.h5 B5) HS.2.2.2.2.2).mono ?_
 rintro e w6 ⟨rfl, hb6⟩
 have hy6 : w.heap.size + 1 < w6.heap.size := by have := hb6.size; omega
 have hx6 : w.heap.size < w6.heap.size := by omega
 obtain ⟨hc6, hf6⟩ := bcell hb6
 have B6 : Hid (Below w.heap.size w w6) := below_more B5 hb6 (Below.size B5)
 clear hb6
 go_wp2
 go_ret
 exact ⟨rfl, B6⟩
end Go.Proofs.YtbpidcfoldkhgaaGreat
