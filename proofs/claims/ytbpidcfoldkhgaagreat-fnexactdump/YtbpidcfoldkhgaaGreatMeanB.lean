import Derived.Test.YtbpidcfoldkhgaaGreatMean
namespace Go.Proofs.YtbpidcfoldkhgaaGreat
open Go.RowKit
set_option linter.unusedVariables false
set_option linter.unusedSimpArgs false
theorem below_more {w W w1 : World} {B : Nat} (h : Below B w W) (hb : Below W.heap.size W w1) (hB : B ≤ W.heap.size) : Below B w w1 := h.trans (hb.mono hB)
set_option maxHeartbeats 2000000 in
theorem toMean_any {k n : Int} {t : Tk} {vp vb : Value} {p b : List Tk} {sl : Int} {w : World} (hp : TRow w vp p) (hb : TRow w vb b) (lp : p.length ≤ 1048576) (lb : b.length ≤ 1048576) :
 Calls Tryz.prog 117 #[meanV k n t vp sl vb] w fun e w' => ∃ vp' vb', e = .returned (meanV k n t vp' sl vb') ∧ TIn w.heap.size w' vp' p ∧ TIn w.heap.size w' vb' b ∧ Below w.heap.size w w' := by
 have HP : Hid (TRow w vp p) := hp
 have HB : Hid (TRow w vb b) := hb
 obtain ⟨ao, n0, cap, rfl, hx, hy⟩ := hp
 obtain ⟨ao2, n2, cap2, rfl, hx2, hy2⟩ := hb
 clear hx hy hx2 hy2
 go_enter Tryz.func117, Tryz.ntmps117
 go_wp2_with fail
 refine (toToken_any _ _ _ _).mono ?_
 rintro e w1 ⟨rfl, hb1⟩
 have hz1 : w.heap.size + 1 + 1 < w1.heap.size := by have := hb1.size; simp at this; omega
 have hy1 : w.heap.size + 1 < w1.heap.size := by omega
 have hx1 : w.heap.size < w1.heap.size := by omega
 obtain ⟨hc1, hf1⟩ := bcell hb1
 have B1 : Hid (Below w.heap.size w w1) := below_more (below3 _ _ _ _) hb1 (by simp; omega)
 simp only [World.size_alloc, World.size_setCell] at hc1 hf1
 clear hb1
 go_wp2_with fail
 have BW : Below w.heap.size w (((w1.setCell ⟨w.heap.size + 1 + 1, 2, none⟩ (.int .i64 t.c)).setCell ⟨w.heap.size + 1 + 1, 3, none⟩ (.int .i64 t.h)).setCell ⟨w.heap.size + 1 + 1, 4, none⟩ (.string t.s)) := (((Below.setCell B1 (by simp; omega) _).setCell (by simp; omega) _).setCell (by simp; omega) _)
 refine (toMacro_any (TRow.below HP BW) (TRow.below HB BW) lp lb).mono ?_
 rintro e w2 ⟨v1, v2, rfl, hp1, hp2, hb2⟩
 obtain ⟨a1, n1, c1, rfl⟩ := hp1.shape
 obtain ⟨a2, m2, c2, rfl⟩ := hp2.shape
 have hz2 : w.heap.size + 1 + 1 < w2.heap.size := by have := hb2.size; simp at this; omega
 have hy2 : w.heap.size + 1 < w2.heap.size := by omega
 have hx2 : w.heap.size < w2.heap.size := by omega
 obtain ⟨hc2, hf2⟩ := bcell hb2
 have B2 : Hid (Below w.heap.size w w2) := below_more BW hb2 (Below.size BW)
 have P2 : Hid (TIn (w.heap.size + 1 + 1 + 1) w2 (.slice a1 n1 c1) p) := hp1.mono (by simp; omega)
 have P3 : Hid (TIn (w.heap.size + 1 + 1 + 1) w2 (.slice a2 m2 c2) b) := hp2.mono (by simp; omega)
 simp only [World.size_setCell] at hc2 hf2
 clear hb2 hp1 hp2 BW
 go_wp2
 refine bodyPost_ret (v := meanV k n t (.slice a1 n1 c1) sl (.slice a2 m2 c2)) (by simp [results, Tryz.results117, go_sem, hc1, hc2, hx1, hx2, hy1, hy2, hz1, hz2]) rfl ⟨_, _, rfl, ?_, ?_, ?_⟩
 ·exact (TIn.abv (TIn.abv (TIn.abv (TIn.abv (TIn.abv (TIn.abv (TIn.abv (TIn.abv (TIn.abv (TIn.abv (TIn.abv P2 (Abv.set (by omega) _)) (Abv.set (by omega) _)) (Abv.set (by omega) _)) (Abv.set (by omega) _)) (Abv.set (by omega) _)) (Abv.set (by omega) _)) (Abv.set (by omega) _)) (Abv.set (by omega) _)) (Abv.set (by omega) _)) (Abv.set (by omega) _)) (Abv.set (by omega) _)).mono (by omega)
 ·exact (TIn.abv (TIn.abv (TIn.abv (TIn.abv (TIn.abv (TIn.abv (TIn.abv (TIn.abv (TIn.abv (TIn.abv (TIn.abv P3 (Abv.set (by omega) _)) (Abv.set (by omega) _)) (Abv.set (by omega) _)) (Abv.set (by omega) _)) (Abv.set (by omega) _)) (Abv.set (by omega) _)) (Abv.set (by omega) _)) (Abv.set (by omega) _)) (Abv.set (by omega) _)) (Abv.set (by omega) _)) (Abv.set (by omega) _)).mono (by omega)
 ·exact (((((((((((Below.setCell B2 (by first | (simp; done) | (simp; omega)) _).setCell (by first | (simp; done) | (simp; omega)) _).setCell (by first | (simp; done) | (simp; omega)) _).setCell (by first | (simp; done) | (simp; omega)) _).setCell (by first | (simp; done) | (simp; omega)) _).setCell (by first | (simp; done) | (simp; omega)) _).setCell (by first | (simp; done) | (simp; omega)) _).setCell (by first | (simp; done) | (simp; omega)) _).setCell (by first | (simp; done) | (simp; omega)) _).setCell (by first | (simp; done) | (simp; omega)) _).setCell (by first | (simp; done) | (simp; omega)) _)
set_option maxHeartbeats 2000000 in
theorem eqMacro_same {vp vb vp' vb' : Value} {p b : List Tk} {sl : Int} {w : World} (hp : TRow w vp p) (hb : TRow w vb b) (hp' : TRow w vp' p) (hb' : TRow w vb' b) (lp : p.length ≤ 1048576) (lb : b.length ≤ 1048576) :
 Calls Tryz.prog 137 #[macV vp sl vb, macV vp' sl vb'] w fun e w' => e = .returned (.bool true) ∧ Below w.heap.size w w' := by
 have HP : Hid (TRow w vp p ∧ TRow w vp' p) := ⟨hp, hp'⟩
 have HB : Hid (TRow w vb b ∧ TRow w vb' b) := ⟨hb, hb'⟩
 obtain ⟨ao, n0, cap, rfl, hx, hy⟩ := hp
 obtain ⟨ao2, n2, cap2, rfl, hx2, hy2⟩ := hb
 obtain ⟨ao3, n3, cap3, rfl, hx3, hy3⟩ := hp'
 obtain ⟨ao4, n4, cap4, rfl, hx4, hy4⟩ := hb'
 clear hx hy hx2 hy2 hx3 hy3 hx4 hy4
 go_enter Tryz.func137, Tryz.ntmps137
 go_wp2_with fail
 refine (eqTokens_same (TRow.below HP.1 (below2 _ _ _)) (TRow.below HP.2 (below2 _ _ _)) lp).mono ?_
 rintro e w1 ⟨rfl, hb1⟩
 have hy1 : w.heap.size + 1 < w1.heap.size := by have := hb1.size; simp at this; omega
 have hx1 : w.heap.size < w1.heap.size := by omega
 obtain ⟨hc1, hf1⟩ := bcell hb1
 have B1 : Hid (Below w.heap.size w w1) := below_more (below2 _ _ _) hb1 (by simp; omega)
 simp only [World.size_alloc] at hc1 hf1
 clear hb1
 go_wp2_with fail
 refine (eqTokens_same (TRow.below HB.1 B1) (TRow.below HB.2 B1) lb).mono ?_
 rintro e w2 ⟨rfl, hb2⟩
 have B2 : Hid (Below w.heap.size w w2) := below_more B1 hb2 (Below.size B1)
 clear hb2
 go_wp2
 go_ret
 exact ⟨rfl, B2⟩
set_option maxHeartbeats 2000000 in
theorem eqMean_same {k n : Int} {t : Tk} {vp vb vp' vb' : Value} {p b : List Tk} {sl : Int} {w : World} (hp : TRow w vp p) (hb : TRow w vb b) (hp' : TRow w vp' p) (hb' : TRow w vb' b) (lp : p.length ≤ 1048576) (lb : b.length ≤ 1048576) :
 Calls Tryz.prog 130 #[meanV k n t vp sl vb, meanV k n t vp' sl vb'] w fun e w' => e = .returned (.bool true) ∧ Below w.heap.size w w' := by
 have HP : Hid (TRow w vp p ∧ TRow w vp' p) := ⟨hp, hp'⟩
 have HB : Hid (TRow w vb b ∧ TRow w vb' b) := ⟨hb, hb'⟩
 obtain ⟨ao, n0, cap, rfl, hx, hy⟩ := hp
 obtain ⟨ao2, n2, cap2, rfl, hx2, hy2⟩ := hb
 obtain ⟨ao3, n3, cap3, rfl, hx3, hy3⟩ := hp'
 obtain ⟨ao4, n4, cap4, rfl, hx4, hy4⟩ := hb'
 clear hx hy hx2 hy2 hx3 hy3 hx4 hy4
 go_enter Tryz.func130, Tryz.ntmps130
 go_wp2_with fail
 refine (eqToken_same _ _ _ _).mono ?_
 rintro e w1 ⟨rfl, hb1⟩
 have hy1 : w.heap.size + 1 < w1.heap.size := by have := hb1.size; simp at this; omega
 have hx1 : w.heap.size < w1.heap.size := by omega
 obtain ⟨hc1, hf1⟩ := bcell hb1
 have B1 : Hid (Below w.heap.size w w1) := below_more (below2 _ _ _) hb1 (by simp; omega)
 simp only [World.size_alloc] at hc1 hf1
 clear hb1
 go_wp2_with fail
 refine (eqMacro_same (TRow.below HP.1 B1) (TRow.below HB.1 B1) (TRow.below HP.2 B1) (TRow.below HB.2 B1) lp lb).mono ?_
 rintro e w2 ⟨rfl, hb2⟩
 have B2 : Hid (Below w.heap.size w w2) := below_more B1 hb2 (Below.size B1)
 clear hb2
 go_wp2
 go_ret
 exact ⟨rfl, B2⟩
end Go.Proofs.YtbpidcfoldkhgaaGreat
