import Derived.Test.YtbpidcfoldkhgaaGreatTss
import Derived.Test.YtbpidcfoldkhgaaGreatRowk
namespace Go.Proofs.YtbpidcfoldkhgaaGreat
open Go.RowKit
set_option linter.unusedVariables false
set_option linter.unusedSimpArgs false
abbrev bindV (nm : ByteArray) (k n : Int) (t : Tk) (vp : Value) (sl : Int) (vb : Value) : Value := .agg #[.string nm, .int .i64 k, .int .i64 n, .int .i64 t.c, .int .i64 t.h, .string t.s, vp, .int .i64 sl, vb]
def FnB (x : Bd) : Prop := x.nm.size ≤ 9223372036854775807 ∧ x.m.t.s.size ≤ 9223372036854775807 ∧ Fine x.m.p ∧ Fine x.m.b
def SmB (x : Bd) : Prop := x.m.p.length ≤ 1048576 ∧ x.m.b.length ≤ 1048576
set_option maxHeartbeats 2000000 in
theorem toBind_any {nm : ByteArray} {k n : Int} {t : Tk} {vp vb : Value} {p b : List Tk} {sl : Int} {w : World} (hp : TRow w vp p) (hb : TRow w vb b) (hs : SmB ⟨nm, ⟨k, n, t, p, sl, b⟩⟩) :
 Calls Tryz.prog 91 #[bindV nm k n t vp sl vb] w fun e w' => ∃ vp' vb', e = .returned (bindV nm k n t vp' sl vb') ∧ TIn w.heap.size w' vp' p ∧ TIn w.heap.size w' vb' b ∧ Below w.heap.size w w' := by
 have HP : Hid (TRow w vp p) := hp
 have HB : Hid (TRow w vb b) := hb
 obtain ⟨ao, n0, cap, rfl, hx, hy⟩ := hp
 obtain ⟨ao2, n2, cap2, rfl, hx2, hy2⟩ := hb
 clear hx hy hx2 hy2
 have HS : Hid (p.length ≤ 1048576 ∧ b.length ≤ 1048576) := hs
 clear hs
 go_enter Tryz.func91, Tryz.ntmps91
 go_wp2_with fail
 refine (toMean_any (TRow.below HP (below3 _ _ _ _)) (TRow.below HB (below3 _ _ _ _)) HS.1 HS.2).mono ?_
 rintro e w1 ⟨v1, v2, rfl, hp1, hq1, hb1⟩
 obtain ⟨a1, n1, c1, rfl⟩ := hp1.shape
 obtain ⟨a2, m2, c2, rfl⟩ := hq1.shape
 have hz1 : w.heap.size + 1 + 1 < w1.heap.size := by have := hb1.size; simp at this; omega
 have hy1 : w.heap.size + 1 < w1.heap.size := by omega
 have hx1 : w.heap.size < w1.heap.size := by omega
 obtain ⟨hc1, hf1⟩ := bcell hb1
 have B1 : Hid (Below w.heap.size w w1) := below_more (below3 _ _ _ _) hb1 (by simp; omega)
 simp only [World.size_alloc, World.size_setCell] at hc1 hf1
 have P2 : Hid (TIn (w.heap.size + 1 + 1 + 1) w1 (.slice a1 n1 c1) p) := hp1.mono (by simp)
 have P3 : Hid (TIn (w.heap.size + 1 + 1 + 1) w1 (.slice a2 m2 c2) b) := hq1.mono (by simp)
 clear hb1 hp1 hq1
 go_wp2
 refine bodyPost_ret (v := bindV nm k n t (.slice a1 n1 c1) sl (.slice a2 m2 c2)) (by simp [results, Tryz.results91, go_sem, hc1, hx1, hy1, hz1]) rfl ⟨_, _, rfl, ?_, ?_, ?_⟩
 ·exact TIn.mono (TIn.abv (TIn.abv (TIn.abv (TIn.abv (TIn.abv (TIn.abv (TIn.abv (TIn.abv (TIn.abv (TIn.abv (TIn.abv (TIn.abv (TIn.abv (TIn.abv (TIn.abv (TIn.abv (TIn.abv (P2) (Abv.set (by omega) _)) (Abv.set (by omega) _)) (Abv.set (by omega) _)) (Abv.set (by omega) _)) (Abv.set (by omega) _)) (Abv.set (by omega) _)) (Abv.set (by omega) _)) (Abv.set (by omega) _)) (Abv.set (by omega) _)) (Abv.set (by omega) _)) (Abv.set (by omega) _)) (Abv.set (by omega) _)) (Abv.set (by omega) _)) (Abv.set (by omega) _)) (Abv.set (by omega) _)) (Abv.set (by omega) _)) (Abv.set (by omega) _)) (by omega)
 ·exact TIn.mono (TIn.abv (TIn.abv (TIn.abv (TIn.abv (TIn.abv (TIn.abv (TIn.abv (TIn.abv (TIn.abv (TIn.abv (TIn.abv (TIn.abv (TIn.abv (TIn.abv (TIn.abv (TIn.abv (TIn.abv (P3) (Abv.set (by omega) _)) (Abv.set (by omega) _)) (Abv.set (by omega) _)) (Abv.set (by omega) _)) (Abv.set (by omega) _)) (Abv.set (by omega) _)) (Abv.set (by omega) _)) (Abv.set (by omega) _)) (Abv.set (by omega) _)) (Abv.set (by omega) _)) (Abv.set (by omega) _)) (Abv.set (by omega) _)) (Abv.set (by omega) _)) (Abv.set (by omega) _)) (Abv.set (by omega) _)) (Abv.set (by omega) _)) (Abv.set (by omega) _)) (by omega)
 ·exact Below.setCell (Below.setCell (Below.setCell (Below.setCell (Below.setCell (Below.setCell (Below.setCell (Below.setCell (Below.setCell (Below.setCell (Below.setCell (Below.setCell (Below.setCell (Below.setCell (Below.setCell (Below.setCell (Below.setCell (B1) (by first | (simp; done) | (simp; omega)) _) (by first | (simp; done) | (simp; omega)) _) (by first | (simp; done) | (simp; omega)) _) (by first | (simp; done) | (simp; omega)) _) (by first | (simp; done) | (simp; omega)) _) (by first | (simp; done) | (simp; omega)) _) (by first | (simp; done) | (simp; omega)) _) (by first | (simp; done) | (simp; omega)) _) (by first | (simp; done) | (simp; omega)) _) (by first | (simp; done) | (simp; omega)) _) (by first | (simp; done) | (simp; omega)) _) (by first | (simp; done) | (simp; omega)) _) (by first | (simp; done) | (simp; omega)) _) (by first | (simp; done) | (simp; omega)) _) (by first | (simp; done) | (simp; omega)) _) (by first | (simp; done) | (simp; omega)) _) (by first | (simp; done) | (simp; omega)) _
set_option maxHeartbeats 2000000 in
theorem eqBind_same {nm : ByteArray} {k n : Int} {t : Tk} {vp vb vp' vb' : Value} {p b : List Tk} {sl : Int} {w : World} (hp : TRow w vp p) (hb : TRow w vb b) (hp' : TRow w vp' p) (hb' : TRow w vb' b) (hs : SmB ⟨nm, ⟨k, n, t, p, sl, b⟩⟩) :
 Calls Tryz.prog 112 #[bindV nm k n t vp sl vb, bindV nm k n t vp' sl vb'] w fun e w' => e = .returned (.bool true) ∧ Below w.heap.size w w' := by
 have HP : Hid (TRow w vp p ∧ TRow w vp' p) := ⟨hp, hp'⟩
 have HB : Hid (TRow w vb b ∧ TRow w vb' b) := ⟨hb, hb'⟩
 obtain ⟨ao, n0, cap, rfl, hx, hy⟩ := hp
 obtain ⟨ao2, n2, cap2, rfl, hx2, hy2⟩ := hb
 obtain ⟨ao3, n3, cap3, rfl, hx3, hy3⟩ := hp'
 obtain ⟨ao4, n4, cap4, rfl, hx4, hy4⟩ := hb'
 have HS : Hid (p.length ≤ 1048576 ∧ b.length ≤ 1048576) := hs
 clear hx hy hx2 hy2 hx3 hy3 hx4 hy4 hs
 go_enter Tryz.func112, Tryz.ntmps112
 go_wp2_with fail
 refine (eqMean_same (TRow.below HP.1 (below2 _ _ _)) (TRow.below HB.1 (below2 _ _ _)) (TRow.below HP.2 (below2 _ _ _)) (TRow.below HB.2 (below2 _ _ _)) HS.1 HS.2).mono ?_
 rintro e w1 ⟨rfl, hb1⟩
 have B1 : Hid (Below w.heap.size w w1) := below_more (below2 _ _ _) hb1 (by simp; omega)
 clear hb1
 go_wp2
 go_ret
 exact ⟨rfl, B1⟩
end Go.Proofs.YtbpidcfoldkhgaaGreat
