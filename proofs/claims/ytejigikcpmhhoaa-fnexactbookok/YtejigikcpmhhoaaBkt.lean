/-
  Books weighed, copied and compared.
-/
import Derived.Test.YtejigikcpmhhoaaBki
namespace Go.Proofs.Ytejigikcpmhhoaa
open Go.RowKit
set_option linter.unusedVariables false
set_option linter.unusedSimpArgs false

def FnR (xs : List Pt) : Prop := xs.length ≤ 9223372036854775807 ∧ ∀ i, i < xs.length → FnP (xs.getD i Pt.none)

theorem heap_old {w : World} {T : Nat} {x : Obj} (h : w.heap[T]? = some x) (o : Obj) : (w.alloc o).heap[T]? = some x := (Below.heap_alloc w o T (Array.getElem?_eq_some_iff.1 h).1).trans h

set_option maxHeartbeats 1000000 in
theorem szBook_any {vp vw : Value} {ps ws : List Pt} {w : World} {l : Int} (h1 : PRow 0 w vp ps) (h2 : PRow 0 w vw ws) (hf1 : FnR ps) (hf2 : FnR ws) (hl0 : 0 ≤ l) (hl1 : l ≤ 1048576) :
    Calls Try.prog 23 #[.agg #[vp, vw], .int .i64 l] w fun e w' => (∃ m : Int, e = .returned (.int .i64 m) ∧ m ≤ l ∧ (0 ≤ m → SmR ps ∧ SmR ws)) ∧ Below w.heap.size w w' := by
  have H1 := hideP h1
  have H2 := hideP h2
  obtain ⟨a1, c1, rfl⟩ := h1.shape
  obtain ⟨a2, c2, rfl⟩ := h2.shape
  have F1 := hideP hf1
  have F2 := hideP hf2
  obtain ⟨n1, hn1⟩ : ∃ n, n = ps.length := ⟨_, rfl⟩
  obtain ⟨n2, hn2⟩ : ∃ n, n = ws.length := ⟨_, rfl⟩
  rw [← hn1] at H1
  rw [← hn2] at H2
  rw [← hn1, ← hn2]
  clear h1 h2 hf1 hf2 hn1 hn2
  go_enter Try.func23, Try.ntmps23
  go_wp2_with fail
  refine (szPatternS_any (SRow.below ptStable H1.out (below1 _ _)) F1.out hl0 hl1).mono ?_
  rintro e w1 ⟨⟨m, rfl, hml, hm⟩, hb1⟩
  have hz1 : w.heap.size < w1.heap.size := by have := hb1.size; simp at this; omega
  have q1 : w1.cell? ⟨w.heap.size, 1, none⟩ = some (.slice a2 n2 c2) := by rw [(bcell hb1).1 _ _ (by simp)]; simp [go_sem]
  have B1 : Hid (Below w.heap.size w w1) := below_more (below1 _ _) hb1 (by simp)
  have HM := hideP hm
  clear hb1 hm
  by_cases hneg : m < 0
  · go_wp2
    go_ret
    exact ⟨⟨-1, rfl, by omega, fun h => by omega⟩, B1⟩
  · go_wp2_with fail
    refine (szExceptionS_any (SRow.below ptStable H2.out B1) F2.out (by omega) (by omega)).mono ?_
    rintro e w2 ⟨⟨m2, rfl, hml2, hm2⟩, hb2⟩
    have B2 : Hid (Below w.heap.size w w2) := below_more B1 hb2 (Below.size B1)
    have HM2 := hideP hm2
    clear hb2 hm2
    by_cases hneg2 : m2 < 0
    · go_wp2
      go_ret
      exact ⟨⟨-1, rfl, by omega, fun h => by omega⟩, B2⟩
    · go_wp2
      go_ret
      exact ⟨⟨m2, rfl, by omega, fun h => ⟨HM.out (by omega), HM2.out h⟩⟩, B2⟩

set_option maxHeartbeats 2000000 in
theorem toBook_any {vp vw : Value} {ps ws : List Pt} {w : World} (h1 : PRow 0 w vp ps) (h2 : PRow 0 w vw ws) (hs1 : SmR ps) (hs2 : SmR ws) :
    Calls Try.prog 25 #[.agg #[vp, vw]] w fun e w' => ∃ u1 u2, e = .returned (.agg #[u1, u2]) ∧ PRow w.heap.size w' u1 ps ∧ PRow w.heap.size w' u2 ws ∧ Below w.heap.size w w' := by
  have H1 := hideP h1
  have H2 := hideP h2
  obtain ⟨a1, c1, rfl⟩ := h1.shape
  obtain ⟨a2, c2, rfl⟩ := h2.shape
  have S1 := hideP hs1
  have S2 := hideP hs2
  obtain ⟨n1, hn1⟩ : ∃ n, n = ps.length := ⟨_, rfl⟩
  obtain ⟨n2, hn2⟩ : ∃ n, n = ws.length := ⟨_, rfl⟩
  rw [← hn1] at H1
  rw [← hn2] at H2
  rw [← hn1, ← hn2]
  clear h1 h2 hs1 hs2 hn1 hn2
  go_enter Try.func25, Try.ntmps25
  go_wp2_with fail
  refine (toPatternS_any (SRow.below ptStable H1.out (below3 _ _ _ _)) S1.out).mono ?_
  rintro e w1 ⟨u1, rfl, hp1, hb1⟩
  obtain ⟨x1, m1, k1, rfl⟩ : ∃ a n c, u1 = .slice a n c := by obtain ⟨a, c, rfl⟩ := hp1.shape; exact ⟨_, _, _, rfl⟩
  have hz1 : w.heap.size + 1 + 1 < w1.heap.size := by have := hb1.size; simp at this; omega
  have hy1 : w.heap.size + 1 < w1.heap.size := by omega
  have hx1 : w.heap.size < w1.heap.size := by omega
  obtain ⟨hc1, hf1⟩ := bcell hb1
  have B1 : Hid (Below w.heap.size w w1) := below_more (below3 _ _ _ _) hb1 (by simp; omega)
  simp only [World.size_alloc, World.size_setCell] at hc1 hf1
  have P2 : Hid (PRow (w.heap.size + 1 + 1 + 1) w1 (.slice x1 m1 k1) ps) := hp1.mono ptStable (by simp)
  have HB1 := hideP hb1
  have HQ2 : Hid (∀ W, Below (((w.alloc (.cells #[.slice a1 n1 c1, .slice a2 n2 c2] 44)).alloc (.cells #[.slice none 0 0, .slice none 0 0] 50)).alloc (.cells #[.slice none 0 0, .slice none 0 0] 50)).heap.size (((w.alloc (.cells #[.slice a1 n1 c1, .slice a2 n2 c2] 44)).alloc (.cells #[.slice none 0 0, .slice none 0 0] 50)).alloc (.cells #[.slice none 0 0, .slice none 0 0] 50)) W → W.heap[w.heap.size + 1 + 1]? = some (.cells #[.slice none 0 0, .slice none 0 0] 50 (0, 0)) ∧ W.heap[w.heap.size + 1]? = some (.cells #[.slice none 0 0, .slice none 0 0] 50 (0, 0))) := hideP (fun W hW => ⟨(hW.block _ (by simp)).trans (by
    have := heap_last ((w.alloc (.cells #[.slice a1 n1 c1, .slice a2 n2 c2] 44)).alloc (.cells #[.slice none 0 0, .slice none 0 0] 50)) (.cells #[.slice none 0 0, .slice none 0 0] 50)
    rwa [World.size_alloc, World.size_alloc] at this), (hW.block _ (by first | (simp; done) | (simp; omega))).trans (heap_old (by
    have := heap_last (w.alloc (.cells #[.slice a1 n1 c1, .slice a2 n2 c2] 44)) (.cells #[.slice none 0 0, .slice none 0 0] 50)
    rwa [World.size_alloc] at this) _)⟩)
  clear hb1 hp1
  have q1 : w1.cell? ⟨w.heap.size, 1, none⟩ = some (.slice a2 n2 c2) := by rw [hc1 _ _ (by omega)]; simp [go_sem]
  have q2 : w1.heap[w.heap.size + 1 + 1]? = some (.cells #[.slice none 0 0, .slice none 0 0] 50 (0, 0)) := (HQ2.out _ HB1.out).1
  have q3 : w1.heap[w.heap.size + 1]? = some (.cells #[.slice none 0 0, .slice none 0 0] 50 (0, 0)) := (HQ2.out _ HB1.out).2
  have B2 : Hid (Below w.heap.size w (w1.setCell ⟨w.heap.size + 1 + 1, 0, none⟩ (.slice x1 m1 k1))) := hideP (Below.setCell B1 (by simp; omega) _)
  have P3 : Hid (PRow (w.heap.size + 1 + 1 + 1) (w1.setCell ⟨w.heap.size + 1 + 1, 0, none⟩ (.slice x1 m1 k1)) (.slice x1 m1 k1) ps) := hideP (SRow.abv ptStable P2 (Abv.set (by omega) _))
  have R3 : Hid ((w1.setCell ⟨w.heap.size + 1 + 1, 0, none⟩ (.slice x1 m1 k1)).heap[w.heap.size + 1 + 1]? = some (.cells #[.slice x1 m1 k1, .slice none 0 0] 50 (0, 0))) := hideP (heap_setCell_same w1 _ 0 _ _ _ q2)
  have R3b : Hid ((w1.setCell ⟨w.heap.size + 1 + 1, 0, none⟩ (.slice x1 m1 k1)).heap[w.heap.size + 1]? = some (.cells #[.slice none 0 0, .slice none 0 0] 50 (0, 0))) := hideP ((Below.heap_setCell w1 _ _ _ (by simp)).trans q3)
  go_wp2_with fail
  clear q1 q2 q3 hc1 hf1 HQ2 HB1 B1 P2
  generalize (w1.setCell ⟨w.heap.size + 1 + 1, 0, none⟩ (.slice x1 m1 k1)) = W1 at B2 P3 R3 R3b ⊢
  refine (toExceptionS_any (SRow.below ptStable H2.out B2.out) S2.out).mono ?_
  rintro e w2 ⟨u2, rfl, hp2, hb2⟩
  obtain ⟨x2, m2, k2, rfl⟩ : ∃ a n c, u2 = .slice a n c := by obtain ⟨a, c, rfl⟩ := hp2.shape; exact ⟨_, _, _, rfl⟩
  have r4 : w2.heap[w.heap.size + 1 + 1]? = some (.cells #[.slice x1 m1 k1, .slice none 0 0] 50 (0, 0)) := (hb2.block _ (Array.getElem?_eq_some_iff.1 R3.out).1).trans R3.out
  have hW1 : w.heap.size + 1 + 1 < W1.heap.size := (Array.getElem?_eq_some_iff.1 R3.out).1
  have t1 : w2.cell? ⟨w.heap.size + 1 + 1, 1, none⟩ = some (.slice none 0 0) := by rw [cell_of_row w2 _ _ _ _ _ r4]; rfl
  have t0 : w2.cell? ⟨w.heap.size + 1 + 1, 0, none⟩ = some (.slice x1 m1 k1) := by rw [cell_of_row w2 _ _ _ _ _ r4]; rfl
  have tf : ∀ o, w2.frozen? ⟨w.heap.size + 1 + 1, o, none⟩ = false := fun o => frozen_of_row w2 _ _ _ _ r4
  have tz : w.heap.size + 1 + 1 < w2.heap.size := (Array.getElem?_eq_some_iff.1 r4).1
  have HF : Hid (PRow (w.heap.size + 1 + 1 + 1) w2 (.slice x1 m1 k1) ps ∧ PRow (w.heap.size + 1 + 1 + 1) w2 (.slice x2 m2 k2) ws ∧ Below w.heap.size w w2) := hideP ⟨SRow.below ptStable P3.out hb2, SRow.mono ptStable hp2 (by omega), below_more B2.out hb2 B2.out.size⟩
  have r4b : w2.heap[w.heap.size + 1]? = some (.cells #[.slice none 0 0, .slice none 0 0] 50 (0, 0)) := (hb2.block _ (Array.getElem?_eq_some_iff.1 R3b.out).1).trans R3b.out
  have r5b : (w2.setCell ⟨w.heap.size + 1 + 1, 1, none⟩ (.slice x2 m2 k2)).heap[w.heap.size + 1]? = some (.cells #[.slice none 0 0, .slice none 0 0] 50 (0, 0)) := (Below.heap_setCell w2 _ _ _ (by simp)).trans r4b
  have y0 : w2.cell? ⟨w.heap.size + 1, 0, none⟩ = some (.slice none 0 0) := by rw [cell_of_row w2 _ _ _ _ _ r4b]; rfl
  have y1 : w2.cell? ⟨w.heap.size + 1, 1, none⟩ = some (.slice none 0 0) := by rw [cell_of_row w2 _ _ _ _ _ r4b]; rfl
  have yf : ∀ o, w2.frozen? ⟨w.heap.size + 1, o, none⟩ = false := fun o => frozen_of_row w2 _ _ _ _ r4b
  have yz : w.heap.size + 1 < w2.heap.size := by omega
  have h6 := heap_setCell_same _ (w.heap.size + 1) 1 _ 50 (.slice x2 m2 k2) (heap_setCell_same _ (w.heap.size + 1) 0 _ 50 (.slice x1 m1 k1) r5b)
  have HE : Hid ((((w2.setCell ⟨w.heap.size + 1 + 1, 1, none⟩ (.slice x2 m2 k2)).setCell ⟨w.heap.size + 1, 0, none⟩ (.slice x1 m1 k1)).setCell ⟨w.heap.size + 1, 1, none⟩ (.slice x2 m2 k2)).heap[w.heap.size + 1]? = some (.cells #[.slice x1 m1 k1, .slice x2 m2 k2] 50 (0, 0))) := hideP h6
  have HX : Hid (PRow w.heap.size (((w2.setCell ⟨w.heap.size + 1 + 1, 1, none⟩ (.slice x2 m2 k2)).setCell ⟨w.heap.size + 1, 0, none⟩ (.slice x1 m1 k1)).setCell ⟨w.heap.size + 1, 1, none⟩ (.slice x2 m2 k2)) (.slice x1 m1 k1) ps ∧ PRow w.heap.size (((w2.setCell ⟨w.heap.size + 1 + 1, 1, none⟩ (.slice x2 m2 k2)).setCell ⟨w.heap.size + 1, 0, none⟩ (.slice x1 m1 k1)).setCell ⟨w.heap.size + 1, 1, none⟩ (.slice x2 m2 k2)) (.slice x2 m2 k2) ws ∧ Below w.heap.size w (((w2.setCell ⟨w.heap.size + 1 + 1, 1, none⟩ (.slice x2 m2 k2)).setCell ⟨w.heap.size + 1, 0, none⟩ (.slice x1 m1 k1)).setCell ⟨w.heap.size + 1, 1, none⟩ (.slice x2 m2 k2))) := hideP
    ⟨SRow.mono ptStable (SRow.abv ptStable (SRow.abv ptStable (SRow.abv ptStable HF.out.1 (Abv.set (by omega) _)) (Abv.set (by omega) _)) (Abv.set (by omega) _)) (by omega), SRow.mono ptStable (SRow.abv ptStable (SRow.abv ptStable (SRow.abv ptStable HF.out.2.1 (Abv.set (by omega) _)) (Abv.set (by omega) _)) (Abv.set (by omega) _)) (by omega),
      Below.setCell (Below.setCell (Below.setCell HF.out.2.2 (by simp; omega) _) (by simp) _) (by simp) _⟩
  clear hp2 hb2 r4 r4b r5b h6
  go_wp2
  have g0 : (((w2.setCell ⟨w.heap.size + 1 + 1, 1, none⟩ (.slice x2 m2 k2)).setCell ⟨w.heap.size + 1, 0, none⟩ (.slice x1 m1 k1)).setCell ⟨w.heap.size + 1, 1, none⟩ (.slice x2 m2 k2)).cell? ⟨w.heap.size + 1, 0, none⟩ = some (.slice x1 m1 k1) := by rw [cell_of_row _ _ _ _ _ _ HE.out]; rfl
  have g1 : (((w2.setCell ⟨w.heap.size + 1 + 1, 1, none⟩ (.slice x2 m2 k2)).setCell ⟨w.heap.size + 1, 0, none⟩ (.slice x1 m1 k1)).setCell ⟨w.heap.size + 1, 1, none⟩ (.slice x2 m2 k2)).cell? ⟨w.heap.size + 1, 1, none⟩ = some (.slice x2 m2 k2) := by rw [cell_of_row _ _ _ _ _ _ HE.out]; rfl
  obtain ⟨hx1, hx2, hx3⟩ := HX.out
  generalize (((w2.setCell ⟨w.heap.size + 1 + 1, 1, none⟩ (.slice x2 m2 k2)).setCell ⟨w.heap.size + 1, 0, none⟩ (.slice x1 m1 k1)).setCell ⟨w.heap.size + 1, 1, none⟩ (.slice x2 m2 k2)) = W at g0 g1 hx1 hx2 hx3 ⊢
  exact bodyPost_ret (v := .agg #[.slice x1 m1 k1, .slice x2 m2 k2]) (by simp [results, Try.results25, go_sem, g0, g1]) rfl ⟨_, _, rfl, hx1, hx2, hx3⟩

set_option maxHeartbeats 1000000 in
theorem eqBook_same {vp vw up uw : Value} {ps ws : List Pt} {w : World} (h1 : PRow 0 w vp ps) (h2 : PRow 0 w vw ws) (g1 : PRow 0 w up ps) (g2 : PRow 0 w uw ws) (hs1 : SmR ps) (hs2 : SmR ws) :
    Calls Try.prog 27 #[.agg #[vp, vw], .agg #[up, uw]] w fun e w' => e = .returned (.bool true) ∧ Below w.heap.size w w' := by
  have HX := hideP (And.intro h1 (And.intro h2 (And.intro g1 g2)))
  obtain ⟨a1, n1, c1, rfl⟩ : ∃ a n c, vp = .slice a n c := by obtain ⟨a, c, rfl⟩ := h1.shape; exact ⟨_, _, _, rfl⟩
  obtain ⟨a2, n2, c2, rfl⟩ : ∃ a n c, vw = .slice a n c := by obtain ⟨a, c, rfl⟩ := h2.shape; exact ⟨_, _, _, rfl⟩
  obtain ⟨a3, n3, c3, rfl⟩ : ∃ a n c, up = .slice a n c := by obtain ⟨a, c, rfl⟩ := g1.shape; exact ⟨_, _, _, rfl⟩
  obtain ⟨a4, n4, c4, rfl⟩ : ∃ a n c, uw = .slice a n c := by obtain ⟨a, c, rfl⟩ := g2.shape; exact ⟨_, _, _, rfl⟩
  have S1 := hideP hs1
  have S2 := hideP hs2
  clear h1 h2 g1 g2 hs1 hs2
  go_enter Try.func27, Try.ntmps27
  go_wp2_with fail
  refine (eqPatternS_same (SRow.below ptStable HX.out.1 (below2 _ _ _)) (SRow.below ptStable HX.out.2.2.1 (below2 _ _ _)) S1.out).mono ?_
  rintro e w1 ⟨rfl, hb1⟩
  have q1 : w1.cell? ⟨w.heap.size, 1, none⟩ = some (.slice a2 n2 c2) := by rw [(bcell hb1).1 _ _ (by simp; omega)]; simp [go_sem]
  have q2 : w1.cell? ⟨w.heap.size + 1, 1, none⟩ = some (.slice a4 n4 c4) := by rw [(bcell hb1).1 _ _ (by simp)]; simp [go_sem]
  have hz1 : w.heap.size + 1 < w1.heap.size := by have := hb1.size; simp at this; omega
  have hz0 : w.heap.size < w1.heap.size := by omega
  have B1 : Hid (Below w.heap.size w w1) := below_more (below2 _ _ _) hb1 (by simp; omega)
  clear hb1
  go_wp2_with fail
  refine (eqExceptionS_same (SRow.below ptStable HX.out.2.1 B1) (SRow.below ptStable HX.out.2.2.2 B1) S2.out).mono ?_
  rintro e w2 ⟨rfl, hb2⟩
  have B2 : Hid (Below w.heap.size w w2) := below_more B1 hb2 (Below.size B1)
  clear hb2
  go_wp2
  go_ret
  exact ⟨rfl, B2⟩
end Go.Proofs.Ytejigikcpmhhoaa
