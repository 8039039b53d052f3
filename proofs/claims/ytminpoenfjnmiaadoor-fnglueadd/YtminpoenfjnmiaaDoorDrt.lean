/-
  The drawing of two glues.
-/
import Derived.Test.YtminpoenfjnmiaaDoorDrawG
import Derived.Test.YtminpoenfjnmiaaDoorBas
namespace Go.Proofs.YtminpoenfjnmiaaDoor
open Go.RowKit
set_option linter.unusedVariables false
set_option linter.unusedSimpArgs false

theorem fiveG_other {w : World} {g k : Nat} (h : k ≠ g) (a b c d e : Int) : (fiveG w g a b c d e).heap[k]? = w.heap[k]? := by
  unfold fiveG
  rw [Below.heap_setCell _ _ _ _ h, Below.heap_setCell _ _ _ _ h, Below.heap_setCell _ _ _ _ h, Below.heap_setCell _ _ _ _ h, Below.heap_setCell _ _ _ _ h]

theorem fiveG_below {B : Nat} {a w : World} {g : Nat} (h : Below B a w) (hg : B ≤ g) (v0 v1 v2 v3 v4 : Int) : Below B a (fiveG w g v0 v1 v2 v3 v4) :=
  ((((h.setCell (p := ⟨g, 0, none⟩) hg _).setCell (p := ⟨g, 1, none⟩) hg _).setCell (p := ⟨g, 2, none⟩) hg _).setCell (p := ⟨g, 3, none⟩) hg _).setCell (p := ⟨g, 4, none⟩) hg _

/-- Behind the stores of both answers. -/
theorem two_end {w w4 : World} {R : Nat} {s p po m mo s' p' po' m' mo' : Int} (hq0 : w4.heap[R]? = some (glueO 0 0 0 0 0)) (hq1 : w4.heap[R + 1]? = some (glueO 0 0 0 0 0)) (hb : Below w.heap.size w w4) (hR : R = w.heap.size) :
    ∀ W1 W2 W : World, W1 = fiveG w4 R s p po m mo → W2 = fiveG W1 (R + 1) s' p' po' m' mo' → W = W2.drew →
    W.heap[R]? = some (glueO s p po m mo) ∧ W.heap[R + 1]? = some (glueO s' p' po' m' mo') ∧ Below w.heap.size w W := by
  intro W1 W2 W h1 h2 h3
  have k0 : W1.heap[R]? = some (glueO s p po m mo) := by rw [h1]; exact five_heap hq0 _ _ _ _ _
  have k1 : W1.heap[R + 1]? = some (glueO 0 0 0 0 0) := by rw [h1, fiveG_other (by omega)]; exact hq1
  have kb : Below w.heap.size w W1 := by rw [h1]; exact fiveG_below hb (by omega) _ _ _ _ _
  have j0 : W2.heap[R]? = some (glueO s p po m mo) := by rw [h2, fiveG_other (by omega)]; exact k0
  have j1 : W2.heap[R + 1]? = some (glueO s' p' po' m' mo') := by rw [h2]; exact five_heap k1 _ _ _ _ _
  have jb : Below w.heap.size w W2 := by rw [h2]; exact fiveG_below kb (by omega) _ _ _ _ _
  have e : W.heap = W2.heap := by rw [h3]; rfl
  exact ⟨by rw [e]; exact j0, by rw [e]; exact j1, by rw [h3]; exact jb.drew⟩

set_option maxRecDepth 100000 in
set_option maxHeartbeats 4000000 in
theorem drawTwo_any (ao : Option Addr) (len cap : Nat) (w : World) (hB : Bytes w ao len cap) :
    Calls Tryd.prog 5 #[.slice ao len cap] w fun e w' => ∃ a b : Gl, e = .returned (.tuple #[a.v, b.v]) ∧ Below w.heap.size w w' := by
  have HB := hideP hB
  clear hB
  go_enter Tryd.func5, Tryd.ntmps5
  go_wp2_with fail
  obtain ⟨W0, hW0⟩ : ∃ T, T = (w.alloc (.cells #[.int .i64 0, .int .i64 0, .int .i64 0, .int .i64 0, .int .i64 0] 25)).alloc (.cells #[.int .i64 0, .int .i64 0, .int .i64 0, .int .i64 0, .int .i64 0] 25) := ⟨_, rfl⟩
  obtain ⟨R, hR⟩ : ∃ R, R = w.heap.size := ⟨_, rfl⟩
  have LW : Hid (Below w.heap.size w W0) := by rw [hW0]; exact ((Below.refl _ _).alloc (Nat.le_refl _) _).alloc (by simp) _
  have r0 : W0.heap[R]? = some (glueO 0 0 0 0 0) := by
    rw [hW0, hR, Below.heap_alloc _ _ _ (by simp)]
    exact heap_alloc_new w _
  have r1 : W0.heap[R + 1]? = some (glueO 0 0 0 0 0) := by
    rw [hW0, hR]
    have := heap_alloc_new (w.alloc (.cells #[.int .i64 0, .int .i64 0, .int .i64 0, .int .i64 0, .int .i64 0] 25)) (.cells #[.int .i64 0, .int .i64 0, .int .i64 0, .int .i64 0, .int .i64 0] 25)
    simpa using this
  have hz0 : W0.heap.size = R + 1 + 1 := by rw [hW0, hR]; simp
  have HB0 := hideP (HB.out.kept LW.out)
  rw [← hW0, ← hR]
  clear hW0 HB
  refine (new_any ao len cap W0 HB0.out).mono ?_
  rintro e w1 ⟨rfl, hc1⟩
  have r0' : w1.heap[R]? = some (glueO 0 0 0 0 0) := (hc1.choose_spec.choose_spec.2.2.2.block R (by omega)).trans r0
  have r1' : w1.heap[R + 1]? = some (glueO 0 0 0 0 0) := (hc1.choose_spec.choose_spec.2.2.2.block (R + 1) (by omega)).trans r1
  have z1 : W0.heap.size < w1.heap.size := hc1.lt
  have C1 := hideP hc1
  clear hc1 r0 r1
  go_wp2_with fail
  refine (drawGlue_any ao len cap W0 w1 HB0.out C1.out).mono ?_
  rintro e w2 ⟨⟨s, p, po, m, mo⟩, rfl, hc2, f2⟩
  have z2 : w1.heap.size ≤ w2.heap.size := f2.1
  have r0 := (f2.2 R (by omega) (by omega)).trans r0'
  have r1 := (f2.2 (R + 1) (by omega) (by omega)).trans r1'
  have C2 := hideP (hc2.alloc (.cells #[.int .i64 s, .int .i64 p, .int .i64 po, .int .i64 m, .int .i64 mo] 25))
  clear hc2 f2 r0' r1' C1
  simp only [Gl.v]
  go_wp2_with fail
  refine (drawGlue_any ao len cap W0 _ HB0.out C2.out).mono ?_
  rintro e w3 ⟨⟨s', p', po', m', mo'⟩, rfl, hc3, f3⟩
  obtain ⟨A, hA⟩ : ∃ A, A = w2.heap.size := ⟨_, rfl⟩
  have z3 : w2.heap.size + 1 ≤ w3.heap.size := by have := f3.1; simp at this; exact this
  have r0' := (f3.2 R (by simp; omega) (by omega)).trans ((Below.heap_alloc _ _ _ (by omega)).trans r0)
  have r1' := (f3.2 (R + 1) (by simp; omega) (by omega)).trans ((Below.heap_alloc _ _ _ (by omega)).trans r1)
  have bA : w3.heap[A]? = some (glueO s p po m mo) := by rw [hA]; exact (f3.2 w2.heap.size (by simp) (by omega)).trans (heap_alloc_new w2 _)
  have C3 := hideP (hc3.alloc (.cells #[.int .i64 s', .int .i64 p', .int .i64 po', .int .i64 m', .int .i64 mo'] 25))
  clear hc3 f3 r0 r1 C2
  simp only [Gl.v]
  rw [← hA]
  go_wp2_with fail
  refine (once_any 6 ao len cap W0 _ HB0.out C3.out (by omega) (by omega)).mono ?_
  rintro e w4 ⟨x, rfl, hc4, o4⟩
  obtain ⟨B, hB⟩ : ∃ B, B = w3.heap.size := ⟨_, rfl⟩
  have aA : w4.heap[A]? = some (glueO s p po m mo) := (o4 A (by omega)).trans ((Below.heap_alloc _ _ _ (by omega)).trans bA)
  have aB : w4.heap[B]? = some (glueO s' p' po' m' mo') := by rw [hB]; exact (o4 w3.heap.size (by omega)).trans (heap_alloc_new w3 _)
  have q0 : w4.heap[R]? = some (glueO 0 0 0 0 0) := (o4 R (by omega)).trans ((Below.heap_alloc _ _ _ (by omega)).trans r0')
  have q1 : w4.heap[R + 1]? = some (glueO 0 0 0 0 0) := (o4 (R + 1) (by omega)).trans ((Below.heap_alloc _ _ _ (by omega)).trans r1')
  have HBL : Hid (Below w.heap.size w w4) := LW.out.trans (hc4.choose_spec.choose_spec.2.2.2.mono (by have := LW.out.size; omega))
  rw [← hB]
  have hRA : R ≠ A := by omega
  have hRB : R ≠ B := by omega
  have hR1A : R + 1 ≠ A := by omega
  have hR1B : R + 1 ≠ B := by omega
  have hAB : A ≠ B := by omega
  have HLB : Hid (R ≤ B) := by show R ≤ B; omega
  clear hc4 o4 bA r0' r1' C3 HB0 z1 z2 z3 hz0 LW hA hB
  rw [← hR]
  have HR := hideP hR
  have zA : A < w4.heap.size := (Array.getElem?_eq_some_iff.1 aA).1
  have zB : B < w4.heap.size := (Array.getElem?_eq_some_iff.1 aB).1
  have zR : R < w4.heap.size := (Array.getElem?_eq_some_iff.1 q0).1
  have zR1 : R + 1 < w4.heap.size := (Array.getElem?_eq_some_iff.1 q1).1
  obtain ⟨a0, a1, a2, a3, a4⟩ := glue_cells aA
  obtain ⟨b0, b1, b2, b3, b4⟩ := glue_cells aB
  have fB : ∀ o, w4.frozen? ⟨B, o, none⟩ = false := fun o => by simp [World.frozen?, aB]
  have fR : ∀ o, w4.frozen? ⟨R, o, none⟩ = false := fun o => by simp [World.frozen?, q0]
  have fR1 : ∀ o, w4.frozen? ⟨R + 1, o, none⟩ = false := fun o => by simp [World.frozen?, q1]
  obtain ⟨u0, u1, u2, u3, u4⟩ := glue_cells q0
  obtain ⟨v0, v1, v2, v3, v4⟩ := glue_cells q1
  have HQ0 := hideP q0
  have HQ1 := hideP q1
  have HAA := hideP aA
  have HAB := hideP aB
  clear hR q0 q1 aA aB
  cases x
  · go_wp2
    go_region
    all_goals
      go_wp2
      obtain ⟨e0, e1, e2⟩ := two_end (s := s) (p := p) (po := po) (m := m) (mo := mo) (s' := s') (p' := p') (po' := po') (m' := m') (mo' := mo') HQ0.out HQ1.out HBL.out HR.out _ _ _ rfl rfl rfl
      obtain ⟨Wf, hWf⟩ : ∃ W, W = (fiveG (fiveG w4 R s p po m mo) (R + 1) s' p' po' m' mo').drew := ⟨_, rfl⟩
      rw [← hWf] at e0 e1 e2
      have hgoal := hWf
      unfold fiveG at hgoal
      rw [← hgoal]
      clear hgoal hWf HQ0 HQ1 HAA HAB a0 a1 a2 a3 a4 b0 b1 b2 b3 b4 u0 u1 u2 u3 u4 v0 v1 v2 v3 v4
      obtain ⟨c0, c1, c2, c3, c4⟩ := glue_cells e0
      obtain ⟨d0, d1, d2, d3, d4⟩ := glue_cells e1
      exact bodyPost_ret (v := .tuple #[glueV s p po m mo, glueV s' p' po' m' mo']) (by simp [results, Tryd.results5, go_sem, c0, c1, c2, c3, c4, d0, d1, d2, d3, d4]; try rfl) rfl ⟨⟨s, p, po, m, mo⟩, ⟨s', p', po', m', mo'⟩, rfl, e2⟩
  · go_wp2
    obtain ⟨np, hnp⟩ : ∃ np, np = wrap64 (-p) := ⟨_, rfl⟩
    rw [← hnp]
    obtain ⟨V, hV⟩ : ∃ V, V = (w4.setCell ⟨B, 1, none⟩ (.int .i64 np)).setCell ⟨B, 2, none⟩ (.int .i64 po) := ⟨_, rfl⟩
    have vA : V.heap[A]? = some (glueO s p po m mo) := by rw [hV, Below.heap_setCell _ _ _ _ hAB, Below.heap_setCell _ _ _ _ hAB]; exact HAA.out
    have vB : V.heap[B]? = some (glueO s' np po m' mo') := by
      rw [hV]
      exact heap_setCell_same _ B 2 _ 25 _ (heap_setCell_same _ B 1 _ 25 _ HAB.out)
    have vR : V.heap[R]? = some (glueO 0 0 0 0 0) := by rw [hV, Below.heap_setCell _ _ _ _ hRB, Below.heap_setCell _ _ _ _ hRB]; exact HQ0.out
    have vR1 : V.heap[R + 1]? = some (glueO 0 0 0 0 0) := by rw [hV, Below.heap_setCell _ _ _ _ hR1B, Below.heap_setCell _ _ _ _ hR1B]; exact HQ1.out
    have hBR : w.heap.size ≤ B := by have := HR.out; have := HLB.out; omega
    have vL : Hid (Below w.heap.size w V) := by rw [hV]; exact (HBL.out.setCell (p := ⟨B, 1, none⟩) hBR _).setCell (p := ⟨B, 2, none⟩) hBR _
    rw [← hV]
    clear hV hnp HQ0 HQ1 HAA HAB a0 a1 a2 a3 a4 b0 b1 b2 b3 b4 u0 u1 u2 u3 u4 v0 v1 v2 v3 v4 fB fR fR1 zA zB zR zR1 HBL hBR
    have zA : A < V.heap.size := (Array.getElem?_eq_some_iff.1 vA).1
    have zB : B < V.heap.size := (Array.getElem?_eq_some_iff.1 vB).1
    have zR : R < V.heap.size := (Array.getElem?_eq_some_iff.1 vR).1
    have zR1 : R + 1 < V.heap.size := (Array.getElem?_eq_some_iff.1 vR1).1
    obtain ⟨a0, a1, a2, a3, a4⟩ := glue_cells vA
    obtain ⟨b0, b1, b2, b3, b4⟩ := glue_cells vB
    obtain ⟨u0, u1, u2, u3, u4⟩ := glue_cells vR
    obtain ⟨v0, v1, v2, v3, v4⟩ := glue_cells vR1
    have fR : ∀ o, V.frozen? ⟨R, o, none⟩ = false := fun o => by simp [World.frozen?, vR]
    have fR1 : ∀ o, V.frozen? ⟨R + 1, o, none⟩ = false := fun o => by simp [World.frozen?, vR1]
    have HQ0 := hideP vR
    have HQ1 := hideP vR1
    clear vA vB vR vR1
    go_region
    all_goals
      go_wp2
      obtain ⟨e0, e1, e2⟩ := two_end (s := s) (p := p) (po := po) (m := m) (mo := mo) (s' := s') (p' := np) (po' := po) (m' := m') (mo' := mo') HQ0.out HQ1.out vL.out HR.out _ _ _ rfl rfl rfl
      obtain ⟨Wf, hWf⟩ : ∃ W, W = (fiveG (fiveG V R s p po m mo) (R + 1) s' np po m' mo').drew := ⟨_, rfl⟩
      rw [← hWf] at e0 e1 e2
      have hgoal := hWf
      unfold fiveG at hgoal
      rw [← hgoal]
      clear hgoal hWf HQ0 HQ1 a0 a1 a2 a3 a4 b0 b1 b2 b3 b4 u0 u1 u2 u3 u4 v0 v1 v2 v3 v4
      obtain ⟨c0, c1, c2, c3, c4⟩ := glue_cells e0
      obtain ⟨d0, d1, d2, d3, d4⟩ := glue_cells e1
      exact bodyPost_ret (v := .tuple #[glueV s p po m mo, glueV s' np po m' mo']) (by simp [results, Tryd.results5, go_sem, c0, c1, c2, c3, c4, d0, d1, d2, d3, d4]; try rfl) rfl ⟨⟨s, p, po, m, mo⟩, ⟨s', np, po, m', mo'⟩, rfl, e2⟩
end Go.Proofs.YtminpoenfjnmiaaDoor
