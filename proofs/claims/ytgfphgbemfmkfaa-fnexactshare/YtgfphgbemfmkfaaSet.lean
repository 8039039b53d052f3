/-
  Settings by the totals: the program's settle.
-/
import Derived.Test.YtgfphgbemfmkfaaOutD
namespace Go.Proofs.Ytgfphgbemfmkfaa
open Go.RowKit
set_option linter.unusedVariables false
set_option linter.unusedSimpArgs false

abbrev fourV (a b c d : Int) : Value := .agg #[.int .i64 a, .int .i64 b, .int .i64 c, .int .i64 d]

theorem upT_any {gs : List Gl} (q p0 p1 p2 p3 : Int) (w : World) (hP : tot Gl.p Gl.po gs = [p0, p1, p2, p3]) (hw1 : q ≤ 4611686018427387904) (hb : hvOf Gl.p Gl.po gs ≤ 10737418230000) :
    Calls Try.prog 53 #[.int .i64 q, fourV p0 p1 p2 p3] w fun e w' => e = .returned (upS gs q).v ∧ Below w.heap.size w w' := by
  refine (stretchT_any q p0 p1 p2 p3 (ordOf Gl.p Gl.po gs) (hvOf Gl.p Gl.po gs) w (by unfold ordOf; rw [hP]) (by unfold hvOf; rw [hP]) (by omega) (by omega)).mono ?_
  rintro e w' ⟨rfl, hb'⟩
  refine ⟨?_, hb'⟩
  unfold upS
  by_cases h : hvOf Gl.p Gl.po gs ≤ 0
  · rw [if_pos h, if_pos h]
  · rw [if_neg h, if_neg h]

theorem downT_any {gs : List Gl} (q m0 m1 m2 m3 : Int) (w : World) (hM : tot Gl.m Gl.mo gs = [m0, m1, m2, m3]) (hw0 : 0 < q) (hw1 : q ≤ 4611686018427387904) (hb0 : -10737418230000 ≤ hvOf Gl.m Gl.mo gs) (hb : hvOf Gl.m Gl.mo gs ≤ 10737418230000) :
    Calls Try.prog 54 #[.int .i64 q, fourV m0 m1 m2 m3] w fun e w' => e = .returned (downS gs q).v ∧ Below w.heap.size w w' := by
  have h1 : ordOf Gl.m Gl.mo gs = (top [m0, m1, m2, m3] : Int) := by unfold ordOf; rw [hM]
  have h2 : hvOf Gl.m Gl.mo gs = ([m0, m1, m2, m3] : List Int).getD (top [m0, m1, m2, m3]) 0 := by unfold hvOf; rw [hM]
  have h3 := ordOf_nn Gl.m Gl.mo gs
  by_cases hno : hvOf Gl.m Gl.mo gs ≤ 0
  · refine (shrinkT_none q m0 m1 m2 m3 _ _ w h1 h2 hw0 hw1 hb0 hb hno).mono ?_
    rintro e w' ⟨rfl, hb'⟩
    refine ⟨?_, hb'⟩
    unfold downS; rw [if_pos hno]
  · by_cases hov : ordOf Gl.m Gl.mo gs = 0 ∧ hvOf Gl.m Gl.mo gs < q
    · refine (shrinkT_over q m0 m1 m2 m3 _ _ w h1 h2 hw0 hw1 hb0 hb hov.1 (by omega) hov.2).mono ?_
      rintro e w' ⟨rfl, hb'⟩
      refine ⟨?_, hb'⟩
      unfold downS; rw [if_neg hno, if_pos hov, hov.1]
    · by_cases h0 : ordOf Gl.m Gl.mo gs = 0
      · refine (shrinkT_zero q m0 m1 m2 m3 _ _ w h1 h2 hw0 hw1 hb0 hb (by omega) h0 (Int.not_lt.1 fun hh => hov ⟨h0, hh⟩) _ rfl).mono ?_
        rintro e w' ⟨rfl, hb'⟩
        refine ⟨?_, hb'⟩
        unfold downS; rw [if_neg hno, if_neg hov]
      · refine (shrinkT_high q m0 m1 m2 m3 _ _ w h1 h2 hw0 hw1 hb0 hb (by omega) (by omega) _ rfl).mono ?_
        rintro e w' ⟨rfl, hb'⟩
        refine ⟨?_, hb'⟩
        unfold downS; rw [if_neg hno, if_neg hov]

set_option maxRecDepth 20000 in
set_option maxHeartbeats 4000000 in
theorem settle_any {gs : List Gl} (q p0 p1 p2 p3 m0 m1 m2 m3 : Int) (w : World) (hP : tot Gl.p Gl.po gs = [p0, p1, p2, p3]) (hM : tot Gl.m Gl.mo gs = [m0, m1, m2, m3]) (hok : glsOk gs = true) (hw0 : -4611686018427387904 ≤ q) (hw1 : q ≤ 4611686018427387904) :
    Calls Try.prog 43 #[.int .i64 q, fourV p0 p1 p2 p3, fourV m0 m1 m2 m3] w fun e w' => e = .returned (shareS gs q).v ∧ Below w.heap.size w w' := by
  have heach := glsOk_each hok
  have hp := tot_have Gl.p Gl.po gs heach.1 (fun k hk => (ok_bounds (heach.2 k hk)).2.1) (top (tot Gl.p Gl.po gs))
  have hm := tot_have Gl.m Gl.mo gs heach.1 (fun k hk => (ok_bounds (heach.2 k hk)).2.2.1) (top (tot Gl.m Gl.mo gs))
  have HU : Hid (∀ W, Calls Try.prog 53 #[.int .i64 q, fourV p0 p1 p2 p3] W fun e w' => e = .returned (upS gs q).v ∧ Below W.heap.size W w') := fun W => upT_any q p0 p1 p2 p3 W hP hw1 hp.2
  have HD : Hid (q < 0 → ∀ W, Calls Try.prog 54 #[.int .i64 (-q), fourV m0 m1 m2 m3] W fun e w' => e = .returned (downS gs (-q)).v ∧ Below W.heap.size W w') := fun h W => downT_any (-q) m0 m1 m2 m3 W hM (by omega) (by omega) hm.1 hm.2
  clear hp hm heach hP hM hok
  obtain ⟨s, hs⟩ : ∃ s, s = shareS gs q := ⟨_, rfl⟩
  rw [← hs]
  have hwn : IntKind.i64.wrap (-q) = -q := by rw [IntKind.wrap_i64]; omega
  simp only [fourV] at HU HD ⊢
  by_cases hq1 : 0 < q
  · obtain rfl : s = upS gs q := by rw [hs]; unfold shareS; rw [if_pos hq1]
    clear hs HD
    obtain ⟨⟨x0, x1, x2, x3, x4, x5⟩, hs⟩ : ∃ s, s = upS gs q := ⟨_, rfl⟩
    rw [← hs] at HU ⊢
    clear hs
    go_enter Try.func43, Try.ntmps43
    go_wp2_with fail
    refine (HU.out _).mono ?_
    rintro e w2 ⟨rfl, hb2⟩
    have R2 : w2.heap[w.heap.size + 2]? = some (setO 0 0 0 0 0 0) := block_keep (by have := heap_alloc_new ((w.alloc (.cells #[.int .i64 p0, .int .i64 p1, .int .i64 p2, .int .i64 p3] 53)).alloc (.cells #[.int .i64 m0, .int .i64 m1, .int .i64 m2, .int .i64 m3] 53)) (setO 0 0 0 0 0 0); simpa using this) hb2
    have B2 : Below w.heap.size w w2 := ((((Below.refl _ _).alloc (Nat.le_refl _) _).alloc (by simp) _).alloc (by simp; omega) _).trans (hb2.mono (by simp; omega))
    obtain ⟨R, hR⟩ : ∃ R, R = w.heap.size + 2 := ⟨_, rfl⟩
    have hR' : w.heap.size + 1 + 1 = R := by omega
    rw [hR']
    rw [← hR] at R2
    have HF : Hid ((six w2 R x0 x1 x2 x3 x4 x5).heap[R]? = some (setO x0 x1 x2 x3 x4 x5) ∧ Below w.heap.size w (six w2 R x0 x1 x2 x3 x4 x5)) := by
      refine ⟨six_heap R2 _ _ _ _ _ _, ?_⟩
      have hf : Fr w2.heap.size w w2 := ⟨B2.os, B2.tape, B2.output, B2.size, fun b hb _ => B2.block b hb⟩
      exact (six_fr hf (by omega) _ _ _ _ _ _).toBelow B2.size (Nat.le_refl _)
    have hRl : R < w2.heap.size := (Array.getElem?_eq_some_iff.1 R2).1
    obtain ⟨q0, q1, q2, q3, q4, q5⟩ := set_cells R2
    have fr : ∀ j, w2.frozen? ⟨R, j, none⟩ = false := fun j => frozen_of_row w2 R j _ _ R2
    clear hb2 R2 B2 hR hR' HU
    simp only [Sett.v]
    go_wp2
    exact bodyPost_ret (v := setV x0 x1 x2 x3 x4 x5) (results_cell_row rfl _ _ R 29 _ (0, 0) _ rfl HF.1 Try.underlying29 rfl (by kernel_rfl)) rfl ⟨rfl, HF.2⟩
  · by_cases hq2 : q < 0
    · obtain rfl : s = downS gs (-q) := by rw [hs]; unfold shareS; rw [if_neg hq1, if_pos hq2]
      have HD2 := hidW (HD.out hq2)
      clear hs HU HD
      obtain ⟨⟨x0, x1, x2, x3, x4, x5⟩, hs⟩ : ∃ s, s = downS gs (-q) := ⟨_, rfl⟩
      rw [← hs] at HD2 ⊢
      clear hs
      go_enter Try.func43, Try.ntmps43
      go_wp2_with fail
      refine (HD2.out _).mono ?_
      rintro e w2 ⟨rfl, hb2⟩
      have R2 : w2.heap[w.heap.size + 2]? = some (setO 0 0 0 0 0 0) := block_keep (by have := heap_alloc_new ((w.alloc (.cells #[.int .i64 p0, .int .i64 p1, .int .i64 p2, .int .i64 p3] 53)).alloc (.cells #[.int .i64 m0, .int .i64 m1, .int .i64 m2, .int .i64 m3] 53)) (setO 0 0 0 0 0 0); simpa using this) hb2
      have B2 : Below w.heap.size w w2 := ((((Below.refl _ _).alloc (Nat.le_refl _) _).alloc (by simp) _).alloc (by simp; omega) _).trans (hb2.mono (by simp; omega))
      obtain ⟨R, hR⟩ : ∃ R, R = w.heap.size + 2 := ⟨_, rfl⟩
      have hR' : w.heap.size + 1 + 1 = R := by omega
      rw [hR']
      rw [← hR] at R2
      have HF : Hid ((six w2 R x0 x1 x2 x3 x4 x5).heap[R]? = some (setO x0 x1 x2 x3 x4 x5) ∧ Below w.heap.size w (six w2 R x0 x1 x2 x3 x4 x5)) := by
        refine ⟨six_heap R2 _ _ _ _ _ _, ?_⟩
        have hf : Fr w2.heap.size w w2 := ⟨B2.os, B2.tape, B2.output, B2.size, fun b hb _ => B2.block b hb⟩
        exact (six_fr hf (by omega) _ _ _ _ _ _).toBelow B2.size (Nat.le_refl _)
      have hRl : R < w2.heap.size := (Array.getElem?_eq_some_iff.1 R2).1
      obtain ⟨q0, q1, q2, q3, q4, q5⟩ := set_cells R2
      have fr : ∀ j, w2.frozen? ⟨R, j, none⟩ = false := fun j => frozen_of_row w2 R j _ _ R2
      clear hb2 R2 B2 hR hR' HD2
      simp only [Sett.v]
      go_wp2
      exact bodyPost_ret (v := setV x0 x1 x2 x3 x4 x5) (results_cell_row rfl _ _ R 29 _ (0, 0) _ rfl HF.1 Try.underlying29 rfl (by kernel_rfl)) rfl ⟨rfl, HF.2⟩
    · obtain rfl : q = 0 := by omega
      obtain rfl : s = ⟨0, 0, 0, 0, 0, 0⟩ := by rw [hs]; rfl
      clear hs HU HD
      go_enter Try.func43, Try.ntmps43
      go_wp2
      exact bodyPost_ret (v := setV 0 0 0 0 0 0) (results_cell_row rfl _ _ (w.heap.size + 1 + 1) 29 _ (0, 0) _ rfl (by have := heap_alloc_new ((w.alloc (.cells #[.int .i64 p0, .int .i64 p1, .int .i64 p2, .int .i64 p3] 53)).alloc (.cells #[.int .i64 m0, .int .i64 m1, .int .i64 m2, .int .i64 m3] 53)) (setO 0 0 0 0 0 0); simpa using this) Try.underlying29 rfl (by kernel_rfl)) rfl ⟨rfl, ((((Below.refl _ _).alloc (Nat.le_refl _) _).alloc (by simp) _).alloc (by simp; omega) _)⟩
end Go.Proofs.Ytgfphgbemfmkfaa
