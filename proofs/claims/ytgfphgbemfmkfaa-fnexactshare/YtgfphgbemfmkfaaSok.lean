/-
  spec.Share in all cases.
-/
import Derived.Test.YtgfphgbemfmkfaaSshD
import Derived.Test.YtgfphgbemfmkfaaSshE
import Derived.Test.YtgfphgbemfmkfaaSshF
import Derived.Test.YtgfphgbemfmkfaaSshG
namespace Go.Proofs.Ytgfphgbemfmkfaa
open Go.RowKit
set_option linter.unusedVariables false
set_option linter.unusedSimpArgs false

theorem specShare_ok {v : Value} {gs : List Gl} {w : World} (width target q : Int) (h : GRow w v gs) (hok : glsOk gs = true) (hfw : fitsB width = true) (hft : fitsB target = true) (hq : q = target - width - siz gs) :
    Calls Try.prog 12 #[v, .int .i64 width, .int .i64 target] w fun e w' => (∃ v', e = .returned (.tuple #[v', (shareS gs q).v]) ∧ Row w' v' (shareL gs q)) ∧ Below w.heap.size w w' := by
  by_cases h1 : 0 < q
  · have e1 : shareS gs q = upS gs q := by unfold shareS; rw [if_pos h1]
    have e2 : shareL gs q = upL gs q := by unfold shareL; rw [if_pos h1]
    rw [e1, e2]
    by_cases hno : hvOf Gl.p Gl.po gs ≤ 0
    · have e3 : upS gs q = ⟨1, ordOf Gl.p Gl.po gs, q, hvOf Gl.p Gl.po gs, 10000, 0⟩ := by unfold upS; rw [if_pos hno]
      have e4 : upL gs q = sizes gs := by unfold upL; rw [if_pos hno]
      rw [e3, e4]
      exact specShare_up_none width target q _ _ h1 rfl rfl hno h hok hfw hft hq
    · have hpos : 0 < hvOf Gl.p Gl.po gs := by omega
      have e3 : upS gs q = ⟨1, ordOf Gl.p Gl.po gs, q, hvOf Gl.p Gl.po gs, if 0 < ordOf Gl.p Gl.po gs then 0 else badV q (hvOf Gl.p Gl.po gs), 0⟩ := by unfold upS; rw [if_neg hno]
      have e4 : upL gs q = plusL (sizes gs) (stp Gl.p Gl.po (ordOf Gl.p Gl.po gs) q (hvOf Gl.p Gl.po gs) gs).2.2 := by unfold upL; rw [if_neg hno]
      rw [e3, e4]
      by_cases h0 : top (tot Gl.p Gl.po gs) = 0
      · have e5 : ordOf Gl.p Gl.po gs = 0 := by unfold ordOf; omega
        rw [e5, if_neg (by omega)]
        exact specShare_up_zero width target q _ _ h1 h0 rfl hpos rfl h hok hfw hft hq
      · have e5 : 0 < ordOf Gl.p Gl.po gs := by unfold ordOf; omega
        rw [if_pos e5]
        exact specShare_up_high width target q _ _ h1 rfl rfl hpos (by omega) h hok hfw hft hq
  · by_cases h2 : q < 0
    · have e1 : shareS gs q = downS gs (-q) := by unfold shareS; rw [if_neg h1, if_pos h2]
      have e2 : shareL gs q = downL gs (-q) := by unfold shareL; rw [if_neg h1, if_pos h2]
      rw [e1, e2]
      by_cases hno : hvOf Gl.m Gl.mo gs ≤ 0
      · have e3 : downS gs (-q) = ⟨-1, ordOf Gl.m Gl.mo gs, -q, hvOf Gl.m Gl.mo gs, 1000000, -q⟩ := by unfold downS; rw [if_pos hno]
        have e4 : downL gs (-q) = sizes gs := by unfold downL; rw [if_pos hno]
        rw [e3, e4]
        exact specShare_down_none width target q _ _ (-q) rfl h2 rfl rfl hno h hok hfw hft hq
      · have hpos : 0 < hvOf Gl.m Gl.mo gs := by omega
        by_cases h0 : top (tot Gl.m Gl.mo gs) = 0
        · have e5 : ordOf Gl.m Gl.mo gs = 0 := by unfold ordOf; omega
          by_cases hlt : hvOf Gl.m Gl.mo gs < -q
          · have e3 : downS gs (-q) = ⟨-1, 0, -q, hvOf Gl.m Gl.mo gs, 1000000, -q - hvOf Gl.m Gl.mo gs⟩ := by unfold downS; rw [if_neg hno, if_pos ⟨e5, hlt⟩]
            have e4 : downL gs (-q) = minusL (sizes gs) (stp Gl.m Gl.mo 0 (hvOf Gl.m Gl.mo gs) (hvOf Gl.m Gl.mo gs) gs).2.2 := by unfold downL; rw [if_neg hno, if_pos ⟨e5, hlt⟩]
            rw [e3, e4]
            exact specShare_down_over width target q _ (-q) rfl h2 h0 rfl hpos hlt h hok hfw hft hq
          · have e3 : downS gs (-q) = ⟨-1, ordOf Gl.m Gl.mo gs, -q, hvOf Gl.m Gl.mo gs, if 0 < ordOf Gl.m Gl.mo gs then 0 else badV (-q) (hvOf Gl.m Gl.mo gs), 0⟩ := by unfold downS; rw [if_neg hno, if_neg (fun hh => hlt hh.2)]
            have e4 : downL gs (-q) = minusL (sizes gs) (stp Gl.m Gl.mo (ordOf Gl.m Gl.mo gs) (-q) (hvOf Gl.m Gl.mo gs) gs).2.2 := by unfold downL; rw [if_neg hno, if_neg (fun hh => hlt hh.2)]
            rw [e3, e4, e5, if_neg (by omega)]
            exact specShare_down_zero width target q _ _ (-q) rfl h2 h0 rfl hpos (Int.not_lt.1 hlt) rfl h hok hfw hft hq
        · have e5 : 0 < ordOf Gl.m Gl.mo gs := by unfold ordOf; omega
          have e3 : downS gs (-q) = ⟨-1, ordOf Gl.m Gl.mo gs, -q, hvOf Gl.m Gl.mo gs, if 0 < ordOf Gl.m Gl.mo gs then 0 else badV (-q) (hvOf Gl.m Gl.mo gs), 0⟩ := by unfold downS; rw [if_neg hno, if_neg (fun hh => by omega)]
          have e4 : downL gs (-q) = minusL (sizes gs) (stp Gl.m Gl.mo (ordOf Gl.m Gl.mo gs) (-q) (hvOf Gl.m Gl.mo gs) gs).2.2 := by unfold downL; rw [if_neg hno, if_neg (fun hh => by omega)]
          rw [e3, e4, if_pos e5]
          exact specShare_down_high width target q _ _ (-q) rfl h2 rfl rfl hpos (by omega) h hok hfw hft hq
    · have e1 : shareS gs q = ⟨0, 0, 0, 0, 0, 0⟩ := by unfold shareS; rw [if_neg h1, if_neg h2]
      have e2 : shareL gs q = sizes gs := by unfold shareL; rw [if_neg h1, if_neg h2]
      rw [e1, e2]
      exact specShare_zero width target q (by omega) h hok hfw hft hq

set_option maxRecDepth 20000 in
set_option maxHeartbeats 2000000 in
theorem specShare_no {v : Value} {gs : List Gl} {w : World} (width target : Int) (h : GRow w v gs) (hn : gs.length ≤ 1048576) (hno : ¬ (glsOk gs = true ∧ fitsB width = true ∧ fitsB target = true)) :
    Calls Try.prog 12 #[v, .int .i64 width, .int .i64 target] w fun e w' => (∃ v', e = .returned (.tuple #[v', setV 0 0 0 0 0 0]) ∧ Row w' v' []) ∧ Below w.heap.size w w' := by
  have HG : Hid (GRow w v gs) := h
  have HN : Hid (gs.length ≤ 1048576) := hn
  have HNO : Hid (¬ (glsOk gs = true ∧ fitsB width = true ∧ fitsB target = true)) := hno
  clear h hn hno
  go_enter Try.func12, Try.ntmps12
  go_wp2_with fail
  refine (specGlues_any (GRow.below HG ((Below.refl _ _).alloc (Nat.le_refl _) _)) HN).mono ?_
  rintro e w1 ⟨rfl, hb1⟩
  obtain ⟨hr, hbw, hlt, fR, h5, h6⟩ := tail_no hb1
  have HF : Hid (((six w1 w.heap.size 0 0 0 0 0 0).alloc (.cells #[] 2)).heap[w.heap.size]? = some (setO 0 0 0 0 0 0) ∧ Below w.heap.size w ((six w1 w.heap.size 0 0 0 0 0 0).alloc (.cells #[] 2))) := ⟨(Below.heap_alloc _ _ _ (Array.getElem?_eq_some_iff.1 h5).1).trans h5, Below.alloc h6 h6.size _⟩
  obtain ⟨r0, r1, r2, r3, r4, r5⟩ := set_cells hr
  clear hb1 hr hbw h5 h6
  cases hok : glsOk gs with
  | false =>
    clear hok
    go_wp2
    exact bodyPost_ret (v := .tuple #[.slice (some ⟨w1.heap.size, 0, none⟩) 0 0, setV 0 0 0 0 0 0]) (results_tmp_cell rfl _ _ w.heap.size _ _ rfl rfl (loadSet HF.1)) rfl ⟨⟨_, rfl, rowEmpty _ _⟩, HF.2⟩
  | true =>
    have HOK : Hid (glsOk gs = true) := hok
    clear hok
    go_wp2_with fail
    refine (specFits_any width _).mono ?_
    rintro e w2 ⟨rfl, hw2⟩
    have hw2' := hw2.symm
    clear hw2
    subst hw2'
    cases hfw : fitsB width with
    | false =>
      clear hfw
      go_wp2
      exact bodyPost_ret (v := .tuple #[.slice (some ⟨w1.heap.size, 0, none⟩) 0 0, setV 0 0 0 0 0 0]) (results_tmp_cell rfl _ _ w.heap.size _ _ rfl rfl (loadSet HF.1)) rfl ⟨⟨_, rfl, rowEmpty _ _⟩, HF.2⟩
    | true =>
      have HFW : Hid (fitsB width = true) := hfw
      clear hfw
      go_wp2_with fail
      refine (specFits_any target _).mono ?_
      rintro e w2 ⟨rfl, hw2⟩
      have hw2' := hw2.symm
      clear hw2
      subst hw2'
      cases hft : fitsB target with
      | false =>
        clear hft
        go_wp2
        exact bodyPost_ret (v := .tuple #[.slice (some ⟨w1.heap.size, 0, none⟩) 0 0, setV 0 0 0 0 0 0]) (results_tmp_cell rfl _ _ w.heap.size _ _ rfl rfl (loadSet HF.1)) rfl ⟨⟨_, rfl, rowEmpty _ _⟩, HF.2⟩
      | true => exact absurd ⟨HOK, HFW, hft⟩ HNO

theorem plus_len (gs : List Gl) (xs : List Int) : (plusL (sizes gs) xs).length = gs.length := by rw [plusL_length]; simp [sizes]
theorem minus_len (gs : List Gl) (xs : List Int) : (minusL (sizes gs) xs).length = gs.length := by rw [minusL_length]; simp [sizes]
theorem sizes_len (gs : List Gl) : (sizes gs).length = gs.length := by simp [sizes]
theorem shareL_length (gs : List Gl) (q : Int) : (shareL gs q).length = gs.length := by
  unfold shareL upL downL
  split
  · split
    · exact sizes_len gs
    · exact plus_len gs _
  · split
    · split
      · exact sizes_len gs
      · split
        · exact minus_len gs _
        · exact minus_len gs _
    · exact sizes_len gs
end Go.Proofs.Ytgfphgbemfmkfaa
