/-
  The walk of impl.shrink.
-/
import Derived.Test.YtpfbhkhifggoaaaStrB
namespace Go.Proofs.Ytpfbhkhifggoaaa
open Go.RowKit
set_option linter.unusedVariables false
set_option linter.unusedSimpArgs false

set_option maxRecDepth 20000 in
set_option maxHeartbeats 4000000 in
theorem shrink_none {v : Value} {gs : List Gl} {w : World} {L n : Nat} (want o hv : Int) (h : GRow w v gs) (hok : glsOk gs = true) (ho : o = (top (tot Gl.m Gl.mo gs) : Int)) (hhv : hv = (tot Gl.m Gl.mo gs).getD (top (tot Gl.m Gl.mo gs)) 0) (hno : hv ≤ 0) :
    Calls Try.prog 45 #[v, .slice (some ⟨L, 0, none⟩) n n, .int .i64 want] w fun e w' =>
      e = .returned (setV (-1) o want hv 1000000 want) ∧ Below w.heap.size w w' := by
  have HG : Hid (GRow w v gs) := h
  have HOK : Hid (glsOk gs = true) := hok
  clear h hok
  go_enter Try.func45, Try.ntmps45
  go_wp2_with fail
  refine (totalsM_any (GRow.below HG ((Below.refl _ _).alloc (Nat.le_refl _) _)) HOK).mono ?_
  rintro e w1 ⟨rfl, hb1⟩
  obtain ⟨a0, a1, a2, a3, hx⟩ := four_parts (tot_length Gl.m Gl.mo gs)
  rw [hx]
  rw [hx] at ho hhv
  clear hx
  have R1 : Hid (w1.heap[w.heap.size]? = some (setO 0 0 0 0 0 0) ∧ Below w.heap.size w w1) := ⟨block_keep (heap_alloc_new w _) hb1, ((Below.refl _ _).alloc (Nat.le_refl _) _).trans (hb1.mono (by simp))⟩
  clear hb1
  simp only [List.map_cons, List.map_nil]
  go_wp2_with fail
  refine (highest_any _ _ _ _ _).mono ?_
  rintro e w2 ⟨rfl, hb2⟩
  rw [← ho, ← hhv]
  have R2 := block_keep R1.1 hb2
  have B2 : Below w.heap.size w w2 := R1.2.trans (hb2.mono R1.2.size)
  obtain ⟨R, hR⟩ : ∃ R, R = w.heap.size := ⟨_, rfl⟩
  rw [← hR] at R2 ⊢
  have hRl : R < w2.heap.size := (Array.getElem?_eq_some_iff.1 R2).1
  obtain ⟨q0, q1, q2, q3, q4, q5⟩ := set_cells R2
  have fr : ∀ j, w2.frozen? ⟨R, j, none⟩ = false := fun j => frozen_of_row w2 R j _ _ R2
  have HF : Hid (((six w2 R (-1) o want hv 1000000 want).alloc (.cells #[.int .i64 (-1), .int .i64 o, .int .i64 want, .int .i64 hv, .int .i64 1000000, .int .i64 want] 29)).heap[R]? = some (setO (-1) o want hv 1000000 want) ∧ Below w.heap.size w ((six w2 R (-1) o want hv 1000000 want).alloc (.cells #[.int .i64 (-1), .int .i64 o, .int .i64 want, .int .i64 hv, .int .i64 1000000, .int .i64 want] 29))) := by
    have hs := six_heap R2 (-1) o want hv 1000000 want
    refine ⟨(Below.heap_alloc _ _ _ (Array.getElem?_eq_some_iff.1 hs).1).trans hs, ?_⟩
    have hf : Fr w2.heap.size w w2 := ⟨B2.os, B2.tape, B2.output, B2.size, fun b hb _ => B2.block b hb⟩
    exact ((six_fr hf (by omega) (-1) o want hv 1000000 want).alloc _).toBelow B2.size (Nat.le_refl _)
  clear hb2 R1 B2 R2 hhv ho hR
  go_wp2
  exact bodyPost_ret (v := setV (-1) o want hv 1000000 want) (results_cell_row rfl _ _ R 29 _ (0, 0) _ rfl HF.1 Try.underlying29 rfl (by kernel_rfl)) rfl ⟨rfl, HF.2⟩
end Go.Proofs.Ytpfbhkhifggoaaa
