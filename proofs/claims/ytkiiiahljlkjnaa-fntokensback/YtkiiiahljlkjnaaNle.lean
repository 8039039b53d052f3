/-
  Scans compared.
-/
import Derived.Test.YtkiiiahljlkjnaaNsp
namespace Go.Proofs.Ytkiiiahljlkjnaa
open Go.RowKit
set_option linter.unusedVariables false
set_option linter.unusedSimpArgs false

set_option maxHeartbeats 2000000 in
theorem eqToken_same (c h : Int) (n : ByteArray) (w : World) : Calls Try.prog 36 #[.agg #[.int .i64 c, .int .i64 h, .string n], .agg #[.int .i64 c, .int .i64 h, .string n]] w fun e w' => e = .returned (.bool true) ∧ Below w.heap.size w w' := by
  go_enter Try.func36, Try.ntmps36
  go_wp2
  go_ret
  exact ⟨rfl, below2 _ _ _⟩
set_option maxHeartbeats 2000000 in
theorem eqScan_same (x : Sc) (w : World) : Calls Try.prog 16 #[scV x, scV x] w fun e w' => e = .returned (.bool true) ∧ Below w.heap.size w w' := by
  obtain ⟨xk, xc, xh, xn, xa, xs⟩ := x
  simp only [scV]
  go_enter Try.func16, Try.ntmps16
  go_wp2_with fail
  refine (eqToken_same _ _ _ _).mono ?_
  rintro e w2 ⟨rfl, hb2⟩
  have B2 := hideP (below_more (below2 _ _ _) hb2 (by simp; omega))
  obtain ⟨hc2, hf2⟩ := bcell hb2
  simp only [World.size_setCell, World.size_alloc] at hc2 hf2
  have hz2 : w.heap.size < w2.heap.size := by have := hb2.size; simp at this; omega
  have hz3 : w.heap.size + 1 < w2.heap.size := by have := hb2.size; simp at this; omega
  have e2 : w2.cell? ⟨w.heap.size, 4, none⟩ = some (.int .i64 xa) := by rw [hc2 _ _ (by omega)]; simp [go_sem]
  have e3 : w2.cell? ⟨w.heap.size, 5, none⟩ = some (.int .i64 xs) := by rw [hc2 _ _ (by omega)]; simp [go_sem]
  have f2 : w2.cell? ⟨w.heap.size + 1, 4, none⟩ = some (.int .i64 xa) := by rw [hc2 _ _ (by omega)]; simp [go_sem]
  have f3 : w2.cell? ⟨w.heap.size + 1, 5, none⟩ = some (.int .i64 xs) := by rw [hc2 _ _ (by omega)]; simp [go_sem]
  clear hb2 hc2 hf2
  go_wp2
  go_ret
  exact ⟨rfl, B2.out⟩
end Go.Proofs.Ytkiiiahljlkjnaa
