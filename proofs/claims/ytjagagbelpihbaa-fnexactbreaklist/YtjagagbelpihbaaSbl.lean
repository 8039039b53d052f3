/-
  Where lines may end: the specification.
-/
import Derived.Test.YtjagagbelpihbaaPap
namespace Go.Proofs.Ytjagagbelpihbaa
open Go.RowKit
set_option linter.unusedVariables false
set_option linter.unusedSimpArgs false

set_option maxRecDepth 20000 in
set_option maxHeartbeats 4000000 in
theorem specBL_any {v : Value} {xs : List Nd} {w : World} (S : Sy) (h : NRow 0 w v xs) (hs : xs.length ≤ 1048576) (hcp : ∀ a n c, v = .slice a n c → n ≤ c ∧ c ≤ 9223372036854775807) :
    Calls Try.prog 19 #[v, syV S] w fun e W' => (∃ u, e = .returned u ∧ W'.ownsRow w.heap.size 2 1 u (blL xs S).length ((blL xs S).map (Value.int .i64))) ∧ Below w.heap.size w W' := by
  have BC : Hid (∀ W, Below w.heap.size w W → Calls Try.prog 40 #[v, syV S] W fun e W' => (∃ r u, e = .returned (.tuple #[r, u]) ∧ W'.ownsRow W.heap.size 2 1 u (blL xs S).length ((blL xs S).map (Value.int .i64))) ∧ Below W.heap.size W W') := hideP (fun W hW => specBreaks_any S (SRow.below ndStable h hW) hs hcp)
  have hsy : ∃ cs : Array Value, syV S = .agg cs ∧ cs.size = 23 := ⟨_, rfl, rfl⟩
  obtain ⟨cs, hcs, hsz⟩ := hsy
  rw [hcs] at BC ⊢
  obtain ⟨va, vn, vc, rfl, _⟩ := h
  obtain ⟨L, hL⟩ : ∃ L, L = blL xs S := ⟨_, rfl⟩
  rw [← hL] at BC ⊢
  clear hL hcs hs hcp
  have B0 := hideP (below1 w (.cells cs 42))
  have hG0 := heap_alloc_new w (.cells cs 42)
  go_enter Try.func19, Try.ntmps19
  go_wp2_with (refine wpList_load_row rfl 42 _ rfl w.heap.size rfl cs 42 (0, 0) hG0 _ Try.underlying42 rfl (by rw [hsz]; kernel_rfl) ?_)
  refine (BC.out _ B0.out).mono ?_
  rintro e w1 ⟨⟨r, u, rfl, hu⟩, hb1⟩
  have HU : Hid (w1.ownsRow w.heap.size 2 1 u L.length (L.map (Value.int .i64)) ∧ Below w.heap.size w w1) := hideP ⟨ownG_mono hu B0.out.size, below_more B0.out hb1 B0.out.size⟩
  clear hu hb1
  go_wp2
  go_ret
  exact ⟨⟨_, rfl, HU.out.1⟩, HU.out.2⟩
end Go.Proofs.Ytjagagbelpihbaa
