/-
  The plain node of a thing: the walks of the program, a kind each.
-/
import Derived.Test.YtbbehmcekbnkiaaNde
import Derived.Deep.RegionWith
import Derived.Deep.RegionHeld3
namespace Go.Proofs.Ytbbehmcekbnkiaa
open Go.RowKit
set_option linter.unusedVariables false
set_option linter.unusedSimpArgs false

set_option maxHeartbeats 2000000 in
theorem node_hyphen (fo ch wd ht dp : Int) (w : World) : Calls Try.prog 103 #[.agg #[.int .i64 fo, .int .i64 ch, .int .i64 wd, .int .i64 ht, .int .i64 dp]] w fun r w' => r = .returned (ndV ⟨8, wd, ht, dp, 0, fo, ch, 0, 0, 0, 0, 0, 0, ⟨#[]⟩, 0⟩) ∧ Below w.heap.size w w' := by
  simp only [ndV]
  have HC : Hid (∀ W, Calls Try.prog 85 #[.agg #[.int .i64 fo, .int .i64 ch, .int .i64 wd, .int .i64 ht, .int .i64 dp]] W fun e w' => e = .returned (ndV ⟨1, wd, ht, dp, 0, fo, ch, 0, 0, 0, 0, 0, 0, ⟨#[]⟩, 0⟩) ∧ Below W.heap.size W w') := hideP (fun W => node_letter fo ch wd ht dp W)
  go_enter Try.func103, Try.ntmps103
  go_wp2_with fail
  refine (HC.out _).mono ?_
  rintro e w1 ⟨rfl, hb1⟩
  simp only [ndV]
  have hy1 : w.heap.size + 1 < w1.heap.size := by have := hb1.size; simp at this; omega
  have hx1 : w.heap.size < w1.heap.size := by omega
  have BW : Below w.heap.size w w1 := by
    refine below_more ?_ hb1 (by simp; omega)
    repeat (first | with_reducible exact below2 _ _ _ | (with_reducible refine Below.setCell ?_ ?_ _; rotate_left; focus (first | (simp; done) | (simp; omega))))
  obtain ⟨hc1, hf1⟩ := bcell hb1
  have B1 := hideP BW
  simp only [World.size_alloc, World.size_setCell] at hc1 hf1
  clear hb1 BW
  go_wp2
  refine bodyPost_ret (v := ndV ⟨8, wd, ht, dp, 0, fo, ch, 0, 0, 0, 0, 0, 0, ⟨#[]⟩, 0⟩) (by simp [results, Try.results103, go_sem, hc1, hx1, hy1]) rfl ⟨rfl, ?_⟩
  have B2 := B1.out
  clear hc1 hf1 B1
  repeat (first | with_reducible exact B2 | (with_reducible refine Below.alloc ?_ ?_ _; rotate_left; focus (first | (simp; done) | (simp; omega))) | (with_reducible refine Below.setCell ?_ ?_ _; rotate_left; focus (first | (simp; done) | (simp; omega))))
end Go.Proofs.Ytbbehmcekbnkiaa
