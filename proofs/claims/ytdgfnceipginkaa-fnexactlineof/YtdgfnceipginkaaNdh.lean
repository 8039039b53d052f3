/-
  The plain node of a thing: the walks of the program, a kind each.
-/
import Derived.Test.YtdgfnceipginkaaFit
import Derived.Deep.RegionWith
import Derived.Deep.RegionHeld3
import Derived.Test.YtdgfnceipginkaaNde
namespace Go.Proofs.Ytdgfnceipginkaa
open Go.RowKit
set_option linter.unusedVariables false
set_option linter.unusedSimpArgs false

set_option maxHeartbeats 2000000 in
theorem node_rule (wd ht dp : Int) (w : World) : Calls Try.prog 100 #[.agg #[.int .i64 wd, .int .i64 ht, .int .i64 dp]] w fun r w' => r = .returned (ndV ⟨5, wd, ht, dp, 0, 0, 0, 0, 0, 0, 0, 0, 0, ⟨#[]⟩, 0⟩) ∧ Below w.heap.size w w' := by
  simp only [ndV]
  go_enter Try.func100, Try.ntmps100
  go_wp2
  refine bodyPost_ret (v := ndV ⟨5, wd, ht, dp, 0, 0, 0, 0, 0, 0, 0, 0, 0, ⟨#[]⟩, 0⟩) (by simp [results, Try.results100, go_sem]) rfl ⟨rfl, ?_⟩
  repeat (first | with_reducible exact below1 _ _ | with_reducible exact below2 _ _ _ | with_reducible exact below3 _ _ _ _ | (with_reducible refine Below.setCell ?_ ?_ _; rotate_left; focus (first | (simp; done) | (simp; omega))))

set_option maxHeartbeats 2000000 in
theorem node_box (k wd ht dp sh kids : Int) (w : World) : Calls Try.prog 104 #[.agg #[.int .i64 k, .int .i64 wd, .int .i64 ht, .int .i64 dp, .int .i64 sh, .int .i64 kids]] w fun r w' => r = .returned (ndV ⟨k, wd, ht, dp, sh, 0, 0, 0, 0, 0, 0, 0, 0, ⟨#[]⟩, kids⟩) ∧ Below w.heap.size w w' := by
  simp only [ndV]
  go_enter Try.func104, Try.ntmps104
  go_wp2
  refine bodyPost_ret (v := ndV ⟨k, wd, ht, dp, sh, 0, 0, 0, 0, 0, 0, 0, 0, ⟨#[]⟩, kids⟩) (by simp [results, Try.results104, go_sem]) rfl ⟨rfl, ?_⟩
  repeat (first | with_reducible exact below1 _ _ | with_reducible exact below2 _ _ _ | with_reducible exact below3 _ _ _ _ | (with_reducible refine Below.setCell ?_ ?_ _; rotate_left; focus (first | (simp; done) | (simp; omega))))

set_option maxHeartbeats 2000000 in
theorem node_message (k : Int) (tx : ByteArray) (w : World) : Calls Try.prog 107 #[.agg #[.int .i64 k, .string tx]] w fun r w' => r = .returned (ndV ⟨k, 0, 0, 0, 0, 0, 0, 0, 0, 0, 0, 0, 0, tx, 0⟩) ∧ Below w.heap.size w w' := by
  simp only [ndV]
  go_enter Try.func107, Try.ntmps107
  go_wp2
  refine bodyPost_ret (v := ndV ⟨k, 0, 0, 0, 0, 0, 0, 0, 0, 0, 0, 0, 0, tx, 0⟩) (by simp [results, Try.results107, go_sem]) rfl ⟨rfl, ?_⟩
  repeat (first | with_reducible exact below1 _ _ | with_reducible exact below2 _ _ _ | with_reducible exact below3 _ _ _ _ | (with_reducible refine Below.setCell ?_ ?_ _; rotate_left; focus (first | (simp; done) | (simp; omega))))

set_option maxHeartbeats 2000000 in
theorem node_note (nn ht kids : Int) (w : World) : Calls Try.prog 110 #[.agg #[.int .i64 nn, .int .i64 ht, .int .i64 kids]] w fun r w' => r = .returned (ndV ⟨11, 0, ht, 0, 0, 0, 0, nn, 0, 0, 0, 0, 0, ⟨#[]⟩, kids⟩) ∧ Below w.heap.size w w' := by
  simp only [ndV]
  go_enter Try.func110, Try.ntmps110
  go_wp2
  refine bodyPost_ret (v := ndV ⟨11, 0, ht, 0, 0, 0, 0, nn, 0, 0, 0, 0, 0, ⟨#[]⟩, kids⟩) (by simp [results, Try.results110, go_sem]) rfl ⟨rfl, ?_⟩
  repeat (first | with_reducible exact below1 _ _ | with_reducible exact below2 _ _ _ | with_reducible exact below3 _ _ _ _ | (with_reducible refine Below.setCell ?_ ?_ _; rotate_left; focus (first | (simp; done) | (simp; omega))))

set_option maxHeartbeats 2000000 in
theorem node_hyphen (fo ch wd ht dp : Int) (w : World) : Calls Try.prog 94 #[.agg #[.int .i64 fo, .int .i64 ch, .int .i64 wd, .int .i64 ht, .int .i64 dp]] w fun r w' => r = .returned (ndV ⟨8, wd, ht, dp, 0, fo, ch, 0, 0, 0, 0, 0, 0, ⟨#[]⟩, 0⟩) ∧ Below w.heap.size w w' := by
  simp only [ndV]
  have HC : Hid (∀ W, Calls Try.prog 42 #[.agg #[.int .i64 fo, .int .i64 ch, .int .i64 wd, .int .i64 ht, .int .i64 dp]] W fun e w' => e = .returned (ndV ⟨1, wd, ht, dp, 0, fo, ch, 0, 0, 0, 0, 0, 0, ⟨#[]⟩, 0⟩) ∧ Below W.heap.size W w') := hideP (fun W => node_letter fo ch wd ht dp W)
  go_enter Try.func94, Try.ntmps94
  go_wp2_with fail
  refine (HC.out _).mono ?_
  rintro e w1 ⟨rfl, hb1⟩
  simp only [ndV]
  have hy1 : w.heap.size + 1 < w1.heap.size := by have := hb1.size; simp at this; omega
  have hx1 : w.heap.size < w1.heap.size := by omega
  have BW : Below w.heap.size w w1 := by
    refine below_more ?_ hb1 (by simp; omega)
    repeat (first | with_reducible exact below2 _ _ _ | (with_reducible refine Below.setCell ?_ ?_ _; rotate_left; focus (first | (simp; done) | (simp; omega))))
  obtain ⟨hc1, hf1⟩ := bcell hb1
  have B1 := hideP BW
  simp only [World.size_alloc, World.size_setCell] at hc1 hf1
  clear hb1 BW
  go_wp2
  refine bodyPost_ret (v := ndV ⟨8, wd, ht, dp, 0, fo, ch, 0, 0, 0, 0, 0, 0, ⟨#[]⟩, 0⟩) (by simp [results, Try.results94, go_sem, hc1, hx1, hy1]) rfl ⟨rfl, ?_⟩
  have B2 := B1.out
  clear hc1 hf1 B1
  repeat (first | with_reducible exact B2 | (with_reducible refine Below.alloc ?_ ?_ _; rotate_left; focus (first | (simp; done) | (simp; omega))) | (with_reducible refine Below.setCell ?_ ?_ _; rotate_left; focus (first | (simp; done) | (simp; omega))))
end Go.Proofs.Ytdgfnceipginkaa
