/-
  The plain node of a thing: the walks of the program, a kind each.
-/
import Derived.Test.YtbbehmcekbnkiaaFit
import Derived.Deep.RegionWith
import Derived.Deep.RegionHeld3
namespace Go.Proofs.Ytbbehmcekbnkiaa
open Go.RowKit
set_option linter.unusedVariables false
set_option linter.unusedSimpArgs false

set_option maxHeartbeats 2000000 in
theorem node_rule (wd ht dp : Int) (w : World) : Calls Try.prog 98 #[.agg #[.int .i64 wd, .int .i64 ht, .int .i64 dp]] w fun r w' => r = .returned (ndV ⟨5, wd, ht, dp, 0, 0, 0, 0, 0, 0, 0, 0, 0, ⟨#[]⟩, 0⟩) ∧ Below w.heap.size w w' := by
  simp only [ndV]
  go_enter Try.func98, Try.ntmps98
  go_wp2
  refine bodyPost_ret (v := ndV ⟨5, wd, ht, dp, 0, 0, 0, 0, 0, 0, 0, 0, 0, ⟨#[]⟩, 0⟩) (by simp [results, Try.results98, go_sem]) rfl ⟨rfl, ?_⟩
  repeat (first | with_reducible exact below1 _ _ | with_reducible exact below2 _ _ _ | with_reducible exact below3 _ _ _ _ | (with_reducible refine Below.setCell ?_ ?_ _; rotate_left; focus (first | (simp; done) | (simp; omega))))

set_option maxHeartbeats 2000000 in
theorem node_box (k wd ht dp sh kids : Int) (w : World) : Calls Try.prog 101 #[.agg #[.int .i64 k, .int .i64 wd, .int .i64 ht, .int .i64 dp, .int .i64 sh, .int .i64 kids]] w fun r w' => r = .returned (ndV ⟨k, wd, ht, dp, sh, 0, 0, 0, 0, 0, 0, 0, 0, ⟨#[]⟩, kids⟩) ∧ Below w.heap.size w w' := by
  simp only [ndV]
  go_enter Try.func101, Try.ntmps101
  go_wp2
  refine bodyPost_ret (v := ndV ⟨k, wd, ht, dp, sh, 0, 0, 0, 0, 0, 0, 0, 0, ⟨#[]⟩, kids⟩) (by simp [results, Try.results101, go_sem]) rfl ⟨rfl, ?_⟩
  repeat (first | with_reducible exact below1 _ _ | with_reducible exact below2 _ _ _ | with_reducible exact below3 _ _ _ _ | (with_reducible refine Below.setCell ?_ ?_ _; rotate_left; focus (first | (simp; done) | (simp; omega))))

set_option maxHeartbeats 2000000 in
theorem node_message (k : Int) (tx : ByteArray) (w : World) : Calls Try.prog 105 #[.agg #[.int .i64 k, .string tx]] w fun r w' => r = .returned (ndV ⟨k, 0, 0, 0, 0, 0, 0, 0, 0, 0, 0, 0, 0, tx, 0⟩) ∧ Below w.heap.size w w' := by
  simp only [ndV]
  go_enter Try.func105, Try.ntmps105
  go_wp2
  refine bodyPost_ret (v := ndV ⟨k, 0, 0, 0, 0, 0, 0, 0, 0, 0, 0, 0, 0, tx, 0⟩) (by simp [results, Try.results105, go_sem]) rfl ⟨rfl, ?_⟩
  repeat (first | with_reducible exact below1 _ _ | with_reducible exact below2 _ _ _ | with_reducible exact below3 _ _ _ _ | (with_reducible refine Below.setCell ?_ ?_ _; rotate_left; focus (first | (simp; done) | (simp; omega))))

set_option maxHeartbeats 2000000 in
theorem node_note (nn ht kids : Int) (w : World) : Calls Try.prog 108 #[.agg #[.int .i64 nn, .int .i64 ht, .int .i64 kids]] w fun r w' => r = .returned (ndV ⟨11, 0, ht, 0, 0, 0, 0, nn, 0, 0, 0, 0, 0, ⟨#[]⟩, kids⟩) ∧ Below w.heap.size w w' := by
  simp only [ndV]
  go_enter Try.func108, Try.ntmps108
  go_wp2
  refine bodyPost_ret (v := ndV ⟨11, 0, ht, 0, 0, 0, 0, nn, 0, 0, 0, 0, 0, ⟨#[]⟩, kids⟩) (by simp [results, Try.results108, go_sem]) rfl ⟨rfl, ?_⟩
  repeat (first | with_reducible exact below1 _ _ | with_reducible exact below2 _ _ _ | with_reducible exact below3 _ _ _ _ | (with_reducible refine Below.setCell ?_ ?_ _; rotate_left; focus (first | (simp; done) | (simp; omega))))
end Go.Proofs.Ytbbehmcekbnkiaa
