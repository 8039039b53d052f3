import Derived.Test.YtlohbaoigfaneaaGreatPur
import Derived.Deep.RegionWith
import Derived.Deep.RegionHeld3
namespace Go.Proofs.YtlohbaoigfaneaaGreat
open Go.RowKit
set_option linter.unusedVariables false
set_option linter.unusedSimpArgs false
set_option maxHeartbeats 2000000 in
theorem node_rule (wd ht dp : Int) (w : World) : Calls Tryz.prog 196 #[.agg #[.int .i64 wd, .int .i64 ht, .int .i64 dp]] w fun r w' => r = .returned (ndV ⟨5, wd, ht, dp, 0, 0, 0, 0, 0, 0, 0, 0, 0, ⟨#[]⟩, 0⟩) ∧ Below w.heap.size w w' := by
 simp only [ndV]
 go_enter Tryz.func196, Tryz.ntmps196
 go_wp2
 refine bodyPost_ret (v := ndV ⟨5, wd, ht, dp, 0, 0, 0, 0, 0, 0, 0, 0, 0, ⟨#[]⟩, 0⟩) (by simp [results, Tryz.results196, go_sem]) rfl ⟨rfl, ?_⟩
 repeat (first | with_reducible exact below1 _ _ | with_reducible exact below2 _ _ _ | with_reducible exact below3 _ _ _ _ | (with_reducible refine Below.setCell ?_ ?_ _; rotate_left; focus (first | (simp; done) | (simp; omega))))
set_option maxHeartbeats 2000000 in
theorem node_box (k wd ht dp sh kids : Int) (w : World) : Calls Tryz.prog 201 #[.agg #[.int .i64 k, .int .i64 wd, .int .i64 ht, .int .i64 dp, .int .i64 sh, .int .i64 kids]] w fun r w' => r = .returned (ndV ⟨k, wd, ht, dp, sh, 0, 0, 0, 0, 0, 0, 0, 0, ⟨#[]⟩, kids⟩) ∧ Below w.heap.size w w' := by
 simp only [ndV]
 go_enter Tryz.func201, Tryz.ntmps201
 go_wp2
 refine bodyPost_ret (v := ndV ⟨k, wd, ht, dp, sh, 0, 0, 0, 0, 0, 0, 0, 0, ⟨#[]⟩, kids⟩) (by simp [results, Tryz.results201, go_sem]) rfl ⟨rfl, ?_⟩
 repeat (first | with_reducible exact below1 _ _ | with_reducible exact below2 _ _ _ | with_reducible exact below3 _ _ _ _ | (with_reducible refine Below.setCell ?_ ?_ _; rotate_left; focus (first | (simp; done) | (simp; omega))))
set_option maxHeartbeats 2000000 in
theorem node_message (k : Int) (tx : ByteArray) (w : World) : Calls Tryz.prog 207 #[.agg #[.int .i64 k, .string tx]] w fun r w' => r = .returned (ndV ⟨k, 0, 0, 0, 0, 0, 0, 0, 0, 0, 0, 0, 0, tx, 0⟩) ∧ Below w.heap.size w w' := by
 simp only [ndV]
 go_enter Tryz.func207, Tryz.ntmps207
 go_wp2
 refine bodyPost_ret (v := ndV ⟨k, 0, 0, 0, 0, 0, 0, 0, 0, 0, 0, 0, 0, tx, 0⟩) (by simp [results, Tryz.results207, go_sem]) rfl ⟨rfl, ?_⟩
 repeat (first | with_reducible exact below1 _ _ | with_reducible exact below2 _ _ _ | with_reducible exact below3 _ _ _ _ | (with_reducible refine Below.setCell ?_ ?_ _; rotate_left; focus (first | (simp; done) | (simp; omega))))
set_option maxHeartbeats 2000000 in
theorem node_note (nn ht kids : Int) (w : World) : Calls Tryz.prog 190 #[.agg #[.int .i64 nn, .int .i64 ht, .int .i64 kids]] w fun r w' => r = .returned (ndV ⟨11, 0, ht, 0, 0, 0, 0, nn, 0, 0, 0, 0, 0, ⟨#[]⟩, kids⟩) ∧ Below w.heap.size w w' := by
 simp only [ndV]
 go_enter Tryz.func190, Tryz.ntmps190
 go_wp2
 refine bodyPost_ret (v := ndV ⟨11, 0, ht, 0, 0, 0, 0, nn, 0, 0, 0, 0, 0, ⟨#[]⟩, kids⟩) (by simp [results, Tryz.results190, go_sem]) rfl ⟨rfl, ?_⟩
 repeat (first | with_reducible exact below1 _ _ | with_reducible exact below2 _ _ _ | with_reducible exact below3 _ _ _ _ | (with_reducible refine Below.setCell ?_ ?_ _; rotate_left; focus (first | (simp; done) | (simp; omega))))
end Go.Proofs.YtlohbaoigfaneaaGreat
