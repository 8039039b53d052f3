import Derived.Test.YtlohbaoigfaneaaGreatPur
import Derived.Deep.RegionWith
import Derived.Deep.RegionHeld3
namespace Go.Proofs.YtlohbaoigfaneaaGreat
open Go.RowKit
set_option linter.unusedVariables false
set_option linter.unusedSimpArgs false
set_option maxHeartbeats 2000000 in
theorem node_letter (fo ch wd ht dp : Int) (w : World) : Calls Tryz.prog 181 #[.agg #[.int .i64 fo, .int .i64 ch, .int .i64 wd, .int .i64 ht, .int .i64 dp]] w fun r w' => r = .returned (ndV ⟨1, wd, ht, dp, 0, fo, ch, 0, 0, 0, 0, 0, 0, ⟨#[]⟩, 0⟩) ∧ Below w.heap.size w w' := by
 simp only [ndV]
 go_enter Tryz.func181, Tryz.ntmps181
 go_wp2
 refine bodyPost_ret (v := ndV ⟨1, wd, ht, dp, 0, fo, ch, 0, 0, 0, 0, 0, 0, ⟨#[]⟩, 0⟩) (by simp [results, Tryz.results181, go_sem]) rfl ⟨rfl, ?_⟩
 repeat (first | with_reducible exact below1 _ _ | with_reducible exact below2 _ _ _ | with_reducible exact below3 _ _ _ _ | (with_reducible refine Below.setCell ?_ ?_ _; rotate_left; focus (first | (simp; done) | (simp; omega))))
set_option maxHeartbeats 2000000 in
theorem node_kern (wd : Int) (w : World) : Calls Tryz.prog 192 #[.agg #[.int .i64 wd]] w fun r w' => r = .returned (ndV ⟨2, wd, 0, 0, 0, 0, 0, 0, 0, 0, 0, 0, 0, ⟨#[]⟩, 0⟩) ∧ Below w.heap.size w w' := by
 simp only [ndV]
 go_enter Tryz.func192, Tryz.ntmps192
 go_wp2
 refine bodyPost_ret (v := ndV ⟨2, wd, 0, 0, 0, 0, 0, 0, 0, 0, 0, 0, 0, ⟨#[]⟩, 0⟩) (by simp [results, Tryz.results192, go_sem]) rfl ⟨rfl, ?_⟩
 repeat (first | with_reducible exact below1 _ _ | with_reducible exact below2 _ _ _ | with_reducible exact below3 _ _ _ _ | (with_reducible refine Below.setCell ?_ ?_ _; rotate_left; focus (first | (simp; done) | (simp; omega))))
set_option maxHeartbeats 2000000 in
theorem node_space (gs gp gpo gm gmo wd : Int) (w : World) : Calls Tryz.prog 185 #[.agg #[.int .i64 gs, .int .i64 gp, .int .i64 gpo, .int .i64 gm, .int .i64 gmo, .int .i64 wd]] w fun r w' => r = .returned (ndV ⟨3, wd, 0, 0, 0, 0, 0, 0, gs, gp, gpo, gm, gmo, ⟨#[]⟩, 0⟩) ∧ Below w.heap.size w w' := by
 simp only [ndV]
 go_enter Tryz.func185, Tryz.ntmps185
 go_wp2
 refine bodyPost_ret (v := ndV ⟨3, wd, 0, 0, 0, 0, 0, 0, gs, gp, gpo, gm, gmo, ⟨#[]⟩, 0⟩) (by simp [results, Tryz.results185, go_sem]) rfl ⟨rfl, ?_⟩
 repeat (first | with_reducible exact below1 _ _ | with_reducible exact below2 _ _ _ | with_reducible exact below3 _ _ _ _ | (with_reducible refine Below.setCell ?_ ?_ _; rotate_left; focus (first | (simp; done) | (simp; omega))))
set_option maxHeartbeats 2000000 in
theorem node_penalty (nn : Int) (w : World) : Calls Tryz.prog 187 #[.agg #[.int .i64 nn]] w fun r w' => r = .returned (ndV ⟨4, 0, 0, 0, 0, 0, 0, nn, 0, 0, 0, 0, 0, ⟨#[]⟩, 0⟩) ∧ Below w.heap.size w w' := by
 simp only [ndV]
 go_enter Tryz.func187, Tryz.ntmps187
 go_wp2
 refine bodyPost_ret (v := ndV ⟨4, 0, 0, 0, 0, 0, 0, nn, 0, 0, 0, 0, 0, ⟨#[]⟩, 0⟩) (by simp [results, Tryz.results187, go_sem]) rfl ⟨rfl, ?_⟩
 repeat (first | with_reducible exact below1 _ _ | with_reducible exact below2 _ _ _ | with_reducible exact below3 _ _ _ _ | (with_reducible refine Below.setCell ?_ ?_ _; rotate_left; focus (first | (simp; done) | (simp; omega))))
end Go.Proofs.YtlohbaoigfaneaaGreat
