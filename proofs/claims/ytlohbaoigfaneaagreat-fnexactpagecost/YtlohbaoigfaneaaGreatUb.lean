import Derived.Test.YtlohbaoigfaneaaGreatPur
import Derived.Deep.RegionWith
import Derived.Deep.RegionHeld3
namespace Go.Proofs.YtlohbaoigfaneaaGreat
open Go.RowKit
set_option linter.unusedVariables false
set_option linter.unusedSimpArgs false
set_option maxHeartbeats 4000000 in
theorem used_4 (wd ht dp sh fo ch nn gs gp gpo gm gmo kids : Int) (tx : ByteArray) (w : World) : Calls Tryz.prog 144 #[ndV ⟨4, wd, ht, dp, sh, fo, ch, nn, gs, gp, gpo, gm, gmo, tx, kids⟩] w fun r w' => r = .returned (ndV ⟨4, 0, 0, 0, 0, 0, 0, nn, 0, 0, 0, 0, 0, ⟨#[]⟩, 0⟩) ∧ Below w.heap.size w w' := by
 simp only [ndV]
 go_enter Tryz.func144, Tryz.ntmps144
 go_wp2
 refine bodyPost_ret (v := ndV ⟨4, 0, 0, 0, 0, 0, 0, nn, 0, 0, 0, 0, 0, ⟨#[]⟩, 0⟩) (by simp [results, Tryz.results144, go_sem]) rfl ⟨rfl, ?_⟩
 repeat (first | with_reducible exact below1 _ _ | with_reducible exact below2 _ _ _ | with_reducible exact below3 _ _ _ _ | (with_reducible refine Below.setCell ?_ ?_ _; rotate_left; focus (first | (simp; done) | (simp; omega))))
set_option maxHeartbeats 4000000 in
theorem used_5 (wd ht dp sh fo ch nn gs gp gpo gm gmo kids : Int) (tx : ByteArray) (w : World) : Calls Tryz.prog 144 #[ndV ⟨5, wd, ht, dp, sh, fo, ch, nn, gs, gp, gpo, gm, gmo, tx, kids⟩] w fun r w' => r = .returned (ndV ⟨5, wd, ht, dp, 0, 0, 0, 0, 0, 0, 0, 0, 0, ⟨#[]⟩, 0⟩) ∧ Below w.heap.size w w' := by
 simp only [ndV]
 go_enter Tryz.func144, Tryz.ntmps144
 go_wp2
 refine bodyPost_ret (v := ndV ⟨5, wd, ht, dp, 0, 0, 0, 0, 0, 0, 0, 0, 0, ⟨#[]⟩, 0⟩) (by simp [results, Tryz.results144, go_sem]) rfl ⟨rfl, ?_⟩
 repeat (first | with_reducible exact below1 _ _ | with_reducible exact below2 _ _ _ | with_reducible exact below3 _ _ _ _ | (with_reducible refine Below.setCell ?_ ?_ _; rotate_left; focus (first | (simp; done) | (simp; omega))))
set_option maxHeartbeats 4000000 in
theorem used_6 (wd ht dp sh fo ch nn gs gp gpo gm gmo kids : Int) (tx : ByteArray) (w : World) : Calls Tryz.prog 144 #[ndV ⟨6, wd, ht, dp, sh, fo, ch, nn, gs, gp, gpo, gm, gmo, tx, kids⟩] w fun r w' => r = .returned (ndV ⟨6, wd, ht, dp, sh, 0, 0, 0, 0, 0, 0, 0, 0, ⟨#[]⟩, kids⟩) ∧ Below w.heap.size w w' := by
 simp only [ndV]
 go_enter Tryz.func144, Tryz.ntmps144
 go_wp2
 refine bodyPost_ret (v := ndV ⟨6, wd, ht, dp, sh, 0, 0, 0, 0, 0, 0, 0, 0, ⟨#[]⟩, kids⟩) (by simp [results, Tryz.results144, go_sem]) rfl ⟨rfl, ?_⟩
 repeat (first | with_reducible exact below1 _ _ | with_reducible exact below2 _ _ _ | with_reducible exact below3 _ _ _ _ | (with_reducible refine Below.setCell ?_ ?_ _; rotate_left; focus (first | (simp; done) | (simp; omega))))
end Go.Proofs.YtlohbaoigfaneaaGreat
