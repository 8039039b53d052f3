import Derived.Test.YtojoehdmjkgnnaaGreatFit
import Derived.Deep.RegionWith
import Derived.Deep.RegionHeld3
namespace Go.Proofs.YtojoehdmjkgnnaaGreat
open Go.RowKit
set_option linter.unusedVariables false
set_option linter.unusedSimpArgs false
set_option maxHeartbeats 2000000 in
theorem node_letter (fo ch wd ht dp : Int) (w : World) : Calls Tryz.prog 211 #[.agg #[.int .i64 fo, .int .i64 ch, .int .i64 wd, .int .i64 ht, .int .i64 dp]] w fun r w' => r = .returned (ndV ⟨1, wd, ht, dp, 0, fo, ch, 0, 0, 0, 0, 0, 0, ⟨#[]⟩, 0⟩) ∧ Below w.heap.size w w' := by
 simp only [ndV]
 go_enter Tryz.func211, Tryz.ntmps211
 go_wp2
 refine bodyPost_ret (v := ndV ⟨1, wd, ht, dp, 0, fo, ch, 0, 0, 0, 0, 0, 0, ⟨#[]⟩, 0⟩) (by simp [results, Tryz.results211, go_sem]) rfl ⟨rfl, ?_⟩
 repeat (first | with_reducible exact below1 _ _ | with_reducible exact below2 _ _ _ | with_reducible exact below3 _ _ _ _ | (with_reducible refine Below.setCell ?_ ?_ _; rotate_left; focus (first | (simp; done) | (simp; omega))))
set_option maxHeartbeats 2000000 in
theorem node_kern (wd : Int) (w : World) : Calls Tryz.prog 98 #[.agg #[.int .i64 wd]] w fun r w' => r = .returned (ndV ⟨2, wd, 0, 0, 0, 0, 0, 0, 0, 0, 0, 0, 0, ⟨#[]⟩, 0⟩) ∧ Below w.heap.size w w' := by
 simp only [ndV]
 go_enter Tryz.func98, Tryz.ntmps98
 go_wp2
 refine bodyPost_ret (v := ndV ⟨2, wd, 0, 0, 0, 0, 0, 0, 0, 0, 0, 0, 0, ⟨#[]⟩, 0⟩) (by simp [results, Tryz.results98, go_sem]) rfl ⟨rfl, ?_⟩
 repeat (first | with_reducible exact below1 _ _ | with_reducible exact below2 _ _ _ | with_reducible exact below3 _ _ _ _ | (with_reducible refine Below.setCell ?_ ?_ _; rotate_left; focus (first | (simp; done) | (simp; omega))))
set_option maxHeartbeats 2000000 in
theorem node_space (gs gp gpo gm gmo wd : Int) (w : World) : Calls Tryz.prog 96 #[.agg #[.int .i64 gs, .int .i64 gp, .int .i64 gpo, .int .i64 gm, .int .i64 gmo, .int .i64 wd]] w fun r w' => r = .returned (ndV ⟨3, wd, 0, 0, 0, 0, 0, 0, gs, gp, gpo, gm, gmo, ⟨#[]⟩, 0⟩) ∧ Below w.heap.size w w' := by
 simp only [ndV]
 go_enter Tryz.func96, Tryz.ntmps96
 go_wp2
 refine bodyPost_ret (v := ndV ⟨3, wd, 0, 0, 0, 0, 0, 0, gs, gp, gpo, gm, gmo, ⟨#[]⟩, 0⟩) (by simp [results, Tryz.results96, go_sem]) rfl ⟨rfl, ?_⟩
 repeat (first | with_reducible exact below1 _ _ | with_reducible exact below2 _ _ _ | with_reducible exact below3 _ _ _ _ | (with_reducible refine Below.setCell ?_ ?_ _; rotate_left; focus (first | (simp; done) | (simp; omega))))
set_option maxHeartbeats 2000000 in
theorem node_penalty (nn : Int) (w : World) : Calls Tryz.prog 215 #[.agg #[.int .i64 nn]] w fun r w' => r = .returned (ndV ⟨4, 0, 0, 0, 0, 0, 0, nn, 0, 0, 0, 0, 0, ⟨#[]⟩, 0⟩) ∧ Below w.heap.size w w' := by
 simp only [ndV]
 go_enter Tryz.func215, Tryz.ntmps215
 go_wp2
 refine bodyPost_ret (v := ndV ⟨4, 0, 0, 0, 0, 0, 0, nn, 0, 0, 0, 0, 0, ⟨#[]⟩, 0⟩) (by simp [results, Tryz.results215, go_sem]) rfl ⟨rfl, ?_⟩
 repeat (first | with_reducible exact below1 _ _ | with_reducible exact below2 _ _ _ | with_reducible exact below3 _ _ _ _ | (with_reducible refine Below.setCell ?_ ?_ _; rotate_left; focus (first | (simp; done) | (simp; omega))))
set_option maxHeartbeats 2000000 in
theorem node_rule (wd ht dp : Int) (w : World) : Calls Tryz.prog 122 #[.agg #[.int .i64 wd, .int .i64 ht, .int .i64 dp]] w fun r w' => r = .returned (ndV ⟨5, wd, ht, dp, 0, 0, 0, 0, 0, 0, 0, 0, 0, ⟨#[]⟩, 0⟩) ∧ Below w.heap.size w w' := by
 simp only [ndV]
 go_enter Tryz.func122, Tryz.ntmps122
 go_wp2
 refine bodyPost_ret (v := ndV ⟨5, wd, ht, dp, 0, 0, 0, 0, 0, 0, 0, 0, 0, ⟨#[]⟩, 0⟩) (by simp [results, Tryz.results122, go_sem]) rfl ⟨rfl, ?_⟩
 repeat (first | with_reducible exact below1 _ _ | with_reducible exact below2 _ _ _ | with_reducible exact below3 _ _ _ _ | (with_reducible refine Below.setCell ?_ ?_ _; rotate_left; focus (first | (simp; done) | (simp; omega))))
set_option maxHeartbeats 2000000 in
theorem node_box (k wd ht dp sh kids : Int) (w : World) : Calls Tryz.prog 116 #[.agg #[.int .i64 k, .int .i64 wd, .int .i64 ht, .int .i64 dp, .int .i64 sh, .int .i64 kids]] w fun r w' => r = .returned (ndV ⟨k, wd, ht, dp, sh, 0, 0, 0, 0, 0, 0, 0, 0, ⟨#[]⟩, kids⟩) ∧ Below w.heap.size w w' := by
 simp only [ndV]
 go_enter Tryz.func116, Tryz.ntmps116
 go_wp2
 refine bodyPost_ret (v := ndV ⟨k, wd, ht, dp, sh, 0, 0, 0, 0, 0, 0, 0, 0, ⟨#[]⟩, kids⟩) (by simp [results, Tryz.results116, go_sem]) rfl ⟨rfl, ?_⟩
 repeat (first | with_reducible exact below1 _ _ | with_reducible exact below2 _ _ _ | with_reducible exact below3 _ _ _ _ | (with_reducible refine Below.setCell ?_ ?_ _; rotate_left; focus (first | (simp; done) | (simp; omega))))
set_option maxHeartbeats 2000000 in
theorem node_message (k : Int) (tx : ByteArray) (w : World) : Calls Tryz.prog 219 #[.agg #[.int .i64 k, .string tx]] w fun r w' => r = .returned (ndV ⟨k, 0, 0, 0, 0, 0, 0, 0, 0, 0, 0, 0, 0, tx, 0⟩) ∧ Below w.heap.size w w' := by
 simp only [ndV]
 go_enter Tryz.func219, Tryz.ntmps219
 go_wp2
 refine bodyPost_ret (v := ndV ⟨k, 0, 0, 0, 0, 0, 0, 0, 0, 0, 0, 0, 0, tx, 0⟩) (by simp [results, Tryz.results219, go_sem]) rfl ⟨rfl, ?_⟩
 repeat (first | with_reducible exact below1 _ _ | with_reducible exact below2 _ _ _ | with_reducible exact below3 _ _ _ _ | (with_reducible refine Below.setCell ?_ ?_ _; rotate_left; focus (first | (simp; done) | (simp; omega))))
set_option maxHeartbeats 2000000 in
theorem node_note (nn ht kids : Int) (w : World) : Calls Tryz.prog 222 #[.agg #[.int .i64 nn, .int .i64 ht, .int .i64 kids]] w fun r w' => r = .returned (ndV ⟨11, 0, ht, 0, 0, 0, 0, nn, 0, 0, 0, 0, 0, ⟨#[]⟩, kids⟩) ∧ Below w.heap.size w w' := by
 simp only [ndV]
 go_enter Tryz.func222, Tryz.ntmps222
 go_wp2
 refine bodyPost_ret (v := ndV ⟨11, 0, ht, 0, 0, 0, 0, nn, 0, 0, 0, 0, 0, ⟨#[]⟩, kids⟩) (by simp [results, Tryz.results222, go_sem]) rfl ⟨rfl, ?_⟩
 repeat (first | with_reducible exact below1 _ _ | with_reducible exact below2 _ _ _ | with_reducible exact below3 _ _ _ _ | (with_reducible refine Below.setCell ?_ ?_ _; rotate_left; focus (first | (simp; done) | (simp; omega))))
set_option maxHeartbeats 2000000 in
theorem node_hyphen (fo ch wd ht dp : Int) (w : World) : Calls Tryz.prog 217 #[.agg #[.int .i64 fo, .int .i64 ch, .int .i64 wd, .int .i64 ht, .int .i64 dp]] w fun r w' => r = .returned (ndV ⟨8, wd, ht, dp, 0, fo, ch, 0, 0, 0, 0, 0, 0, ⟨#[]⟩, 0⟩) ∧ Below w.heap.size w w' := by
 simp only [ndV]
 have HC : Hid (∀ W, Calls Tryz.prog 211 #[.agg #[.int .i64 fo, .int .i64 ch, .int .i64 wd, .int .i64 ht, .int .i64 dp]] W fun e w' => e = .returned (ndV ⟨1, wd, ht, dp, 0, fo, ch, 0, 0, 0, 0, 0, 0, ⟨#[]⟩, 0⟩) ∧ Below W.heap.size W w') := hideP (fun W => node_letter fo ch wd ht dp W)
 go_enter Tryz.func217, Tryz.ntmps217
 go_wp2_with fail
 refine (HC.out _).mono ?_
 rintro e w1 ⟨rfl, hb1⟩
 simp only [ndV]
 have hy1 : w.heap.size + 1 < w1.heap.size := by have := hb1.size; simp at this; omega
 have hx1 : w.heap.size < w1.heap.size := by omega
 have BW : Below w.heap.size w w1 := by
  refine below_more ?_ hb1 (by simp; omega)
  repeat (first | with_reducible exact below2 _ _ _ | (with_reducible refine Below.setCell ?_ ?_ _; rotate_left; focus (first | (simp; done) | (simp; omega))))
 obtain ⟨hc1, hf1⟩ := bcell hb1
 have B1 := hideP BW
 simp only [World.size_alloc, World.size_setCell] at hc1 hf1
 clear hb1 BW
 go_wp2
 refine bodyPost_ret (v := ndV ⟨8, wd, ht, dp, 0, fo, ch, 0, 0, 0, 0, 0, 0, ⟨#[]⟩, 0⟩) (by simp [results, Tryz.results217, go_sem, hc1, hx1, hy1]) rfl ⟨rfl, ?_⟩
 have B2 := B1.out
 clear hc1 hf1 B1
 repeat (first | with_reducible exact B2 | (with_reducible refine Below.alloc ?_ ?_ _; rotate_left; focus (first | (simp; done) | (simp; omega))) | (with_reducible refine Below.setCell ?_ ?_ _; rotate_left; focus (first | (simp; done) | (simp; omega))))
end Go.Proofs.YtojoehdmjkgnnaaGreat
