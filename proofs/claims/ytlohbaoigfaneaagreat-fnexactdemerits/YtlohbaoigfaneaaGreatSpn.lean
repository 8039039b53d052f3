import Derived.Test.YtlohbaoigfaneaaGreatPur
import Derived.Test.YtlohbaoigfaneaaGreatUa
import Derived.Test.YtlohbaoigfaneaaGreatUb
import Derived.Test.YtlohbaoigfaneaaGreatUc
import Derived.Test.YtlohbaoigfaneaaGreatUd
import Derived.Deep.RegionWith
import Derived.Deep.RegionHeld3
namespace Go.Proofs.YtlohbaoigfaneaaGreat
open Go.RowKit
set_option linter.unusedVariables false
set_option linter.unusedSimpArgs false
theorem used_any (x : Nd) (w : World) (h1 : 1 ≤ x.k) (h2 : x.k ≤ 11) : Calls Tryz.prog 144 #[ndV x] w fun r w' => r = .returned (ndV x.used) ∧ Below w.heap.size w w' := by
 obtain ⟨k, wd, ht, dp, sh, fo, ch, nn, gs, gp, gpo, gm, gmo, tx, kids⟩ := x
 dsimp only at h1 h2
 rcases kinds h1 h2 with rfl | rfl | rfl | rfl | rfl | rfl | rfl | rfl | rfl | rfl | rfl
 ·rw [show Nd.used ⟨1, wd, ht, dp, sh, fo, ch, nn, gs, gp, gpo, gm, gmo, tx, kids⟩ = ⟨1, wd, ht, dp, 0, fo, ch, 0, 0, 0, 0, 0, 0, ⟨#[]⟩, 0⟩ by simp [Nd.used]]
  exact used_1 wd ht dp sh fo ch nn gs gp gpo gm gmo kids tx w
 ·rw [show Nd.used ⟨2, wd, ht, dp, sh, fo, ch, nn, gs, gp, gpo, gm, gmo, tx, kids⟩ = ⟨2, wd, 0, 0, 0, 0, 0, 0, 0, 0, 0, 0, 0, ⟨#[]⟩, 0⟩ by simp [Nd.used]]
  exact used_2 wd ht dp sh fo ch nn gs gp gpo gm gmo kids tx w
 ·rw [show Nd.used ⟨3, wd, ht, dp, sh, fo, ch, nn, gs, gp, gpo, gm, gmo, tx, kids⟩ = ⟨3, wd, 0, 0, 0, 0, 0, 0, gs, gp, gpo, gm, gmo, ⟨#[]⟩, 0⟩ by simp [Nd.used]]
  exact used_3 wd ht dp sh fo ch nn gs gp gpo gm gmo kids tx w
 ·rw [show Nd.used ⟨4, wd, ht, dp, sh, fo, ch, nn, gs, gp, gpo, gm, gmo, tx, kids⟩ = ⟨4, 0, 0, 0, 0, 0, 0, nn, 0, 0, 0, 0, 0, ⟨#[]⟩, 0⟩ by simp [Nd.used]]
  exact used_4 wd ht dp sh fo ch nn gs gp gpo gm gmo kids tx w
 ·rw [show Nd.used ⟨5, wd, ht, dp, sh, fo, ch, nn, gs, gp, gpo, gm, gmo, tx, kids⟩ = ⟨5, wd, ht, dp, 0, 0, 0, 0, 0, 0, 0, 0, 0, ⟨#[]⟩, 0⟩ by simp [Nd.used]]
  exact used_5 wd ht dp sh fo ch nn gs gp gpo gm gmo kids tx w
 ·rw [show Nd.used ⟨6, wd, ht, dp, sh, fo, ch, nn, gs, gp, gpo, gm, gmo, tx, kids⟩ = ⟨6, wd, ht, dp, sh, 0, 0, 0, 0, 0, 0, 0, 0, ⟨#[]⟩, kids⟩ by simp [Nd.used]]
  exact used_6 wd ht dp sh fo ch nn gs gp gpo gm gmo kids tx w
 ·rw [show Nd.used ⟨7, wd, ht, dp, sh, fo, ch, nn, gs, gp, gpo, gm, gmo, tx, kids⟩ = ⟨7, wd, ht, dp, sh, 0, 0, 0, 0, 0, 0, 0, 0, ⟨#[]⟩, kids⟩ by simp [Nd.used]]
  exact used_7 wd ht dp sh fo ch nn gs gp gpo gm gmo kids tx w
 ·rw [show Nd.used ⟨8, wd, ht, dp, sh, fo, ch, nn, gs, gp, gpo, gm, gmo, tx, kids⟩ = ⟨8, wd, ht, dp, 0, fo, ch, 0, 0, 0, 0, 0, 0, ⟨#[]⟩, 0⟩ by simp [Nd.used]]
  exact used_8 wd ht dp sh fo ch nn gs gp gpo gm gmo kids tx w
 ·rw [show Nd.used ⟨9, wd, ht, dp, sh, fo, ch, nn, gs, gp, gpo, gm, gmo, tx, kids⟩ = ⟨9, 0, 0, 0, 0, 0, 0, 0, 0, 0, 0, 0, 0, tx, 0⟩ by simp [Nd.used]]
  exact used_9 wd ht dp sh fo ch nn gs gp gpo gm gmo kids tx w
 ·rw [show Nd.used ⟨10, wd, ht, dp, sh, fo, ch, nn, gs, gp, gpo, gm, gmo, tx, kids⟩ = ⟨10, 0, 0, 0, 0, 0, 0, 0, 0, 0, 0, 0, 0, tx, 0⟩ by simp [Nd.used]]
  exact used_10 wd ht dp sh fo ch nn gs gp gpo gm gmo kids tx w
 ·rw [show Nd.used ⟨11, wd, ht, dp, sh, fo, ch, nn, gs, gp, gpo, gm, gmo, tx, kids⟩ = ⟨11, 0, ht, 0, 0, 0, 0, nn, 0, 0, 0, 0, 0, ⟨#[]⟩, kids⟩ by simp [Nd.used]]
  exact used_11 wd ht dp sh fo ch nn gs gp gpo gm gmo kids tx w
theorem fontOk_any (x : Nd) (w : World) : Calls Tryz.prog 145 #[ndV x] w fun r w' => r = .returned (.bool (uptoB x.fo 15 && uptoB x.ch 255)) ∧ Below w.heap.size w w' := by
 obtain ⟨k, wd, ht, dp, sh, fo, ch, nn, gs, gp, gpo, gm, gmo, tx, kids⟩ := x
 simp only [ndV]
 rw [show uptoB fo 15 = (decide (0 ≤ fo) && decide (fo ≤ 15)) by simp [uptoB], show uptoB ch 255 = (decide (0 ≤ ch) && decide (ch ≤ 255)) by simp [uptoB]]
 cases h1 : decide (0 ≤ fo) <;> cases h2 : decide (fo ≤ 15) <;> cases h3 : decide (0 ≤ ch) <;> cases h4 : decide (ch ≤ 255)
 all_goals
  go_enter Tryz.func145, Tryz.ntmps145
  go_wp2
  go_ret
  exact ⟨rfl, below1 _ _⟩
theorem deep_any (x : Nd) (w : World) : Calls Tryz.prog 122 #[ndV x] w fun r w' => r = .returned (.bool (deepB x)) ∧ Below w.heap.size w w' := by
 obtain ⟨k, wd, ht, dp, sh, fo, ch, nn, gs, gp, gpo, gm, gmo, tx, kids⟩ := x
 simp only [ndV, deepB]
 cases h1 : (k == 6) <;> cases h2 : (k == 7) <;> cases h3 : (k == 11)
 all_goals
  go_enter Tryz.func122, Tryz.ntmps122
  go_wp2
  go_ret
  exact ⟨rfl, below1 _ _⟩
end Go.Proofs.YtlohbaoigfaneaaGreat
