/-
  Where pages may end: the specification.
-/
import Derived.Test.YtdgfnceipginkaaItx
import Derived.OwnWalk
import Derived.Test.YtdgfnceipginkaaIts
import Derived.Laws.AppendOwn
namespace Go.Proofs.Ytdgfnceipginkaa
open Go.RowKit
set_option linter.unusedVariables false
set_option linter.unusedSimpArgs false


set_option maxHeartbeats 4000000 in
theorem specDisc_any (x : Nd) (w : World) : Calls Try.prog 29 #[ndV x] w fun e w' => e = .returned (.bool (discB x)) ∧ Below w.heap.size w w' := by
  obtain ⟨k, wd, ht, dp, sh, fo, ch, nn, gs, gp, gpo, gm, gmo, tx, kids⟩ := x
  simp only [ndV]
  have HE : Hid (discB ⟨k, wd, ht, dp, sh, fo, ch, nn, gs, gp, gpo, gm, gmo, tx, kids⟩ = (k == 3 || (k == 2 || k == 4))) := hideP rfl
  rw [HE.out]
  clear HE
  by_cases h3 : k = 3
  · subst h3
    go_enter Try.func29, Try.ntmps29
    go_wp2
    go_ret
    exact ⟨rfl, below1 _ _⟩
  · have b3 : (k == 3) = false := by simp [h3]
    rw [b3, Bool.false_or]
    by_cases h2 : k = 2
    · subst h2
      go_enter Try.func29, Try.ntmps29
      go_wp2
      go_ret
      exact ⟨rfl, below1 _ _⟩
    · have b2 : (k == 2) = false := by simp [h2]
      rw [b2, Bool.false_or]
      by_cases h4 : k = 4
      · subst h4
        go_enter Try.func29, Try.ntmps29
        go_wp2
        go_ret
        exact ⟨rfl, below1 _ _⟩
      · have b4 : (k == 4) = false := by simp [h4]
        rw [b4]
        go_enter Try.func29, Try.ntmps29
        go_wp2
        go_ret
        exact ⟨rfl, below1 _ _⟩
end Go.Proofs.Ytdgfnceipginkaa
