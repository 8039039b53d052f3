/-
  The items of a page, without the discardable ones that come first: the program.
-/
import Derived.Test.YtdgfnceipginkaaSpd
namespace Go.Proofs.Ytdgfnceipginkaa
open Go.RowKit
set_option linter.unusedVariables false
set_option linter.unusedSimpArgs false


def lenV : Value → Nat
  | .slice _ n _ => n
  | _ => 0
def begF (ys : List It) : Nat → Nat → Nat
  | 0, a => a
  | f + 1, a => if discB (ys.getD a It.none).1 = true then begF ys f (a + 1) else a
/-- Where what stands on a page begins. -/
def begI (ys : List It) (a b : Nat) : Nat := begF ys (b - a) a
theorem begI_end (ys : List It) (a : Nat) : begI ys a a = a := by simp [begI, begF]
theorem begI_step (ys : List It) (a b : Nat) (h : a < b) : begI ys a b = if discB (ys.getD a It.none).1 = true then begI ys (a + 1) b else a := by
  unfold begI
  rw [show b - a = (b - (a + 1)) + 1 by omega, begF]
theorem ownG_cap {w : World} {base e s n cap : Nat} {ao : Option Addr} {xs : List Value} (h : w.ownsRow base e s (.slice ao n cap) n xs) : n ≤ cap ∧ cap ≤ maxLen := by
  obtain ⟨_, ⟨e1, rfl⟩ | ⟨g, c, cur, e1, _, _, h1, h2, _⟩⟩ := h
  · simp only [Value.slice.injEq] at e1
    omega
  · simp only [Value.slice.injEq] at e1
    omega

end Go.Proofs.Ytdgfnceipginkaa
