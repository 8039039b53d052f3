/-
  The items of a page, without the discardable ones that come first: the program.
-/
import Derived.Test.YtjagagbelpihbaaSpd
namespace Go.Proofs.Ytjagagbelpihbaa
open Go.RowKit
set_option linter.unusedVariables false
set_option linter.unusedSimpArgs false


def lenV : Value → Nat
  | .slice _ n _ => n
  | _ => 0
theorem ownG_cap {w : World} {base e s n cap : Nat} {ao : Option Addr} {xs : List Value} (h : w.ownsRow base e s (.slice ao n cap) n xs) : n ≤ cap ∧ cap ≤ maxLen := by
  obtain ⟨_, ⟨e1, rfl⟩ | ⟨g, c, cur, e1, _, _, h1, h2, _⟩⟩ := h
  · simp only [Value.slice.injEq] at e1
    omega
  · simp only [Value.slice.injEq] at e1
    omega

end Go.Proofs.Ytjagagbelpihbaa
