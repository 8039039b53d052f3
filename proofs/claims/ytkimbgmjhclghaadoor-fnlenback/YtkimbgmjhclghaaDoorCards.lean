/-
  DERIVED. GIVEN WITH THE SEED: THE CARDS: each row of YtkimbgmjhclghaaDoorRows.lean that lists a variable, with what it lists TIED to the program's text (the seventh form; the later family's looks); each row that meets fmt, with fmt's text TOLD by the authors' own Lean function (tested against real Go, not proved from fmt's source: count such statements apart). THE CARD IS WHAT COUNTS. Prove the row's statement (the work); the ties are given (YtkimbgmjhclghaaDoorTie.lean); close each card by the builder's one call (the guide's Derived/Test/ToyasCard.lean, 'card_holds'). Laid BY PROGRAM, IN A SANDBOX (cutbox-door.mjs). By AI agents, Wed Nov 11 2026. No macro, syntax, notation, axiom, sorry.
-/
import Derived.Test.YtkimbgmjhclghaaDoorRows
import GoSem.ClaimSeven
namespace Go.Proofs.YtkimbgmjhclghaaDoor
namespace Rows

/-- THE TIED CARD OF 'laws.FnLenBack'. -/
def fnLenBackCard : Claim7 := { stood := { row := fnLenBackRow, standIns := [], harness := (true, "fc27aaa16cdfc95b4f61452726994be7eddbfb012dafdfc79980dc7cfb624c14"), looks := false }, kinds := [], alts := [], laidByText := true, laidKinds := [.data, .data, .data, .data, .data], laidTests := true, laidLooks := .later }
def FnLenBackCardSaid : Prop := Claim7.holds Tryd.pinned (.plain (OpenSpec.ofChange fnLenBackSpec)) fnLenBackCard

/-- THE TIED CARD OF 'laws.FnExactParseLen'. -/
def fnExactParseLenCard : Claim7 := { stood := { row := fnExactParseLenRow, standIns := [], harness := (true, "fc27aaa16cdfc95b4f61452726994be7eddbfb012dafdfc79980dc7cfb624c14"), looks := false }, kinds := [], alts := [], laidByText := true, laidKinds := [.data], laidTests := true, laidLooks := .later }
def FnExactParseLenCardSaid : Prop := Claim7.holds Tryd.pinned (.plain (OpenSpec.ofChange fnExactParseLenSpec)) fnExactParseLenCard

/-- THE SECOND FORM's CARD OF 'laws.FnLenBack'. -/
def fnLenBackUptoCard : Claim7 := { stood := { row := fnLenBackUptoRow, standIns := [], harness := (true, "fc27aaa16cdfc95b4f61452726994be7eddbfb012dafdfc79980dc7cfb624c14"), looks := false }, kinds := [], alts := [], laidByText := true, laidKinds := [.data, .data, .data, .data, .data], laidTests := true, laidLooks := .later }
def FnLenBackUptoCardSaid : Prop := Claim7.holds Tryd.pinned (.plain (OpenSpec.upto fnLenBackSpec)) fnLenBackUptoCard

/-- THE SECOND FORM's CARD OF 'laws.FnExactParseLen'. -/
def fnExactParseLenUptoCard : Claim7 := { stood := { row := fnExactParseLenUptoRow, standIns := [], harness := (true, "fc27aaa16cdfc95b4f61452726994be7eddbfb012dafdfc79980dc7cfb624c14"), looks := false }, kinds := [], alts := [], laidByText := true, laidKinds := [.data], laidTests := true, laidLooks := .later }
def FnExactParseLenUptoCardSaid : Prop := Claim7.holds Tryd.pinned (.plain (OpenSpec.upto fnExactParseLenSpec)) fnExactParseLenUptoCard
end Rows
end Go.Proofs.YtkimbgmjhclghaaDoor
