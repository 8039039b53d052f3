/-
  DERIVED. GIVEN WITH THE SEED: THE CARDS: each row of YtminpoenfjnmiaaDoorRows.lean that lists a variable, with what it lists TIED to the program's text (the seventh form; the later family's looks); each row that meets fmt, with fmt's text TOLD by the authors' own Lean function (tested against real Go, not proved from fmt's source: count such statements apart). THE CARD IS WHAT COUNTS. Prove the row's statement (the work); the ties are given (YtminpoenfjnmiaaDoorTie.lean); close each card by the builder's one call (the guide's Derived/Test/ToyasCard.lean, 'card_holds'). Laid BY PROGRAM, IN A SANDBOX (cutbox-door.mjs). By AI agents, Wed Nov 11 2026. No macro, syntax, notation, axiom, sorry.
-/
import Derived.Test.YtminpoenfjnmiaaDoorRows
import GoSem.ClaimSeven
namespace Go.Proofs.YtminpoenfjnmiaaDoor
namespace Rows

/-- THE TIED CARD OF 'laws.FnGlueAdd'. -/
def fnGlueAddCard : Claim7 := { stood := { row := fnGlueAddRow, standIns := [], harness := (true, "2cb084d881588f7b8b67371db4e4347146f7cb66c8376d1f0c73d5c2e34e1fa0"), looks := false }, kinds := [], alts := [], laidByText := true, laidKinds := [.data, .data, .data, .data], laidTests := true, laidLooks := .later }
def FnGlueAddCardSaid : Prop := Claim7.holds Tryd.pinned (.plain (OpenSpec.ofChange fnGlueAddSpec)) fnGlueAddCard

/-- THE SECOND FORM's CARD OF 'laws.FnGlueAdd'. -/
def fnGlueAddUptoCard : Claim7 := { stood := { row := fnGlueAddUptoRow, standIns := [], harness := (true, "2cb084d881588f7b8b67371db4e4347146f7cb66c8376d1f0c73d5c2e34e1fa0"), looks := false }, kinds := [], alts := [], laidByText := true, laidKinds := [.data, .data, .data, .data], laidTests := true, laidLooks := .later }
def FnGlueAddUptoCardSaid : Prop := Claim7.holds Tryd.pinned (.plain (OpenSpec.upto fnGlueAddSpec)) fnGlueAddUptoCard
end Rows
end Go.Proofs.YtminpoenfjnmiaaDoor
