/-
  No cell of these rows narrows 'for every input' (looked for: loops, veiled, ifaces, maps, wideKeys, modest, calm, conditions, laid).
  DERIVED. THE GIVEN ROWS OF THIS SEAT. 5 by the template 'for every input the law returns true; each argument reads behind the call as it read before'; 0 by the template 'total and deterministic' (their statements: YtbbehmcekbnkiaaGreatTotals.lean).
  GIVEN WITH THE SEED: the statements are not yours to turn. If you find one false, say at which input.
  Laid BY PROGRAM, IN A SANDBOX (cutbox-rows.mjs): the forced cells as the released guide's own fill.sh prints them over the translation b9f6572687642cd3… (all of the seat's roots in one cut). By AI agents, Wed Nov 11 2026. No macro, syntax, notation, axiom, sorry.
-/
import Derived.Test.YtbbehmcekbnkiaaGreatChecked
import GoSem.Claim
import GoSem.ClaimJoined
import GoSem.ClaimMapViews
import Derived.JoinedTies
import Derived.KernelRfl
namespace Go.Proofs.YtbbehmcekbnkiaaGreat
/- THE CELL 'sum', in the pinned program and in every row, IS THE sha256 OF THE DUMP (.gsa) THAT YtbbehmcekbnkiaaGreatProg.lean LOADS. Nothing in Lean hashes anything: it is a label: what it is worth is what the hold of that sum in a sandbox is worth. -/
noncomputable def Tryz.pinned : Pinned := { name := "ytbbehmcekbnkiaagreat", sum := "b9f6572687642cd379045ffbfcf47fd990079a09b45192b343146a1b3aaf1fbb", checked := Tryz.checked }
namespace Rows
def none {H : Type} : Left H := { results := [], args := [] }

/-- 'laws.FnPackSum': WHATEVER THE INPUT: true; the input reads as it did. -/
def fnPackSumSpec : ChangeSpec := { name := "fnPackSum", fn := fun _ => fun
  | [d] => { results := [.lit (.bool true)], args := [d] }
  | _ => none }
def fnPackSumRow : OpenClaim := { program := "ytbbehmcekbnkiaagreat", sum := "b9f6572687642cd379045ffbfcf47fd990079a09b45192b343146a1b3aaf1fbb", func := "loop.example/g00014/laws.FnPackSum", spec := "fnPackSum", unfollowed := true, recurses := true, named := ["math/bits.divideError", "math/bits.overflowError"], apart := false }
def FnPackSumSaid : Prop := fnPackSumRow.holds Tryz.pinned (OpenSpec.ofChange fnPackSumSpec)

/-- ITS FALSE NEIGHBOUR: 'it returns false'. Refute it at one input. -/
def fnPackSumWrong : ChangeSpec := { name := "fnPackSum", fn := fun _ => fun
  | [d] => { results := [.lit (.bool false)], args := [d] }
  | _ => none }
def FnPackSumWrongFalsely : Prop := fnPackSumRow.holds Tryz.pinned (OpenSpec.ofChange fnPackSumWrong)

/-- 'laws.FnStackSum': WHATEVER THE INPUT: true; the input reads as it did. -/
def fnStackSumSpec : ChangeSpec := { name := "fnStackSum", fn := fun _ => fun
  | [d] => { results := [.lit (.bool true)], args := [d] }
  | _ => none }
def fnStackSumRow : OpenClaim := { program := "ytbbehmcekbnkiaagreat", sum := "b9f6572687642cd379045ffbfcf47fd990079a09b45192b343146a1b3aaf1fbb", func := "loop.example/g00014/laws.FnStackSum", spec := "fnStackSum", unfollowed := true, recurses := true, named := ["math/bits.divideError", "math/bits.overflowError"], apart := false }
def FnStackSumSaid : Prop := fnStackSumRow.holds Tryz.pinned (OpenSpec.ofChange fnStackSumSpec)

/-- ITS FALSE NEIGHBOUR: 'it returns false'. Refute it at one input. -/
def fnStackSumWrong : ChangeSpec := { name := "fnStackSum", fn := fun _ => fun
  | [d] => { results := [.lit (.bool false)], args := [d] }
  | _ => none }
def FnStackSumWrongFalsely : Prop := fnStackSumRow.holds Tryz.pinned (OpenSpec.ofChange fnStackSumWrong)

/-- 'laws.FnSpotsMove': WHATEVER THE INPUT: true; the input reads as it did. -/
def fnSpotsMoveSpec : ChangeSpec := { name := "fnSpotsMove", fn := fun _ => fun
  | [d] => { results := [.lit (.bool true)], args := [d] }
  | _ => none }
def fnSpotsMoveRow : OpenClaim := { program := "ytbbehmcekbnkiaagreat", sum := "b9f6572687642cd379045ffbfcf47fd990079a09b45192b343146a1b3aaf1fbb", func := "loop.example/g00014/laws.FnSpotsMove", spec := "fnSpotsMove", unfollowed := true, recurses := true, named := ["math/bits.divideError", "math/bits.overflowError"], apart := false }
def FnSpotsMoveSaid : Prop := fnSpotsMoveRow.holds Tryz.pinned (OpenSpec.ofChange fnSpotsMoveSpec)

/-- ITS FALSE NEIGHBOUR: 'it returns false'. Refute it at one input. -/
def fnSpotsMoveWrong : ChangeSpec := { name := "fnSpotsMove", fn := fun _ => fun
  | [d] => { results := [.lit (.bool false)], args := [d] }
  | _ => none }
def FnSpotsMoveWrongFalsely : Prop := fnSpotsMoveRow.holds Tryz.pinned (OpenSpec.ofChange fnSpotsMoveWrong)

/-- 'laws.FnTableFit': WHATEVER THE INPUT: true; the input reads as it did. -/
def fnTableFitSpec : ChangeSpec := { name := "fnTableFit", fn := fun _ => fun
  | [d] => { results := [.lit (.bool true)], args := [d] }
  | _ => none }
def fnTableFitRow : OpenClaim := { program := "ytbbehmcekbnkiaagreat", sum := "b9f6572687642cd379045ffbfcf47fd990079a09b45192b343146a1b3aaf1fbb", func := "loop.example/g00014/laws.FnTableFit", spec := "fnTableFit", unfollowed := true, recurses := true, named := ["math/bits.divideError", "math/bits.overflowError"], apart := false }
def FnTableFitSaid : Prop := fnTableFitRow.holds Tryz.pinned (OpenSpec.ofChange fnTableFitSpec)

/-- ITS FALSE NEIGHBOUR: 'it returns false'. Refute it at one input. -/
def fnTableFitWrong : ChangeSpec := { name := "fnTableFit", fn := fun _ => fun
  | [d] => { results := [.lit (.bool false)], args := [d] }
  | _ => none }
def FnTableFitWrongFalsely : Prop := fnTableFitRow.holds Tryz.pinned (OpenSpec.ofChange fnTableFitWrong)

/-- 'laws.FnTableRows': WHATEVER THE INPUT: true; the input reads as it did. -/
def fnTableRowsSpec : ChangeSpec := { name := "fnTableRows", fn := fun _ => fun
  | [d] => { results := [.lit (.bool true)], args := [d] }
  | _ => none }
def fnTableRowsRow : OpenClaim := { program := "ytbbehmcekbnkiaagreat", sum := "b9f6572687642cd379045ffbfcf47fd990079a09b45192b343146a1b3aaf1fbb", func := "loop.example/g00014/laws.FnTableRows", spec := "fnTableRows", unfollowed := true, recurses := true, named := ["math/bits.divideError", "math/bits.overflowError"], apart := false }
def FnTableRowsSaid : Prop := fnTableRowsRow.holds Tryz.pinned (OpenSpec.ofChange fnTableRowsSpec)

/-- ITS FALSE NEIGHBOUR: 'it returns false'. Refute it at one input. -/
def fnTableRowsWrong : ChangeSpec := { name := "fnTableRows", fn := fun _ => fun
  | [d] => { results := [.lit (.bool false)], args := [d] }
  | _ => none }
def FnTableRowsWrongFalsely : Prop := fnTableRowsRow.holds Tryz.pinned (OpenSpec.ofChange fnTableRowsWrong)

/- THE SECOND FORM. 'bulk': how many values and letters a reading holds, each counted each time it is reached (what is shared counts as often as it is met; a slice's spare places count too). A statement '..UptoSaid' is the law's where the arguments, and the package variables that the reading takes, are together of bulk at most 1048576: NARROWER than '..Said'. Prove '..Said' where nothing that the law and all that it calls make is longer than what came in: it says more and counts as full. Else prove '..UptoSaid'. A law counts once. -/
mutual
def uptoBulk {H : Type} : DataW H → Nat
  | .lit (.string bytes) => bytes.length + 1
  | .lit _ => 1
  | .nil => 1
  | .ptr d => uptoBulk d + 1
  | .slice elems spare => uptoBulkAll elems + uptoBulkAll spare + 1
  | .agg parts => uptoBulkAll parts + 1
  | .iface _ d => uptoBulk d + 1
  | .map entries => uptoBulkEntries entries + 1
  | .held _ => 1
def uptoBulkAll {H : Type} : List (DataW H) → Nat
  | [] => 0
  | d :: r => uptoBulk d + uptoBulkAll r
def uptoBulkEntries {H : Type} : List (Lit × DataW H) → Nat
  | [] => 0
  | x :: r => uptoBulkEntry x + uptoBulkEntries r
def uptoBulkEntry {H : Type} : Lit × DataW H → Nat
  | (.string bytes, d) => bytes.length + uptoBulk d + 1
  | (_, d) => uptoBulk d + 1
 end
def uptoSmall : (H : Type) → List (DataW H) → Bool := fun _ ds => decide (uptoBulkAll ds ≤ 1048576)
def OpenSpec.upto (s : _root_.Go.ChangeSpec) : _root_.Go.OpenSpec := { _root_.Go.OpenSpec.ofChange s with cond := some uptoSmall }

/-- 'laws.FnPackSum', WHERE WHAT IT READS IS OF BULK AT MOST 1048576: true; the input reads as it did. -/
def fnPackSumUptoRow : OpenClaim := { program := "ytbbehmcekbnkiaagreat", sum := "b9f6572687642cd379045ffbfcf47fd990079a09b45192b343146a1b3aaf1fbb", func := "loop.example/g00014/laws.FnPackSum", spec := "fnPackSum", unfollowed := true, recurses := true, named := ["math/bits.divideError", "math/bits.overflowError"], apart := false, narrowed := true }
def FnPackSumUptoSaid : Prop := fnPackSumUptoRow.holds Tryz.pinned (OpenSpec.upto fnPackSumSpec)

/-- 'laws.FnStackSum', WHERE WHAT IT READS IS OF BULK AT MOST 1048576: true; the input reads as it did. -/
def fnStackSumUptoRow : OpenClaim := { program := "ytbbehmcekbnkiaagreat", sum := "b9f6572687642cd379045ffbfcf47fd990079a09b45192b343146a1b3aaf1fbb", func := "loop.example/g00014/laws.FnStackSum", spec := "fnStackSum", unfollowed := true, recurses := true, named := ["math/bits.divideError", "math/bits.overflowError"], apart := false, narrowed := true }
def FnStackSumUptoSaid : Prop := fnStackSumUptoRow.holds Tryz.pinned (OpenSpec.upto fnStackSumSpec)

/-- 'laws.FnSpotsMove', WHERE WHAT IT READS IS OF BULK AT MOST 1048576: true; the input reads as it did. -/
def fnSpotsMoveUptoRow : OpenClaim := { program := "ytbbehmcekbnkiaagreat", sum := "b9f6572687642cd379045ffbfcf47fd990079a09b45192b343146a1b3aaf1fbb", func := "loop.example/g00014/laws.FnSpotsMove", spec := "fnSpotsMove", unfollowed := true, recurses := true, named := ["math/bits.divideError", "math/bits.overflowError"], apart := false, narrowed := true }
def FnSpotsMoveUptoSaid : Prop := fnSpotsMoveUptoRow.holds Tryz.pinned (OpenSpec.upto fnSpotsMoveSpec)

/-- 'laws.FnTableFit', WHERE WHAT IT READS IS OF BULK AT MOST 1048576: true; the input reads as it did. -/
def fnTableFitUptoRow : OpenClaim := { program := "ytbbehmcekbnkiaagreat", sum := "b9f6572687642cd379045ffbfcf47fd990079a09b45192b343146a1b3aaf1fbb", func := "loop.example/g00014/laws.FnTableFit", spec := "fnTableFit", unfollowed := true, recurses := true, named := ["math/bits.divideError", "math/bits.overflowError"], apart := false, narrowed := true }
def FnTableFitUptoSaid : Prop := fnTableFitUptoRow.holds Tryz.pinned (OpenSpec.upto fnTableFitSpec)

/-- 'laws.FnTableRows', WHERE WHAT IT READS IS OF BULK AT MOST 1048576: true; the input reads as it did. -/
def fnTableRowsUptoRow : OpenClaim := { program := "ytbbehmcekbnkiaagreat", sum := "b9f6572687642cd379045ffbfcf47fd990079a09b45192b343146a1b3aaf1fbb", func := "loop.example/g00014/laws.FnTableRows", spec := "fnTableRows", unfollowed := true, recurses := true, named := ["math/bits.divideError", "math/bits.overflowError"], apart := false, narrowed := true }
def FnTableRowsUptoSaid : Prop := fnTableRowsUptoRow.holds Tryz.pinned (OpenSpec.upto fnTableRowsSpec)

end Rows
end Go.Proofs.YtbbehmcekbnkiaaGreat
