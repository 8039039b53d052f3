/-
  No cell of these rows narrows 'for every input' (looked for: loops, veiled, ifaces, maps, wideKeys, modest, calm, conditions, laid).
  DERIVED. THE GIVEN ROWS OF THIS SEAT. 6 by the template 'for every input the law returns true; each argument reads behind the call as it read before'; 0 by the template 'total and deterministic' (their statements: YtobghlaoflfflaaTotals.lean).
  GIVEN WITH THE SEED: the statements are not yours to turn. If you find one false, say at which input.
  Laid BY PROGRAM, IN A SANDBOX (cutbox-rows.mjs): the forced cells as the released guide's own fill.sh prints them over the translation 12fc4643567cbaad… (all of the seat's roots in one cut). By AI agents, Wed Nov 11 2026. No macro, syntax, notation, axiom, sorry.
-/
import Derived.Test.YtobghlaoflfflaaChecked
import GoSem.Claim
import GoSem.ClaimJoined
import GoSem.ClaimMapViews
import Derived.JoinedTies
import Derived.KernelRfl
namespace Go.Proofs.Ytobghlaoflfflaa
/- THE CELL 'sum', in the pinned program and in every row, IS THE sha256 OF THE DUMP (.gsa) THAT YtobghlaoflfflaaProg.lean LOADS. Nothing in Lean hashes anything: it is a label: what it is worth is what the hold of that sum in a sandbox is worth. -/
noncomputable def Try.pinned : Pinned := { name := "ytobghlaoflfflaa", sum := "12fc4643567cbaad30b56fc4f90c29ce631f306123e2474c9702f679af828dd7", checked := Try.checked }
namespace Rows
def none {H : Type} : Left H := { results := [], args := [] }

/-- 'laws.FnRatioNear': WHATEVER THE INPUT: true; the input reads as it did. -/
def fnRatioNearSpec : ChangeSpec := { name := "fnRatioNear", fn := fun _ => fun
  | [d] => { results := [.lit (.bool true)], args := [d] }
  | _ => none }
def fnRatioNearRow : OpenClaim := { program := "ytobghlaoflfflaa", sum := "12fc4643567cbaad30b56fc4f90c29ce631f306123e2474c9702f679af828dd7", func := "loop.example/g00014/laws.FnRatioNear", spec := "fnRatioNear", named := ["math/bits.divideError", "math/bits.overflowError"], apart := false }
def FnRatioNearSaid : Prop := fnRatioNearRow.holds Try.pinned (OpenSpec.ofChange fnRatioNearSpec)

/-- ITS FALSE NEIGHBOUR: 'it returns false'. Refute it at one input. -/
def fnRatioNearWrong : ChangeSpec := { name := "fnRatioNear", fn := fun _ => fun
  | [d] => { results := [.lit (.bool false)], args := [d] }
  | _ => none }
def FnRatioNearWrongFalsely : Prop := fnRatioNearRow.holds Try.pinned (OpenSpec.ofChange fnRatioNearWrong)

/-- 'laws.FnBadRises': WHATEVER THE INPUT: true; the input reads as it did. -/
def fnBadRisesSpec : ChangeSpec := { name := "fnBadRises", fn := fun _ => fun
  | [d] => { results := [.lit (.bool true)], args := [d] }
  | _ => none }
def fnBadRisesRow : OpenClaim := { program := "ytobghlaoflfflaa", sum := "12fc4643567cbaad30b56fc4f90c29ce631f306123e2474c9702f679af828dd7", func := "loop.example/g00014/laws.FnBadRises", spec := "fnBadRises", apart := false }
def FnBadRisesSaid : Prop := fnBadRisesRow.holds Try.pinned (OpenSpec.ofChange fnBadRisesSpec)

/-- ITS FALSE NEIGHBOUR: 'it returns false'. Refute it at one input. -/
def fnBadRisesWrong : ChangeSpec := { name := "fnBadRises", fn := fun _ => fun
  | [d] => { results := [.lit (.bool false)], args := [d] }
  | _ => none }
def FnBadRisesWrongFalsely : Prop := fnBadRisesRow.holds Try.pinned (OpenSpec.ofChange fnBadRisesWrong)

/-- 'laws.FnExactRatio': WHATEVER THE INPUT: true; the input reads as it did. -/
def fnExactRatioSpec : ChangeSpec := { name := "fnExactRatio", fn := fun _ => fun
  | [d1, d2, d3] => { results := [.lit (.bool true)], args := [d1, d2, d3] }
  | _ => none }
def fnExactRatioRow : OpenClaim := { program := "ytobghlaoflfflaa", sum := "12fc4643567cbaad30b56fc4f90c29ce631f306123e2474c9702f679af828dd7", func := "loop.example/g00014/laws.FnExactRatio", spec := "fnExactRatio", named := ["math/bits.divideError", "math/bits.overflowError"], apart := false }
def FnExactRatioSaid : Prop := fnExactRatioRow.holds Try.pinned (OpenSpec.ofChange fnExactRatioSpec)

/-- ITS FALSE NEIGHBOUR: 'it returns false'. Refute it at one input. -/
def fnExactRatioWrong : ChangeSpec := { name := "fnExactRatio", fn := fun _ => fun
  | [d1, d2, d3] => { results := [.lit (.bool false)], args := [d1, d2, d3] }
  | _ => none }
def FnExactRatioWrongFalsely : Prop := fnExactRatioRow.holds Try.pinned (OpenSpec.ofChange fnExactRatioWrong)

/-- 'laws.FnExactGlueOk': WHATEVER THE INPUT: true; the input reads as it did. -/
def fnExactGlueOkSpec : ChangeSpec := { name := "fnExactGlueOk", fn := fun _ => fun
  | [d] => { results := [.lit (.bool true)], args := [d] }
  | _ => none }
def fnExactGlueOkRow : OpenClaim := { program := "ytobghlaoflfflaa", sum := "12fc4643567cbaad30b56fc4f90c29ce631f306123e2474c9702f679af828dd7", func := "loop.example/g00014/laws.FnExactGlueOk", spec := "fnExactGlueOk", apart := false }
def FnExactGlueOkSaid : Prop := fnExactGlueOkRow.holds Try.pinned (OpenSpec.ofChange fnExactGlueOkSpec)

/-- ITS FALSE NEIGHBOUR: 'it returns false'. Refute it at one input. -/
def fnExactGlueOkWrong : ChangeSpec := { name := "fnExactGlueOk", fn := fun _ => fun
  | [d] => { results := [.lit (.bool false)], args := [d] }
  | _ => none }
def FnExactGlueOkWrongFalsely : Prop := fnExactGlueOkRow.holds Try.pinned (OpenSpec.ofChange fnExactGlueOkWrong)

/-- 'laws.FnExactAddGlue': WHATEVER THE INPUT: true; the input reads as it did. -/
def fnExactAddGlueSpec : ChangeSpec := { name := "fnExactAddGlue", fn := fun _ => fun
  | [d1, d2] => { results := [.lit (.bool true)], args := [d1, d2] }
  | _ => none }
def fnExactAddGlueRow : OpenClaim := { program := "ytobghlaoflfflaa", sum := "12fc4643567cbaad30b56fc4f90c29ce631f306123e2474c9702f679af828dd7", func := "loop.example/g00014/laws.FnExactAddGlue", spec := "fnExactAddGlue", apart := false }
def FnExactAddGlueSaid : Prop := fnExactAddGlueRow.holds Try.pinned (OpenSpec.ofChange fnExactAddGlueSpec)

/-- ITS FALSE NEIGHBOUR: 'it returns false'. Refute it at one input. -/
def fnExactAddGlueWrong : ChangeSpec := { name := "fnExactAddGlue", fn := fun _ => fun
  | [d1, d2] => { results := [.lit (.bool false)], args := [d1, d2] }
  | _ => none }
def FnExactAddGlueWrongFalsely : Prop := fnExactAddGlueRow.holds Try.pinned (OpenSpec.ofChange fnExactAddGlueWrong)

/-- 'laws.FnExactBadness': WHATEVER THE INPUT: true; the input reads as it did. -/
def fnExactBadnessSpec : ChangeSpec := { name := "fnExactBadness", fn := fun _ => fun
  | [d1, d2] => { results := [.lit (.bool true)], args := [d1, d2] }
  | _ => none }
def fnExactBadnessRow : OpenClaim := { program := "ytobghlaoflfflaa", sum := "12fc4643567cbaad30b56fc4f90c29ce631f306123e2474c9702f679af828dd7", func := "loop.example/g00014/laws.FnExactBadness", spec := "fnExactBadness", apart := false }
def FnExactBadnessSaid : Prop := fnExactBadnessRow.holds Try.pinned (OpenSpec.ofChange fnExactBadnessSpec)

/-- ITS FALSE NEIGHBOUR: 'it returns false'. Refute it at one input. -/
def fnExactBadnessWrong : ChangeSpec := { name := "fnExactBadness", fn := fun _ => fun
  | [d1, d2] => { results := [.lit (.bool false)], args := [d1, d2] }
  | _ => none }
def FnExactBadnessWrongFalsely : Prop := fnExactBadnessRow.holds Try.pinned (OpenSpec.ofChange fnExactBadnessWrong)

/- THE SECOND FORM. 'bulk': how many values and letters a reading holds, each counted each time it is reached (what is shared counts as often as it is met; a slice's spare places count too). A statement '..UptoSaid' is the law's where the arguments, and the package variables that the reading takes, are together of bulk at most 1048576: NARROWER than '..Said'. Prove '..Said' where nothing that the law and all that it calls make is longer than what came in: it says more and counts as full. Else prove '..UptoSaid'. A law counts once. -/
mutual
def uptoBulk {H : Type} : DataW H → Nat
  | .lit (.string bytes) => bytes.length + 1
  | .lit _ => 1
  | .nil => 1
  | .ptr d => uptoBulk d + 1
  | .slice elems spare => uptoBulkAll elems + uptoBulkAll spare + 1
  | .agg parts => uptoBulkAll parts + 1
  | .iface _ d => uptoBulk d + 1
  | .map entries => uptoBulkEntries entries + 1
  | .held _ => 1
def uptoBulkAll {H : Type} : List (DataW H) → Nat
  | [] => 0
  | d :: r => uptoBulk d + uptoBulkAll r
def uptoBulkEntries {H : Type} : List (Lit × DataW H) → Nat
  | [] => 0
  | x :: r => uptoBulkEntry x + uptoBulkEntries r
def uptoBulkEntry {H : Type} : Lit × DataW H → Nat
  | (.string bytes, d) => bytes.length + uptoBulk d + 1
  | (_, d) => uptoBulk d + 1
 end
def uptoSmall : (H : Type) → List (DataW H) → Bool := fun _ ds => decide (uptoBulkAll ds ≤ 1048576)
def OpenSpec.upto (s : _root_.Go.ChangeSpec) : _root_.Go.OpenSpec := { _root_.Go.OpenSpec.ofChange s with cond := some uptoSmall }

/-- 'laws.FnRatioNear', WHERE WHAT IT READS IS OF BULK AT MOST 1048576: true; the input reads as it did. -/
def fnRatioNearUptoRow : OpenClaim := { program := "ytobghlaoflfflaa", sum := "12fc4643567cbaad30b56fc4f90c29ce631f306123e2474c9702f679af828dd7", func := "loop.example/g00014/laws.FnRatioNear", spec := "fnRatioNear", named := ["math/bits.divideError", "math/bits.overflowError"], apart := false, narrowed := true }
def FnRatioNearUptoSaid : Prop := fnRatioNearUptoRow.holds Try.pinned (OpenSpec.upto fnRatioNearSpec)

/-- 'laws.FnBadRises', WHERE WHAT IT READS IS OF BULK AT MOST 1048576: true; the input reads as it did. -/
def fnBadRisesUptoRow : OpenClaim := { program := "ytobghlaoflfflaa", sum := "12fc4643567cbaad30b56fc4f90c29ce631f306123e2474c9702f679af828dd7", func := "loop.example/g00014/laws.FnBadRises", spec := "fnBadRises", apart := false, narrowed := true }
def FnBadRisesUptoSaid : Prop := fnBadRisesUptoRow.holds Try.pinned (OpenSpec.upto fnBadRisesSpec)

/-- 'laws.FnExactRatio', WHERE WHAT IT READS IS OF BULK AT MOST 1048576: true; the input reads as it did. -/
def fnExactRatioUptoRow : OpenClaim := { program := "ytobghlaoflfflaa", sum := "12fc4643567cbaad30b56fc4f90c29ce631f306123e2474c9702f679af828dd7", func := "loop.example/g00014/laws.FnExactRatio", spec := "fnExactRatio", named := ["math/bits.divideError", "math/bits.overflowError"], apart := false, narrowed := true }
def FnExactRatioUptoSaid : Prop := fnExactRatioUptoRow.holds Try.pinned (OpenSpec.upto fnExactRatioSpec)

/-- 'laws.FnExactGlueOk', WHERE WHAT IT READS IS OF BULK AT MOST 1048576: true; the input reads as it did. -/
def fnExactGlueOkUptoRow : OpenClaim := { program := "ytobghlaoflfflaa", sum := "12fc4643567cbaad30b56fc4f90c29ce631f306123e2474c9702f679af828dd7", func := "loop.example/g00014/laws.FnExactGlueOk", spec := "fnExactGlueOk", apart := false, narrowed := true }
def FnExactGlueOkUptoSaid : Prop := fnExactGlueOkUptoRow.holds Try.pinned (OpenSpec.upto fnExactGlueOkSpec)

/-- 'laws.FnExactAddGlue', WHERE WHAT IT READS IS OF BULK AT MOST 1048576: true; the input reads as it did. -/
def fnExactAddGlueUptoRow : OpenClaim := { program := "ytobghlaoflfflaa", sum := "12fc4643567cbaad30b56fc4f90c29ce631f306123e2474c9702f679af828dd7", func := "loop.example/g00014/laws.FnExactAddGlue", spec := "fnExactAddGlue", apart := false, narrowed := true }
def FnExactAddGlueUptoSaid : Prop := fnExactAddGlueUptoRow.holds Try.pinned (OpenSpec.upto fnExactAddGlueSpec)

/-- 'laws.FnExactBadness', WHERE WHAT IT READS IS OF BULK AT MOST 1048576: true; the input reads as it did. -/
def fnExactBadnessUptoRow : OpenClaim := { program := "ytobghlaoflfflaa", sum := "12fc4643567cbaad30b56fc4f90c29ce631f306123e2474c9702f679af828dd7", func := "loop.example/g00014/laws.FnExactBadness", spec := "fnExactBadness", apart := false, narrowed := true }
def FnExactBadnessUptoSaid : Prop := fnExactBadnessUptoRow.holds Try.pinned (OpenSpec.upto fnExactBadnessSpec)

end Rows
end Go.Proofs.Ytobghlaoflfflaa
