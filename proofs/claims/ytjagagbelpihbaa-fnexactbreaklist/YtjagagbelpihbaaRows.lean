/-
  No cell of these rows narrows 'for every input' (looked for: loops, veiled, ifaces, maps, wideKeys, modest, calm, conditions, laid).
  DERIVED. THE GIVEN ROWS OF THIS SEAT. 5 by the template 'for every input the law returns true; each argument reads behind the call as it read before'; 0 by the template 'total and deterministic' (their statements: YtjagagbelpihbaaTotals.lean).
  GIVEN WITH THE SEED: the statements are not yours to turn. If you find one false, say at which input.
  Laid BY PROGRAM, IN A SANDBOX (cutbox-rows.mjs): the forced cells as the released guide's own fill.sh prints them over the translation 48854ad12abff999… (all of the seat's roots in one cut). By AI agents, Wed Nov 11 2026. No macro, syntax, notation, axiom, sorry.
-/
import Derived.Test.YtjagagbelpihbaaChecked
import GoSem.Claim
import GoSem.ClaimJoined
import GoSem.ClaimMapViews
import Derived.JoinedTies
import Derived.KernelRfl
namespace Go.Proofs.Ytjagagbelpihbaa
/- THE CELL 'sum', in the pinned program and in every row, IS THE sha256 OF THE DUMP (.gsa) THAT YtjagagbelpihbaaProg.lean LOADS. Nothing in Lean hashes anything: it is a label: what it is worth is what the hold of that sum in a sandbox is worth. -/
noncomputable def Try.pinned : Pinned := { name := "ytjagagbelpihbaa", sum := "48854ad12abff99964c4ffd503a3e2ce1ebbb924edaa63041fc2f55f08998d3e", checked := Try.checked }
namespace Rows
def none {H : Type} : Left H := { results := [], args := [] }

/-- 'laws.FnExactListOk': WHATEVER THE INPUT: true; the input reads as it did. -/
def fnExactListOkSpec : ChangeSpec := { name := "fnExactListOk", fn := fun _ => fun
  | [d] => { results := [.lit (.bool true)], args := [d] }
  | _ => none }
def fnExactListOkRow : OpenClaim := { program := "ytjagagbelpihbaa", sum := "48854ad12abff99964c4ffd503a3e2ce1ebbb924edaa63041fc2f55f08998d3e", func := "loop.example/g00014/laws.FnExactListOk", spec := "fnExactListOk", unfollowed := true, recurses := true, apart := false }
def FnExactListOkSaid : Prop := fnExactListOkRow.holds Try.pinned (OpenSpec.ofChange fnExactListOkSpec)

/-- ITS FALSE NEIGHBOUR: 'it returns false'. Refute it at one input. -/
def fnExactListOkWrong : ChangeSpec := { name := "fnExactListOk", fn := fun _ => fun
  | [d] => { results := [.lit (.bool false)], args := [d] }
  | _ => none }
def FnExactListOkWrongFalsely : Prop := fnExactListOkRow.holds Try.pinned (OpenSpec.ofChange fnExactListOkWrong)

/-- 'laws.FnExactItems': WHATEVER THE INPUT: true; the input reads as it did. -/
def fnExactItemsSpec : ChangeSpec := { name := "fnExactItems", fn := fun _ => fun
  | [d] => { results := [.lit (.bool true)], args := [d] }
  | _ => none }
def fnExactItemsRow : OpenClaim := { program := "ytjagagbelpihbaa", sum := "48854ad12abff99964c4ffd503a3e2ce1ebbb924edaa63041fc2f55f08998d3e", func := "loop.example/g00014/laws.FnExactItems", spec := "fnExactItems", unfollowed := true, recurses := true, apart := false }
def FnExactItemsSaid : Prop := fnExactItemsRow.holds Try.pinned (OpenSpec.ofChange fnExactItemsSpec)

/-- ITS FALSE NEIGHBOUR: 'it returns false'. Refute it at one input. -/
def fnExactItemsWrong : ChangeSpec := { name := "fnExactItems", fn := fun _ => fun
  | [d] => { results := [.lit (.bool false)], args := [d] }
  | _ => none }
def FnExactItemsWrongFalsely : Prop := fnExactItemsRow.holds Try.pinned (OpenSpec.ofChange fnExactItemsWrong)

/-- 'laws.FnExactBreakList': WHATEVER THE INPUT: true; the input reads as it did. -/
def fnExactBreakListSpec : ChangeSpec := { name := "fnExactBreakList", fn := fun _ => fun
  | [d1, d2] => { results := [.lit (.bool true)], args := [d1, d2] }
  | _ => none }
def fnExactBreakListRow : OpenClaim := { program := "ytjagagbelpihbaa", sum := "48854ad12abff99964c4ffd503a3e2ce1ebbb924edaa63041fc2f55f08998d3e", func := "loop.example/g00014/laws.FnExactBreakList", spec := "fnExactBreakList", unfollowed := true, recurses := true, apart := false }
def FnExactBreakListSaid : Prop := fnExactBreakListRow.holds Try.pinned (OpenSpec.ofChange fnExactBreakListSpec)

/-- ITS FALSE NEIGHBOUR: 'it returns false'. Refute it at one input. -/
def fnExactBreakListWrong : ChangeSpec := { name := "fnExactBreakList", fn := fun _ => fun
  | [d1, d2] => { results := [.lit (.bool false)], args := [d1, d2] }
  | _ => none }
def FnExactBreakListWrongFalsely : Prop := fnExactBreakListRow.holds Try.pinned (OpenSpec.ofChange fnExactBreakListWrong)

/-- 'laws.FnExactPageBreaks': WHATEVER THE INPUT: true; the input reads as it did. -/
def fnExactPageBreaksSpec : ChangeSpec := { name := "fnExactPageBreaks", fn := fun _ => fun
  | [d] => { results := [.lit (.bool true)], args := [d] }
  | _ => none }
def fnExactPageBreaksRow : OpenClaim := { program := "ytjagagbelpihbaa", sum := "48854ad12abff99964c4ffd503a3e2ce1ebbb924edaa63041fc2f55f08998d3e", func := "loop.example/g00014/laws.FnExactPageBreaks", spec := "fnExactPageBreaks", unfollowed := true, recurses := true, apart := false }
def FnExactPageBreaksSaid : Prop := fnExactPageBreaksRow.holds Try.pinned (OpenSpec.ofChange fnExactPageBreaksSpec)

/-- ITS FALSE NEIGHBOUR: 'it returns false'. Refute it at one input. -/
def fnExactPageBreaksWrong : ChangeSpec := { name := "fnExactPageBreaks", fn := fun _ => fun
  | [d] => { results := [.lit (.bool false)], args := [d] }
  | _ => none }
def FnExactPageBreaksWrongFalsely : Prop := fnExactPageBreaksRow.holds Try.pinned (OpenSpec.ofChange fnExactPageBreaksWrong)

/-- 'laws.FnExactPageOf': WHATEVER THE INPUT: true; the input reads as it did. -/
def fnExactPageOfSpec : ChangeSpec := { name := "fnExactPageOf", fn := fun _ => fun
  | [d1, d2, d3, d4] => { results := [.lit (.bool true)], args := [d1, d2, d3, d4] }
  | _ => none }
def fnExactPageOfRow : OpenClaim := { program := "ytjagagbelpihbaa", sum := "48854ad12abff99964c4ffd503a3e2ce1ebbb924edaa63041fc2f55f08998d3e", func := "loop.example/g00014/laws.FnExactPageOf", spec := "fnExactPageOf", unfollowed := true, recurses := true, apart := false }
def FnExactPageOfSaid : Prop := fnExactPageOfRow.holds Try.pinned (OpenSpec.ofChange fnExactPageOfSpec)

/-- ITS FALSE NEIGHBOUR: 'it returns false'. Refute it at one input. -/
def fnExactPageOfWrong : ChangeSpec := { name := "fnExactPageOf", fn := fun _ => fun
  | [d1, d2, d3, d4] => { results := [.lit (.bool false)], args := [d1, d2, d3, d4] }
  | _ => none }
def FnExactPageOfWrongFalsely : Prop := fnExactPageOfRow.holds Try.pinned (OpenSpec.ofChange fnExactPageOfWrong)

/- THE SECOND FORM. 'bulk': how many values and letters a reading holds, each counted each time it is reached (what is shared counts as often as it is met; a slice's spare places count too). A statement '..UptoSaid' is the law's where the arguments, and the package variables that the reading takes, are together of bulk at most 1048576: NARROWER than '..Said'. Prove '..Said' where nothing that the law and all that it calls make is longer than what came in: it says more and counts as full. Else prove '..UptoSaid'. A law counts once. -/
mutual
def uptoBulk {H : Type} : DataW H → Nat
  | .lit (.string bytes) => bytes.length + 1
  | .lit _ => 1
  | .nil => 1
  | .ptr d => uptoBulk d + 1
  | .slice elems spare => uptoBulkAll elems + uptoBulkAll spare + 1
  | .agg parts => uptoBulkAll parts + 1
  | .iface _ d => uptoBulk d + 1
  | .map entries => uptoBulkEntries entries + 1
  | .held _ => 1
def uptoBulkAll {H : Type} : List (DataW H) → Nat
  | [] => 0
  | d :: r => uptoBulk d + uptoBulkAll r
def uptoBulkEntries {H : Type} : List (Lit × DataW H) → Nat
  | [] => 0
  | x :: r => uptoBulkEntry x + uptoBulkEntries r
def uptoBulkEntry {H : Type} : Lit × DataW H → Nat
  | (.string bytes, d) => bytes.length + uptoBulk d + 1
  | (_, d) => uptoBulk d + 1
 end
def uptoSmall : (H : Type) → List (DataW H) → Bool := fun _ ds => decide (uptoBulkAll ds ≤ 1048576)
def OpenSpec.upto (s : _root_.Go.ChangeSpec) : _root_.Go.OpenSpec := { _root_.Go.OpenSpec.ofChange s with cond := some uptoSmall }

/-- 'laws.FnExactListOk', WHERE WHAT IT READS IS OF BULK AT MOST 1048576: true; the input reads as it did. -/
def fnExactListOkUptoRow : OpenClaim := { program := "ytjagagbelpihbaa", sum := "48854ad12abff99964c4ffd503a3e2ce1ebbb924edaa63041fc2f55f08998d3e", func := "loop.example/g00014/laws.FnExactListOk", spec := "fnExactListOk", unfollowed := true, recurses := true, apart := false, narrowed := true }
def FnExactListOkUptoSaid : Prop := fnExactListOkUptoRow.holds Try.pinned (OpenSpec.upto fnExactListOkSpec)

/-- 'laws.FnExactItems', WHERE WHAT IT READS IS OF BULK AT MOST 1048576: true; the input reads as it did. -/
def fnExactItemsUptoRow : OpenClaim := { program := "ytjagagbelpihbaa", sum := "48854ad12abff99964c4ffd503a3e2ce1ebbb924edaa63041fc2f55f08998d3e", func := "loop.example/g00014/laws.FnExactItems", spec := "fnExactItems", unfollowed := true, recurses := true, apart := false, narrowed := true }
def FnExactItemsUptoSaid : Prop := fnExactItemsUptoRow.holds Try.pinned (OpenSpec.upto fnExactItemsSpec)

/-- 'laws.FnExactBreakList', WHERE WHAT IT READS IS OF BULK AT MOST 1048576: true; the input reads as it did. -/
def fnExactBreakListUptoRow : OpenClaim := { program := "ytjagagbelpihbaa", sum := "48854ad12abff99964c4ffd503a3e2ce1ebbb924edaa63041fc2f55f08998d3e", func := "loop.example/g00014/laws.FnExactBreakList", spec := "fnExactBreakList", unfollowed := true, recurses := true, apart := false, narrowed := true }
def FnExactBreakListUptoSaid : Prop := fnExactBreakListUptoRow.holds Try.pinned (OpenSpec.upto fnExactBreakListSpec)

/-- 'laws.FnExactPageBreaks', WHERE WHAT IT READS IS OF BULK AT MOST 1048576: true; the input reads as it did. -/
def fnExactPageBreaksUptoRow : OpenClaim := { program := "ytjagagbelpihbaa", sum := "48854ad12abff99964c4ffd503a3e2ce1ebbb924edaa63041fc2f55f08998d3e", func := "loop.example/g00014/laws.FnExactPageBreaks", spec := "fnExactPageBreaks", unfollowed := true, recurses := true, apart := false, narrowed := true }
def FnExactPageBreaksUptoSaid : Prop := fnExactPageBreaksUptoRow.holds Try.pinned (OpenSpec.upto fnExactPageBreaksSpec)

/-- 'laws.FnExactPageOf', WHERE WHAT IT READS IS OF BULK AT MOST 1048576: true; the input reads as it did. -/
def fnExactPageOfUptoRow : OpenClaim := { program := "ytjagagbelpihbaa", sum := "48854ad12abff99964c4ffd503a3e2ce1ebbb924edaa63041fc2f55f08998d3e", func := "loop.example/g00014/laws.FnExactPageOf", spec := "fnExactPageOf", unfollowed := true, recurses := true, apart := false, narrowed := true }
def FnExactPageOfUptoSaid : Prop := fnExactPageOfUptoRow.holds Try.pinned (OpenSpec.upto fnExactPageOfSpec)

end Rows
end Go.Proofs.Ytjagagbelpihbaa
