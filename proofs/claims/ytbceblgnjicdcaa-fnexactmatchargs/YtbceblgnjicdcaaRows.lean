/-
  No cell of these rows narrows 'for every input' (looked for: loops, veiled, ifaces, maps, wideKeys, modest, calm, conditions, laid).
  DERIVED. THE GIVEN ROWS OF THIS SEAT. 5 by the template 'for every input the law returns true; each argument reads behind the call as it read before'; 0 by the template 'total and deterministic' (their statements: YtbceblgnjicdcaaTotals.lean).
  GIVEN WITH THE SEED: the statements are not yours to turn. If you find one false, say at which input.
  Laid BY PROGRAM, IN A SANDBOX (cutbox-rows.mjs): the forced cells as the released guide's own fill.sh prints them over the translation 87af2b9de1520968… (all of the seat's roots in one cut). By AI agents, Wed Nov 11 2026. No macro, syntax, notation, axiom, sorry.
-/
import Derived.Test.YtbceblgnjicdcaaChecked
import GoSem.Claim
import GoSem.ClaimJoined
import GoSem.ClaimMapViews
import Derived.JoinedTies
import Derived.KernelRfl
namespace Go.Proofs.Ytbceblgnjicdcaa
/- THE CELL 'sum', in the pinned program and in every row, IS THE sha256 OF THE DUMP (.gsa) THAT YtbceblgnjicdcaaProg.lean LOADS. Nothing in Lean hashes anything: it is a label: what it is worth is what the hold of that sum in a sandbox is worth. -/
noncomputable def Try.pinned : Pinned := { name := "ytbceblgnjicdcaa", sum := "87af2b9de1520968a1931eb1543bf599ca06fe7dd1c29522a43f7ab92116754a", checked := Try.checked }
namespace Rows
def none {H : Type} : Left H := { results := [], args := [] }

/-- 'laws.FnExactMeanOk': WHATEVER THE INPUT: true; the input reads as it did. -/
def fnExactMeanOkSpec : ChangeSpec := { name := "fnExactMeanOk", fn := fun _ => fun
  | [d] => { results := [.lit (.bool true)], args := [d] }
  | _ => none }
def fnExactMeanOkRow : OpenClaim := { program := "ytbceblgnjicdcaa", sum := "87af2b9de1520968a1931eb1543bf599ca06fe7dd1c29522a43f7ab92116754a", func := "loop.example/g00014/laws.FnExactMeanOk", spec := "fnExactMeanOk", apart := false }
def FnExactMeanOkSaid : Prop := fnExactMeanOkRow.holds Try.pinned (OpenSpec.ofChange fnExactMeanOkSpec)

/-- ITS FALSE NEIGHBOUR: 'it returns false'. Refute it at one input. -/
def fnExactMeanOkWrong : ChangeSpec := { name := "fnExactMeanOk", fn := fun _ => fun
  | [d] => { results := [.lit (.bool false)], args := [d] }
  | _ => none }
def FnExactMeanOkWrongFalsely : Prop := fnExactMeanOkRow.holds Try.pinned (OpenSpec.ofChange fnExactMeanOkWrong)

/-- 'laws.FnExactEnvOk': WHATEVER THE INPUT: true; the input reads as it did. -/
def fnExactEnvOkSpec : ChangeSpec := { name := "fnExactEnvOk", fn := fun _ => fun
  | [d] => { results := [.lit (.bool true)], args := [d] }
  | _ => none }
def fnExactEnvOkRow : OpenClaim := { program := "ytbceblgnjicdcaa", sum := "87af2b9de1520968a1931eb1543bf599ca06fe7dd1c29522a43f7ab92116754a", func := "loop.example/g00014/laws.FnExactEnvOk", spec := "fnExactEnvOk", unfollowed := true, recurses := true, apart := false }
def FnExactEnvOkSaid : Prop := fnExactEnvOkRow.holds Try.pinned (OpenSpec.ofChange fnExactEnvOkSpec)

/-- ITS FALSE NEIGHBOUR: 'it returns false'. Refute it at one input. -/
def fnExactEnvOkWrong : ChangeSpec := { name := "fnExactEnvOk", fn := fun _ => fun
  | [d] => { results := [.lit (.bool false)], args := [d] }
  | _ => none }
def FnExactEnvOkWrongFalsely : Prop := fnExactEnvOkRow.holds Try.pinned (OpenSpec.ofChange fnExactEnvOkWrong)

/-- 'laws.FnExactLook': WHATEVER THE INPUT: true; the input reads as it did. -/
def fnExactLookSpec : ChangeSpec := { name := "fnExactLook", fn := fun _ => fun
  | [d1, d2] => { results := [.lit (.bool true)], args := [d1, d2] }
  | _ => none }
def fnExactLookRow : OpenClaim := { program := "ytbceblgnjicdcaa", sum := "87af2b9de1520968a1931eb1543bf599ca06fe7dd1c29522a43f7ab92116754a", func := "loop.example/g00014/laws.FnExactLook", spec := "fnExactLook", inPlace := ["internal/bytealg.abigen_runtime_cmpstring"], unfollowed := true, recurses := true, apart := false }
def FnExactLookSaid : Prop := fnExactLookRow.holds Try.pinned (OpenSpec.ofChange fnExactLookSpec)

/-- ITS FALSE NEIGHBOUR: 'it returns false'. Refute it at one input. -/
def fnExactLookWrong : ChangeSpec := { name := "fnExactLook", fn := fun _ => fun
  | [d1, d2] => { results := [.lit (.bool false)], args := [d1, d2] }
  | _ => none }
def FnExactLookWrongFalsely : Prop := fnExactLookRow.holds Try.pinned (OpenSpec.ofChange fnExactLookWrong)

/-- 'laws.FnExactMatchArgs': WHATEVER THE INPUT: true; the input reads as it did. -/
def fnExactMatchArgsSpec : ChangeSpec := { name := "fnExactMatchArgs", fn := fun _ => fun
  | [d1, d2] => { results := [.lit (.bool true)], args := [d1, d2] }
  | _ => none }
def fnExactMatchArgsRow : OpenClaim := { program := "ytbceblgnjicdcaa", sum := "87af2b9de1520968a1931eb1543bf599ca06fe7dd1c29522a43f7ab92116754a", func := "loop.example/g00014/laws.FnExactMatchArgs", spec := "fnExactMatchArgs", unfollowed := true, recurses := true, apart := false }
def FnExactMatchArgsSaid : Prop := fnExactMatchArgsRow.holds Try.pinned (OpenSpec.ofChange fnExactMatchArgsSpec)

/-- ITS FALSE NEIGHBOUR: 'it returns false'. Refute it at one input. -/
def fnExactMatchArgsWrong : ChangeSpec := { name := "fnExactMatchArgs", fn := fun _ => fun
  | [d1, d2] => { results := [.lit (.bool false)], args := [d1, d2] }
  | _ => none }
def FnExactMatchArgsWrongFalsely : Prop := fnExactMatchArgsRow.holds Try.pinned (OpenSpec.ofChange fnExactMatchArgsWrong)

/-- 'laws.FnExactFillBody': WHATEVER THE INPUT: true; the input reads as it did. -/
def fnExactFillBodySpec : ChangeSpec := { name := "fnExactFillBody", fn := fun _ => fun
  | [d1, d2] => { results := [.lit (.bool true)], args := [d1, d2] }
  | _ => none }
def fnExactFillBodyRow : OpenClaim := { program := "ytbceblgnjicdcaa", sum := "87af2b9de1520968a1931eb1543bf599ca06fe7dd1c29522a43f7ab92116754a", func := "loop.example/g00014/laws.FnExactFillBody", spec := "fnExactFillBody", unfollowed := true, recurses := true, apart := false }
def FnExactFillBodySaid : Prop := fnExactFillBodyRow.holds Try.pinned (OpenSpec.ofChange fnExactFillBodySpec)

/-- ITS FALSE NEIGHBOUR: 'it returns false'. Refute it at one input. -/
def fnExactFillBodyWrong : ChangeSpec := { name := "fnExactFillBody", fn := fun _ => fun
  | [d1, d2] => { results := [.lit (.bool false)], args := [d1, d2] }
  | _ => none }
def FnExactFillBodyWrongFalsely : Prop := fnExactFillBodyRow.holds Try.pinned (OpenSpec.ofChange fnExactFillBodyWrong)

/- THE SECOND FORM. 'bulk': how many values and letters a reading holds, each counted each time it is reached (what is shared counts as often as it is met; a slice's spare places count too). A statement '..UptoSaid' is the law's where the arguments, and the package variables that the reading takes, are together of bulk at most 1048576: NARROWER than '..Said'. Prove '..Said' where nothing that the law and all that it calls make is longer than what came in: it says more and counts as full. Else prove '..UptoSaid'. A law counts once. -/
mutual
def uptoBulk {H : Type} : DataW H → Nat
  | .lit (.string bytes) => bytes.length + 1
  | .lit _ => 1
  | .nil => 1
  | .ptr d => uptoBulk d + 1
  | .slice elems spare => uptoBulkAll elems + uptoBulkAll spare + 1
  | .agg parts => uptoBulkAll parts + 1
  | .iface _ d => uptoBulk d + 1
  | .map entries => uptoBulkEntries entries + 1
  | .held _ => 1
def uptoBulkAll {H : Type} : List (DataW H) → Nat
  | [] => 0
  | d :: r => uptoBulk d + uptoBulkAll r
def uptoBulkEntries {H : Type} : List (Lit × DataW H) → Nat
  | [] => 0
  | x :: r => uptoBulkEntry x + uptoBulkEntries r
def uptoBulkEntry {H : Type} : Lit × DataW H → Nat
  | (.string bytes, d) => bytes.length + uptoBulk d + 1
  | (_, d) => uptoBulk d + 1
 end
def uptoSmall : (H : Type) → List (DataW H) → Bool := fun _ ds => decide (uptoBulkAll ds ≤ 1048576)
def OpenSpec.upto (s : _root_.Go.ChangeSpec) : _root_.Go.OpenSpec := { _root_.Go.OpenSpec.ofChange s with cond := some uptoSmall }

/-- 'laws.FnExactMeanOk', WHERE WHAT IT READS IS OF BULK AT MOST 1048576: true; the input reads as it did. -/
def fnExactMeanOkUptoRow : OpenClaim := { program := "ytbceblgnjicdcaa", sum := "87af2b9de1520968a1931eb1543bf599ca06fe7dd1c29522a43f7ab92116754a", func := "loop.example/g00014/laws.FnExactMeanOk", spec := "fnExactMeanOk", apart := false, narrowed := true }
def FnExactMeanOkUptoSaid : Prop := fnExactMeanOkUptoRow.holds Try.pinned (OpenSpec.upto fnExactMeanOkSpec)

/-- 'laws.FnExactEnvOk', WHERE WHAT IT READS IS OF BULK AT MOST 1048576: true; the input reads as it did. -/
def fnExactEnvOkUptoRow : OpenClaim := { program := "ytbceblgnjicdcaa", sum := "87af2b9de1520968a1931eb1543bf599ca06fe7dd1c29522a43f7ab92116754a", func := "loop.example/g00014/laws.FnExactEnvOk", spec := "fnExactEnvOk", unfollowed := true, recurses := true, apart := false, narrowed := true }
def FnExactEnvOkUptoSaid : Prop := fnExactEnvOkUptoRow.holds Try.pinned (OpenSpec.upto fnExactEnvOkSpec)

/-- 'laws.FnExactLook', WHERE WHAT IT READS IS OF BULK AT MOST 1048576: true; the input reads as it did. -/
def fnExactLookUptoRow : OpenClaim := { program := "ytbceblgnjicdcaa", sum := "87af2b9de1520968a1931eb1543bf599ca06fe7dd1c29522a43f7ab92116754a", func := "loop.example/g00014/laws.FnExactLook", spec := "fnExactLook", inPlace := ["internal/bytealg.abigen_runtime_cmpstring"], unfollowed := true, recurses := true, apart := false, narrowed := true }
def FnExactLookUptoSaid : Prop := fnExactLookUptoRow.holds Try.pinned (OpenSpec.upto fnExactLookSpec)

/-- 'laws.FnExactMatchArgs', WHERE WHAT IT READS IS OF BULK AT MOST 1048576: true; the input reads as it did. -/
def fnExactMatchArgsUptoRow : OpenClaim := { program := "ytbceblgnjicdcaa", sum := "87af2b9de1520968a1931eb1543bf599ca06fe7dd1c29522a43f7ab92116754a", func := "loop.example/g00014/laws.FnExactMatchArgs", spec := "fnExactMatchArgs", unfollowed := true, recurses := true, apart := false, narrowed := true }
def FnExactMatchArgsUptoSaid : Prop := fnExactMatchArgsUptoRow.holds Try.pinned (OpenSpec.upto fnExactMatchArgsSpec)

/-- 'laws.FnExactFillBody', WHERE WHAT IT READS IS OF BULK AT MOST 1048576: true; the input reads as it did. -/
def fnExactFillBodyUptoRow : OpenClaim := { program := "ytbceblgnjicdcaa", sum := "87af2b9de1520968a1931eb1543bf599ca06fe7dd1c29522a43f7ab92116754a", func := "loop.example/g00014/laws.FnExactFillBody", spec := "fnExactFillBody", unfollowed := true, recurses := true, apart := false, narrowed := true }
def FnExactFillBodyUptoSaid : Prop := fnExactFillBodyUptoRow.holds Try.pinned (OpenSpec.upto fnExactFillBodySpec)

end Rows
end Go.Proofs.Ytbceblgnjicdcaa
