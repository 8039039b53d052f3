/-
  No cell of these rows narrows 'for every input' (looked for: loops, veiled, ifaces, maps, wideKeys, modest, calm, conditions, laid).
  DERIVED. THE GIVEN ROWS OF THIS SEAT. 5 by the template 'for every input the law returns true; each argument reads behind the call as it read before'; 0 by the template 'total and deterministic' (their statements: YtejigikcpmhhoaaTotals.lean).
  GIVEN WITH THE SEED: the statements are not yours to turn. If you find one false, say at which input.
  Laid BY PROGRAM, IN A SANDBOX (cutbox-rows.mjs): the forced cells as the released guide's own fill.sh prints them over the translation 3a874543c0c0d52a… (all of the seat's roots in one cut). By AI agents, Wed Nov 11 2026. No macro, syntax, notation, axiom, sorry.
-/
import Derived.Test.YtejigikcpmhhoaaChecked
import GoSem.Claim
import GoSem.ClaimJoined
import GoSem.ClaimMapViews
import Derived.JoinedTies
import Derived.KernelRfl
namespace Go.Proofs.Ytejigikcpmhhoaa
/- THE CELL 'sum', in the pinned program and in every row, IS THE sha256 OF THE DUMP (.gsa) THAT YtejigikcpmhhoaaProg.lean LOADS. Nothing in Lean hashes anything: it is a label: what it is worth is what the hold of that sum in a sandbox is worth. -/
noncomputable def Try.pinned : Pinned := { name := "ytejigikcpmhhoaa", sum := "3a874543c0c0d52a5ae5a1e8da826e90f2131e5e551c2eb42aca395981101a9e", checked := Try.checked }
namespace Rows
def none {H : Type} : Left H := { results := [], args := [] }

/-- 'laws.FnPatternBack': WHATEVER THE INPUT: true; the input reads as it did. -/
def fnPatternBackSpec : ChangeSpec := { name := "fnPatternBack", fn := fun _ => fun
  | [d] => { results := [.lit (.bool true)], args := [d] }
  | _ => none }
def fnPatternBackRow : OpenClaim := { program := "ytejigikcpmhhoaa", sum := "3a874543c0c0d52a5ae5a1e8da826e90f2131e5e551c2eb42aca395981101a9e", func := "loop.example/g00014/laws.FnPatternBack", spec := "fnPatternBack", inPlace := ["internal/abi.NoEscape"], apart := false }
def FnPatternBackSaid : Prop := fnPatternBackRow.holds Try.pinned (OpenSpec.ofChange fnPatternBackSpec)

/-- ITS FALSE NEIGHBOUR: 'it returns false'. Refute it at one input. -/
def fnPatternBackWrong : ChangeSpec := { name := "fnPatternBack", fn := fun _ => fun
  | [d] => { results := [.lit (.bool false)], args := [d] }
  | _ => none }
def FnPatternBackWrongFalsely : Prop := fnPatternBackRow.holds Try.pinned (OpenSpec.ofChange fnPatternBackWrong)

/-- 'laws.FnExactPatternOk': WHATEVER THE INPUT: true; the input reads as it did. -/
def fnExactPatternOkSpec : ChangeSpec := { name := "fnExactPatternOk", fn := fun _ => fun
  | [d] => { results := [.lit (.bool true)], args := [d] }
  | _ => none }
def fnExactPatternOkRow : OpenClaim := { program := "ytejigikcpmhhoaa", sum := "3a874543c0c0d52a5ae5a1e8da826e90f2131e5e551c2eb42aca395981101a9e", func := "loop.example/g00014/laws.FnExactPatternOk", spec := "fnExactPatternOk", apart := false }
def FnExactPatternOkSaid : Prop := fnExactPatternOkRow.holds Try.pinned (OpenSpec.ofChange fnExactPatternOkSpec)

/-- ITS FALSE NEIGHBOUR: 'it returns false'. Refute it at one input. -/
def fnExactPatternOkWrong : ChangeSpec := { name := "fnExactPatternOk", fn := fun _ => fun
  | [d] => { results := [.lit (.bool false)], args := [d] }
  | _ => none }
def FnExactPatternOkWrongFalsely : Prop := fnExactPatternOkRow.holds Try.pinned (OpenSpec.ofChange fnExactPatternOkWrong)

/-- 'laws.FnExactReadPattern': WHATEVER THE INPUT: true; the input reads as it did. -/
def fnExactReadPatternSpec : ChangeSpec := { name := "fnExactReadPattern", fn := fun _ => fun
  | [d] => { results := [.lit (.bool true)], args := [d] }
  | _ => none }
def fnExactReadPatternRow : OpenClaim := { program := "ytejigikcpmhhoaa", sum := "3a874543c0c0d52a5ae5a1e8da826e90f2131e5e551c2eb42aca395981101a9e", func := "loop.example/g00014/laws.FnExactReadPattern", spec := "fnExactReadPattern", apart := false }
def FnExactReadPatternSaid : Prop := fnExactReadPatternRow.holds Try.pinned (OpenSpec.ofChange fnExactReadPatternSpec)

/-- ITS FALSE NEIGHBOUR: 'it returns false'. Refute it at one input. -/
def fnExactReadPatternWrong : ChangeSpec := { name := "fnExactReadPattern", fn := fun _ => fun
  | [d] => { results := [.lit (.bool false)], args := [d] }
  | _ => none }
def FnExactReadPatternWrongFalsely : Prop := fnExactReadPatternRow.holds Try.pinned (OpenSpec.ofChange fnExactReadPatternWrong)

/-- 'laws.FnExactShowPattern': WHATEVER THE INPUT: true; the input reads as it did. -/
def fnExactShowPatternSpec : ChangeSpec := { name := "fnExactShowPattern", fn := fun _ => fun
  | [d] => { results := [.lit (.bool true)], args := [d] }
  | _ => none }
def fnExactShowPatternRow : OpenClaim := { program := "ytejigikcpmhhoaa", sum := "3a874543c0c0d52a5ae5a1e8da826e90f2131e5e551c2eb42aca395981101a9e", func := "loop.example/g00014/laws.FnExactShowPattern", spec := "fnExactShowPattern", inPlace := ["internal/abi.NoEscape"], apart := false }
def FnExactShowPatternSaid : Prop := fnExactShowPatternRow.holds Try.pinned (OpenSpec.ofChange fnExactShowPatternSpec)

/-- ITS FALSE NEIGHBOUR: 'it returns false'. Refute it at one input. -/
def fnExactShowPatternWrong : ChangeSpec := { name := "fnExactShowPattern", fn := fun _ => fun
  | [d] => { results := [.lit (.bool false)], args := [d] }
  | _ => none }
def FnExactShowPatternWrongFalsely : Prop := fnExactShowPatternRow.holds Try.pinned (OpenSpec.ofChange fnExactShowPatternWrong)

/-- 'laws.FnExactBookOk': WHATEVER THE INPUT: true; the input reads as it did. -/
def fnExactBookOkSpec : ChangeSpec := { name := "fnExactBookOk", fn := fun _ => fun
  | [d] => { results := [.lit (.bool true)], args := [d] }
  | _ => none }
def fnExactBookOkRow : OpenClaim := { program := "ytejigikcpmhhoaa", sum := "3a874543c0c0d52a5ae5a1e8da826e90f2131e5e551c2eb42aca395981101a9e", func := "loop.example/g00014/laws.FnExactBookOk", spec := "fnExactBookOk", unfollowed := true, recurses := true, apart := false }
def FnExactBookOkSaid : Prop := fnExactBookOkRow.holds Try.pinned (OpenSpec.ofChange fnExactBookOkSpec)

/-- ITS FALSE NEIGHBOUR: 'it returns false'. Refute it at one input. -/
def fnExactBookOkWrong : ChangeSpec := { name := "fnExactBookOk", fn := fun _ => fun
  | [d] => { results := [.lit (.bool false)], args := [d] }
  | _ => none }
def FnExactBookOkWrongFalsely : Prop := fnExactBookOkRow.holds Try.pinned (OpenSpec.ofChange fnExactBookOkWrong)

/- THE SECOND FORM. 'bulk': how many values and letters a reading holds, each counted each time it is reached (what is shared counts as often as it is met; a slice's spare places count too). A statement '..UptoSaid' is the law's where the arguments, and the package variables that the reading takes, are together of bulk at most 1048576: NARROWER than '..Said'. Prove '..Said' where nothing that the law and all that it calls make is longer than what came in: it says more and counts as full. Else prove '..UptoSaid'. A law counts once. -/
mutual
def uptoBulk {H : Type} : DataW H → Nat
  | .lit (.string bytes) => bytes.length + 1
  | .lit _ => 1
  | .nil => 1
  | .ptr d => uptoBulk d + 1
  | .slice elems spare => uptoBulkAll elems + uptoBulkAll spare + 1
  | .agg parts => uptoBulkAll parts + 1
  | .iface _ d => uptoBulk d + 1
  | .map entries => uptoBulkEntries entries + 1
  | .held _ => 1
def uptoBulkAll {H : Type} : List (DataW H) → Nat
  | [] => 0
  | d :: r => uptoBulk d + uptoBulkAll r
def uptoBulkEntries {H : Type} : List (Lit × DataW H) → Nat
  | [] => 0
  | x :: r => uptoBulkEntry x + uptoBulkEntries r
def uptoBulkEntry {H : Type} : Lit × DataW H → Nat
  | (.string bytes, d) => bytes.length + uptoBulk d + 1
  | (_, d) => uptoBulk d + 1
 end
def uptoSmall : (H : Type) → List (DataW H) → Bool := fun _ ds => decide (uptoBulkAll ds ≤ 1048576)
def OpenSpec.upto (s : _root_.Go.ChangeSpec) : _root_.Go.OpenSpec := { _root_.Go.OpenSpec.ofChange s with cond := some uptoSmall }

/-- 'laws.FnPatternBack', WHERE WHAT IT READS IS OF BULK AT MOST 1048576: true; the input reads as it did. -/
def fnPatternBackUptoRow : OpenClaim := { program := "ytejigikcpmhhoaa", sum := "3a874543c0c0d52a5ae5a1e8da826e90f2131e5e551c2eb42aca395981101a9e", func := "loop.example/g00014/laws.FnPatternBack", spec := "fnPatternBack", inPlace := ["internal/abi.NoEscape"], apart := false, narrowed := true }
def FnPatternBackUptoSaid : Prop := fnPatternBackUptoRow.holds Try.pinned (OpenSpec.upto fnPatternBackSpec)

/-- 'laws.FnExactPatternOk', WHERE WHAT IT READS IS OF BULK AT MOST 1048576: true; the input reads as it did. -/
def fnExactPatternOkUptoRow : OpenClaim := { program := "ytejigikcpmhhoaa", sum := "3a874543c0c0d52a5ae5a1e8da826e90f2131e5e551c2eb42aca395981101a9e", func := "loop.example/g00014/laws.FnExactPatternOk", spec := "fnExactPatternOk", apart := false, narrowed := true }
def FnExactPatternOkUptoSaid : Prop := fnExactPatternOkUptoRow.holds Try.pinned (OpenSpec.upto fnExactPatternOkSpec)

/-- 'laws.FnExactReadPattern', WHERE WHAT IT READS IS OF BULK AT MOST 1048576: true; the input reads as it did. -/
def fnExactReadPatternUptoRow : OpenClaim := { program := "ytejigikcpmhhoaa", sum := "3a874543c0c0d52a5ae5a1e8da826e90f2131e5e551c2eb42aca395981101a9e", func := "loop.example/g00014/laws.FnExactReadPattern", spec := "fnExactReadPattern", apart := false, narrowed := true }
def FnExactReadPatternUptoSaid : Prop := fnExactReadPatternUptoRow.holds Try.pinned (OpenSpec.upto fnExactReadPatternSpec)

/-- 'laws.FnExactShowPattern', WHERE WHAT IT READS IS OF BULK AT MOST 1048576: true; the input reads as it did. -/
def fnExactShowPatternUptoRow : OpenClaim := { program := "ytejigikcpmhhoaa", sum := "3a874543c0c0d52a5ae5a1e8da826e90f2131e5e551c2eb42aca395981101a9e", func := "loop.example/g00014/laws.FnExactShowPattern", spec := "fnExactShowPattern", inPlace := ["internal/abi.NoEscape"], apart := false, narrowed := true }
def FnExactShowPatternUptoSaid : Prop := fnExactShowPatternUptoRow.holds Try.pinned (OpenSpec.upto fnExactShowPatternSpec)

/-- 'laws.FnExactBookOk', WHERE WHAT IT READS IS OF BULK AT MOST 1048576: true; the input reads as it did. -/
def fnExactBookOkUptoRow : OpenClaim := { program := "ytejigikcpmhhoaa", sum := "3a874543c0c0d52a5ae5a1e8da826e90f2131e5e551c2eb42aca395981101a9e", func := "loop.example/g00014/laws.FnExactBookOk", spec := "fnExactBookOk", unfollowed := true, recurses := true, apart := false, narrowed := true }
def FnExactBookOkUptoSaid : Prop := fnExactBookOkUptoRow.holds Try.pinned (OpenSpec.upto fnExactBookOkSpec)

end Rows
end Go.Proofs.Ytejigikcpmhhoaa
