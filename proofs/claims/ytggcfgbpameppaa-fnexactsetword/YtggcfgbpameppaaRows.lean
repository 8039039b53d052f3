/-
  No cell of these rows narrows 'for every input' (looked for: loops, veiled, ifaces, maps, wideKeys, modest, calm, conditions, laid).
  DERIVED. THE GIVEN ROWS OF THIS SEAT. 4 by the template 'for every input the law returns true; each argument reads behind the call as it read before'; 0 by the template 'total and deterministic' (their statements: YtggcfgbpameppaaTotals.lean).
  GIVEN WITH THE SEED: the statements are not yours to turn. If you find one false, say at which input.
  Laid BY PROGRAM, IN A SANDBOX (cutbox-rows.mjs): the forced cells as the released guide's own fill.sh prints them over the translation 8413382c3757c3c4… (all of the seat's roots in one cut). By AI agents, Wed Nov 11 2026. No macro, syntax, notation, axiom, sorry.
-/
import Derived.Test.YtggcfgbpameppaaChecked
import GoSem.Claim
import GoSem.ClaimJoined
import GoSem.ClaimMapViews
import Derived.JoinedTies
import Derived.KernelRfl
namespace Go.Proofs.Ytggcfgbpameppaa
/- THE CELL 'sum', in the pinned program and in every row, IS THE sha256 OF THE DUMP (.gsa) THAT YtggcfgbpameppaaProg.lean LOADS. Nothing in Lean hashes anything: it is a label: what it is worth is what the hold of that sum in a sandbox is worth. -/
noncomputable def Try.pinned : Pinned := { name := "ytggcfgbpameppaa", sum := "8413382c3757c3c4842c4c84fce226a931afb040c1c00417dd5d1b657ddbf7d0", checked := Try.checked }
namespace Rows
def none {H : Type} : Left H := { results := [], args := [] }

/-- 'laws.FnExactFontOk': WHATEVER THE INPUT: true; the input reads as it did. -/
def fnExactFontOkSpec : ChangeSpec := { name := "fnExactFontOk", fn := fun _ => fun
  | [d] => { results := [.lit (.bool true)], args := [d] }
  | _ => none }
def fnExactFontOkRow : OpenClaim := { program := "ytggcfgbpameppaa", sum := "8413382c3757c3c4842c4c84fce226a931afb040c1c00417dd5d1b657ddbf7d0", func := "loop.example/g00014/laws.FnExactFontOk", spec := "fnExactFontOk", unfollowed := true, recurses := true, plainKeys := false, apart := false }
def FnExactFontOkSaid : Prop := fnExactFontOkRow.holds Try.pinned (OpenSpec.ofChange fnExactFontOkSpec)

/-- ITS FALSE NEIGHBOUR: 'it returns false'. Refute it at one input. -/
def fnExactFontOkWrong : ChangeSpec := { name := "fnExactFontOk", fn := fun _ => fun
  | [d] => { results := [.lit (.bool false)], args := [d] }
  | _ => none }
def FnExactFontOkWrongFalsely : Prop := fnExactFontOkRow.holds Try.pinned (OpenSpec.ofChange fnExactFontOkWrong)

/-- 'laws.FnExactGlyphOf': WHATEVER THE INPUT: true; the input reads as it did. -/
def fnExactGlyphOfSpec : ChangeSpec := { name := "fnExactGlyphOf", fn := fun _ => fun
  | [d1, d2] => { results := [.lit (.bool true)], args := [d1, d2] }
  | _ => none }
def fnExactGlyphOfRow : OpenClaim := { program := "ytggcfgbpameppaa", sum := "8413382c3757c3c4842c4c84fce226a931afb040c1c00417dd5d1b657ddbf7d0", func := "loop.example/g00014/laws.FnExactGlyphOf", spec := "fnExactGlyphOf", unfollowed := true, recurses := true, plainKeys := false, apart := false }
def FnExactGlyphOfSaid : Prop := fnExactGlyphOfRow.holds Try.pinned (OpenSpec.ofChange fnExactGlyphOfSpec)

/-- ITS FALSE NEIGHBOUR: 'it returns false'. Refute it at one input. -/
def fnExactGlyphOfWrong : ChangeSpec := { name := "fnExactGlyphOf", fn := fun _ => fun
  | [d1, d2] => { results := [.lit (.bool false)], args := [d1, d2] }
  | _ => none }
def FnExactGlyphOfWrongFalsely : Prop := fnExactGlyphOfRow.holds Try.pinned (OpenSpec.ofChange fnExactGlyphOfWrong)

/-- 'laws.FnExactSetWord': WHATEVER THE INPUT: true; the input reads as it did. -/
def fnExactSetWordSpec : ChangeSpec := { name := "fnExactSetWord", fn := fun _ => fun
  | [d1, d2] => { results := [.lit (.bool true)], args := [d1, d2] }
  | _ => none }
def fnExactSetWordRow : OpenClaim := { program := "ytggcfgbpameppaa", sum := "8413382c3757c3c4842c4c84fce226a931afb040c1c00417dd5d1b657ddbf7d0", func := "loop.example/g00014/laws.FnExactSetWord", spec := "fnExactSetWord", unfollowed := true, recurses := true, plainKeys := false, apart := false }
def FnExactSetWordSaid : Prop := fnExactSetWordRow.holds Try.pinned (OpenSpec.ofChange fnExactSetWordSpec)

/-- ITS FALSE NEIGHBOUR: 'it returns false'. Refute it at one input. -/
def fnExactSetWordWrong : ChangeSpec := { name := "fnExactSetWord", fn := fun _ => fun
  | [d1, d2] => { results := [.lit (.bool false)], args := [d1, d2] }
  | _ => none }
def FnExactSetWordWrongFalsely : Prop := fnExactSetWordRow.holds Try.pinned (OpenSpec.ofChange fnExactSetWordWrong)

/-- 'laws.FnExactWordSize': WHATEVER THE INPUT: true; the input reads as it did. -/
def fnExactWordSizeSpec : ChangeSpec := { name := "fnExactWordSize", fn := fun _ => fun
  | [d1, d2] => { results := [.lit (.bool true)], args := [d1, d2] }
  | _ => none }
def fnExactWordSizeRow : OpenClaim := { program := "ytggcfgbpameppaa", sum := "8413382c3757c3c4842c4c84fce226a931afb040c1c00417dd5d1b657ddbf7d0", func := "loop.example/g00014/laws.FnExactWordSize", spec := "fnExactWordSize", unfollowed := true, recurses := true, plainKeys := false, apart := false }
def FnExactWordSizeSaid : Prop := fnExactWordSizeRow.holds Try.pinned (OpenSpec.ofChange fnExactWordSizeSpec)

/-- ITS FALSE NEIGHBOUR: 'it returns false'. Refute it at one input. -/
def fnExactWordSizeWrong : ChangeSpec := { name := "fnExactWordSize", fn := fun _ => fun
  | [d1, d2] => { results := [.lit (.bool false)], args := [d1, d2] }
  | _ => none }
def FnExactWordSizeWrongFalsely : Prop := fnExactWordSizeRow.holds Try.pinned (OpenSpec.ofChange fnExactWordSizeWrong)

/- THE SECOND FORM. 'bulk': how many values and letters a reading holds, each counted each time it is reached (what is shared counts as often as it is met; a slice's spare places count too). A statement '..UptoSaid' is the law's where the arguments, and the package variables that the reading takes, are together of bulk at most 1048576: NARROWER than '..Said'. Prove '..Said' where nothing that the law and all that it calls make is longer than what came in: it says more and counts as full. Else prove '..UptoSaid'. A law counts once. -/
mutual
def uptoBulk {H : Type} : DataW H → Nat
  | .lit (.string bytes) => bytes.length + 1
  | .lit _ => 1
  | .nil => 1
  | .ptr d => uptoBulk d + 1
  | .slice elems spare => uptoBulkAll elems + uptoBulkAll spare + 1
  | .agg parts => uptoBulkAll parts + 1
  | .iface _ d => uptoBulk d + 1
  | .map entries => uptoBulkEntries entries + 1
  | .held _ => 1
def uptoBulkAll {H : Type} : List (DataW H) → Nat
  | [] => 0
  | d :: r => uptoBulk d + uptoBulkAll r
def uptoBulkEntries {H : Type} : List (Lit × DataW H) → Nat
  | [] => 0
  | x :: r => uptoBulkEntry x + uptoBulkEntries r
def uptoBulkEntry {H : Type} : Lit × DataW H → Nat
  | (.string bytes, d) => bytes.length + uptoBulk d + 1
  | (_, d) => uptoBulk d + 1
 end
def uptoSmall : (H : Type) → List (DataW H) → Bool := fun _ ds => decide (uptoBulkAll ds ≤ 1048576)
def OpenSpec.upto (s : _root_.Go.ChangeSpec) : _root_.Go.OpenSpec := { _root_.Go.OpenSpec.ofChange s with cond := some uptoSmall }

/-- 'laws.FnExactFontOk', WHERE WHAT IT READS IS OF BULK AT MOST 1048576: true; the input reads as it did. -/
def fnExactFontOkUptoRow : OpenClaim := { program := "ytggcfgbpameppaa", sum := "8413382c3757c3c4842c4c84fce226a931afb040c1c00417dd5d1b657ddbf7d0", func := "loop.example/g00014/laws.FnExactFontOk", spec := "fnExactFontOk", unfollowed := true, recurses := true, plainKeys := false, apart := false, narrowed := true }
def FnExactFontOkUptoSaid : Prop := fnExactFontOkUptoRow.holds Try.pinned (OpenSpec.upto fnExactFontOkSpec)

/-- 'laws.FnExactGlyphOf', WHERE WHAT IT READS IS OF BULK AT MOST 1048576: true; the input reads as it did. -/
def fnExactGlyphOfUptoRow : OpenClaim := { program := "ytggcfgbpameppaa", sum := "8413382c3757c3c4842c4c84fce226a931afb040c1c00417dd5d1b657ddbf7d0", func := "loop.example/g00014/laws.FnExactGlyphOf", spec := "fnExactGlyphOf", unfollowed := true, recurses := true, plainKeys := false, apart := false, narrowed := true }
def FnExactGlyphOfUptoSaid : Prop := fnExactGlyphOfUptoRow.holds Try.pinned (OpenSpec.upto fnExactGlyphOfSpec)

/-- 'laws.FnExactSetWord', WHERE WHAT IT READS IS OF BULK AT MOST 1048576: true; the input reads as it did. -/
def fnExactSetWordUptoRow : OpenClaim := { program := "ytggcfgbpameppaa", sum := "8413382c3757c3c4842c4c84fce226a931afb040c1c00417dd5d1b657ddbf7d0", func := "loop.example/g00014/laws.FnExactSetWord", spec := "fnExactSetWord", unfollowed := true, recurses := true, plainKeys := false, apart := false, narrowed := true }
def FnExactSetWordUptoSaid : Prop := fnExactSetWordUptoRow.holds Try.pinned (OpenSpec.upto fnExactSetWordSpec)

/-- 'laws.FnExactWordSize', WHERE WHAT IT READS IS OF BULK AT MOST 1048576: true; the input reads as it did. -/
def fnExactWordSizeUptoRow : OpenClaim := { program := "ytggcfgbpameppaa", sum := "8413382c3757c3c4842c4c84fce226a931afb040c1c00417dd5d1b657ddbf7d0", func := "loop.example/g00014/laws.FnExactWordSize", spec := "fnExactWordSize", unfollowed := true, recurses := true, plainKeys := false, apart := false, narrowed := true }
def FnExactWordSizeUptoSaid : Prop := fnExactWordSizeUptoRow.holds Try.pinned (OpenSpec.upto fnExactWordSizeSpec)

end Rows
end Go.Proofs.Ytggcfgbpameppaa
