/-
  No cell of these rows narrows 'for every input' (looked for: loops, veiled, ifaces, maps, wideKeys, modest, calm, conditions, laid).
  DERIVED. THE GIVEN ROWS OF THIS SEAT. 6 by the template 'for every input the law returns true; each argument reads behind the call as it read before'; 0 by the template 'total and deterministic' (their statements: YticalmdhbgkbbaaGreatTotals.lean).
  GIVEN WITH THE SEED: the statements are not yours to turn. If you find one false, say at which input.
  Laid BY PROGRAM, IN A SANDBOX (cutbox-rows.mjs): the forced cells as the released guide's own fill.sh prints them over the translation 6f5643d43e3cc2c3… (all of the seat's roots in one cut). By AI agents, Wed Nov 11 2026. No macro, syntax, notation, axiom, sorry.
-/
import Derived.Test.YticalmdhbgkbbaaGreatChecked
import GoSem.Claim
import GoSem.ClaimJoined
import GoSem.ClaimMapViews
import Derived.JoinedTies
import Derived.KernelRfl
namespace Go.Proofs.YticalmdhbgkbbaaGreat
/- THE CELL 'sum', in the pinned program and in every row, IS THE sha256 OF THE DUMP (.gsa) THAT YticalmdhbgkbbaaGreatProg.lean LOADS. Nothing in Lean hashes anything: it is a label: what it is worth is what the hold of that sum in a sandbox is worth. -/
noncomputable def Tryz.pinned : Pinned := { name := "yticalmdhbgkbbaagreat", sum := "6f5643d43e3cc2c3118bf89e0be515b0b9f12a4a1505200bac470f16b05e0ad2", checked := Tryz.checked }
namespace Rows
def none {H : Type} : Left H := { results := [], args := [] }

/-- 'laws.FnExactHPack': WHATEVER THE INPUT: true; the input reads as it did. -/
def fnExactHPackSpec : ChangeSpec := { name := "fnExactHPack", fn := fun _ => fun
  | [d1, d2, d3] => { results := [.lit (.bool true)], args := [d1, d2, d3] }
  | _ => none }
def fnExactHPackRow : OpenClaim := { program := "yticalmdhbgkbbaagreat", sum := "6f5643d43e3cc2c3118bf89e0be515b0b9f12a4a1505200bac470f16b05e0ad2", func := "loop.example/g00014/laws.FnExactHPack", spec := "fnExactHPack", unfollowed := true, recurses := true, named := ["math/bits.divideError", "math/bits.overflowError"], apart := false }
def FnExactHPackSaid : Prop := fnExactHPackRow.holds Tryz.pinned (OpenSpec.ofChange fnExactHPackSpec)

/-- ITS FALSE NEIGHBOUR: 'it returns false'. Refute it at one input. -/
def fnExactHPackWrong : ChangeSpec := { name := "fnExactHPack", fn := fun _ => fun
  | [d1, d2, d3] => { results := [.lit (.bool false)], args := [d1, d2, d3] }
  | _ => none }
def FnExactHPackWrongFalsely : Prop := fnExactHPackRow.holds Tryz.pinned (OpenSpec.ofChange fnExactHPackWrong)

/-- 'laws.FnExactVPack': WHATEVER THE INPUT: true; the input reads as it did. -/
def fnExactVPackSpec : ChangeSpec := { name := "fnExactVPack", fn := fun _ => fun
  | [d1, d2, d3, d4] => { results := [.lit (.bool true)], args := [d1, d2, d3, d4] }
  | _ => none }
def fnExactVPackRow : OpenClaim := { program := "yticalmdhbgkbbaagreat", sum := "6f5643d43e3cc2c3118bf89e0be515b0b9f12a4a1505200bac470f16b05e0ad2", func := "loop.example/g00014/laws.FnExactVPack", spec := "fnExactVPack", unfollowed := true, recurses := true, named := ["math/bits.divideError", "math/bits.overflowError"], apart := false }
def FnExactVPackSaid : Prop := fnExactVPackRow.holds Tryz.pinned (OpenSpec.ofChange fnExactVPackSpec)

/-- ITS FALSE NEIGHBOUR: 'it returns false'. Refute it at one input. -/
def fnExactVPackWrong : ChangeSpec := { name := "fnExactVPack", fn := fun _ => fun
  | [d1, d2, d3, d4] => { results := [.lit (.bool false)], args := [d1, d2, d3, d4] }
  | _ => none }
def FnExactVPackWrongFalsely : Prop := fnExactVPackRow.holds Tryz.pinned (OpenSpec.ofChange fnExactVPackWrong)

/-- 'laws.FnExactNatural': WHATEVER THE INPUT: true; the input reads as it did. -/
def fnExactNaturalSpec : ChangeSpec := { name := "fnExactNatural", fn := fun _ => fun
  | [d1, d2] => { results := [.lit (.bool true)], args := [d1, d2] }
  | _ => none }
def fnExactNaturalRow : OpenClaim := { program := "yticalmdhbgkbbaagreat", sum := "6f5643d43e3cc2c3118bf89e0be515b0b9f12a4a1505200bac470f16b05e0ad2", func := "loop.example/g00014/laws.FnExactNatural", spec := "fnExactNatural", unfollowed := true, recurses := true, named := ["math/bits.divideError", "math/bits.overflowError"], apart := false }
def FnExactNaturalSaid : Prop := fnExactNaturalRow.holds Tryz.pinned (OpenSpec.ofChange fnExactNaturalSpec)

/-- ITS FALSE NEIGHBOUR: 'it returns false'. Refute it at one input. -/
def fnExactNaturalWrong : ChangeSpec := { name := "fnExactNatural", fn := fun _ => fun
  | [d1, d2] => { results := [.lit (.bool false)], args := [d1, d2] }
  | _ => none }
def FnExactNaturalWrongFalsely : Prop := fnExactNaturalRow.holds Tryz.pinned (OpenSpec.ofChange fnExactNaturalWrong)

/-- 'laws.FnExactTableOk': WHATEVER THE INPUT: true; the input reads as it did. -/
def fnExactTableOkSpec : ChangeSpec := { name := "fnExactTableOk", fn := fun _ => fun
  | [d] => { results := [.lit (.bool true)], args := [d] }
  | _ => none }
def fnExactTableOkRow : OpenClaim := { program := "yticalmdhbgkbbaagreat", sum := "6f5643d43e3cc2c3118bf89e0be515b0b9f12a4a1505200bac470f16b05e0ad2", func := "loop.example/g00014/laws.FnExactTableOk", spec := "fnExactTableOk", unfollowed := true, recurses := true, named := ["math/bits.divideError", "math/bits.overflowError"], apart := false }
def FnExactTableOkSaid : Prop := fnExactTableOkRow.holds Tryz.pinned (OpenSpec.ofChange fnExactTableOkSpec)

/-- ITS FALSE NEIGHBOUR: 'it returns false'. Refute it at one input. -/
def fnExactTableOkWrong : ChangeSpec := { name := "fnExactTableOk", fn := fun _ => fun
  | [d] => { results := [.lit (.bool false)], args := [d] }
  | _ => none }
def FnExactTableOkWrongFalsely : Prop := fnExactTableOkRow.holds Tryz.pinned (OpenSpec.ofChange fnExactTableOkWrong)

/-- 'laws.FnExactWidths': WHATEVER THE INPUT: true; the input reads as it did. -/
def fnExactWidthsSpec : ChangeSpec := { name := "fnExactWidths", fn := fun _ => fun
  | [d] => { results := [.lit (.bool true)], args := [d] }
  | _ => none }
def fnExactWidthsRow : OpenClaim := { program := "yticalmdhbgkbbaagreat", sum := "6f5643d43e3cc2c3118bf89e0be515b0b9f12a4a1505200bac470f16b05e0ad2", func := "loop.example/g00014/laws.FnExactWidths", spec := "fnExactWidths", unfollowed := true, recurses := true, named := ["math/bits.divideError", "math/bits.overflowError"], apart := false }
def FnExactWidthsSaid : Prop := fnExactWidthsRow.holds Tryz.pinned (OpenSpec.ofChange fnExactWidthsSpec)

/-- ITS FALSE NEIGHBOUR: 'it returns false'. Refute it at one input. -/
def fnExactWidthsWrong : ChangeSpec := { name := "fnExactWidths", fn := fun _ => fun
  | [d] => { results := [.lit (.bool false)], args := [d] }
  | _ => none }
def FnExactWidthsWrongFalsely : Prop := fnExactWidthsRow.holds Tryz.pinned (OpenSpec.ofChange fnExactWidthsWrong)

/-- 'laws.FnExactTableWidth': WHATEVER THE INPUT: true; the input reads as it did. -/
def fnExactTableWidthSpec : ChangeSpec := { name := "fnExactTableWidth", fn := fun _ => fun
  | [d] => { results := [.lit (.bool true)], args := [d] }
  | _ => none }
def fnExactTableWidthRow : OpenClaim := { program := "yticalmdhbgkbbaagreat", sum := "6f5643d43e3cc2c3118bf89e0be515b0b9f12a4a1505200bac470f16b05e0ad2", func := "loop.example/g00014/laws.FnExactTableWidth", spec := "fnExactTableWidth", unfollowed := true, recurses := true, named := ["math/bits.divideError", "math/bits.overflowError"], apart := false }
def FnExactTableWidthSaid : Prop := fnExactTableWidthRow.holds Tryz.pinned (OpenSpec.ofChange fnExactTableWidthSpec)

/-- ITS FALSE NEIGHBOUR: 'it returns false'. Refute it at one input. -/
def fnExactTableWidthWrong : ChangeSpec := { name := "fnExactTableWidth", fn := fun _ => fun
  | [d] => { results := [.lit (.bool false)], args := [d] }
  | _ => none }
def FnExactTableWidthWrongFalsely : Prop := fnExactTableWidthRow.holds Tryz.pinned (OpenSpec.ofChange fnExactTableWidthWrong)

/- THE SECOND FORM. 'bulk': how many values and letters a reading holds, each counted each time it is reached (what is shared counts as often as it is met; a slice's spare places count too). A statement '..UptoSaid' is the law's where the arguments, and the package variables that the reading takes, are together of bulk at most 1048576: NARROWER than '..Said'. Prove '..Said' where nothing that the law and all that it calls make is longer than what came in: it says more and counts as full. Else prove '..UptoSaid'. A law counts once. -/
mutual
def uptoBulk {H : Type} : DataW H → Nat
  | .lit (.string bytes) => bytes.length + 1
  | .lit _ => 1
  | .nil => 1
  | .ptr d => uptoBulk d + 1
  | .slice elems spare => uptoBulkAll elems + uptoBulkAll spare + 1
  | .agg parts => uptoBulkAll parts + 1
  | .iface _ d => uptoBulk d + 1
  | .map entries => uptoBulkEntries entries + 1
  | .held _ => 1
def uptoBulkAll {H : Type} : List (DataW H) → Nat
  | [] => 0
  | d :: r => uptoBulk d + uptoBulkAll r
def uptoBulkEntries {H : Type} : List (Lit × DataW H) → Nat
  | [] => 0
  | x :: r => uptoBulkEntry x + uptoBulkEntries r
def uptoBulkEntry {H : Type} : Lit × DataW H → Nat
  | (.string bytes, d) => bytes.length + uptoBulk d + 1
  | (_, d) => uptoBulk d + 1
 end
def uptoSmall : (H : Type) → List (DataW H) → Bool := fun _ ds => decide (uptoBulkAll ds ≤ 1048576)
def OpenSpec.upto (s : _root_.Go.ChangeSpec) : _root_.Go.OpenSpec := { _root_.Go.OpenSpec.ofChange s with cond := some uptoSmall }

/-- 'laws.FnExactHPack', WHERE WHAT IT READS IS OF BULK AT MOST 1048576: true; the input reads as it did. -/
def fnExactHPackUptoRow : OpenClaim := { program := "yticalmdhbgkbbaagreat", sum := "6f5643d43e3cc2c3118bf89e0be515b0b9f12a4a1505200bac470f16b05e0ad2", func := "loop.example/g00014/laws.FnExactHPack", spec := "fnExactHPack", unfollowed := true, recurses := true, named := ["math/bits.divideError", "math/bits.overflowError"], apart := false, narrowed := true }
def FnExactHPackUptoSaid : Prop := fnExactHPackUptoRow.holds Tryz.pinned (OpenSpec.upto fnExactHPackSpec)

/-- 'laws.FnExactVPack', WHERE WHAT IT READS IS OF BULK AT MOST 1048576: true; the input reads as it did. -/
def fnExactVPackUptoRow : OpenClaim := { program := "yticalmdhbgkbbaagreat", sum := "6f5643d43e3cc2c3118bf89e0be515b0b9f12a4a1505200bac470f16b05e0ad2", func := "loop.example/g00014/laws.FnExactVPack", spec := "fnExactVPack", unfollowed := true, recurses := true, named := ["math/bits.divideError", "math/bits.overflowError"], apart := false, narrowed := true }
def FnExactVPackUptoSaid : Prop := fnExactVPackUptoRow.holds Tryz.pinned (OpenSpec.upto fnExactVPackSpec)

/-- 'laws.FnExactNatural', WHERE WHAT IT READS IS OF BULK AT MOST 1048576: true; the input reads as it did. -/
def fnExactNaturalUptoRow : OpenClaim := { program := "yticalmdhbgkbbaagreat", sum := "6f5643d43e3cc2c3118bf89e0be515b0b9f12a4a1505200bac470f16b05e0ad2", func := "loop.example/g00014/laws.FnExactNatural", spec := "fnExactNatural", unfollowed := true, recurses := true, named := ["math/bits.divideError", "math/bits.overflowError"], apart := false, narrowed := true }
def FnExactNaturalUptoSaid : Prop := fnExactNaturalUptoRow.holds Tryz.pinned (OpenSpec.upto fnExactNaturalSpec)

/-- 'laws.FnExactTableOk', WHERE WHAT IT READS IS OF BULK AT MOST 1048576: true; the input reads as it did. -/
def fnExactTableOkUptoRow : OpenClaim := { program := "yticalmdhbgkbbaagreat", sum := "6f5643d43e3cc2c3118bf89e0be515b0b9f12a4a1505200bac470f16b05e0ad2", func := "loop.example/g00014/laws.FnExactTableOk", spec := "fnExactTableOk", unfollowed := true, recurses := true, named := ["math/bits.divideError", "math/bits.overflowError"], apart := false, narrowed := true }
def FnExactTableOkUptoSaid : Prop := fnExactTableOkUptoRow.holds Tryz.pinned (OpenSpec.upto fnExactTableOkSpec)

/-- 'laws.FnExactWidths', WHERE WHAT IT READS IS OF BULK AT MOST 1048576: true; the input reads as it did. -/
def fnExactWidthsUptoRow : OpenClaim := { program := "yticalmdhbgkbbaagreat", sum := "6f5643d43e3cc2c3118bf89e0be515b0b9f12a4a1505200bac470f16b05e0ad2", func := "loop.example/g00014/laws.FnExactWidths", spec := "fnExactWidths", unfollowed := true, recurses := true, named := ["math/bits.divideError", "math/bits.overflowError"], apart := false, narrowed := true }
def FnExactWidthsUptoSaid : Prop := fnExactWidthsUptoRow.holds Tryz.pinned (OpenSpec.upto fnExactWidthsSpec)

/-- 'laws.FnExactTableWidth', WHERE WHAT IT READS IS OF BULK AT MOST 1048576: true; the input reads as it did. -/
def fnExactTableWidthUptoRow : OpenClaim := { program := "yticalmdhbgkbbaagreat", sum := "6f5643d43e3cc2c3118bf89e0be515b0b9f12a4a1505200bac470f16b05e0ad2", func := "loop.example/g00014/laws.FnExactTableWidth", spec := "fnExactTableWidth", unfollowed := true, recurses := true, named := ["math/bits.divideError", "math/bits.overflowError"], apart := false, narrowed := true }
def FnExactTableWidthUptoSaid : Prop := fnExactTableWidthUptoRow.holds Tryz.pinned (OpenSpec.upto fnExactTableWidthSpec)

end Rows
end Go.Proofs.YticalmdhbgkbbaaGreat
