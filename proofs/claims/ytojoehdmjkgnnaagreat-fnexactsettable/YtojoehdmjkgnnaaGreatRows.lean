/-
  No cell of these rows narrows 'for every input' (looked for: loops, veiled, ifaces, maps, wideKeys, modest, calm, conditions, laid).
  DERIVED. THE GIVEN ROWS OF THIS SEAT. 6 by the template 'for every input the law returns true; each argument reads behind the call as it read before'; 0 by the template 'total and deterministic' (their statements: YtojoehdmjkgnnaaGreatTotals.lean).
  GIVEN WITH THE SEED: the statements are not yours to turn. If you find one false, say at which input.
  Laid BY PROGRAM, IN A SANDBOX (cutbox-rows.mjs): the forced cells as the released guide's own fill.sh prints them over the translation 840d739d24ef493e… (all of the seat's roots in one cut). By AI agents, Wed Nov 11 2026. No macro, syntax, notation, axiom, sorry.
-/
import Derived.Test.YtojoehdmjkgnnaaGreatChecked
import GoSem.Claim
import GoSem.ClaimJoined
import GoSem.ClaimMapViews
import Derived.JoinedTies
import Derived.KernelRfl
namespace Go.Proofs.YtojoehdmjkgnnaaGreat
/- THE CELL 'sum', in the pinned program and in every row, IS THE sha256 OF THE DUMP (.gsa) THAT YtojoehdmjkgnnaaGreatProg.lean LOADS. Nothing in Lean hashes anything: it is a label: what it is worth is what the hold of that sum in a sandbox is worth. -/
noncomputable def Tryz.pinned : Pinned := { name := "ytojoehdmjkgnnaagreat", sum := "840d739d24ef493e651b93c37fc19806937f84ec59ca08dddb72668e25671f35", checked := Tryz.checked }
namespace Rows
def none {H : Type} : Left H := { results := [], args := [] }

/-- 'laws.FnPackSum': WHATEVER THE INPUT: true; the input reads as it did. -/
def fnPackSumSpec : ChangeSpec := { name := "fnPackSum", fn := fun _ => fun
  | [d] => { results := [.lit (.bool true)], args := [d] }
  | _ => none }
def fnPackSumRow : OpenClaim := { program := "ytojoehdmjkgnnaagreat", sum := "840d739d24ef493e651b93c37fc19806937f84ec59ca08dddb72668e25671f35", func := "loop.example/g00014/laws.FnPackSum", spec := "fnPackSum", unfollowed := true, recurses := true, named := ["math/bits.divideError", "math/bits.overflowError"], apart := false }
def FnPackSumSaid : Prop := fnPackSumRow.holds Tryz.pinned (OpenSpec.ofChange fnPackSumSpec)

/-- ITS FALSE NEIGHBOUR: 'it returns false'. Refute it at one input. -/
def fnPackSumWrong : ChangeSpec := { name := "fnPackSum", fn := fun _ => fun
  | [d] => { results := [.lit (.bool false)], args := [d] }
  | _ => none }
def FnPackSumWrongFalsely : Prop := fnPackSumRow.holds Tryz.pinned (OpenSpec.ofChange fnPackSumWrong)

/-- 'laws.FnTableFit': WHATEVER THE INPUT: true; the input reads as it did. -/
def fnTableFitSpec : ChangeSpec := { name := "fnTableFit", fn := fun _ => fun
  | [d] => { results := [.lit (.bool true)], args := [d] }
  | _ => none }
def fnTableFitRow : OpenClaim := { program := "ytojoehdmjkgnnaagreat", sum := "840d739d24ef493e651b93c37fc19806937f84ec59ca08dddb72668e25671f35", func := "loop.example/g00014/laws.FnTableFit", spec := "fnTableFit", unfollowed := true, recurses := true, named := ["math/bits.divideError", "math/bits.overflowError"], apart := false }
def FnTableFitSaid : Prop := fnTableFitRow.holds Tryz.pinned (OpenSpec.ofChange fnTableFitSpec)

/-- ITS FALSE NEIGHBOUR: 'it returns false'. Refute it at one input. -/
def fnTableFitWrong : ChangeSpec := { name := "fnTableFit", fn := fun _ => fun
  | [d] => { results := [.lit (.bool false)], args := [d] }
  | _ => none }
def FnTableFitWrongFalsely : Prop := fnTableFitRow.holds Tryz.pinned (OpenSpec.ofChange fnTableFitWrong)

/-- 'laws.FnTableRows': WHATEVER THE INPUT: true; the input reads as it did. -/
def fnTableRowsSpec : ChangeSpec := { name := "fnTableRows", fn := fun _ => fun
  | [d] => { results := [.lit (.bool true)], args := [d] }
  | _ => none }
def fnTableRowsRow : OpenClaim := { program := "ytojoehdmjkgnnaagreat", sum := "840d739d24ef493e651b93c37fc19806937f84ec59ca08dddb72668e25671f35", func := "loop.example/g00014/laws.FnTableRows", spec := "fnTableRows", unfollowed := true, recurses := true, named := ["math/bits.divideError", "math/bits.overflowError"], apart := false }
def FnTableRowsSaid : Prop := fnTableRowsRow.holds Tryz.pinned (OpenSpec.ofChange fnTableRowsSpec)

/-- ITS FALSE NEIGHBOUR: 'it returns false'. Refute it at one input. -/
def fnTableRowsWrong : ChangeSpec := { name := "fnTableRows", fn := fun _ => fun
  | [d] => { results := [.lit (.bool false)], args := [d] }
  | _ => none }
def FnTableRowsWrongFalsely : Prop := fnTableRowsRow.holds Tryz.pinned (OpenSpec.ofChange fnTableRowsWrong)

/-- 'laws.FnExactSetRow': WHATEVER THE INPUT: true; the input reads as it did. -/
def fnExactSetRowSpec : ChangeSpec := { name := "fnExactSetRow", fn := fun _ => fun
  | [d1, d2, d3] => { results := [.lit (.bool true)], args := [d1, d2, d3] }
  | _ => none }
def fnExactSetRowRow : OpenClaim := { program := "ytojoehdmjkgnnaagreat", sum := "840d739d24ef493e651b93c37fc19806937f84ec59ca08dddb72668e25671f35", func := "loop.example/g00014/laws.FnExactSetRow", spec := "fnExactSetRow", unfollowed := true, recurses := true, named := ["math/bits.divideError", "math/bits.overflowError"], apart := false }
def FnExactSetRowSaid : Prop := fnExactSetRowRow.holds Tryz.pinned (OpenSpec.ofChange fnExactSetRowSpec)

/-- ITS FALSE NEIGHBOUR: 'it returns false'. Refute it at one input. -/
def fnExactSetRowWrong : ChangeSpec := { name := "fnExactSetRow", fn := fun _ => fun
  | [d1, d2, d3] => { results := [.lit (.bool false)], args := [d1, d2, d3] }
  | _ => none }
def FnExactSetRowWrongFalsely : Prop := fnExactSetRowRow.holds Tryz.pinned (OpenSpec.ofChange fnExactSetRowWrong)

/-- 'laws.FnExactSetTable': WHATEVER THE INPUT: true; the input reads as it did. -/
def fnExactSetTableSpec : ChangeSpec := { name := "fnExactSetTable", fn := fun _ => fun
  | [d] => { results := [.lit (.bool true)], args := [d] }
  | _ => none }
def fnExactSetTableRow : OpenClaim := { program := "ytojoehdmjkgnnaagreat", sum := "840d739d24ef493e651b93c37fc19806937f84ec59ca08dddb72668e25671f35", func := "loop.example/g00014/laws.FnExactSetTable", spec := "fnExactSetTable", unfollowed := true, recurses := true, named := ["math/bits.divideError", "math/bits.overflowError"], apart := false }
def FnExactSetTableSaid : Prop := fnExactSetTableRow.holds Tryz.pinned (OpenSpec.ofChange fnExactSetTableSpec)

/-- ITS FALSE NEIGHBOUR: 'it returns false'. Refute it at one input. -/
def fnExactSetTableWrong : ChangeSpec := { name := "fnExactSetTable", fn := fun _ => fun
  | [d] => { results := [.lit (.bool false)], args := [d] }
  | _ => none }
def FnExactSetTableWrongFalsely : Prop := fnExactSetTableRow.holds Tryz.pinned (OpenSpec.ofChange fnExactSetTableWrong)

/-- 'laws.FnExactCells': WHATEVER THE INPUT: true; the input reads as it did. -/
def fnExactCellsSpec : ChangeSpec := { name := "fnExactCells", fn := fun _ => fun
  | [d] => { results := [.lit (.bool true)], args := [d] }
  | _ => none }
def fnExactCellsRow : OpenClaim := { program := "ytojoehdmjkgnnaagreat", sum := "840d739d24ef493e651b93c37fc19806937f84ec59ca08dddb72668e25671f35", func := "loop.example/g00014/laws.FnExactCells", spec := "fnExactCells", unfollowed := true, recurses := true, named := ["math/bits.divideError", "math/bits.overflowError"], apart := false }
def FnExactCellsSaid : Prop := fnExactCellsRow.holds Tryz.pinned (OpenSpec.ofChange fnExactCellsSpec)

/-- ITS FALSE NEIGHBOUR: 'it returns false'. Refute it at one input. -/
def fnExactCellsWrong : ChangeSpec := { name := "fnExactCells", fn := fun _ => fun
  | [d] => { results := [.lit (.bool false)], args := [d] }
  | _ => none }
def FnExactCellsWrongFalsely : Prop := fnExactCellsRow.holds Tryz.pinned (OpenSpec.ofChange fnExactCellsWrong)

/- THE SECOND FORM. 'bulk': how many values and letters a reading holds, each counted each time it is reached (what is shared counts as often as it is met; a slice's spare places count too). A statement '..UptoSaid' is the law's where the arguments, and the package variables that the reading takes, are together of bulk at most 1048576: NARROWER than '..Said'. Prove '..Said' where nothing that the law and all that it calls make is longer than what came in: it says more and counts as full. Else prove '..UptoSaid'. A law counts once. -/
mutual
def uptoBulk {H : Type} : DataW H → Nat
  | .lit (.string bytes) => bytes.length + 1
  | .lit _ => 1
  | .nil => 1
  | .ptr d => uptoBulk d + 1
  | .slice elems spare => uptoBulkAll elems + uptoBulkAll spare + 1
  | .agg parts => uptoBulkAll parts + 1
  | .iface _ d => uptoBulk d + 1
  | .map entries => uptoBulkEntries entries + 1
  | .held _ => 1
def uptoBulkAll {H : Type} : List (DataW H) → Nat
  | [] => 0
  | d :: r => uptoBulk d + uptoBulkAll r
def uptoBulkEntries {H : Type} : List (Lit × DataW H) → Nat
  | [] => 0
  | x :: r => uptoBulkEntry x + uptoBulkEntries r
def uptoBulkEntry {H : Type} : Lit × DataW H → Nat
  | (.string bytes, d) => bytes.length + uptoBulk d + 1
  | (_, d) => uptoBulk d + 1
 end
def uptoSmall : (H : Type) → List (DataW H) → Bool := fun _ ds => decide (uptoBulkAll ds ≤ 1048576)
def OpenSpec.upto (s : _root_.Go.ChangeSpec) : _root_.Go.OpenSpec := { _root_.Go.OpenSpec.ofChange s with cond := some uptoSmall }

/-- 'laws.FnPackSum', WHERE WHAT IT READS IS OF BULK AT MOST 1048576: true; the input reads as it did. -/
def fnPackSumUptoRow : OpenClaim := { program := "ytojoehdmjkgnnaagreat", sum := "840d739d24ef493e651b93c37fc19806937f84ec59ca08dddb72668e25671f35", func := "loop.example/g00014/laws.FnPackSum", spec := "fnPackSum", unfollowed := true, recurses := true, named := ["math/bits.divideError", "math/bits.overflowError"], apart := false, narrowed := true }
def FnPackSumUptoSaid : Prop := fnPackSumUptoRow.holds Tryz.pinned (OpenSpec.upto fnPackSumSpec)

/-- 'laws.FnTableFit', WHERE WHAT IT READS IS OF BULK AT MOST 1048576: true; the input reads as it did. -/
def fnTableFitUptoRow : OpenClaim := { program := "ytojoehdmjkgnnaagreat", sum := "840d739d24ef493e651b93c37fc19806937f84ec59ca08dddb72668e25671f35", func := "loop.example/g00014/laws.FnTableFit", spec := "fnTableFit", unfollowed := true, recurses := true, named := ["math/bits.divideError", "math/bits.overflowError"], apart := false, narrowed := true }
def FnTableFitUptoSaid : Prop := fnTableFitUptoRow.holds Tryz.pinned (OpenSpec.upto fnTableFitSpec)

/-- 'laws.FnTableRows', WHERE WHAT IT READS IS OF BULK AT MOST 1048576: true; the input reads as it did. -/
def fnTableRowsUptoRow : OpenClaim := { program := "ytojoehdmjkgnnaagreat", sum := "840d739d24ef493e651b93c37fc19806937f84ec59ca08dddb72668e25671f35", func := "loop.example/g00014/laws.FnTableRows", spec := "fnTableRows", unfollowed := true, recurses := true, named := ["math/bits.divideError", "math/bits.overflowError"], apart := false, narrowed := true }
def FnTableRowsUptoSaid : Prop := fnTableRowsUptoRow.holds Tryz.pinned (OpenSpec.upto fnTableRowsSpec)

/-- 'laws.FnExactSetRow', WHERE WHAT IT READS IS OF BULK AT MOST 1048576: true; the input reads as it did. -/
def fnExactSetRowUptoRow : OpenClaim := { program := "ytojoehdmjkgnnaagreat", sum := "840d739d24ef493e651b93c37fc19806937f84ec59ca08dddb72668e25671f35", func := "loop.example/g00014/laws.FnExactSetRow", spec := "fnExactSetRow", unfollowed := true, recurses := true, named := ["math/bits.divideError", "math/bits.overflowError"], apart := false, narrowed := true }
def FnExactSetRowUptoSaid : Prop := fnExactSetRowUptoRow.holds Tryz.pinned (OpenSpec.upto fnExactSetRowSpec)

/-- 'laws.FnExactSetTable', WHERE WHAT IT READS IS OF BULK AT MOST 1048576: true; the input reads as it did. -/
def fnExactSetTableUptoRow : OpenClaim := { program := "ytojoehdmjkgnnaagreat", sum := "840d739d24ef493e651b93c37fc19806937f84ec59ca08dddb72668e25671f35", func := "loop.example/g00014/laws.FnExactSetTable", spec := "fnExactSetTable", unfollowed := true, recurses := true, named := ["math/bits.divideError", "math/bits.overflowError"], apart := false, narrowed := true }
def FnExactSetTableUptoSaid : Prop := fnExactSetTableUptoRow.holds Tryz.pinned (OpenSpec.upto fnExactSetTableSpec)

/-- 'laws.FnExactCells', WHERE WHAT IT READS IS OF BULK AT MOST 1048576: true; the input reads as it did. -/
def fnExactCellsUptoRow : OpenClaim := { program := "ytojoehdmjkgnnaagreat", sum := "840d739d24ef493e651b93c37fc19806937f84ec59ca08dddb72668e25671f35", func := "loop.example/g00014/laws.FnExactCells", spec := "fnExactCells", unfollowed := true, recurses := true, named := ["math/bits.divideError", "math/bits.overflowError"], apart := false, narrowed := true }
def FnExactCellsUptoSaid : Prop := fnExactCellsUptoRow.holds Tryz.pinned (OpenSpec.upto fnExactCellsSpec)

end Rows
end Go.Proofs.YtojoehdmjkgnnaaGreat
