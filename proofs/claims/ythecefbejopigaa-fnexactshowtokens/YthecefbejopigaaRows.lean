/-
  No cell of these rows narrows 'for every input' (looked for: loops, veiled, ifaces, maps, wideKeys, modest, calm, conditions, laid).
  DERIVED. THE GIVEN ROWS OF THIS SEAT. 6 by the template 'for every input the law returns true; each argument reads behind the call as it read before'; 0 by the template 'total and deterministic' (their statements: YthecefbejopigaaTotals.lean).
  GIVEN WITH THE SEED: the statements are not yours to turn. If you find one false, say at which input.
  Laid BY PROGRAM, IN A SANDBOX (cutbox-rows.mjs): the forced cells as the released guide's own fill.sh prints them over the translation 685fb913239c1ec8… (all of the seat's roots in one cut). By AI agents, Wed Nov 11 2026. No macro, syntax, notation, axiom, sorry.
-/
import Derived.Test.YthecefbejopigaaChecked
import GoSem.Claim
import GoSem.ClaimJoined
import GoSem.ClaimMapViews
import Derived.JoinedTies
import Derived.KernelRfl
namespace Go.Proofs.Ythecefbejopigaa
/- THE CELL 'sum', in the pinned program and in every row, IS THE sha256 OF THE DUMP (.gsa) THAT YthecefbejopigaaProg.lean LOADS. Nothing in Lean hashes anything: it is a label: what it is worth is what the hold of that sum in a sandbox is worth. -/
noncomputable def Try.pinned : Pinned := { name := "ythecefbejopigaa", sum := "685fb913239c1ec886677904aa31e9458f22df7fe75cb189ab96e7f9c6fa95e4", checked := Try.checked }
namespace Rows
def none {H : Type} : Left H := { results := [], args := [] }

/-- 'laws.FnExactCatsOk': WHATEVER THE INPUT: true; the input reads as it did. -/
def fnExactCatsOkSpec : ChangeSpec := { name := "fnExactCatsOk", fn := fun _ => fun
  | [d] => { results := [.lit (.bool true)], args := [d] }
  | _ => none }
def fnExactCatsOkRow : OpenClaim := { program := "ythecefbejopigaa", sum := "685fb913239c1ec886677904aa31e9458f22df7fe75cb189ab96e7f9c6fa95e4", func := "loop.example/g00014/laws.FnExactCatsOk", spec := "fnExactCatsOk", apart := false }
def FnExactCatsOkSaid : Prop := fnExactCatsOkRow.holds Try.pinned (OpenSpec.ofChange fnExactCatsOkSpec)

/-- ITS FALSE NEIGHBOUR: 'it returns false'. Refute it at one input. -/
def fnExactCatsOkWrong : ChangeSpec := { name := "fnExactCatsOk", fn := fun _ => fun
  | [d] => { results := [.lit (.bool false)], args := [d] }
  | _ => none }
def FnExactCatsOkWrongFalsely : Prop := fnExactCatsOkRow.holds Try.pinned (OpenSpec.ofChange fnExactCatsOkWrong)

/-- 'laws.FnExactPlainCats': WHATEVER THE INPUT: true; the input reads as it did. -/
def fnExactPlainCatsSpec : ChangeSpec := { name := "fnExactPlainCats", fn := fun _ => fun
  | [] => { results := [.lit (.bool true)], args := [] }
  | _ => none }
def fnExactPlainCatsRow : OpenClaim := { program := "ythecefbejopigaa", sum := "685fb913239c1ec886677904aa31e9458f22df7fe75cb189ab96e7f9c6fa95e4", func := "loop.example/g00014/laws.FnExactPlainCats", spec := "fnExactPlainCats", apart := false }
def FnExactPlainCatsSaid : Prop := fnExactPlainCatsRow.holds Try.pinned (OpenSpec.ofChange fnExactPlainCatsSpec)

/-- ITS FALSE NEIGHBOUR: 'it returns false'. Refute it at one input. -/
def fnExactPlainCatsWrong : ChangeSpec := { name := "fnExactPlainCats", fn := fun _ => fun
  | [] => { results := [.lit (.bool false)], args := [] }
  | _ => none }
def FnExactPlainCatsWrongFalsely : Prop := fnExactPlainCatsRow.holds Try.pinned (OpenSpec.ofChange fnExactPlainCatsWrong)

/-- 'laws.FnExactTokenOk': WHATEVER THE INPUT: true; the input reads as it did. -/
def fnExactTokenOkSpec : ChangeSpec := { name := "fnExactTokenOk", fn := fun _ => fun
  | [d] => { results := [.lit (.bool true)], args := [d] }
  | _ => none }
def fnExactTokenOkRow : OpenClaim := { program := "ythecefbejopigaa", sum := "685fb913239c1ec886677904aa31e9458f22df7fe75cb189ab96e7f9c6fa95e4", func := "loop.example/g00014/laws.FnExactTokenOk", spec := "fnExactTokenOk", apart := false }
def FnExactTokenOkSaid : Prop := fnExactTokenOkRow.holds Try.pinned (OpenSpec.ofChange fnExactTokenOkSpec)

/-- ITS FALSE NEIGHBOUR: 'it returns false'. Refute it at one input. -/
def fnExactTokenOkWrong : ChangeSpec := { name := "fnExactTokenOk", fn := fun _ => fun
  | [d] => { results := [.lit (.bool false)], args := [d] }
  | _ => none }
def FnExactTokenOkWrongFalsely : Prop := fnExactTokenOkRow.holds Try.pinned (OpenSpec.ofChange fnExactTokenOkWrong)

/-- 'laws.FnExactNext': WHATEVER THE INPUT: true; the input reads as it did. -/
def fnExactNextSpec : ChangeSpec := { name := "fnExactNext", fn := fun _ => fun
  | [d1, d2, d3, d4] => { results := [.lit (.bool true)], args := [d1, d2, d3, d4] }
  | _ => none }
def fnExactNextRow : OpenClaim := { program := "ythecefbejopigaa", sum := "685fb913239c1ec886677904aa31e9458f22df7fe75cb189ab96e7f9c6fa95e4", func := "loop.example/g00014/laws.FnExactNext", spec := "fnExactNext", unfollowed := true, recurses := true, apart := false }
def FnExactNextSaid : Prop := fnExactNextRow.holds Try.pinned (OpenSpec.ofChange fnExactNextSpec)

/-- ITS FALSE NEIGHBOUR: 'it returns false'. Refute it at one input. -/
def fnExactNextWrong : ChangeSpec := { name := "fnExactNext", fn := fun _ => fun
  | [d1, d2, d3, d4] => { results := [.lit (.bool false)], args := [d1, d2, d3, d4] }
  | _ => none }
def FnExactNextWrongFalsely : Prop := fnExactNextRow.holds Try.pinned (OpenSpec.ofChange fnExactNextWrong)

/-- 'laws.FnExactTokenize': WHATEVER THE INPUT: true; the input reads as it did. -/
def fnExactTokenizeSpec : ChangeSpec := { name := "fnExactTokenize", fn := fun _ => fun
  | [d1, d2] => { results := [.lit (.bool true)], args := [d1, d2] }
  | _ => none }
def fnExactTokenizeRow : OpenClaim := { program := "ythecefbejopigaa", sum := "685fb913239c1ec886677904aa31e9458f22df7fe75cb189ab96e7f9c6fa95e4", func := "loop.example/g00014/laws.FnExactTokenize", spec := "fnExactTokenize", unfollowed := true, recurses := true, apart := false }
def FnExactTokenizeSaid : Prop := fnExactTokenizeRow.holds Try.pinned (OpenSpec.ofChange fnExactTokenizeSpec)

/-- ITS FALSE NEIGHBOUR: 'it returns false'. Refute it at one input. -/
def fnExactTokenizeWrong : ChangeSpec := { name := "fnExactTokenize", fn := fun _ => fun
  | [d1, d2] => { results := [.lit (.bool false)], args := [d1, d2] }
  | _ => none }
def FnExactTokenizeWrongFalsely : Prop := fnExactTokenizeRow.holds Try.pinned (OpenSpec.ofChange fnExactTokenizeWrong)

/-- 'laws.FnExactShowTokens': WHATEVER THE INPUT: true; the input reads as it did. -/
def fnExactShowTokensSpec : ChangeSpec := { name := "fnExactShowTokens", fn := fun _ => fun
  | [d] => { results := [.lit (.bool true)], args := [d] }
  | _ => none }
def fnExactShowTokensRow : OpenClaim := { program := "ythecefbejopigaa", sum := "685fb913239c1ec886677904aa31e9458f22df7fe75cb189ab96e7f9c6fa95e4", func := "loop.example/g00014/laws.FnExactShowTokens", spec := "fnExactShowTokens", inPlace := ["internal/abi.NoEscape"], apart := false }
def FnExactShowTokensSaid : Prop := fnExactShowTokensRow.holds Try.pinned (OpenSpec.ofChange fnExactShowTokensSpec)

/-- ITS FALSE NEIGHBOUR: 'it returns false'. Refute it at one input. -/
def fnExactShowTokensWrong : ChangeSpec := { name := "fnExactShowTokens", fn := fun _ => fun
  | [d] => { results := [.lit (.bool false)], args := [d] }
  | _ => none }
def FnExactShowTokensWrongFalsely : Prop := fnExactShowTokensRow.holds Try.pinned (OpenSpec.ofChange fnExactShowTokensWrong)

/- THE SECOND FORM. 'bulk': how many values and letters a reading holds, each counted each time it is reached (what is shared counts as often as it is met; a slice's spare places count too). A statement '..UptoSaid' is the law's where the arguments, and the package variables that the reading takes, are together of bulk at most 1048576: NARROWER than '..Said'. Prove '..Said' where nothing that the law and all that it calls make is longer than what came in: it says more and counts as full. Else prove '..UptoSaid'. A law counts once. -/
mutual
def uptoBulk {H : Type} : DataW H → Nat
  | .lit (.string bytes) => bytes.length + 1
  | .lit _ => 1
  | .nil => 1
  | .ptr d => uptoBulk d + 1
  | .slice elems spare => uptoBulkAll elems + uptoBulkAll spare + 1
  | .agg parts => uptoBulkAll parts + 1
  | .iface _ d => uptoBulk d + 1
  | .map entries => uptoBulkEntries entries + 1
  | .held _ => 1
def uptoBulkAll {H : Type} : List (DataW H) → Nat
  | [] => 0
  | d :: r => uptoBulk d + uptoBulkAll r
def uptoBulkEntries {H : Type} : List (Lit × DataW H) → Nat
  | [] => 0
  | x :: r => uptoBulkEntry x + uptoBulkEntries r
def uptoBulkEntry {H : Type} : Lit × DataW H → Nat
  | (.string bytes, d) => bytes.length + uptoBulk d + 1
  | (_, d) => uptoBulk d + 1
 end
def uptoSmall : (H : Type) → List (DataW H) → Bool := fun _ ds => decide (uptoBulkAll ds ≤ 1048576)
def OpenSpec.upto (s : _root_.Go.ChangeSpec) : _root_.Go.OpenSpec := { _root_.Go.OpenSpec.ofChange s with cond := some uptoSmall }

/-- 'laws.FnExactCatsOk', WHERE WHAT IT READS IS OF BULK AT MOST 1048576: true; the input reads as it did. -/
def fnExactCatsOkUptoRow : OpenClaim := { program := "ythecefbejopigaa", sum := "685fb913239c1ec886677904aa31e9458f22df7fe75cb189ab96e7f9c6fa95e4", func := "loop.example/g00014/laws.FnExactCatsOk", spec := "fnExactCatsOk", apart := false, narrowed := true }
def FnExactCatsOkUptoSaid : Prop := fnExactCatsOkUptoRow.holds Try.pinned (OpenSpec.upto fnExactCatsOkSpec)

/-- 'laws.FnExactPlainCats', WHERE WHAT IT READS IS OF BULK AT MOST 1048576: true; the input reads as it did. -/
def fnExactPlainCatsUptoRow : OpenClaim := { program := "ythecefbejopigaa", sum := "685fb913239c1ec886677904aa31e9458f22df7fe75cb189ab96e7f9c6fa95e4", func := "loop.example/g00014/laws.FnExactPlainCats", spec := "fnExactPlainCats", apart := false, narrowed := true }
def FnExactPlainCatsUptoSaid : Prop := fnExactPlainCatsUptoRow.holds Try.pinned (OpenSpec.upto fnExactPlainCatsSpec)

/-- 'laws.FnExactTokenOk', WHERE WHAT IT READS IS OF BULK AT MOST 1048576: true; the input reads as it did. -/
def fnExactTokenOkUptoRow : OpenClaim := { program := "ythecefbejopigaa", sum := "685fb913239c1ec886677904aa31e9458f22df7fe75cb189ab96e7f9c6fa95e4", func := "loop.example/g00014/laws.FnExactTokenOk", spec := "fnExactTokenOk", apart := false, narrowed := true }
def FnExactTokenOkUptoSaid : Prop := fnExactTokenOkUptoRow.holds Try.pinned (OpenSpec.upto fnExactTokenOkSpec)

/-- 'laws.FnExactNext', WHERE WHAT IT READS IS OF BULK AT MOST 1048576: true; the input reads as it did. -/
def fnExactNextUptoRow : OpenClaim := { program := "ythecefbejopigaa", sum := "685fb913239c1ec886677904aa31e9458f22df7fe75cb189ab96e7f9c6fa95e4", func := "loop.example/g00014/laws.FnExactNext", spec := "fnExactNext", unfollowed := true, recurses := true, apart := false, narrowed := true }
def FnExactNextUptoSaid : Prop := fnExactNextUptoRow.holds Try.pinned (OpenSpec.upto fnExactNextSpec)

/-- 'laws.FnExactTokenize', WHERE WHAT IT READS IS OF BULK AT MOST 1048576: true; the input reads as it did. -/
def fnExactTokenizeUptoRow : OpenClaim := { program := "ythecefbejopigaa", sum := "685fb913239c1ec886677904aa31e9458f22df7fe75cb189ab96e7f9c6fa95e4", func := "loop.example/g00014/laws.FnExactTokenize", spec := "fnExactTokenize", unfollowed := true, recurses := true, apart := false, narrowed := true }
def FnExactTokenizeUptoSaid : Prop := fnExactTokenizeUptoRow.holds Try.pinned (OpenSpec.upto fnExactTokenizeSpec)

/-- 'laws.FnExactShowTokens', WHERE WHAT IT READS IS OF BULK AT MOST 1048576: true; the input reads as it did. -/
def fnExactShowTokensUptoRow : OpenClaim := { program := "ythecefbejopigaa", sum := "685fb913239c1ec886677904aa31e9458f22df7fe75cb189ab96e7f9c6fa95e4", func := "loop.example/g00014/laws.FnExactShowTokens", spec := "fnExactShowTokens", inPlace := ["internal/abi.NoEscape"], apart := false, narrowed := true }
def FnExactShowTokensUptoSaid : Prop := fnExactShowTokensUptoRow.holds Try.pinned (OpenSpec.upto fnExactShowTokensSpec)

end Rows
end Go.Proofs.Ythecefbejopigaa
