import Derived.Test.YtojoehdmjkgnnaaGreatNod
import Derived.Deep.RegionWith
import Derived.Deep.RegionHeld3
namespace Go.Proofs.YtojoehdmjkgnnaaGreat
open Go.RowKit
set_option linter.unusedVariables false
set_option linter.unusedSimpArgs false
def Nd.none : Nd := ⟨0, 0, 0, 0, 0, 0, 0, 0, 0, 0, 0, 0, 0, ⟨#[]⟩, 0⟩
def NdR (lo : Nat) (w : World) (cs : List Value) (x : Nd) : Prop := cs = x.cells
theorem ndStable : Stable NdR where
 abv := fun h _ => h
 mono := fun h _ => h
abbrev NRow (lo : Nat) (w : World) (v : Value) (xs : List Nd) : Prop := SRow 15 NdR Nd.none lo w v xs
def FnN (x : Nd) : Prop := x.tx.size ≤ 9223372036854775807
def SmN (x : Nd) : Prop := x.tx.size ≤ 1048576
theorem Tryz.info36 : (Tryz.prog.info? 36).map (fun i => (i.zero, i.size, i.bytes)) = some (some (ndV Nd.none), 15, 128) := by kernel_rfl
end Go.Proofs.YtojoehdmjkgnnaaGreat
