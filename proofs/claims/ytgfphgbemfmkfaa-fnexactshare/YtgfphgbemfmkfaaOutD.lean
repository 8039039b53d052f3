/-
  What Share answers, as data; the contracts of stretch and shrink.
-/
import Derived.Test.YtgfphgbemfmkfaaShn
namespace Go.Proofs.Ytgfphgbemfmkfaa
open Go.RowKit
set_option linter.unusedVariables false
set_option linter.unusedSimpArgs false

def ordOf (f o : Gl → Int) (gs : List Gl) : Int := (top (tot f o gs) : Int)
def hvOf (f o : Gl → Int) (gs : List Gl) : Int := (tot f o gs).getD (top (tot f o gs)) 0
abbrev Sett.v (s : Sett) : Value := setV s.sign s.order s.want s.have_ s.bad s.over
def upS (gs : List Gl) (q : Int) : Sett := if hvOf Gl.p Gl.po gs ≤ 0 then ⟨1, ordOf Gl.p Gl.po gs, q, hvOf Gl.p Gl.po gs, 10000, 0⟩ else ⟨1, ordOf Gl.p Gl.po gs, q, hvOf Gl.p Gl.po gs, if 0 < ordOf Gl.p Gl.po gs then 0 else badV q (hvOf Gl.p Gl.po gs), 0⟩
def upL (gs : List Gl) (q : Int) : List Int := if hvOf Gl.p Gl.po gs ≤ 0 then sizes gs else plusL (sizes gs) (stp Gl.p Gl.po (ordOf Gl.p Gl.po gs) q (hvOf Gl.p Gl.po gs) gs).2.2
def downS (gs : List Gl) (q : Int) : Sett := if hvOf Gl.m Gl.mo gs ≤ 0 then ⟨-1, ordOf Gl.m Gl.mo gs, q, hvOf Gl.m Gl.mo gs, 1000000, q⟩ else if ordOf Gl.m Gl.mo gs = 0 ∧ hvOf Gl.m Gl.mo gs < q then ⟨-1, 0, q, hvOf Gl.m Gl.mo gs, 1000000, q - hvOf Gl.m Gl.mo gs⟩ else ⟨-1, ordOf Gl.m Gl.mo gs, q, hvOf Gl.m Gl.mo gs, if 0 < ordOf Gl.m Gl.mo gs then 0 else badV q (hvOf Gl.m Gl.mo gs), 0⟩
def downL (gs : List Gl) (q : Int) : List Int := if hvOf Gl.m Gl.mo gs ≤ 0 then sizes gs else if ordOf Gl.m Gl.mo gs = 0 ∧ hvOf Gl.m Gl.mo gs < q then minusL (sizes gs) (stp Gl.m Gl.mo 0 (hvOf Gl.m Gl.mo gs) (hvOf Gl.m Gl.mo gs) gs).2.2 else minusL (sizes gs) (stp Gl.m Gl.mo (ordOf Gl.m Gl.mo gs) q (hvOf Gl.m Gl.mo gs) gs).2.2
def shareS (gs : List Gl) (q : Int) : Sett := if 0 < q then upS gs q else if q < 0 then downS gs (-q) else ⟨0, 0, 0, 0, 0, 0⟩
def shareL (gs : List Gl) (q : Int) : List Int := if 0 < q then upL gs q else if q < 0 then downL gs (-q) else sizes gs
theorem ordOf_nn (f o : Gl → Int) (gs : List Gl) : 0 ≤ ordOf f o gs := by unfold ordOf; omega

theorem results_tmp_cell {fn : Func} {u p : Tmp} {ty : TypeId} (h : fn.results = #[.tmp u, .cell p ty]) (tmps : Array Value) (w : World) (g : Nat) (x y : Value) {P : Program}
    (hp : tmps.getD p undef = .pointer (some ⟨g, 0, none⟩)) (hu : tmps.getD u undef = y) (hld : (loadVar ty ⟨g, 0, none⟩).run P w = .ok x w) :
    (results fn tmps).run P w = .ok (.tuple #[y, x]) w := by
  have hp' : tmps[p]?.getD undef = .pointer (some ⟨g, 0, none⟩) := by simpa using hp
  have hu' : tmps[u]?.getD undef = y := by simpa using hu
  simp [results, h, hp', hu', asAddr, hld, Result.andThen]
theorem Fr.trans {L : Nat} {w a b : World} (h : Fr L w a) (h2 : Fr L a b) : Fr L w b :=
  ⟨h2.1.trans h.1, h2.2.1.trans h.2.1, h2.2.2.1.trans h.2.2.1, Nat.le_trans h.2.2.2.1 h2.2.2.2.1, fun k hk hne => (h2.2.2.2.2 k (Nat.lt_of_lt_of_le hk h.2.2.2.1) hne).trans (h.2.2.2.2 k hk hne)⟩
theorem sizes_snoc {gs : List Gl} {k : Nat} (h : k < gs.length) : sizes (gs.take (k + 1)) = sizes (gs.take k) ++ [(gs.getD k Gl.none).s] := by
  rw [take_snoc h]; simp [sizes]
end Go.Proofs.Ytgfphgbemfmkfaa
