/-
  What Share answers, as data; the contracts of stretch and shrink.
-/
import Derived.Test.YtpfbhkhifggoaaaShrB
import Derived.Test.YtpfbhkhifggoaaaShrC
namespace Go.Proofs.Ytpfbhkhifggoaaa
open Go.RowKit
set_option linter.unusedVariables false
set_option linter.unusedSimpArgs false

def ordOf (f o : Gl → Int) (gs : List Gl) : Int := (top (tot f o gs) : Int)
def hvOf (f o : Gl → Int) (gs : List Gl) : Int := (tot f o gs).getD (top (tot f o gs)) 0
abbrev Sett.v (s : Sett) : Value := setV s.sign s.order s.want s.have_ s.bad s.over
def upS (gs : List Gl) (q : Int) : Sett := if hvOf Gl.p Gl.po gs ≤ 0 then ⟨1, ordOf Gl.p Gl.po gs, q, hvOf Gl.p Gl.po gs, 10000, 0⟩ else ⟨1, ordOf Gl.p Gl.po gs, q, hvOf Gl.p Gl.po gs, if 0 < ordOf Gl.p Gl.po gs then 0 else badV q (hvOf Gl.p Gl.po gs), 0⟩
def upL (gs : List Gl) (q : Int) : List Int := if hvOf Gl.p Gl.po gs ≤ 0 then sizes gs else plusL (sizes gs) (stp Gl.p Gl.po (ordOf Gl.p Gl.po gs) q (hvOf Gl.p Gl.po gs) gs).2.2
def downS (gs : List Gl) (q : Int) : Sett := if hvOf Gl.m Gl.mo gs ≤ 0 then ⟨-1, ordOf Gl.m Gl.mo gs, q, hvOf Gl.m Gl.mo gs, 1000000, q⟩ else if ordOf Gl.m Gl.mo gs = 0 ∧ hvOf Gl.m Gl.mo gs < q then ⟨-1, 0, q, hvOf Gl.m Gl.mo gs, 1000000, q - hvOf Gl.m Gl.mo gs⟩ else ⟨-1, ordOf Gl.m Gl.mo gs, q, hvOf Gl.m Gl.mo gs, if 0 < ordOf Gl.m Gl.mo gs then 0 else badV q (hvOf Gl.m Gl.mo gs), 0⟩
def downL (gs : List Gl) (q : Int) : List Int := if hvOf Gl.m Gl.mo gs ≤ 0 then sizes gs else if ordOf Gl.m Gl.mo gs = 0 ∧ hvOf Gl.m Gl.mo gs < q then minusL (sizes gs) (stp Gl.m Gl.mo 0 (hvOf Gl.m Gl.mo gs) (hvOf Gl.m Gl.mo gs) gs).2.2 else minusL (sizes gs) (stp Gl.m Gl.mo (ordOf Gl.m Gl.mo gs) q (hvOf Gl.m Gl.mo gs) gs).2.2
def shareS (gs : List Gl) (q : Int) : Sett := if 0 < q then upS gs q else if q < 0 then downS gs (-q) else ⟨0, 0, 0, 0, 0, 0⟩
def shareL (gs : List Gl) (q : Int) : List Int := if 0 < q then upL gs q else if q < 0 then downL gs (-q) else sizes gs
theorem ordOf_nn (f o : Gl → Int) (gs : List Gl) : 0 ≤ ordOf f o gs := by unfold ordOf; omega

theorem stretch_any {v : Value} {gs : List Gl} {w : World} {L base : Nat} (want : Int) (h : GRow w v gs) (hok : glsOk gs = true) (hw0 : 0 < want) (hw1 : want ≤ 9223372036854775807)
    (hL : w.ownsRow base 2 1 (.slice (some ⟨L, 0, none⟩) gs.length gs.length) gs.length ((sizes gs).map (Value.int .i64))) :
    Calls Try.prog 44 #[v, .slice (some ⟨L, 0, none⟩) gs.length gs.length, .int .i64 want] w fun e w' =>
      e = .returned (upS gs want).v ∧ w'.ownsRow base 2 1 (.slice (some ⟨L, 0, none⟩) gs.length gs.length) gs.length ((upL gs want).map (Value.int .i64)) ∧ Fr L w w' := by
  by_cases hno : hvOf Gl.p Gl.po gs ≤ 0
  · refine (stretch_none want h hok hno).mono ?_
    rintro e w' ⟨rfl, hb⟩
    refine ⟨?_, ?_, (Fr.refl L w).below hb⟩
    · unfold upS; rw [if_pos hno]; rfl
    · unfold upL; rw [if_pos hno]; exact owns_keep hL hb
  · refine (stretch_some want (ordOf Gl.p Gl.po gs) (hvOf Gl.p Gl.po gs) _ h hok hw0 hw1 hL rfl rfl rfl (by omega)).mono ?_
    rintro e w' ⟨rfl, ho, hf⟩
    refine ⟨?_, ?_, hf⟩
    · unfold upS; rw [if_neg hno]
    · unfold upL; rw [if_neg hno]; exact ho

theorem shrink_any {v : Value} {gs : List Gl} {w : World} {L base : Nat} (want : Int) (h : GRow w v gs) (hok : glsOk gs = true) (hw0 : 0 < want) (hw1 : want ≤ 9223372036854775807)
    (hL : w.ownsRow base 2 1 (.slice (some ⟨L, 0, none⟩) gs.length gs.length) gs.length ((sizes gs).map (Value.int .i64))) :
    Calls Try.prog 45 #[v, .slice (some ⟨L, 0, none⟩) gs.length gs.length, .int .i64 want] w fun e w' =>
      e = .returned (downS gs want).v ∧ w'.ownsRow base 2 1 (.slice (some ⟨L, 0, none⟩) gs.length gs.length) gs.length ((downL gs want).map (Value.int .i64)) ∧ Fr L w w' := by
  by_cases hno : hvOf Gl.m Gl.mo gs ≤ 0
  · refine (shrink_none want (ordOf Gl.m Gl.mo gs) (hvOf Gl.m Gl.mo gs) h hok rfl rfl hno).mono ?_
    rintro e w' ⟨rfl, hb⟩
    refine ⟨?_, ?_, (Fr.refl L w).below hb⟩
    · unfold downS; rw [if_pos hno]
    · unfold downL; rw [if_pos hno]; exact owns_keep hL hb
  · by_cases hov : ordOf Gl.m Gl.mo gs = 0 ∧ hvOf Gl.m Gl.mo gs < want
    · refine (shrink_over want (hvOf Gl.m Gl.mo gs) _ h hok hw0 hw1 hL hov.1 rfl rfl (by omega) hov.2).mono ?_
      rintro e w' ⟨rfl, ho, hf⟩
      refine ⟨?_, ?_, hf⟩
      · unfold downS; rw [if_neg hno, if_pos hov]
      · unfold downL; rw [if_neg hno, if_pos hov]; exact ho
    · by_cases h0 : ordOf Gl.m Gl.mo gs = 0
      · have hge : want ≤ hvOf Gl.m Gl.mo gs := Int.not_lt.1 fun hh => hov ⟨h0, hh⟩
        refine (shrink_zero want (hvOf Gl.m Gl.mo gs) _ h hok hw0 hw1 hL h0 rfl rfl (by omega) hge).mono ?_
        rintro e w' ⟨rfl, ho, hf⟩
        refine ⟨?_, ?_, hf⟩
        · unfold downS; rw [if_neg hno, if_neg hov, h0]
        · unfold downL; rw [if_neg hno, if_neg hov, h0]; exact ho
      · refine (shrink_high want (ordOf Gl.m Gl.mo gs) (hvOf Gl.m Gl.mo gs) _ h hok hw0 hw1 hL rfl rfl rfl (by omega) (by have := ordOf_nn Gl.m Gl.mo gs; omega)).mono ?_
        rintro e w' ⟨rfl, ho, hf⟩
        refine ⟨?_, ?_, hf⟩
        · unfold downS; rw [if_neg hno, if_neg hov]
        · unfold downL; rw [if_neg hno, if_neg hov]; exact ho

theorem results_tmp_cell {fn : Func} {u p : Tmp} {ty : TypeId} (h : fn.results = #[.tmp u, .cell p ty]) (tmps : Array Value) (w : World) (g : Nat) (x y : Value) {P : Program}
    (hp : tmps.getD p undef = .pointer (some ⟨g, 0, none⟩)) (hu : tmps.getD u undef = y) (hld : (loadVar ty ⟨g, 0, none⟩).run P w = .ok x w) :
    (results fn tmps).run P w = .ok (.tuple #[y, x]) w := by
  have hp' : tmps[p]?.getD undef = .pointer (some ⟨g, 0, none⟩) := by simpa using hp
  have hu' : tmps[u]?.getD undef = y := by simpa using hu
  simp [results, h, hp', hu', asAddr, hld, Result.andThen]
theorem Fr.trans {L : Nat} {w a b : World} (h : Fr L w a) (h2 : Fr L a b) : Fr L w b :=
  ⟨h2.1.trans h.1, h2.2.1.trans h.2.1, h2.2.2.1.trans h.2.2.1, Nat.le_trans h.2.2.2.1 h2.2.2.2.1, fun k hk hne => (h2.2.2.2.2 k (Nat.lt_of_lt_of_le hk h.2.2.2.1) hne).trans (h.2.2.2.2 k hk hne)⟩
theorem sizes_snoc {gs : List Gl} {k : Nat} (h : k < gs.length) : sizes (gs.take (k + 1)) = sizes (gs.take k) ++ [(gs.getD k Gl.none).s] := by
  rw [take_snoc h]; simp [sizes]
end Go.Proofs.Ytpfbhkhifggoaaa
