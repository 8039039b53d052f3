import Derived.Test.YtbpidcfoldkhgaaGreatBnds
namespace Go.Proofs.YtbpidcfoldkhgaaGreat
open Go.RowKit
set_option linter.unusedVariables false
set_option linter.unusedSimpArgs false
def FnL (x : Lv) : Prop := x.cats.length ≤ 9223372036854775807 ∧ (x.binds.length ≤ 9223372036854775807 ∧ ∀ i, i < x.binds.length → FnB (x.binds.getD i Bd.none)) ∧ x.counts.length ≤ 9223372036854775807 ∧ x.lens.length ≤ 9223372036854775807 ∧ x.glues.length ≤ 9223372036854775807 ∧ (x.toks.length ≤ 9223372036854775807 ∧ ∀ i, i < x.toks.length → Fine (x.toks.getD i []))
def SmL (x : Lv) : Prop := x.cats.length ≤ 1048576 ∧ (x.binds.length ≤ 1048576 ∧ ∀ i, i < x.binds.length → SmB (x.binds.getD i Bd.none)) ∧ x.counts.length ≤ 1048576 ∧ x.lens.length ≤ 1048576 ∧ x.glues.length ≤ 1048576 ∧ (x.toks.length ≤ 1048576 ∧ ∀ i, i < x.toks.length → Sml (x.toks.getD i []))
abbrev levV (v0 v1 v2 v3 v4 v5 : Value) : Value := .agg #[v0, v1, v2, v3, v4, v5]
theorem RIn.below {lo : Nat} {w w' : World} {v : Value} {zs : List Int} (h : RIn lo w v zs) (hb : Below w.heap.size w w') : RIn lo w' v zs := h.abv (Abv.below hb)
theorem GIn.below {lo : Nat} {w w' : World} {v : Value} {gs : List Gl} (h : GIn lo w v gs) (hb : Below w.heap.size w w') : GIn lo w' v gs := h.abv (Abv.below hb)
structure Six (lo : Nat) (w : World) (v0 v1 v2 v3 v4 v5 : Value) (x : Lv) : Prop where
 h0 : RIn lo w v0 x.cats
 h1 : BRow lo w v1 x.binds
 h2 : RIn lo w v2 x.counts
 h3 : RIn lo w v3 x.lens
 h4 : GIn lo w v4 x.glues
 h5 : TsRow lo w v5 x.toks
theorem Six.abv {lo : Nat} {w w' : World} {v0 v1 v2 v3 v4 v5 : Value} {x : Lv} (h : Six lo w v0 v1 v2 v3 v4 v5 x) (ha : Abv lo w w') : Six lo w' v0 v1 v2 v3 v4 v5 x :=
 ⟨h.h0.abv ha, h.h1.abv bdStable ha, h.h2.abv ha, h.h3.abv ha, h.h4.abv ha, h.h5.abv tsStable ha⟩
theorem Six.below {lo : Nat} {w w' : World} {v0 v1 v2 v3 v4 v5 : Value} {x : Lv} (h : Six lo w v0 v1 v2 v3 v4 v5 x) (hb : Below w.heap.size w w') : Six lo w' v0 v1 v2 v3 v4 v5 x := h.abv (Abv.below hb)
theorem Six.mono {lo lo' : Nat} {w : World} {v0 v1 v2 v3 v4 v5 : Value} {x : Lv} (h : Six lo w v0 v1 v2 v3 v4 v5 x) (hl : lo' ≤ lo) : Six lo' w v0 v1 v2 v3 v4 v5 x :=
 ⟨h.h0.mono hl, h.h1.mono bdStable hl, h.h2.mono hl, h.h3.mono hl, h.h4.mono hl, h.h5.mono tsStable hl⟩
theorem Six.shape {lo : Nat} {w : World} {v0 v1 v2 v3 v4 v5 : Value} {x : Lv} (h : Six lo w v0 v1 v2 v3 v4 v5 x) : ∃ a0 c0 a1 c1 a2 c2 a3 c3 a4 c4 a5 c5, v0 = .slice a0 x.cats.length c0 ∧ v1 = .slice a1 x.binds.length c1 ∧ v2 = .slice a2 x.counts.length c2 ∧ v3 = .slice a3 x.lens.length c3 ∧ v4 = .slice a4 x.glues.length c4 ∧ v5 = .slice a5 x.toks.length c5 := by
 obtain ⟨a0, c0, e0⟩ := h.h0.shape
 obtain ⟨a1, c1, e1⟩ := h.h1.shape
 obtain ⟨a2, c2, e2⟩ := h.h2.shape
 obtain ⟨a3, c3, e3⟩ := h.h3.shape
 obtain ⟨a4, c4, e4⟩ := h.h4.shape
 obtain ⟨a5, c5, e5⟩ := h.h5.shape
 exact ⟨a0, c0, a1, c1, a2, c2, a3, c3, a4, c4, a5, c5, e0, e1, e2, e3, e4, e5⟩
def Cells6 (w : World) (B : Nat) (v0 v1 v2 v3 v4 v5 : Value) : Prop := B < w.heap.size ∧ w.cell? ⟨B, 0, none⟩ = some v0 ∧ w.cell? ⟨B, 1, none⟩ = some v1 ∧ w.cell? ⟨B, 2, none⟩ = some v2 ∧ w.cell? ⟨B, 3, none⟩ = some v3 ∧ w.cell? ⟨B, 4, none⟩ = some v4 ∧ w.cell? ⟨B, 5, none⟩ = some v5
theorem Cells6.below {w w' : World} {B : Nat} {v0 v1 v2 v3 v4 v5 : Value} (h : Cells6 w B v0 v1 v2 v3 v4 v5) (hb : Below w.heap.size w w') : Cells6 w' B v0 v1 v2 v3 v4 v5 := by
 obtain ⟨hz, h0, h1, h2, h3, h4, h5⟩ := h
 exact ⟨Nat.lt_of_lt_of_le hz hb.size, (hb.cell (p := ⟨B, 0, none⟩) hz).trans h0, (hb.cell (p := ⟨B, 1, none⟩) hz).trans h1, (hb.cell (p := ⟨B, 2, none⟩) hz).trans h2, (hb.cell (p := ⟨B, 3, none⟩) hz).trans h3, (hb.cell (p := ⟨B, 4, none⟩) hz).trans h4, (hb.cell (p := ⟨B, 5, none⟩) hz).trans h5⟩
theorem Cells6.new (w : World) (v0 v1 v2 v3 v4 v5 : Value) (ty : Nat) : Cells6 (w.alloc (.cells #[v0, v1, v2, v3, v4, v5] ty)) w.heap.size v0 v1 v2 v3 v4 v5 := by
 refine ⟨by simp, ?_, ?_, ?_, ?_, ?_, ?_⟩ <;> simp [go_sem]
theorem szInts_any {ao : Option Addr} {n cap : Nat} {l : Int} (w : World) (hn : n ≤ 9223372036854775807) (hl0 : 0 ≤ l) (hl1 : l ≤ 1048576) :
 Calls Tryz.prog 55 #[.slice ao n cap, .int .i64 l] w fun e w' => (∃ m : Int, e = .returned (.int .i64 m) ∧ m ≤ l ∧ (0 ≤ m → n ≤ 1048576)) ∧ Below w.heap.size w w' := by
 by_cases hbig : l - (n : Int) < 0
 ·go_enter Tryz.func55, Tryz.ntmps55
  go_wp2
  go_ret
  exact ⟨⟨-1, rfl, by omega, fun h => by omega⟩, Below.refl _ _⟩
 ·go_enter Tryz.func55, Tryz.ntmps55
  go_wp2
  go_ret
  exact ⟨⟨_, rfl, by omega, fun h => by omega⟩, Below.refl _ _⟩
theorem szGls_any {ao : Option Addr} {n cap : Nat} {l : Int} (w : World) (hn : n ≤ 9223372036854775807) (hl0 : 0 ≤ l) (hl1 : l ≤ 1048576) :
 Calls Tryz.prog 57 #[.slice ao n cap, .int .i64 l] w fun e w' => (∃ m : Int, e = .returned (.int .i64 m) ∧ m ≤ l ∧ (0 ≤ m → n ≤ 1048576)) ∧ Below w.heap.size w w' := by
 by_cases hbig : l - (n : Int) < 0
 ·go_enter Tryz.func57, Tryz.ntmps57
  go_wp2
  go_ret
  exact ⟨⟨-1, rfl, by omega, fun h => by omega⟩, Below.refl _ _⟩
 ·go_enter Tryz.func57, Tryz.ntmps57
  go_wp2
  go_ret
  exact ⟨⟨_, rfl, by omega, fun h => by omega⟩, Below.refl _ _⟩
end Go.Proofs.YtbpidcfoldkhgaaGreat
