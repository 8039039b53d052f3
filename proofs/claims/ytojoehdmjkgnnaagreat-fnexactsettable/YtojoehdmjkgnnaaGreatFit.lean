import Derived.Test.YtojoehdmjkgnnaaGreatNdq
import Derived.Test.YtojoehdmjkgnnaaGreatCln
import Derived.Test.YtojoehdmjkgnnaaGreatNod
namespace Go.Proofs.YtojoehdmjkgnnaaGreat
open Go.RowKit
set_option linter.unusedVariables false
set_option linter.unusedSimpArgs false
structure Cl where
 sp : Int
 al : Int
 ns : List Nd
structure Rw where
 cs : List Cl
 ru : Int
structure Tb where
 co : Int
 gs : Int
 gp : Int
 gpo : Int
 gm : Int
 gmo : Int
 rs : List Rw
def Cl.none : Cl := ⟨0, 0, []⟩
def Rw.none : Rw := ⟨[], 0⟩
abbrev clV (x : Cl) (v : Value) : Value := .agg #[.int .i64 x.sp, .int .i64 x.al, v]
abbrev rwV (x : Rw) (v : Value) : Value := .agg #[v, .int .i64 x.ru]
abbrev tbV (t : Tb) (v : Value) : Value := .agg #[.int .i64 t.co, .int .i64 t.gs, .int .i64 t.gp, .int .i64 t.gpo, .int .i64 t.gm, .int .i64 t.gmo, v]
theorem NN.abv {lo : Nat} {w w' : World} {v : Value} {xs : List Nd} (h : NN lo w v xs) (ha : Abv lo w w') : NN lo w' v xs := by
 rcases h with h | ⟨b, off, cap, rfl, h1, h2, h3, h4⟩
 ·exact .inl h
 ·refine .inr ⟨b, off, cap, rfl, h1, h2, fun hp => Nat.lt_of_lt_of_le (h3 hp) ha.size, fun j u hj => ?_⟩
  have hp : 0 < xs.length := by
   cases xs with
   | nil => simp [flatN] at hj
   | cons a tl => simp
  exact (World.cell?_of_block (w := w) (a := ⟨b, off + j, none⟩) (ha.block b h2 (h3 hp))).trans (h4 j u hj)
theorem NN.mono {lo lo' : Nat} {w : World} {v : Value} {xs : List Nd} (h : NN lo w v xs) (hl : lo' ≤ lo) : NN lo' w v xs := by
 rcases h with h | ⟨b, off, cap, rfl, h1, h2, h3, h4⟩
 ·exact .inl h
 ·exact .inr ⟨b, off, cap, rfl, h1, Nat.le_trans hl h2, h3, h4⟩
def ClR (lo : Nat) (w : World) (cs : List Value) (x : Cl) : Prop := ∃ v, cs = [.int .i64 x.sp, .int .i64 x.al, v] ∧ NRow lo w v x.ns
def ClN (lo : Nat) (w : World) (cs : List Value) (x : Cl) : Prop := ∃ v, cs = [.int .i64 x.sp, .int .i64 x.al, v] ∧ NRow lo w v x.ns ∧ NN lo w v x.ns
theorem clStable : Stable ClR where
 abv := fun ⟨v, h1, h2⟩ ha => ⟨v, h1, h2.abv ndStable ha⟩
 mono := fun ⟨v, h1, h2⟩ hl => ⟨v, h1, h2.mono ndStable hl⟩
theorem clNStable : Stable ClN where
 abv := fun ⟨v, h1, h2, h3⟩ ha => ⟨v, h1, h2.abv ndStable ha, h3.abv ha⟩
 mono := fun ⟨v, h1, h2, h3⟩ hl => ⟨v, h1, h2.mono ndStable hl, h3.mono hl⟩
abbrev CRow (lo : Nat) (w : World) (v : Value) (xs : List Cl) : Prop := SRow 3 ClR Cl.none lo w v xs
abbrev CRowN (lo : Nat) (w : World) (v : Value) (xs : List Cl) : Prop := SRow 3 ClN Cl.none lo w v xs
def RwR (lo : Nat) (w : World) (cs : List Value) (x : Rw) : Prop := ∃ v, cs = [v, .int .i64 x.ru] ∧ CRow lo w v x.cs
def RwN (lo : Nat) (w : World) (cs : List Value) (x : Rw) : Prop := ∃ v, cs = [v, .int .i64 x.ru] ∧ CRowN lo w v x.cs
theorem rwStable : Stable RwR where
 abv := fun ⟨v, h1, h2⟩ ha => ⟨v, h1, h2.abv clStable ha⟩
 mono := fun ⟨v, h1, h2⟩ hl => ⟨v, h1, h2.mono clStable hl⟩
theorem rwNStable : Stable RwN where
 abv := fun ⟨v, h1, h2⟩ ha => ⟨v, h1, h2.abv clNStable ha⟩
 mono := fun ⟨v, h1, h2⟩ hl => ⟨v, h1, h2.mono clNStable hl⟩
abbrev RRow (lo : Nat) (w : World) (v : Value) (xs : List Rw) : Prop := SRow 2 RwR Rw.none lo w v xs
abbrev RRowN (lo : Nat) (w : World) (v : Value) (xs : List Rw) : Prop := SRow 2 RwN Rw.none lo w v xs
def FnC (x : Cl) : Prop := x.ns.length ≤ 9223372036854775807 ∧ ∀ i, i < x.ns.length → FnN (x.ns.getD i Nd.none)
def SmC (x : Cl) : Prop := x.ns.length ≤ 1048576 ∧ ∀ i, i < x.ns.length → SmN (x.ns.getD i Nd.none)
def FnW (x : Rw) : Prop := x.cs.length ≤ 9223372036854775807 ∧ ∀ i, i < x.cs.length → FnC (x.cs.getD i Cl.none)
def SmW (x : Rw) : Prop := x.cs.length ≤ 1048576 ∧ ∀ i, i < x.cs.length → SmC (x.cs.getD i Cl.none)
def FnT (t : Tb) : Prop := t.rs.length ≤ 9223372036854775807 ∧ ∀ i, i < t.rs.length → FnW (t.rs.getD i Rw.none)
def SmT (t : Tb) : Prop := t.rs.length ≤ 1048576 ∧ ∀ i, i < t.rs.length → SmW (t.rs.getD i Rw.none)
end Go.Proofs.YtojoehdmjkgnnaaGreat
namespace Go.Proofs.YtojoehdmjkgnnaaGreat
open Go.ChangeShapes Go.WideShapes Go.ChangeAt Go.RowKit Go.Joins
set_option linter.unusedVariables false
set_option linter.unusedSimpArgs false
theorem cells227 : Tryz.prog.cellsOf 227 = 3 := by kernel_rfl
theorem cells180 : Tryz.prog.cellsOf 180 = 2 := by kernel_rfl
theorem cells178 : Tryz.prog.cellsOf 178 = 1 := by kernel_rfl
theorem cells62 : Tryz.prog.cellsOf 62 = 1 := by kernel_rfl
theorem cells64 : Tryz.prog.cellsOf 64 = 7 := by kernel_rfl
theorem list2 {α : Type} {cs : List α} (h : cs.length = 2) : ∃ c0 c1, cs = [c0, c1] := by
 match cs, h with
 | [c0, c1], _ => exact ⟨c0, c1, rfl⟩
theorem list3 {α : Type} {cs : List α} (h : cs.length = 3) : ∃ c0 c1 c2, cs = [c0, c1, c2] := by
 match cs, h with
 | [c0, c1, c2], _ => exact ⟨c0, c1, c2, rfl⟩
theorem list7 {α : Type} {cs : List α} (h : cs.length = 7) : ∃ c0 c1 c2 c3 c4 c5 c6, cs = [c0, c1, c2, c3, c4, c5, c6] := by
 match cs, h with
 | [c0, c1, c2, c3, c4, c5, c6], _ => exact ⟨c0, c1, c2, c3, c4, c5, c6, rfl⟩
set_option maxRecDepth 100000 in
theorem openCell {H : Type} {enc : TypeId × Value → H} {w : World} {base : Nat} {held : Bool} {fuel : Nat} {cs : List Value} {y : DataW H × List MemPlace} (hl : cs.length = 3)
 (hf : DataW.trod enc Tryz.prog w base (fun _ => true) held fuel 227 cs = some y) : ∃ x : Cl, ClR 0 w cs x ∧ FnC x := by
 obtain ⟨c0, c1, c2, rfl⟩ := list3 hl
 obtain ⟨xs, n, _, _, _, hlen, hfs⟩ := DataW.trod_struct Tryz.underlying227 hf
 obtain ⟨y0, y1, y2, rfl⟩ := list3 (by simpa using hlen)
 have g0 : DataW.trod enc Tryz.prog w base (fun _ => true) held n 2 [c0] = some y0 := by simpa [cells2, cells225] using hfs 0 _ rfl
 have g1 : DataW.trod enc Tryz.prog w base (fun _ => true) held n 2 [c1] = some y1 := by simpa [cells2, cells225] using hfs 1 _ rfl
 have g2 : DataW.trod enc Tryz.prog w base (fun _ => true) held n 225 [c2] = some y2 := by simpa [cells2, cells225] using hfs 2 _ rfl
 obtain ⟨sp, i0, _, _⟩ := DataW.trod_int Tryz.underlying2 g0
 obtain ⟨al, i1, _, _⟩ := DataW.trod_int Tryz.underlying2 g1
 obtain ⟨ns, hr, hl1, hF⟩ := openSlice (R := NdR) (F := FnN) Nd.none Tryz.underlying225 cells268 (by omega) (fun fuel cs y ht hl => openNode hl ht) g2
 simp only [List.cons.injEq, and_true] at i0 i1
 subst i0 i1
 exact ⟨⟨sp, al, ns⟩, ⟨c2, rfl, hr⟩, hl1, hF⟩
set_option maxRecDepth 100000 in
theorem openRow {H : Type} {enc : TypeId × Value → H} {w : World} {base : Nat} {held : Bool} {fuel : Nat} {cs : List Value} {y : DataW H × List MemPlace} (hl : cs.length = 2)
 (hf : DataW.trod enc Tryz.prog w base (fun _ => true) held fuel 180 cs = some y) : ∃ x : Rw, RwR 0 w cs x ∧ FnW x := by
 obtain ⟨c0, c1, rfl⟩ := list2 hl
 obtain ⟨xs, n, _, _, _, hlen, hfs⟩ := DataW.trod_struct Tryz.underlying180 hf
 obtain ⟨y0, y1, rfl⟩ := list2 (by simpa using hlen)
 have g0 : DataW.trod enc Tryz.prog w base (fun _ => true) held n 178 [c0] = some y0 := by simpa [cells2, cells178] using hfs 0 _ rfl
 have g1 : DataW.trod enc Tryz.prog w base (fun _ => true) held n 2 [c1] = some y1 := by simpa [cells2, cells178] using hfs 1 _ rfl
 obtain ⟨ru, i1, _, _⟩ := DataW.trod_int Tryz.underlying2 g1
 obtain ⟨ks, hr, hl1, hF⟩ := openSlice (R := ClR) (F := FnC) Cl.none Tryz.underlying178 cells227 (by omega) (fun fuel cs y ht hl => openCell hl ht) g0
 simp only [List.cons.injEq, and_true] at i1
 subst i1
 exact ⟨⟨ks, ru⟩, ⟨c0, rfl, hr⟩, hl1, hF⟩
set_option maxRecDepth 100000 in
theorem openTable {H : Type} {enc : TypeId × Value → H} {w : World} {r : Reach} {b0 : Nat} {v : Value} {d : DataW H} {p : List MemPlace}
 (hv : Value.okWide Tryz.prog w r b0 64 v) (h : DataW.Trod enc Tryz.prog w 0 (fun _ => true) true 64 v d p) : ∃ (t : Tb) (u : Value), v = tbV t u ∧ RRow 0 w u t.rs ∧ FnT t := by
 obtain ⟨cs, rfl, hsz⟩ := okWide_struct Tryz.underlying64 hv
 obtain ⟨l⟩ := cs
 obtain ⟨c0, c1, c2, c3, c4, c5, c6, rfl⟩ := list7 (cs := l) (by simpa using hsz.trans cells64)
 obtain ⟨fuel, hf⟩ := h
 obtain ⟨xs, n, _, _, _, hlen, hfs⟩ := DataW.trod_struct Tryz.underlying64 (by simpa [Value.cells] using hf : DataW.trod enc Tryz.prog w 0 (fun _ => true) true fuel 64 [c0, c1, c2, c3, c4, c5, c6] = _)
 obtain ⟨y0, y1, y2, rfl⟩ := list3 (by simpa using hlen)
 have k0 : DataW.trod enc Tryz.prog w 0 (fun _ => true) true n 2 [c0] = some y0 := by simpa [Value.cells, cells2, cells61, cells62] using hfs 0 _ rfl
 have k1 : DataW.trod enc Tryz.prog w 0 (fun _ => true) true n 61 [c1, c2, c3, c4, c5] = some y1 := by simpa [Value.cells, cells2, cells61, cells62] using hfs 1 _ rfl
 have k2 : DataW.trod enc Tryz.prog w 0 (fun _ => true) true n 62 [c6] = some y2 := by simpa [Value.cells, cells2, cells61, cells62] using hfs 2 _ rfl
 obtain ⟨co, e0, _, _⟩ := DataW.trod_int Tryz.underlying2 k0
 obtain ⟨xs2, n2, _, _, _, hlen2, hfs2⟩ := DataW.trod_struct Tryz.underlying61 k1
 obtain ⟨z0, z1, z2, z3, z4, rfl⟩ := list5 (by simpa using hlen2)
 have m0 : DataW.trod enc Tryz.prog w 0 (fun _ => true) true n2 2 [c1] = some z0 := by simpa [cells2] using hfs2 0 _ rfl
 have m1 : DataW.trod enc Tryz.prog w 0 (fun _ => true) true n2 2 [c2] = some z1 := by simpa [cells2] using hfs2 1 _ rfl
 have m2 : DataW.trod enc Tryz.prog w 0 (fun _ => true) true n2 2 [c3] = some z2 := by simpa [cells2] using hfs2 2 _ rfl
 have m3 : DataW.trod enc Tryz.prog w 0 (fun _ => true) true n2 2 [c4] = some z3 := by simpa [cells2] using hfs2 3 _ rfl
 have m4 : DataW.trod enc Tryz.prog w 0 (fun _ => true) true n2 2 [c5] = some z4 := by simpa [cells2] using hfs2 4 _ rfl
 obtain ⟨gs, j0, _, _⟩ := DataW.trod_int Tryz.underlying2 m0
 obtain ⟨gp, j1, _, _⟩ := DataW.trod_int Tryz.underlying2 m1
 obtain ⟨gpo, j2, _, _⟩ := DataW.trod_int Tryz.underlying2 m2
 obtain ⟨gm, j3, _, _⟩ := DataW.trod_int Tryz.underlying2 m3
 obtain ⟨gmo, j4, _, _⟩ := DataW.trod_int Tryz.underlying2 m4
 obtain ⟨rs, hr, hl1, hF⟩ := openSlice (R := RwR) (F := FnW) Rw.none Tryz.underlying62 cells180 (by omega) (fun fuel cs y ht hl => openRow hl ht) k2
 simp only [List.cons.injEq, and_true] at e0 j0 j1 j2 j3 j4
 subst e0 j0 j1 j2 j3 j4
 exact ⟨⟨co, gs, gp, gpo, gm, gmo, rs⟩, c6, rfl, hr, hl1, hF⟩
end Go.Proofs.YtojoehdmjkgnnaaGreat
namespace Go.Proofs.YtojoehdmjkgnnaaGreat
open Go.RowKit
set_option linter.unusedVariables false
set_option linter.unusedSimpArgs false
def fitsB (x : Int) : Bool := decide (-1073741823 ≤ x ∧ x ≤ 1073741823)
def uptoB (x m : Int) : Bool := decide (0 ≤ x ∧ x ≤ m)
def glB (s p po m mo : Int) : Bool := fitsB s && fitsB p && fitsB m && uptoB po 3 && uptoB mo 3
theorem fits_yes {x : Int} (h1 : -1073741823 ≤ x) (h2 : x ≤ 1073741823) : fitsB x = true := by simp [fitsB, h1, h2]
theorem fits_no {x : Int} (h : ¬ (-1073741823 ≤ x ∧ x ≤ 1073741823)) : fitsB x = false := by simp [fitsB]; omega
theorem upto_yes {x m : Int} (h1 : 0 ≤ x) (h2 : x ≤ m) : uptoB x m = true := by simp [uptoB, h1, h2]
theorem upto_no {x m : Int} (h : ¬ (0 ≤ x ∧ x ≤ m)) : uptoB x m = false := by simp [uptoB]; omega
theorem specFits_any (x : Int) (w : World) : Calls Tryz.prog 103 #[.int .i64 x] w fun e w' => e = .returned (.bool (fitsB x)) ∧ w' = w := by
 by_cases h1 : -1073741823 ≤ x
 ·by_cases h2 : x ≤ 1073741823
  ·rw [fits_yes h1 h2]
   go_enter Tryz.func103, Tryz.ntmps103
   go_wp2
   go_ret
   exact ⟨rfl, rfl⟩
  ·rw [fits_no (by omega)]
   go_enter Tryz.func103, Tryz.ntmps103
   go_wp2
   go_ret
   exact ⟨rfl, rfl⟩
 ·rw [fits_no (by omega)]
  go_enter Tryz.func103, Tryz.ntmps103
  go_wp2
  go_ret
  exact ⟨rfl, rfl⟩
theorem implFits_any (x : Int) (w : World) : Calls Tryz.prog 58 #[.int .i64 x] w fun e w' => e = .returned (.bool (fitsB x)) ∧ w' = w := by
 by_cases h1 : -1073741823 ≤ x
 ·by_cases h2 : x ≤ 1073741823
  ·rw [fits_yes h1 h2]
   go_enter Tryz.func58, Tryz.ntmps58
   go_wp2
   go_ret
   exact ⟨rfl, rfl⟩
  ·rw [fits_no (by omega)]
   go_enter Tryz.func58, Tryz.ntmps58
   go_wp2
   go_ret
   exact ⟨rfl, rfl⟩
 ·rw [fits_no (by omega)]
  go_enter Tryz.func58, Tryz.ntmps58
  go_wp2
  go_ret
  exact ⟨rfl, rfl⟩
theorem specOrder_any (x : Int) (w : World) : Calls Tryz.prog 126 #[.int .i64 x] w fun e w' => e = .returned (.bool (uptoB x 3)) ∧ w' = w := by
 by_cases h1 : 0 ≤ x
 ·by_cases h2 : x ≤ 3
  ·rw [upto_yes h1 h2]
   go_enter Tryz.func126, Tryz.ntmps126
   go_wp2
   go_ret
   exact ⟨rfl, rfl⟩
  ·rw [upto_no (by omega)]
   go_enter Tryz.func126, Tryz.ntmps126
   go_wp2
   go_ret
   exact ⟨rfl, rfl⟩
 ·rw [upto_no (by omega)]
  go_enter Tryz.func126, Tryz.ntmps126
  go_wp2
  go_ret
  exact ⟨rfl, rfl⟩
theorem implOrder_any (x : Int) (w : World) : Calls Tryz.prog 118 #[.int .i64 x] w fun e w' => e = .returned (.bool (uptoB x 3)) ∧ w' = w := by
 by_cases h1 : 0 ≤ x
 ·by_cases h2 : x ≤ 3
  ·rw [upto_yes h1 h2]
   go_enter Tryz.func118, Tryz.ntmps118
   go_wp2
   go_ret
   exact ⟨rfl, rfl⟩
  ·rw [upto_no (by omega)]
   go_enter Tryz.func118, Tryz.ntmps118
   go_wp2
   go_ret
   exact ⟨rfl, rfl⟩
 ·rw [upto_no (by omega)]
  go_enter Tryz.func118, Tryz.ntmps118
  go_wp2
  go_ret
  exact ⟨rfl, rfl⟩
theorem upTo_any (x m : Int) (w : World) : Calls Tryz.prog 93 #[.int .i64 x, .int .i64 m] w fun e w' => e = .returned (.bool (uptoB x m)) ∧ w' = w := by
 by_cases h1 : 0 ≤ x
 ·by_cases h2 : x ≤ m
  ·rw [upto_yes h1 h2]
   go_enter Tryz.func93, Tryz.ntmps93
   go_wp2
   go_ret
   exact ⟨rfl, rfl⟩
  ·rw [upto_no (by omega)]
   go_enter Tryz.func93, Tryz.ntmps93
   go_wp2
   go_ret
   exact ⟨rfl, rfl⟩
 ·rw [upto_no (by omega)]
  go_enter Tryz.func93, Tryz.ntmps93
  go_wp2
  go_ret
  exact ⟨rfl, rfl⟩
theorem specGlueOk_any (s p po m mo : Int) (w : World) : Calls Tryz.prog 100 #[glueV s p po m mo] w fun e w' => e = .returned (.bool (glB s p po m mo)) ∧ Below w.heap.size w w' := by
 unfold glB
 cases h1 : fitsB s <;> cases h2 : fitsB p <;> cases h3 : fitsB m <;> cases h4 : uptoB po 3 <;> cases h5 : uptoB mo 3
 all_goals
  go_enter Tryz.func100, Tryz.ntmps100
  go_wp2_with (first
   | (go_at_call 103; refine (specFits_any _ _).mono ?_; rintro e w' ⟨rfl, rfl⟩)
   | (go_at_call 126; refine (specOrder_any _ _).mono ?_; rintro e w' ⟨rfl, rfl⟩))
  go_ret
  exact ⟨rfl, below1 _ _⟩
theorem implGlueOk_any (s p po m mo : Int) (w : World) : Calls Tryz.prog 89 #[glueV s p po m mo] w fun e w' => e = .returned (.bool (glB s p po m mo)) ∧ Below w.heap.size w w' := by
 unfold glB
 cases h1 : fitsB s <;> cases h2 : fitsB p <;> cases h3 : fitsB m <;> cases h4 : uptoB po 3 <;> cases h5 : uptoB mo 3
 all_goals
  go_enter Tryz.func89, Tryz.ntmps89
  go_wp2_with (first
   | (go_at_call 58; refine (implFits_any _ _).mono ?_; rintro e w' ⟨rfl, rfl⟩)
   | (go_at_call 118; refine (implOrder_any _ _).mono ?_; rintro e w' ⟨rfl, rfl⟩))
  go_ret
  exact ⟨rfl, below1 _ _⟩
abbrev sizeV (a b c : Int) : Value := .agg #[.int .i64 a, .int .i64 b, .int .i64 c]
theorem sizeFits_any (a b c : Int) (w : World) : Calls Tryz.prog 208 #[sizeV a b c] w fun e w' => e = .returned (.bool (fitsB a && fitsB b && fitsB c)) ∧ Below w.heap.size w w' := by
 cases h1 : fitsB a <;> cases h2 : fitsB b <;> cases h3 : fitsB c
 all_goals
  go_enter Tryz.func208, Tryz.ntmps208
  go_wp2_with (go_at_call 58; refine (implFits_any _ _).mono ?_; rintro e w' ⟨rfl, rfl⟩)
  go_ret
  exact ⟨rfl, below1 _ _⟩
theorem sizeOf_any (x : Nd) (w : World) : Calls Tryz.prog 55 #[ndV x] w fun e w' => e = .returned (sizeV x.wd x.ht x.dp) ∧ Below w.heap.size w w' := by
 obtain ⟨k, wd, ht, dp, sh, fo, ch, nn, gs, gp, gpo, gm, gmo, tx, kids⟩ := x
 simp only [ndV]
 go_enter Tryz.func55, Tryz.ntmps55
 go_wp2
 refine bodyPost_ret (v := sizeV wd ht dp) (by simp [results, Tryz.results55, go_sem]) rfl ⟨rfl, ?_⟩
 trace_state
 repeat (first | with_reducible exact below2 _ _ _ | with_reducible exact below3 _ _ _ _ | (with_reducible refine Below.setCell ?_ ?_ _; rotate_left; focus (first | (simp; done) | (simp; omega))))
end Go.Proofs.YtojoehdmjkgnnaaGreat
