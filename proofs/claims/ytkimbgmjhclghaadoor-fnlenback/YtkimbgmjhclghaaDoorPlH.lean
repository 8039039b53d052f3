/-
  Proved: for every text, laws.FnExactParseLen returns true (the program's ParseLen answers as the specification's) and the text reads behind the call as before it; the table of units holds what the program's own text lays in it (tied); no other condition.
-/
import Derived.Test.YtkimbgmjhclghaaDoorPlw
import Derived.Test.YtkimbgmjhclghaaDoorCards
import Derived.Test.YtkimbgmjhclghaaDoorTie
import Derived.ProofKit
import Derived.LaidMore
import Derived.OpenShut
import Derived.Stop.Joined
import Derived.ShutString
import Derived.ChangeOld
import Derived.ChangeVars
import Derived.Deep.Strs
import Derived.SevenTiedAt
namespace Go.Proofs.YtkimbgmjhclghaaDoor
open Go.ChangeShapes Go.WideShapes Go.ChangeAt Go.WideMaps Go.WideElems Go.RowKit
open Go.ChangeMaps (open_string shut_string)
open Go.Deep (trod_struct3)
set_option linter.unusedVariables false
set_option linter.unusedSimpArgs false

theorem ownU : ownKnob Tryd.prog.godebug = none := by kernel_rfl
theorem gUnits : Tryd.prog.globalNamed "loop.example/g00014/impl.units" = some 1 := by kernel_rfl
theorem tUnits : (Tryd.prog.globals[1]?).map (·.type) = some 40 := by kernel_rfl
theorem cells39 : Tryd.prog.cellsOf 39 = 3 := by kernel_rfl
theorem cells40 : Tryd.prog.cellsOf 40 = 15 := by kernel_rfl
theorem cells9 : Tryd.prog.cellsOf 9 = 1 := by kernel_rfl
theorem cells2 : Tryd.prog.cellsOf 2 = 1 := by kernel_rfl

/-- One row of the table, off its datum. -/
theorem unit_of_trod {H : Type} {enc : TypeId × Value → H} {W : World} {base : Nat} {sp : Nat → Bool} {held : Bool} {fuel : Nat} {a b c : Value} {x : DataW H × List MemPlace} {l : List UInt8} {n d : Int}
    (h : DataW.trod enc Tryd.prog W base sp held fuel 39 [a, b, c] = some x) (hx : x.1 = .agg [.lit (.string l), .lit (.int .i64 n), .lit (.int .i64 d)]) : a = .string ⟨l.toArray⟩ ∧ b = .int .i64 n ∧ c = .int .i64 d := by
  obtain ⟨y0, y1, y2, m, rfl, _, h0, h1, h2⟩ := trod_struct3 Tryd.underlying39 h
  simp only [cells9, cells2, List.drop_zero, List.drop_succ_cons, List.take_succ_cons, List.take_zero] at h0 h1 h2
  obtain ⟨s, e0, rfl, _⟩ := DataW.trod_string Tryd.underlying9 h0
  obtain ⟨n1, e1, rfl, _⟩ := DataW.trod_int Tryd.underlying2 h1
  obtain ⟨n2, e2, rfl, _⟩ := DataW.trod_int Tryd.underlying2 h2
  simp only [List.cons.injEq, and_true] at e0 e1 e2
  simp only [DataW.agg.injEq, List.cons.injEq, DataW.lit.injEq, Lit.string.injEq, Lit.int.injEq, true_and, and_true] at hx
  obtain ⟨x1, x2, x3⟩ := hx
  subst x1 x2 x3
  exact ⟨e0.trans (by cases s; rfl), e1, e2⟩

def unitCells : Array Value := #[.string ⟨#[112, 116]⟩, .int .i64 65536, .int .i64 1, .string ⟨#[109, 109]⟩, .int .i64 473628672, .int .i64 2540, .string ⟨#[105, 110]⟩, .int .i64 473628672, .int .i64 100, .string ⟨#[112, 99]⟩, .int .i64 786432, .int .i64 1, .string ⟨#[115, 112]⟩, .int .i64 1, .int .i64 1]

theorem cells_of_units {W : World} (h : laidMetH Tryd.prog [("loop.example/g00014/impl.units", Rows.laid_loop_example_g00014_impl_units)] W) : W.var? Tryd.prog "loop.example/g00014/impl.units" = some unitCells := by
  rw [MakeChecks.laidMetH_plain _ _ _ (by kernel_rfl)] at h
  obtain ⟨ps, ⟨g, t, cs, fuel, p, q, hg, ht, hvar, hd, _, _⟩, _⟩ := h
  obtain rfl := Option.some.inj (gUnits.symm.trans hg)
  obtain rfl := Option.some.inj (tUnits.symm.trans ht)
  rw [hvar]
  congr 1
  obtain ⟨xs, m, rfl, hx, hlen, hn, hel⟩ := DataW.trod_array Tryd.underlying40 hd
  rw [cells40] at hlen
  simp only [cells39] at hel
  obtain ⟨l⟩ := cs
  obtain ⟨a0, a1, a2, a3, a4, a5, a6, a7, a8, a9, a10, a11, a12, a13, a14, rfl⟩ : ∃ a0 a1 a2 a3 a4 a5 a6 a7 a8 a9 a10 a11 a12 a13 a14, l = [a0, a1, a2, a3, a4, a5, a6, a7, a8, a9, a10, a11, a12, a13, a14] := by
    match l, hlen with
    | [a0, a1, a2, a3, a4, a5, a6, a7, a8, a9, a10, a11, a12, a13, a14], _ => exact ⟨a0, a1, a2, a3, a4, a5, a6, a7, a8, a9, a10, a11, a12, a13, a14, rfl⟩
  match xs, hn with
  | [x0, x1, x2, x3, x4], _ =>
    simp only [Prod.mk.injEq] at hx
    have hx1 := hx.1
    simp only [Rows.laid_loop_example_g00014_impl_units, List.map_cons, List.map_nil, DataW.agg.injEq, List.cons.injEq, and_true] at hx1
    obtain ⟨d0, d1, d2, d3, d4⟩ := hx1
    have h0 := hel 0 (by decide)
    have h1 := hel 1 (by decide)
    have h2 := hel 2 (by decide)
    have h3 := hel 3 (by decide)
    have h4 := hel 4 (by decide)
    clear hel
    obtain ⟨rfl, rfl, rfl⟩ := unit_of_trod (x := x0) (a := a0) (b := a1) (c := a2) h0 d0.symm
    obtain ⟨rfl, rfl, rfl⟩ := unit_of_trod (x := x1) (a := a3) (b := a4) (c := a5) h1 d1.symm
    obtain ⟨rfl, rfl, rfl⟩ := unit_of_trod (x := x2) (a := a6) (b := a7) (c := a8) h2 d2.symm
    obtain ⟨rfl, rfl, rfl⟩ := unit_of_trod (x := x3) (a := a9) (b := a10) (c := a11) h3 d3.symm
    obtain ⟨rfl, rfl, rfl⟩ := unit_of_trod (x := x4) (a := a12) (b := a13) (c := a14) h4 d4.symm
    rfl

theorem reads_units {H : Type} (enc : TypeId × Value → H) (W : World) (sp : Nat → Bool) : DataW.trod enc Tryd.prog W 0 sp true 4 40 unitCells.toList = some (Rows.laid_loop_example_g00014_impl_units, []) := by kernel_rfl

theorem units_of_var {W : World} (hvar : W.var? Tryd.prog "loop.example/g00014/impl.units" = some unitCells) : Units W := by
  have c : ∀ i, W.cell? ⟨1, i, none⟩ = unitCells[i]? := fun i => World.var?_cell gUnits hvar i
  have c0 := c 0
  refine ⟨?_, c 0, c 1, c 2, c 3, c 4, c 5, c 6, c 7, c 8, c 9, c 10, c 11, c 12, c 13, c 14⟩
  simp only [World.cell?] at c0
  by_cases h : 1 < W.heap.size
  · exact h
  · rw [Array.getElem?_eq_none (by omega)] at c0
    simp [unitCells] at c0

theorem var?_belowU {P : Program} {B g : Nat} {W W' : World} {n : String} {cs : Array Value} (h : Below B W W') (hg : P.globalNamed n = some g) (hgB : g < B) (hv : W.var? P n = some cs) : W'.var? P n = some cs := by
  unfold World.var? at hv ⊢
  simp only [hg, Option.bind_some] at hv ⊢
  rw [h.block g hgB]
  exact hv

/-- The door's own heap meets the condition. -/
theorem door_units (os : Os) (args : Array Value) : laidMetH Tryd.prog [("loop.example/g00014/impl.units", Rows.laid_loop_example_g00014_impl_units)] ((World.doorLaid Tryd.prog 400 os).forCall (fun _ _ => 0) ⟨#[], args, []⟩).memory :=
  laidMetH_of_parts3 (fuel := 8) (laidMet_of_run' 8 (by kernel_rfl) (by kernel_rfl)) (by kernel_rfl) (by kernel_rfl)

set_option maxRecDepth 100000 in
theorem parse_lifted (os : Os) (started : os.Started) (H : Type) (enc : TypeId × Value → H) :
    ReturnsInHanded {} Tryd.checked os 4 .any (fun w args => (Rows.fnExactParseLenSpec.pre enc Tryd.prog Tryd.f4 [] false w args ∧ laidMetH Tryd.prog [("loop.example/g00014/impl.units", Rows.laid_loop_example_g00014_impl_units)] w) ∧ sizedMet enc Tryd.prog Tryd.f4 (OpenSpec.ofChange Rows.fnExactParseLenSpec) false w args)
      (Rows.fnExactParseLenSpec.post enc Tryd.prog Tryd.f4 false true false false) := by
  refine returnsInHanded_of_change_and (C := Tryd.checked) (X := fun w _ => laidMetH Tryd.prog [("loop.example/g00014/impl.units", Rows.laid_loop_example_g00014_impl_units)] w) (fun _ _ _ hh h => h.of_heap hh) ownU started (by kernel_rfl) Tryd.func4
    (ChangeSpec.witness_shaped (enc := enc) (C := Tryd.checked) (os := os) (X := fun w _ => laidMetH Tryd.prog [("loop.example/g00014/impl.units", Rows.laid_loop_example_g00014_impl_units)] w) false (World.doorLaid Tryd.prog 400 os) #[.string ⟨#[]⟩] 8 rfl (World.shaped_of_RefB (by kernel_rfl) (by kernel_rfl)) (by kernel_rfl) (by kernel_rfl) (by kernel_rfl) (door_units os _)) ?_
  intro W base args ds gs before hval0 hW _ _ hL _
  have hval : ∀ (j : Nat) t v, Tryd.f4.params[j]? = some t → args[j]? = some v → Value.okWide Tryd.prog W .any base t v := hval0
  have hW' := hW
  obtain ⟨p, q, hA0, hV0, rfl, hfz, hnd⟩ := hW
  have hA : DataW.TrodAll enc Tryd.prog W 0 (fun _ => true) true Tryd.f4.params.toList args.toList ds p := hA0
  have hV : DataW.TrodVars enc Tryd.prog W (fun _ => true) ["loop.example/g00014/impl.units"] gs q := hV0
  rw [Tryd.params4] at hA hval
  obtain ⟨v0, d0, rfl, rfl, h0⟩ := trodAll_one hA
  obtain ⟨s, rfl, rfl, rfl, ws⟩ := open_string Tryd.underlying9 (hval 0 9 v0 rfl rfl) h0
  obtain ⟨g, t, cs, fuel, d, p', rfl, hg, ht, hvar, hd, rfl⟩ := trodVars_one hV
  obtain rfl := Option.some.inj (gUnits.symm.trans hg)
  obtain rfl := Option.some.inj (tUnits.symm.trans ht)
  obtain rfl : cs = unitCells := Option.some.inj (hvar.symm.trans (cells_of_units hL))
  obtain ⟨rfl, rfl⟩ := DataW.Trod.unique (v := .agg unitCells) ⟨fuel, hd⟩ ⟨4, reads_units enc W _⟩
  clear hA0 hV0 hval0
  have hU := units_of_var hvar
  have hsz : s.size ≤ 9223372036854775807 := by unfold maxLen at ws; omega
  refine (law_any s W hsz hU).mono fun e W' ⟨he, bel⟩ => ?_
  subst he
  have hvars := trodVars_mk1 (enc := enc) (spare := fun b => decide (b < W.heap.size)) hg ht (var?_belowU bel hg hU.1 hvar) (reads_units enc W' _)
  exact ⟨_, rfl, _, _, _, [], _, _, hW', trodAll_mk1 (shut_bool Tryd.underlying4 _), trodAll_mk1 (shut_string Tryd.underlying9 ws), hvars, bel.frame _, fun h => by cases h⟩

theorem exactParseLen_row : Rows.FnExactParseLenSaid :=
  OpenClaim.holds_of_wide 4 Tryd.f4 rfl rfl rfl rfl rfl rfl rfl ⟨rfl, rfl, rfl, rfl, rfl⟩ rfl rfl rfl rfl rfl (by kernel_rfl) Tryd.func4 (by kernel_rfl)
    (of_decide_eq_true (by kernel_rfl)) (by unfold Func.isWrapper; first | (rw [if_pos (by decide +kernel)]; kernel_rfl) | (rw [if_neg (by decide +kernel)]; exact ⟨rfl, rfl⟩))
    (fun os started H enc _ => parse_lifted os started H enc)

theorem exactParseLen_holds : Rows.FnExactParseLenCardSaid :=
  Claim7.holds_tied_plain_at .later [] [.data] true (true, "fc27aaa16cdfc95b4f61452726994be7eddbfb012dafdfc79980dc7cfb624c14") false
    exactParseLen_row (fun _ h => by cases h) (by kernel_rfl) (fun _ h => by cases h) fnExactParseLen_row_tie rfl ⟨rfl, rfl⟩ (by kernel_rfl) rfl
    (fun f fn hf hfn => by
      obtain rfl : f = 4 := Option.some.inj ((show Tryd.prog.funcNamed "loop.example/g00014/laws.FnExactParseLen" = some 4 by kernel_rfl).symm.trans hf) |>.symm
      obtain rfl : fn = Tryd.f4 := (Option.some.inj (Tryd.func4.symm.trans hfn)).symm
      exact ⟨by kernel_rfl, fun j t ht => by
        rw [Tryd.params4] at ht
        have hm : t ∈ [9] := by simpa using Array.mem_of_getElem? ht
        have hall : ([9].all fun u => !Tryd.prog.wantsStandIn u) = true := by kernel_rfl
        exact (show Tryd.prog.wantsStandIn t = false by simpa using List.all_eq_true.1 hall t hm)⟩)
    (by kernel_rfl)
#print axioms exactParseLen_holds
end Go.Proofs.YtkimbgmjhclghaaDoor
