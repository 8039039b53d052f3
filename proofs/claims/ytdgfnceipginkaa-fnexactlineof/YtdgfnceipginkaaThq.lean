/-
  Things of a node, asked whether they are boxes or spaces.
-/
import Derived.Test.YtdgfnceipginkaaRows
import Derived.Test.YtdgfnceipginkaaSpl
import Derived.Test.YtdgfnceipginkaaLok
import Derived.Test.YtdgfnceipginkaaNdq
import Derived.Deep.RegionWith
import Derived.ProofKit
import Derived.OpenShut
import Derived.ShutString
import Derived.ChangeOld
import Derived.Lib.SmallJoins
import Derived.Deep.Slices
namespace Go.Proofs.Ytdgfnceipginkaa
open Go.ChangeShapes Go.WideShapes Go.ChangeAt Go.RowKit Go.Joins
set_option linter.unusedVariables false
set_option linter.unusedSimpArgs false

theorem nest_big {v : Value} {xs : List Nd} {w : World} (h : NRow 0 w v xs) (hbig : ¬ xs.length ≤ 20000) (hs : xs.length ≤ 1048576) :
    Calls Try.prog 46 #[v] w fun e w' => e = .returned (.int .i64 (-1)) ∧ Below w.heap.size w w' := by
  obtain ⟨ao, n, cap, rfl, hl, hr⟩ := h
  have hni : (20000 : Int) < (n : Int) := by omega
  clear hr
  go_enter Try.func46, Try.ntmps46
  go_wp2
  go_ret
  exact ⟨rfl, Below.refl _ _⟩

theorem nest_all {v : Value} {xs : List Nd} {w : World} (h : NRow 0 w v xs) (hs : xs.length ≤ 1048576) :
    Calls Try.prog 46 #[v] w fun e w' => ∃ m : Int, e = .returned (.int .i64 m) ∧ (decide (0 ≤ m) && decide (m ≤ 41)) = listB xs ∧ Below w.heap.size w w' := by
  by_cases hbig : xs.length ≤ 20000
  · refine (nest_any h hbig).mono ?_
    rintro e w' ⟨m, rfl, hm, hb⟩
    refine ⟨m, rfl, ?_, hb⟩
    rw [hm]
    unfold listB
    rw [decide_eq_true hbig]
    rfl
  · refine (nest_big h hbig hs).mono ?_
    rintro e w' ⟨rfl, hb⟩
    refine ⟨-1, rfl, ?_, hb⟩
    unfold listB
    rw [decide_eq_false hbig]
    rfl

theorem specListOk_any {v : Value} {xs : List Nd} {w : World} (h : NRow 0 w v xs) (hs : xs.length ≤ 1048576) :
    Calls Try.prog 24 #[v] w fun e w' => e = .returned (.bool (listB xs)) ∧ Below w.heap.size w w' := by
  have HC := hideP (nest_all h hs)
  obtain ⟨ao, n, cap, rfl, hl, hr⟩ := h
  clear hr hl hs
  go_enter Try.func24, Try.ntmps24
  go_wp2_with fail
  refine HC.out.mono ?_
  rintro e w1 ⟨m, rfl, hm, hb1⟩
  have B1 := hideP hb1
  have HM := hideP hm
  clear hb1 hm
  cases h1 : decide (0 ≤ m) with
  | false =>
    have HE : Hid (listB xs = false) := hideP (by rw [← HM.out, h1]; rfl)
    go_wp2
    go_ret
    exact ⟨retB HE.out.symm, B1.out⟩
  | true =>
    cases h2 : decide (m ≤ 41) with
    | false =>
      have HE : Hid (listB xs = false) := hideP (by rw [← HM.out, h1, h2]; rfl)
      go_wp2
      go_ret
      exact ⟨retB HE.out.symm, B1.out⟩
    | true =>
      have HE : Hid (listB xs = true) := hideP (by rw [← HM.out, h1, h2]; rfl)
      go_wp2
      go_ret
      exact ⟨retB HE.out.symm, B1.out⟩

theorem ownT : ownKnob Try.prog.godebug = none := by kernel_rfl
theorem laidOut : laidOutB Try.prog = true := by kernel_rfl
theorem cells2 : Try.prog.cellsOf 2 = 1 := by kernel_rfl
theorem cells9 : Try.prog.cellsOf 9 = 1 := by kernel_rfl
theorem cells24 : Try.prog.cellsOf 24 = 5 := by kernel_rfl
theorem cells40 : Try.prog.cellsOf 40 = 15 := by kernel_rfl
theorem list5 {α : Type} {cs : List α} (h : cs.length = 5) : ∃ c0 c1 c2 c3 c4, cs = [c0, c1, c2, c3, c4] := by
  match cs, h with
  | [c0, c1, c2, c3, c4], _ => exact ⟨c0, c1, c2, c3, c4, rfl⟩
theorem list11 {α : Type} {cs : List α} (h : cs.length = 11) : ∃ c0 c1 c2 c3 c4 c5 c6 c7 c8 c9 c10, cs = [c0, c1, c2, c3, c4, c5, c6, c7, c8, c9, c10] := by
  match cs, h with
  | [c0, c1, c2, c3, c4, c5, c6, c7, c8, c9, c10], _ => exact ⟨c0, c1, c2, c3, c4, c5, c6, c7, c8, c9, c10, rfl⟩
theorem list15 {α : Type} {cs : List α} (h : cs.length = 15) : ∃ c0 c1 c2 c3 c4 c5 c6 c7 c8 c9 c10 c11 c12 c13 c14, cs = [c0, c1, c2, c3, c4, c5, c6, c7, c8, c9, c10, c11, c12, c13, c14] := by
  match cs, h with
  | [c0, c1, c2, c3, c4, c5, c6, c7, c8, c9, c10, c11, c12, c13, c14], _ => exact ⟨c0, c1, c2, c3, c4, c5, c6, c7, c8, c9, c10, c11, c12, c13, c14, rfl⟩
set_option maxRecDepth 100000 in
/-- A slice that comes in, in its cell, by what one element is. -/
theorem openSlice {H : Type} {enc : TypeId × Value → H} {w : World} {base : Nat} {held : Bool} {fuel ty el sz : Nat} {v : Value} {y : DataW H × List MemPlace} {α : Type} {R : Nat → World → List Value → α → Prop} {F : α → Prop} (d : α)
    (hu : Try.prog.underlying ty = some (.slice el)) (hcell : Try.prog.cellsOf el = sz) (hpos : 0 < sz)
    (each : ∀ (fuel : Nat) (cs : List Value) (y : DataW H × List MemPlace), DataW.trod enc Try.prog w base (fun _ => true) held fuel el cs = some y → cs.length = sz → ∃ x, R 0 w cs x ∧ F x)
    (hf : DataW.trod enc Try.prog w base (fun _ => true) held fuel ty [v] = some y) : ∃ xs : List α, SRow sz R d 0 w v xs ∧ xs.length ≤ 9223372036854775807 ∧ ∀ i, i < xs.length → F (xs.getD i d) := by
  rcases Go.Deep.open_slice hu hf with ⟨hcs, hx⟩ | ⟨a, len, cap, m, n, D, Pl, hcs, _, hl, hm, hmm, hx, hel⟩
  · simp at hcs
    subst hcs
    exact ⟨[], ⟨none, 0, 0, rfl, rfl, fun h => by omega⟩, Nat.zero_le _, fun i hi => by simp at hi⟩
  · simp at hcs
    subst hcs
    by_cases h0 : len = 0
    · subst h0
      exact ⟨[], ⟨_, 0, cap, rfl, rfl, fun h => by omega⟩, Nat.zero_le _, fun i hi => by simp at hi⟩
    · rw [hcell] at hel
      have hplain : ∃ b off, a = ⟨b, off, none⟩ := by
        obtain ⟨cs', hcells, htr⟩ := hel 0 (by simp at hmm; omega)
        obtain ⟨_, hlen, hat⟩ := World.cells?_some hcells
        have h1 := hat 0 hpos
        rw [List.getElem?_eq_getElem (by omega)] at h1
        obtain ⟨b, off, spot⟩ := a
        have hspot : spot = none := by simpa [Addr.add] using World.cell?_spot h1
        subst hspot
        exact ⟨b, off, rfl⟩
      obtain ⟨b, off, rfl⟩ := hplain
      have each2 : ∀ i, i < len → ∃ x : α, F x ∧ ∃ cs : List Value, cs.length = sz ∧ R 0 w cs x ∧ ∀ j, j < sz → w.cell? ⟨b, off + i * sz + j, none⟩ = cs[j]? := by
        intro i hi
        obtain ⟨cs', hcells, htr⟩ := hel i (by simp at hmm; omega)
        rw [add_plain] at hcells
        obtain ⟨_, hlen, hat⟩ := World.cells?_some hcells
        obtain ⟨x, hR, hF⟩ := each _ _ _ htr hlen
        refine ⟨x, hF, cs', hlen, hR, fun j hj => ?_⟩
        have := hat j hj
        rw [add_plain] at this
        exact this
      let f : Nat → α := fun i => if hi : i < len then Classical.choose (each2 i hi) else d
      have hff : ∀ i, (hi : i < len) → F (f i) ∧ ∃ cs : List Value, cs.length = sz ∧ R 0 w cs (f i) ∧ ∀ j, j < sz → w.cell? ⟨b, off + i * sz + j, none⟩ = cs[j]? := by
        intro i hi
        have := Classical.choose_spec (each2 i hi)
        simp only [f, dif_pos hi]
        exact this
      have hget : ∀ i, i < len → ((List.range len).map f).getD i d = f i := by
        intro i hi
        simp [List.getD, List.getElem?_map, List.getElem?_range hi]
      have hblock : b < w.heap.size := by
        obtain ⟨_, cs, hcl, _, hj⟩ := hff 0 (by omega)
        have h1 := hj 0 hpos
        rw [List.getElem?_eq_getElem (by omega)] at h1
        exact World.block_lt_of_cell? w _ h1
      refine ⟨(List.range len).map f, ⟨_, len, cap, rfl, by simp, fun hp => ⟨b, off, rfl, Nat.zero_le _, hblock, fun i hi => ?_⟩⟩, ?_, ?_⟩
      · rw [hget i hi]
        exact (hff i hi).2
      · simp
        unfold maxLen at hm
        omega
      · intro i hi
        have hi' : i < len := by simpa using hi
        rw [hget i hi']
        exact (hff i hi').1


set_option maxRecDepth 100000 in
theorem openNode {H : Type} {enc : TypeId × Value → H} {w : World} {base : Nat} {held : Bool} {fuel : Nat} {cs : List Value} {y : DataW H × List MemPlace} (hl : cs.length = 15)
    (hf : DataW.trod enc Try.prog w base (fun _ => true) held fuel 40 cs = some y) : ∃ x : Nd, NdR 0 w cs x ∧ FnN x := by
  obtain ⟨c0, c1, c2, c3, c4, c5, c6, c7, c8, c9, c10, c11, c12, c13, c14, rfl⟩ := list15 hl
  obtain ⟨xs, n, _, _, _, hlen, hfs⟩ := DataW.trod_struct Try.underlying40 hf
  obtain ⟨y0, y1, y2, y3, y4, y5, y6, y7, y8, y9, y10, rfl⟩ := list11 (by simpa using hlen)
  have g0 : DataW.trod enc Try.prog w base (fun _ => true) held n 2 [c0] = some y0 := by simpa [cells2, cells9, cells24] using hfs 0 _ rfl
  have g1 : DataW.trod enc Try.prog w base (fun _ => true) held n 2 [c1] = some y1 := by simpa [cells2, cells9, cells24] using hfs 1 _ rfl
  have g2 : DataW.trod enc Try.prog w base (fun _ => true) held n 2 [c2] = some y2 := by simpa [cells2, cells9, cells24] using hfs 2 _ rfl
  have g3 : DataW.trod enc Try.prog w base (fun _ => true) held n 2 [c3] = some y3 := by simpa [cells2, cells9, cells24] using hfs 3 _ rfl
  have g4 : DataW.trod enc Try.prog w base (fun _ => true) held n 2 [c4] = some y4 := by simpa [cells2, cells9, cells24] using hfs 4 _ rfl
  have g5 : DataW.trod enc Try.prog w base (fun _ => true) held n 2 [c5] = some y5 := by simpa [cells2, cells9, cells24] using hfs 5 _ rfl
  have g6 : DataW.trod enc Try.prog w base (fun _ => true) held n 2 [c6] = some y6 := by simpa [cells2, cells9, cells24] using hfs 6 _ rfl
  have g7 : DataW.trod enc Try.prog w base (fun _ => true) held n 2 [c7] = some y7 := by simpa [cells2, cells9, cells24] using hfs 7 _ rfl
  have g8 : DataW.trod enc Try.prog w base (fun _ => true) held n 24 [c8, c9, c10, c11, c12] = some y8 := by simpa [cells2, cells9, cells24] using hfs 8 _ rfl
  have g9 : DataW.trod enc Try.prog w base (fun _ => true) held n 9 [c13] = some y9 := by simpa [cells2, cells9, cells24] using hfs 9 _ rfl
  have g10 : DataW.trod enc Try.prog w base (fun _ => true) held n 2 [c14] = some y10 := by simpa [cells2, cells9, cells24] using hfs 10 _ rfl
  obtain ⟨xs2, n2, _, _, _, hlen2, hfs2⟩ := DataW.trod_struct Try.underlying24 g8
  obtain ⟨z0, z1, z2, z3, z4, rfl⟩ := list5 (by simpa using hlen2)
  have e0 : DataW.trod enc Try.prog w base (fun _ => true) held n2 2 [c8] = some z0 := by simpa [cells2] using hfs2 0 _ rfl
  have e1 : DataW.trod enc Try.prog w base (fun _ => true) held n2 2 [c9] = some z1 := by simpa [cells2] using hfs2 1 _ rfl
  have e2 : DataW.trod enc Try.prog w base (fun _ => true) held n2 2 [c10] = some z2 := by simpa [cells2] using hfs2 2 _ rfl
  have e3 : DataW.trod enc Try.prog w base (fun _ => true) held n2 2 [c11] = some z3 := by simpa [cells2] using hfs2 3 _ rfl
  have e4 : DataW.trod enc Try.prog w base (fun _ => true) held n2 2 [c12] = some z4 := by simpa [cells2] using hfs2 4 _ rfl
  obtain ⟨k, i0, _, _⟩ := DataW.trod_int Try.underlying2 g0
  obtain ⟨wd, i1, _, _⟩ := DataW.trod_int Try.underlying2 g1
  obtain ⟨ht, i2, _, _⟩ := DataW.trod_int Try.underlying2 g2
  obtain ⟨dp, i3, _, _⟩ := DataW.trod_int Try.underlying2 g3
  obtain ⟨sh, i4, _, _⟩ := DataW.trod_int Try.underlying2 g4
  obtain ⟨fo, i5, _, _⟩ := DataW.trod_int Try.underlying2 g5
  obtain ⟨ch, i6, _, _⟩ := DataW.trod_int Try.underlying2 g6
  obtain ⟨nn, i7, _, _⟩ := DataW.trod_int Try.underlying2 g7
  obtain ⟨kids, i10, _, _⟩ := DataW.trod_int Try.underlying2 g10
  obtain ⟨gs, j0, _, _⟩ := DataW.trod_int Try.underlying2 e0
  obtain ⟨gp, j1, _, _⟩ := DataW.trod_int Try.underlying2 e1
  obtain ⟨gpo, j2, _, _⟩ := DataW.trod_int Try.underlying2 e2
  obtain ⟨gm, j3, _, _⟩ := DataW.trod_int Try.underlying2 e3
  obtain ⟨gmo, j4, _, _⟩ := DataW.trod_int Try.underlying2 e4
  obtain ⟨tx, t0, ht0⟩ := DataW.trod_string Try.underlying9 g9
  simp only [List.cons.injEq, and_true] at i0 i1 i2 i3 i4 i5 i6 i7 i10 j0 j1 j2 j3 j4 t0
  refine ⟨⟨k, wd, ht, dp, sh, fo, ch, nn, gs, gp, gpo, gm, gmo, tx, kids⟩, ?_, by first | exact ht0.2 | (unfold FnN; dsimp only; omega)⟩
  simp only [NdR, Nd.cells, i0, i1, i2, i3, i4, i5, i6, i7, i10, j0, j1, j2, j3, j4, t0]

end Go.Proofs.Ytdgfnceipginkaa
namespace Go.Proofs.Ytdgfnceipginkaa
open Go.RowKit
set_option linter.unusedVariables false
set_option linter.unusedSimpArgs false

def boxB (x : Nd) : Bool := x.k == 6 || x.k == 7
def glueB (x : Nd) : Bool := x.k == 3
/-- The assertions to a box and to a space. -/
structure Ask (x : Nd) (v : Value) : Prop where
  bx : ∃ a b c d e f : Int, ∀ W : World, (Instr.typeAssert v 70 132 true).run Try.prog W = .ok (.tuple #[.agg #[.int .i64 a, .int .i64 b, .int .i64 c, .int .i64 d, .int .i64 e, .int .i64 f], .bool (boxB x)]) W
  sp : ∃ a b c d e f : Int, ∀ W : World, (Instr.typeAssert v 70 72 true).run Try.prog W = .ok (.tuple #[.agg #[.int .i64 a, .int .i64 b, .int .i64 c, .int .i64 d, .int .i64 e, .int .i64 f], .bool (glueB x)]) W
/-- The value that the thing of a node is. -/
def thV (x : Nd) : Value :=
  if x.k = 1 then .iface 97 (.agg #[.int .i64 x.fo, .int .i64 x.ch, .int .i64 x.wd, .int .i64 x.ht, .int .i64 x.dp])
  else if x.k = 2 then .iface 128 (.agg #[.int .i64 x.wd])
  else if x.k = 3 then .iface 72 (.agg #[.int .i64 x.gs, .int .i64 x.gp, .int .i64 x.gpo, .int .i64 x.gm, .int .i64 x.gmo, .int .i64 x.wd])
  else if x.k = 4 then .iface 75 (.agg #[.int .i64 x.nn])
  else if x.k = 5 then .iface 130 (.agg #[.int .i64 x.wd, .int .i64 x.ht, .int .i64 x.dp])
  else if x.k = 6 then .iface 132 (.agg #[.int .i64 6, .int .i64 x.wd, .int .i64 x.ht, .int .i64 x.dp, .int .i64 x.sh, .int .i64 x.kids])
  else if x.k = 7 then .iface 132 (.agg #[.int .i64 7, .int .i64 x.wd, .int .i64 x.ht, .int .i64 x.dp, .int .i64 x.sh, .int .i64 x.kids])
  else if x.k = 8 then .iface 99 (.agg #[.int .i64 x.fo, .int .i64 x.ch, .int .i64 x.wd, .int .i64 x.ht, .int .i64 x.dp])
  else if x.k = 9 then .iface 134 (.agg #[.int .i64 9, .string x.tx])
  else if x.k = 10 then .iface 134 (.agg #[.int .i64 10, .string x.tx])
  else if x.k = 11 then .iface 136 (.agg #[.int .i64 x.nn, .int .i64 x.ht, .int .i64 x.kids])
  else .nilIface
def ThingQ (x : Nd) (v : Value) : Prop := ThingP x v ∧ Ask x v ∧ v = thV x
theorem ask_1 (wd ht dp sh fo ch nn gs gp gpo gm gmo kids : Int) (tx : ByteArray) : Ask ⟨1, wd, ht, dp, sh, fo, ch, nn, gs, gp, gpo, gm, gmo, tx, kids⟩ (.iface 97 (.agg #[.int .i64 fo, .int .i64 ch, .int .i64 wd, .int .i64 ht, .int .i64 dp])) where
  bx := ⟨0, 0, 0, 0, 0, 0, fun _ => by kernel_rfl⟩
  sp := ⟨0, 0, 0, 0, 0, 0, fun _ => by kernel_rfl⟩
theorem ask_2 (wd ht dp sh fo ch nn gs gp gpo gm gmo kids : Int) (tx : ByteArray) : Ask ⟨2, wd, ht, dp, sh, fo, ch, nn, gs, gp, gpo, gm, gmo, tx, kids⟩ (.iface 128 (.agg #[.int .i64 wd])) where
  bx := ⟨0, 0, 0, 0, 0, 0, fun _ => by kernel_rfl⟩
  sp := ⟨0, 0, 0, 0, 0, 0, fun _ => by kernel_rfl⟩
theorem ask_3 (wd ht dp sh fo ch nn gs gp gpo gm gmo kids : Int) (tx : ByteArray) : Ask ⟨3, wd, ht, dp, sh, fo, ch, nn, gs, gp, gpo, gm, gmo, tx, kids⟩ (.iface 72 (.agg #[.int .i64 gs, .int .i64 gp, .int .i64 gpo, .int .i64 gm, .int .i64 gmo, .int .i64 wd])) where
  bx := ⟨0, 0, 0, 0, 0, 0, fun _ => by kernel_rfl⟩
  sp := ⟨gs, gp, gpo, gm, gmo, wd, fun _ => by kernel_rfl⟩
theorem ask_4 (wd ht dp sh fo ch nn gs gp gpo gm gmo kids : Int) (tx : ByteArray) : Ask ⟨4, wd, ht, dp, sh, fo, ch, nn, gs, gp, gpo, gm, gmo, tx, kids⟩ (.iface 75 (.agg #[.int .i64 nn])) where
  bx := ⟨0, 0, 0, 0, 0, 0, fun _ => by kernel_rfl⟩
  sp := ⟨0, 0, 0, 0, 0, 0, fun _ => by kernel_rfl⟩
theorem ask_5 (wd ht dp sh fo ch nn gs gp gpo gm gmo kids : Int) (tx : ByteArray) : Ask ⟨5, wd, ht, dp, sh, fo, ch, nn, gs, gp, gpo, gm, gmo, tx, kids⟩ (.iface 130 (.agg #[.int .i64 wd, .int .i64 ht, .int .i64 dp])) where
  bx := ⟨0, 0, 0, 0, 0, 0, fun _ => by kernel_rfl⟩
  sp := ⟨0, 0, 0, 0, 0, 0, fun _ => by kernel_rfl⟩
theorem ask_6 (wd ht dp sh fo ch nn gs gp gpo gm gmo kids : Int) (tx : ByteArray) : Ask ⟨6, wd, ht, dp, sh, fo, ch, nn, gs, gp, gpo, gm, gmo, tx, kids⟩ (.iface 132 (.agg #[.int .i64 6, .int .i64 wd, .int .i64 ht, .int .i64 dp, .int .i64 sh, .int .i64 kids])) where
  bx := ⟨6, wd, ht, dp, sh, kids, fun _ => by kernel_rfl⟩
  sp := ⟨0, 0, 0, 0, 0, 0, fun _ => by kernel_rfl⟩
theorem ask_7 (wd ht dp sh fo ch nn gs gp gpo gm gmo kids : Int) (tx : ByteArray) : Ask ⟨7, wd, ht, dp, sh, fo, ch, nn, gs, gp, gpo, gm, gmo, tx, kids⟩ (.iface 132 (.agg #[.int .i64 7, .int .i64 wd, .int .i64 ht, .int .i64 dp, .int .i64 sh, .int .i64 kids])) where
  bx := ⟨7, wd, ht, dp, sh, kids, fun _ => by kernel_rfl⟩
  sp := ⟨0, 0, 0, 0, 0, 0, fun _ => by kernel_rfl⟩
theorem ask_8 (wd ht dp sh fo ch nn gs gp gpo gm gmo kids : Int) (tx : ByteArray) : Ask ⟨8, wd, ht, dp, sh, fo, ch, nn, gs, gp, gpo, gm, gmo, tx, kids⟩ (.iface 99 (.agg #[.int .i64 fo, .int .i64 ch, .int .i64 wd, .int .i64 ht, .int .i64 dp])) where
  bx := ⟨0, 0, 0, 0, 0, 0, fun _ => by kernel_rfl⟩
  sp := ⟨0, 0, 0, 0, 0, 0, fun _ => by kernel_rfl⟩
theorem ask_9 (wd ht dp sh fo ch nn gs gp gpo gm gmo kids : Int) (tx : ByteArray) : Ask ⟨9, wd, ht, dp, sh, fo, ch, nn, gs, gp, gpo, gm, gmo, tx, kids⟩ (.iface 134 (.agg #[.int .i64 9, .string tx])) where
  bx := ⟨0, 0, 0, 0, 0, 0, fun _ => by kernel_rfl⟩
  sp := ⟨0, 0, 0, 0, 0, 0, fun _ => by kernel_rfl⟩
theorem ask_10 (wd ht dp sh fo ch nn gs gp gpo gm gmo kids : Int) (tx : ByteArray) : Ask ⟨10, wd, ht, dp, sh, fo, ch, nn, gs, gp, gpo, gm, gmo, tx, kids⟩ (.iface 134 (.agg #[.int .i64 10, .string tx])) where
  bx := ⟨0, 0, 0, 0, 0, 0, fun _ => by kernel_rfl⟩
  sp := ⟨0, 0, 0, 0, 0, 0, fun _ => by kernel_rfl⟩
theorem ask_11 (wd ht dp sh fo ch nn gs gp gpo gm gmo kids : Int) (tx : ByteArray) : Ask ⟨11, wd, ht, dp, sh, fo, ch, nn, gs, gp, gpo, gm, gmo, tx, kids⟩ (.iface 136 (.agg #[.int .i64 nn, .int .i64 ht, .int .i64 kids])) where
  bx := ⟨0, 0, 0, 0, 0, 0, fun _ => by kernel_rfl⟩
  sp := ⟨0, 0, 0, 0, 0, 0, fun _ => by kernel_rfl⟩
theorem ask_0 (x : Nd) (h : ¬ (1 ≤ x.k ∧ x.k ≤ 11)) : Ask x .nilIface where
  bx := ⟨0, 0, 0, 0, 0, 0, fun _ => by rw [show boxB x = false by simp [boxB]; omega]; kernel_rfl⟩
  sp := ⟨0, 0, 0, 0, 0, 0, fun _ => by rw [show glueB x = false by simp [glueB]; omega]; kernel_rfl⟩
theorem thing_q (x : Nd) (w : World) : Calls Try.prog 50 #[ndV x] w fun r w' => (∃ v, r = .returned v ∧ ThingQ x v) ∧ Below w.heap.size w w' := by
  obtain ⟨k, wd, ht, dp, sh, fo, ch, nn, gs, gp, gpo, gm, gmo, tx, kids⟩ := x
  by_cases hk : 1 ≤ k ∧ k ≤ 11
  · rcases kinds hk.1 hk.2 with rfl | rfl | rfl | rfl | rfl | rfl | rfl | rfl | rfl | rfl | rfl
    · refine (thing_1 wd ht dp sh fo ch nn gs gp gpo gm gmo kids tx w).mono ?_
      rintro e w' ⟨rfl, hb⟩
      exact ⟨⟨_, rfl, .inr ⟨_, _, _, _, _, _, rfl, thg_1 wd ht dp sh fo ch nn gs gp gpo gm gmo kids tx, .inr (nohld_1 wd ht dp sh fo ch nn gs gp gpo gm gmo kids tx)⟩, ask_1 wd ht dp sh fo ch nn gs gp gpo gm gmo kids tx, by simp [thV]⟩, hb⟩
    · refine (thing_2 wd ht dp sh fo ch nn gs gp gpo gm gmo kids tx w).mono ?_
      rintro e w' ⟨rfl, hb⟩
      exact ⟨⟨_, rfl, .inr ⟨_, _, _, _, _, _, rfl, thg_2 wd ht dp sh fo ch nn gs gp gpo gm gmo kids tx, .inr (nohld_2 wd ht dp sh fo ch nn gs gp gpo gm gmo kids tx)⟩, ask_2 wd ht dp sh fo ch nn gs gp gpo gm gmo kids tx, by simp [thV]⟩, hb⟩
    · refine (thing_3 wd ht dp sh fo ch nn gs gp gpo gm gmo kids tx w).mono ?_
      rintro e w' ⟨rfl, hb⟩
      exact ⟨⟨_, rfl, .inr ⟨_, _, _, _, _, _, rfl, thg_3 wd ht dp sh fo ch nn gs gp gpo gm gmo kids tx, .inr (nohld_3 wd ht dp sh fo ch nn gs gp gpo gm gmo kids tx)⟩, ask_3 wd ht dp sh fo ch nn gs gp gpo gm gmo kids tx, by simp [thV]⟩, hb⟩
    · refine (thing_4 wd ht dp sh fo ch nn gs gp gpo gm gmo kids tx w).mono ?_
      rintro e w' ⟨rfl, hb⟩
      exact ⟨⟨_, rfl, .inr ⟨_, _, _, _, _, _, rfl, thg_4 wd ht dp sh fo ch nn gs gp gpo gm gmo kids tx, .inr (nohld_4 wd ht dp sh fo ch nn gs gp gpo gm gmo kids tx)⟩, ask_4 wd ht dp sh fo ch nn gs gp gpo gm gmo kids tx, by simp [thV]⟩, hb⟩
    · refine (thing_5 wd ht dp sh fo ch nn gs gp gpo gm gmo kids tx w).mono ?_
      rintro e w' ⟨rfl, hb⟩
      exact ⟨⟨_, rfl, .inr ⟨_, _, _, _, _, _, rfl, thg_5 wd ht dp sh fo ch nn gs gp gpo gm gmo kids tx, .inr (nohld_5 wd ht dp sh fo ch nn gs gp gpo gm gmo kids tx)⟩, ask_5 wd ht dp sh fo ch nn gs gp gpo gm gmo kids tx, by simp [thV]⟩, hb⟩
    · refine (thing_6 wd ht dp sh fo ch nn gs gp gpo gm gmo kids tx w).mono ?_
      rintro e w' ⟨rfl, hb⟩
      exact ⟨⟨_, rfl, .inr ⟨_, _, _, _, _, _, rfl, thg_6 wd ht dp sh fo ch nn gs gp gpo gm gmo kids tx, .inl ⟨_, hld_6 wd ht dp sh fo ch nn gs gp gpo gm gmo kids tx⟩⟩, ask_6 wd ht dp sh fo ch nn gs gp gpo gm gmo kids tx, by simp [thV]⟩, hb⟩
    · refine (thing_7 wd ht dp sh fo ch nn gs gp gpo gm gmo kids tx w).mono ?_
      rintro e w' ⟨rfl, hb⟩
      exact ⟨⟨_, rfl, .inr ⟨_, _, _, _, _, _, rfl, thg_7 wd ht dp sh fo ch nn gs gp gpo gm gmo kids tx, .inl ⟨_, hld_7 wd ht dp sh fo ch nn gs gp gpo gm gmo kids tx⟩⟩, ask_7 wd ht dp sh fo ch nn gs gp gpo gm gmo kids tx, by simp [thV]⟩, hb⟩
    · refine (thing_8 wd ht dp sh fo ch nn gs gp gpo gm gmo kids tx w).mono ?_
      rintro e w' ⟨rfl, hb⟩
      exact ⟨⟨_, rfl, .inr ⟨_, _, _, _, _, _, rfl, thg_8 wd ht dp sh fo ch nn gs gp gpo gm gmo kids tx, .inr (nohld_8 wd ht dp sh fo ch nn gs gp gpo gm gmo kids tx)⟩, ask_8 wd ht dp sh fo ch nn gs gp gpo gm gmo kids tx, by simp [thV]⟩, hb⟩
    · refine (thing_9 wd ht dp sh fo ch nn gs gp gpo gm gmo kids tx w).mono ?_
      rintro e w' ⟨rfl, hb⟩
      exact ⟨⟨_, rfl, .inr ⟨_, _, _, _, _, _, rfl, thg_9 wd ht dp sh fo ch nn gs gp gpo gm gmo kids tx, .inr (nohld_9 wd ht dp sh fo ch nn gs gp gpo gm gmo kids tx)⟩, ask_9 wd ht dp sh fo ch nn gs gp gpo gm gmo kids tx, by simp [thV]⟩, hb⟩
    · refine (thing_10 wd ht dp sh fo ch nn gs gp gpo gm gmo kids tx w).mono ?_
      rintro e w' ⟨rfl, hb⟩
      exact ⟨⟨_, rfl, .inr ⟨_, _, _, _, _, _, rfl, thg_10 wd ht dp sh fo ch nn gs gp gpo gm gmo kids tx, .inr (nohld_10 wd ht dp sh fo ch nn gs gp gpo gm gmo kids tx)⟩, ask_10 wd ht dp sh fo ch nn gs gp gpo gm gmo kids tx, by simp [thV]⟩, hb⟩
    · refine (thing_11 wd ht dp sh fo ch nn gs gp gpo gm gmo kids tx w).mono ?_
      rintro e w' ⟨rfl, hb⟩
      exact ⟨⟨_, rfl, .inr ⟨_, _, _, _, _, _, rfl, thg_11 wd ht dp sh fo ch nn gs gp gpo gm gmo kids tx, .inl ⟨_, hld_11 wd ht dp sh fo ch nn gs gp gpo gm gmo kids tx⟩⟩, ask_11 wd ht dp sh fo ch nn gs gp gpo gm gmo kids tx, by simp [thV]⟩, hb⟩
  · refine (thing_0 k wd ht dp sh fo ch nn gs gp gpo gm gmo kids tx w hk).mono ?_
    rintro e w' ⟨rfl, hb⟩
    exact ⟨⟨_, rfl, .inl ⟨rfl, bad_kind _ hk⟩, ask_0 _ hk, by unfold thV; rw [if_neg (by simp only; omega), if_neg (by simp only; omega), if_neg (by simp only; omega), if_neg (by simp only; omega), if_neg (by simp only; omega), if_neg (by simp only; omega), if_neg (by simp only; omega), if_neg (by simp only; omega), if_neg (by simp only; omega), if_neg (by simp only; omega), if_neg (by simp only; omega)]⟩, hb⟩
end Go.Proofs.Ytdgfnceipginkaa
