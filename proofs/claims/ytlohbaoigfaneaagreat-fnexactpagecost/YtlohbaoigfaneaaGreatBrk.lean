import Derived.Test.YtlohbaoigfaneaaGreatRows
import Derived.Test.YtlohbaoigfaneaaGreatSpl
import Derived.Test.YtlohbaoigfaneaaGreatLok
import Derived.Test.YtlohbaoigfaneaaGreatNdq
import Derived.Deep.RegionWith
import Derived.ProofKit
import Derived.OpenShut
import Derived.ShutString
import Derived.ChangeOld
import Derived.Lib.SmallJoins
import Derived.Deep.Slices
import Derived.Test.YtlohbaoigfaneaaGreatThg
import Derived.Test.YtlohbaoigfaneaaGreatSts
import Derived.RegionTactic
import Derived.ChangeAlike
namespace Go.Proofs.YtlohbaoigfaneaaGreat
open Go.ChangeShapes Go.WideShapes Go.ChangeAt Go.RowKit Go.Joins
set_option linter.unusedVariables false
set_option linter.unusedSimpArgs false
theorem nest_big {v : Value} {xs : List Nd} {w : World} (h : NRow 0 w v xs) (hbig : ¬ xs.length ≤ 20000) (hs : xs.length ≤ 1048576) :
 Calls Tryz.prog 100 #[v] w fun e w' => e = .returned (.int .i64 (-1)) ∧ Below w.heap.size w w' := by
 obtain ⟨ao, n, cap, rfl, hl, hr⟩ := h
 have hni : (20000 : Int) < (n : Int) := by omega
 clear hr
 go_enter Tryz.func100, Tryz.ntmps100
 go_wp2
 go_ret
 exact ⟨rfl, Below.refl _ _⟩
theorem nest_all {v : Value} {xs : List Nd} {w : World} (h : NRow 0 w v xs) (hs : xs.length ≤ 1048576) :
 Calls Tryz.prog 100 #[v] w fun e w' => ∃ m : Int, e = .returned (.int .i64 m) ∧ (decide (0 ≤ m) && decide (m ≤ 41)) = listB xs ∧ Below w.heap.size w w' := by
 by_cases hbig : xs.length ≤ 20000
 ·refine (nest_any h hbig).mono ?_
  rintro e w' ⟨m, rfl, hm, hb⟩
  refine ⟨m, rfl, ?_, hb⟩
  rw [hm]
  unfold listB
  rw [decide_eq_true hbig]
  rfl
 ·refine (nest_big h hbig hs).mono ?_
  rintro e w' ⟨rfl, hb⟩
  refine ⟨-1, rfl, ?_, hb⟩
  unfold listB
  rw [decide_eq_false hbig]
  rfl
theorem specListOk_any {v : Value} {xs : List Nd} {w : World} (h : NRow 0 w v xs) (hs : xs.length ≤ 1048576) :
 Calls Tryz.prog 53 #[v] w fun e w' => e = .returned (.bool (listB xs)) ∧ Below w.heap.size w w' := by
 have HC := hideP (nest_all h hs)
 obtain ⟨ao, n, cap, rfl, hl, hr⟩ := h
 clear hr hl hs
 go_enter Tryz.func53, Tryz.ntmps53
 go_wp2_with fail
 refine HC.out.mono ?_
 rintro e w1 ⟨m, rfl, hm, hb1⟩
 have B1 := hideP hb1
 have HM := hideP hm
 clear hb1 hm
 cases h1 : decide (0 ≤ m) with
 | false =>
  have HE : Hid (listB xs = false) := hideP (by rw [← HM.out, h1]; rfl)
  go_wp2
  go_ret
  exact ⟨retB HE.out.symm, B1.out⟩
 | true =>
  cases h2 : decide (m ≤ 41) with
  | false =>
   have HE : Hid (listB xs = false) := hideP (by rw [← HM.out, h1, h2]; rfl)
   go_wp2
   go_ret
   exact ⟨retB HE.out.symm, B1.out⟩
  | true =>
   have HE : Hid (listB xs = true) := hideP (by rw [← HM.out, h1, h2]; rfl)
   go_wp2
   go_ret
   exact ⟨retB HE.out.symm, B1.out⟩
theorem ownT : ownKnob Tryz.prog.godebug = none := by kernel_rfl
theorem laidOut : laidOutB Tryz.prog = true := by kernel_rfl
theorem cells2 : Tryz.prog.cellsOf 2 = 1 := by kernel_rfl
theorem cells9 : Tryz.prog.cellsOf 9 = 1 := by kernel_rfl
theorem cells24 : Tryz.prog.cellsOf 24 = 5 := by kernel_rfl
theorem cells52 : Tryz.prog.cellsOf 52 = 15 := by kernel_rfl
theorem list5 {α : Type} {cs : List α} (h : cs.length = 5) : ∃ c0 c1 c2 c3 c4, cs = [c0, c1, c2, c3, c4] := by
 match cs, h with
 | [c0, c1, c2, c3, c4], _ => exact ⟨c0, c1, c2, c3, c4, rfl⟩
theorem list11 {α : Type} {cs : List α} (h : cs.length = 11) : ∃ c0 c1 c2 c3 c4 c5 c6 c7 c8 c9 c10, cs = [c0, c1, c2, c3, c4, c5, c6, c7, c8, c9, c10] := by
 match cs, h with
 | [c0, c1, c2, c3, c4, c5, c6, c7, c8, c9, c10], _ => exact ⟨c0, c1, c2, c3, c4, c5, c6, c7, c8, c9, c10, rfl⟩
theorem list15 {α : Type} {cs : List α} (h : cs.length = 15) : ∃ c0 c1 c2 c3 c4 c5 c6 c7 c8 c9 c10 c11 c12 c13 c14, cs = [c0, c1, c2, c3, c4, c5, c6, c7, c8, c9, c10, c11, c12, c13, c14] := by
 match cs, h with
 | [c0, c1, c2, c3, c4, c5, c6, c7, c8, c9, c10, c11, c12, c13, c14], _ => exact ⟨c0, c1, c2, c3, c4, c5, c6, c7, c8, c9, c10, c11, c12, c13, c14, rfl⟩
set_option maxRecDepth 100000 in
theorem openSlice {H : Type} {enc : TypeId × Value → H} {w : World} {base : Nat} {held : Bool} {fuel ty el sz : Nat} {v : Value} {y : DataW H × List MemPlace} {α : Type} {R : Nat → World → List Value → α → Prop} {F : α → Prop} (d : α)
 (hu : Tryz.prog.underlying ty = some (.slice el)) (hcell : Tryz.prog.cellsOf el = sz) (hpos : 0 < sz)
 (each : ∀ (fuel : Nat) (cs : List Value) (y : DataW H × List MemPlace), DataW.trod enc Tryz.prog w base (fun _ => true) held fuel el cs = some y → cs.length = sz → ∃ x, R 0 w cs x ∧ F x)
 (hf : DataW.trod enc Tryz.prog w base (fun _ => true) held fuel ty [v] = some y) : ∃ xs : List α, SRow sz R d 0 w v xs ∧ xs.length ≤ 9223372036854775807 ∧ ∀ i, i < xs.length → F (xs.getD i d) := by
 rcases Go.Deep.open_slice hu hf with ⟨hcs, hx⟩ | ⟨a, len, cap, m, n, D, Pl, hcs, _, hl, hm, hmm, hx, hel⟩
 ·simp at hcs
  subst hcs
  exact ⟨[], ⟨none, 0, 0, rfl, rfl, fun h => by omega⟩, Nat.zero_le _, fun i hi => by simp at hi⟩
 ·simp at hcs
  subst hcs
  by_cases h0 : len = 0
  ·subst h0
   exact ⟨[], ⟨_, 0, cap, rfl, rfl, fun h => by omega⟩, Nat.zero_le _, fun i hi => by simp at hi⟩
  ·rw [hcell] at hel
   have hplain : ∃ b off, a = ⟨b, off, none⟩ := by
    obtain ⟨cs', hcells, htr⟩ := hel 0 (by simp at hmm; omega)
    obtain ⟨_, hlen, hat⟩ := World.cells?_some hcells
    have h1 := hat 0 hpos
    rw [List.getElem?_eq_getElem (by omega)] at h1
    obtain ⟨b, off, spot⟩ := a
    have hspot : spot = none := by simpa [Addr.add] using World.cell?_spot h1
    subst hspot
    exact ⟨b, off, rfl⟩
   obtain ⟨b, off, rfl⟩ := hplain
   have each2 : ∀ i, i < len → ∃ x : α, F x ∧ ∃ cs : List Value, cs.length = sz ∧ R 0 w cs x ∧ ∀ j, j < sz → w.cell? ⟨b, off + i * sz + j, none⟩ = cs[j]? := by
    intro i hi
    obtain ⟨cs', hcells, htr⟩ := hel i (by simp at hmm; omega)
    rw [add_plain] at hcells
    obtain ⟨_, hlen, hat⟩ := World.cells?_some hcells
    obtain ⟨x, hR, hF⟩ := each _ _ _ htr hlen
    refine ⟨x, hF, cs', hlen, hR, fun j hj => ?_⟩
    have := hat j hj
    rw [add_plain] at this
    exact this
   let f : Nat → α := fun i => if hi : i < len then Classical.choose (each2 i hi) else d
   have hff : ∀ i, (hi : i < len) → F (f i) ∧ ∃ cs : List Value, cs.length = sz ∧ R 0 w cs (f i) ∧ ∀ j, j < sz → w.cell? ⟨b, off + i * sz + j, none⟩ = cs[j]? := by
    intro i hi
    have := Classical.choose_spec (each2 i hi)
    simp only [f, dif_pos hi]
    exact this
   have hget : ∀ i, i < len → ((List.range len).map f).getD i d = f i := by
    intro i hi
    simp [List.getD, List.getElem?_map, List.getElem?_range hi]
   have hblock : b < w.heap.size := by
    obtain ⟨_, cs, hcl, _, hj⟩ := hff 0 (by omega)
    have h1 := hj 0 hpos
    rw [List.getElem?_eq_getElem (by omega)] at h1
    exact World.block_lt_of_cell? w _ h1
   refine ⟨(List.range len).map f, ⟨_, len, cap, rfl, by simp, fun hp => ⟨b, off, rfl, Nat.zero_le _, hblock, fun i hi => ?_⟩⟩, ?_, ?_⟩
   ·rw [hget i hi]
    exact (hff i hi).2
   ·simp
    unfold maxLen at hm
    omega
   ·intro i hi
    have hi' : i < len := by simpa using hi
    rw [hget i hi']
    exact (hff i hi').1
set_option maxRecDepth 100000 in
theorem openNode {H : Type} {enc : TypeId × Value → H} {w : World} {base : Nat} {held : Bool} {fuel : Nat} {cs : List Value} {y : DataW H × List MemPlace} (hl : cs.length = 15)
 (hf : DataW.trod enc Tryz.prog w base (fun _ => true) held fuel 52 cs = some y) : ∃ x : Nd, NdR 0 w cs x ∧ FnN x := by
 obtain ⟨c0, c1, c2, c3, c4, c5, c6, c7, c8, c9, c10, c11, c12, c13, c14, rfl⟩ := list15 hl
 obtain ⟨xs, n, _, _, _, hlen, hfs⟩ := DataW.trod_struct Tryz.underlying52 hf
 obtain ⟨y0, y1, y2, y3, y4, y5, y6, y7, y8, y9, y10, rfl⟩ := list11 (by simpa using hlen)
 have g0 : DataW.trod enc Tryz.prog w base (fun _ => true) held n 2 [c0] = some y0 := by simpa [cells2, cells9, cells24] using hfs 0 _ rfl
 have g1 : DataW.trod enc Tryz.prog w base (fun _ => true) held n 2 [c1] = some y1 := by simpa [cells2, cells9, cells24] using hfs 1 _ rfl
 have g2 : DataW.trod enc Tryz.prog w base (fun _ => true) held n 2 [c2] = some y2 := by simpa [cells2, cells9, cells24] using hfs 2 _ rfl
 have g3 : DataW.trod enc Tryz.prog w base (fun _ => true) held n 2 [c3] = some y3 := by simpa [cells2, cells9, cells24] using hfs 3 _ rfl
 have g4 : DataW.trod enc Tryz.prog w base (fun _ => true) held n 2 [c4] = some y4 := by simpa [cells2, cells9, cells24] using hfs 4 _ rfl
 have g5 : DataW.trod enc Tryz.prog w base (fun _ => true) held n 2 [c5] = some y5 := by simpa [cells2, cells9, cells24] using hfs 5 _ rfl
 have g6 : DataW.trod enc Tryz.prog w base (fun _ => true) held n 2 [c6] = some y6 := by simpa [cells2, cells9, cells24] using hfs 6 _ rfl
 have g7 : DataW.trod enc Tryz.prog w base (fun _ => true) held n 2 [c7] = some y7 := by simpa [cells2, cells9, cells24] using hfs 7 _ rfl
 have g8 : DataW.trod enc Tryz.prog w base (fun _ => true) held n 24 [c8, c9, c10, c11, c12] = some y8 := by simpa [cells2, cells9, cells24] using hfs 8 _ rfl
 have g9 : DataW.trod enc Tryz.prog w base (fun _ => true) held n 9 [c13] = some y9 := by simpa [cells2, cells9, cells24] using hfs 9 _ rfl
 have g10 : DataW.trod enc Tryz.prog w base (fun _ => true) held n 2 [c14] = some y10 := by simpa [cells2, cells9, cells24] using hfs 10 _ rfl
 obtain ⟨xs2, n2, _, _, _, hlen2, hfs2⟩ := DataW.trod_struct Tryz.underlying24 g8
 obtain ⟨z0, z1, z2, z3, z4, rfl⟩ := list5 (by simpa using hlen2)
 have e0 : DataW.trod enc Tryz.prog w base (fun _ => true) held n2 2 [c8] = some z0 := by simpa [cells2] using hfs2 0 _ rfl
 have e1 : DataW.trod enc Tryz.prog w base (fun _ => true) held n2 2 [c9] = some z1 := by simpa [cells2] using hfs2 1 _ rfl
 have e2 : DataW.trod enc Tryz.prog w base (fun _ => true) held n2 2 [c10] = some z2 := by simpa [cells2] using hfs2 2 _ rfl
 have e3 : DataW.trod enc Tryz.prog w base (fun _ => true) held n2 2 [c11] = some z3 := by simpa [cells2] using hfs2 3 _ rfl
 have e4 : DataW.trod enc Tryz.prog w base (fun _ => true) held n2 2 [c12] = some z4 := by simpa [cells2] using hfs2 4 _ rfl
 obtain ⟨k, i0, _, _⟩ := DataW.trod_int Tryz.underlying2 g0
 obtain ⟨wd, i1, _, _⟩ := DataW.trod_int Tryz.underlying2 g1
 obtain ⟨ht, i2, _, _⟩ := DataW.trod_int Tryz.underlying2 g2
 obtain ⟨dp, i3, _, _⟩ := DataW.trod_int Tryz.underlying2 g3
 obtain ⟨sh, i4, _, _⟩ := DataW.trod_int Tryz.underlying2 g4
 obtain ⟨fo, i5, _, _⟩ := DataW.trod_int Tryz.underlying2 g5
 obtain ⟨ch, i6, _, _⟩ := DataW.trod_int Tryz.underlying2 g6
 obtain ⟨nn, i7, _, _⟩ := DataW.trod_int Tryz.underlying2 g7
 obtain ⟨kids, i10, _, _⟩ := DataW.trod_int Tryz.underlying2 g10
 obtain ⟨gs, j0, _, _⟩ := DataW.trod_int Tryz.underlying2 e0
 obtain ⟨gp, j1, _, _⟩ := DataW.trod_int Tryz.underlying2 e1
 obtain ⟨gpo, j2, _, _⟩ := DataW.trod_int Tryz.underlying2 e2
 obtain ⟨gm, j3, _, _⟩ := DataW.trod_int Tryz.underlying2 e3
 obtain ⟨gmo, j4, _, _⟩ := DataW.trod_int Tryz.underlying2 e4
 obtain ⟨tx, t0, ht0⟩ := DataW.trod_string Tryz.underlying9 g9
 simp only [List.cons.injEq, and_true] at i0 i1 i2 i3 i4 i5 i6 i7 i10 j0 j1 j2 j3 j4 t0
 refine ⟨⟨k, wd, ht, dp, sh, fo, ch, nn, gs, gp, gpo, gm, gmo, tx, kids⟩, ?_, by first | exact ht0.2 | (unfold FnN; dsimp only; omega)⟩
 simp only [NdR, Nd.cells, i0, i1, i2, i3, i4, i5, i6, i7, i10, j0, j1, j2, j3, j4, t0]
end Go.Proofs.YtlohbaoigfaneaaGreat
namespace Go.Proofs.YtlohbaoigfaneaaGreat
open Go.RowKit
set_option linter.unusedVariables false
set_option linter.unusedSimpArgs false
def boxB (x : Nd) : Bool := x.k == 6 || x.k == 7
def glueB (x : Nd) : Bool := x.k == 3
structure Ask (x : Nd) (v : Value) : Prop where
 bx : ∃ a b c d e f : Int, ∀ W : World, (Instr.typeAssert v 150 239 true).run Tryz.prog W = .ok (.tuple #[.agg #[.int .i64 a, .int .i64 b, .int .i64 c, .int .i64 d, .int .i64 e, .int .i64 f], .bool (boxB x)]) W
 sp : ∃ a b c d e f : Int, ∀ W : World, (Instr.typeAssert v 150 152 true).run Tryz.prog W = .ok (.tuple #[.agg #[.int .i64 a, .int .i64 b, .int .i64 c, .int .i64 d, .int .i64 e, .int .i64 f], .bool (glueB x)]) W
def thV (x : Nd) : Value :=
 if x.k = 1 then .iface 171 (.agg #[.int .i64 x.fo, .int .i64 x.ch, .int .i64 x.wd, .int .i64 x.ht, .int .i64 x.dp])
 else if x.k = 2 then .iface 224 (.agg #[.int .i64 x.wd])
 else if x.k = 3 then .iface 152 (.agg #[.int .i64 x.gs, .int .i64 x.gp, .int .i64 x.gpo, .int .i64 x.gm, .int .i64 x.gmo, .int .i64 x.wd])
 else if x.k = 4 then .iface 155 (.agg #[.int .i64 x.nn])
 else if x.k = 5 then .iface 237 (.agg #[.int .i64 x.wd, .int .i64 x.ht, .int .i64 x.dp])
 else if x.k = 6 then .iface 239 (.agg #[.int .i64 6, .int .i64 x.wd, .int .i64 x.ht, .int .i64 x.dp, .int .i64 x.sh, .int .i64 x.kids])
 else if x.k = 7 then .iface 239 (.agg #[.int .i64 7, .int .i64 x.wd, .int .i64 x.ht, .int .i64 x.dp, .int .i64 x.sh, .int .i64 x.kids])
 else if x.k = 8 then .iface 241 (.agg #[.int .i64 x.fo, .int .i64 x.ch, .int .i64 x.wd, .int .i64 x.ht, .int .i64 x.dp])
 else if x.k = 9 then .iface 243 (.agg #[.int .i64 9, .string x.tx])
 else if x.k = 10 then .iface 243 (.agg #[.int .i64 10, .string x.tx])
 else if x.k = 11 then .iface 188 (.agg #[.int .i64 x.nn, .int .i64 x.ht, .int .i64 x.kids])
 else .nilIface
def ThingQ (x : Nd) (v : Value) : Prop := ThingP x v ∧ Ask x v ∧ v = thV x
theorem ask_1 (wd ht dp sh fo ch nn gs gp gpo gm gmo kids : Int) (tx : ByteArray) : Ask ⟨1, wd, ht, dp, sh, fo, ch, nn, gs, gp, gpo, gm, gmo, tx, kids⟩ (.iface 171 (.agg #[.int .i64 fo, .int .i64 ch, .int .i64 wd, .int .i64 ht, .int .i64 dp])) where
 bx := ⟨0, 0, 0, 0, 0, 0, fun _ => by kernel_rfl⟩
 sp := ⟨0, 0, 0, 0, 0, 0, fun _ => by kernel_rfl⟩
theorem ask_2 (wd ht dp sh fo ch nn gs gp gpo gm gmo kids : Int) (tx : ByteArray) : Ask ⟨2, wd, ht, dp, sh, fo, ch, nn, gs, gp, gpo, gm, gmo, tx, kids⟩ (.iface 224 (.agg #[.int .i64 wd])) where
 bx := ⟨0, 0, 0, 0, 0, 0, fun _ => by kernel_rfl⟩
 sp := ⟨0, 0, 0, 0, 0, 0, fun _ => by kernel_rfl⟩
theorem ask_3 (wd ht dp sh fo ch nn gs gp gpo gm gmo kids : Int) (tx : ByteArray) : Ask ⟨3, wd, ht, dp, sh, fo, ch, nn, gs, gp, gpo, gm, gmo, tx, kids⟩ (.iface 152 (.agg #[.int .i64 gs, .int .i64 gp, .int .i64 gpo, .int .i64 gm, .int .i64 gmo, .int .i64 wd])) where
 bx := ⟨0, 0, 0, 0, 0, 0, fun _ => by kernel_rfl⟩
 sp := ⟨gs, gp, gpo, gm, gmo, wd, fun _ => by kernel_rfl⟩
theorem ask_4 (wd ht dp sh fo ch nn gs gp gpo gm gmo kids : Int) (tx : ByteArray) : Ask ⟨4, wd, ht, dp, sh, fo, ch, nn, gs, gp, gpo, gm, gmo, tx, kids⟩ (.iface 155 (.agg #[.int .i64 nn])) where
 bx := ⟨0, 0, 0, 0, 0, 0, fun _ => by kernel_rfl⟩
 sp := ⟨0, 0, 0, 0, 0, 0, fun _ => by kernel_rfl⟩
theorem ask_5 (wd ht dp sh fo ch nn gs gp gpo gm gmo kids : Int) (tx : ByteArray) : Ask ⟨5, wd, ht, dp, sh, fo, ch, nn, gs, gp, gpo, gm, gmo, tx, kids⟩ (.iface 237 (.agg #[.int .i64 wd, .int .i64 ht, .int .i64 dp])) where
 bx := ⟨0, 0, 0, 0, 0, 0, fun _ => by kernel_rfl⟩
 sp := ⟨0, 0, 0, 0, 0, 0, fun _ => by kernel_rfl⟩
theorem ask_6 (wd ht dp sh fo ch nn gs gp gpo gm gmo kids : Int) (tx : ByteArray) : Ask ⟨6, wd, ht, dp, sh, fo, ch, nn, gs, gp, gpo, gm, gmo, tx, kids⟩ (.iface 239 (.agg #[.int .i64 6, .int .i64 wd, .int .i64 ht, .int .i64 dp, .int .i64 sh, .int .i64 kids])) where
 bx := ⟨6, wd, ht, dp, sh, kids, fun _ => by kernel_rfl⟩
 sp := ⟨0, 0, 0, 0, 0, 0, fun _ => by kernel_rfl⟩
theorem ask_7 (wd ht dp sh fo ch nn gs gp gpo gm gmo kids : Int) (tx : ByteArray) : Ask ⟨7, wd, ht, dp, sh, fo, ch, nn, gs, gp, gpo, gm, gmo, tx, kids⟩ (.iface 239 (.agg #[.int .i64 7, .int .i64 wd, .int .i64 ht, .int .i64 dp, .int .i64 sh, .int .i64 kids])) where
 bx := ⟨7, wd, ht, dp, sh, kids, fun _ => by kernel_rfl⟩
 sp := ⟨0, 0, 0, 0, 0, 0, fun _ => by kernel_rfl⟩
theorem ask_8 (wd ht dp sh fo ch nn gs gp gpo gm gmo kids : Int) (tx : ByteArray) : Ask ⟨8, wd, ht, dp, sh, fo, ch, nn, gs, gp, gpo, gm, gmo, tx, kids⟩ (.iface 241 (.agg #[.int .i64 fo, .int .i64 ch, .int .i64 wd, .int .i64 ht, .int .i64 dp])) where
 bx := ⟨0, 0, 0, 0, 0, 0, fun _ => by kernel_rfl⟩
 sp := ⟨0, 0, 0, 0, 0, 0, fun _ => by kernel_rfl⟩
theorem ask_9 (wd ht dp sh fo ch nn gs gp gpo gm gmo kids : Int) (tx : ByteArray) : Ask ⟨9, wd, ht, dp, sh, fo, ch, nn, gs, gp, gpo, gm, gmo, tx, kids⟩ (.iface 243 (.agg #[.int .i64 9, .string tx])) where
 bx := ⟨0, 0, 0, 0, 0, 0, fun _ => by kernel_rfl⟩
 sp := ⟨0, 0, 0, 0, 0, 0, fun _ => by kernel_rfl⟩
theorem ask_10 (wd ht dp sh fo ch nn gs gp gpo gm gmo kids : Int) (tx : ByteArray) : Ask ⟨10, wd, ht, dp, sh, fo, ch, nn, gs, gp, gpo, gm, gmo, tx, kids⟩ (.iface 243 (.agg #[.int .i64 10, .string tx])) where
 bx := ⟨0, 0, 0, 0, 0, 0, fun _ => by kernel_rfl⟩
 sp := ⟨0, 0, 0, 0, 0, 0, fun _ => by kernel_rfl⟩
theorem ask_11 (wd ht dp sh fo ch nn gs gp gpo gm gmo kids : Int) (tx : ByteArray) : Ask ⟨11, wd, ht, dp, sh, fo, ch, nn, gs, gp, gpo, gm, gmo, tx, kids⟩ (.iface 188 (.agg #[.int .i64 nn, .int .i64 ht, .int .i64 kids])) where
 bx := ⟨0, 0, 0, 0, 0, 0, fun _ => by kernel_rfl⟩
 sp := ⟨0, 0, 0, 0, 0, 0, fun _ => by kernel_rfl⟩
theorem ask_0 (x : Nd) (h : ¬ (1 ≤ x.k ∧ x.k ≤ 11)) : Ask x .nilIface where
 bx := ⟨0, 0, 0, 0, 0, 0, fun _ => by rw [show boxB x = false by simp [boxB]; omega]; kernel_rfl⟩
 sp := ⟨0, 0, 0, 0, 0, 0, fun _ => by rw [show glueB x = false by simp [glueB]; omega]; kernel_rfl⟩
theorem thing_q (x : Nd) (w : World) : Calls Tryz.prog 107 #[ndV x] w fun r w' => (∃ v, r = .returned v ∧ ThingQ x v) ∧ Below w.heap.size w w' := by
 obtain ⟨k, wd, ht, dp, sh, fo, ch, nn, gs, gp, gpo, gm, gmo, tx, kids⟩ := x
 by_cases hk : 1 ≤ k ∧ k ≤ 11
 ·rcases kinds hk.1 hk.2 with rfl | rfl | rfl | rfl | rfl | rfl | rfl | rfl | rfl | rfl | rfl
  ·refine (thing_1 wd ht dp sh fo ch nn gs gp gpo gm gmo kids tx w).mono ?_
   rintro e w' ⟨rfl, hb⟩
   exact ⟨⟨_, rfl, .inr ⟨_, _, _, _, _, _, rfl, thg_1 wd ht dp sh fo ch nn gs gp gpo gm gmo kids tx, .inr (nohld_1 wd ht dp sh fo ch nn gs gp gpo gm gmo kids tx)⟩, ask_1 wd ht dp sh fo ch nn gs gp gpo gm gmo kids tx, by simp [thV]⟩, hb⟩
  ·refine (thing_2 wd ht dp sh fo ch nn gs gp gpo gm gmo kids tx w).mono ?_
   rintro e w' ⟨rfl, hb⟩
   exact ⟨⟨_, rfl, .inr ⟨_, _, _, _, _, _, rfl, thg_2 wd ht dp sh fo ch nn gs gp gpo gm gmo kids tx, .inr (nohld_2 wd ht dp sh fo ch nn gs gp gpo gm gmo kids tx)⟩, ask_2 wd ht dp sh fo ch nn gs gp gpo gm gmo kids tx, by simp [thV]⟩, hb⟩
  ·refine (thing_3 wd ht dp sh fo ch nn gs gp gpo gm gmo kids tx w).mono ?_
   rintro e w' ⟨rfl, hb⟩
   exact ⟨⟨_, rfl, .inr ⟨_, _, _, _, _, _, rfl, thg_3 wd ht dp sh fo ch nn gs gp gpo gm gmo kids tx, .inr (nohld_3 wd ht dp sh fo ch nn gs gp gpo gm gmo kids tx)⟩, ask_3 wd ht dp sh fo ch nn gs gp gpo gm gmo kids tx, by simp [thV]⟩, hb⟩
  ·refine (thing_4 wd ht dp sh fo ch nn gs gp gpo gm gmo kids tx w).mono ?_
   rintro e w' ⟨rfl, hb⟩
   exact ⟨⟨_, rfl, .inr ⟨_, _, _, _, _, _, rfl, thg_4 wd ht dp sh fo ch nn gs gp gpo gm gmo kids tx, .inr (nohld_4 wd ht dp sh fo ch nn gs gp gpo gm gmo kids tx)⟩, ask_4 wd ht dp sh fo ch nn gs gp gpo gm gmo kids tx, by simp [thV]⟩, hb⟩
  ·refine (thing_5 wd ht dp sh fo ch nn gs gp gpo gm gmo kids tx w).mono ?_
   rintro e w' ⟨rfl, hb⟩
   exact ⟨⟨_, rfl, .inr ⟨_, _, _, _, _, _, rfl, thg_5 wd ht dp sh fo ch nn gs gp gpo gm gmo kids tx, .inr (nohld_5 wd ht dp sh fo ch nn gs gp gpo gm gmo kids tx)⟩, ask_5 wd ht dp sh fo ch nn gs gp gpo gm gmo kids tx, by simp [thV]⟩, hb⟩
  ·refine (thing_6 wd ht dp sh fo ch nn gs gp gpo gm gmo kids tx w).mono ?_
   rintro e w' ⟨rfl, hb⟩
   exact ⟨⟨_, rfl, .inr ⟨_, _, _, _, _, _, rfl, thg_6 wd ht dp sh fo ch nn gs gp gpo gm gmo kids tx, .inl ⟨_, hld_6 wd ht dp sh fo ch nn gs gp gpo gm gmo kids tx⟩⟩, ask_6 wd ht dp sh fo ch nn gs gp gpo gm gmo kids tx, by simp [thV]⟩, hb⟩
  ·refine (thing_7 wd ht dp sh fo ch nn gs gp gpo gm gmo kids tx w).mono ?_
   rintro e w' ⟨rfl, hb⟩
   exact ⟨⟨_, rfl, .inr ⟨_, _, _, _, _, _, rfl, thg_7 wd ht dp sh fo ch nn gs gp gpo gm gmo kids tx, .inl ⟨_, hld_7 wd ht dp sh fo ch nn gs gp gpo gm gmo kids tx⟩⟩, ask_7 wd ht dp sh fo ch nn gs gp gpo gm gmo kids tx, by simp [thV]⟩, hb⟩
  ·refine (thing_8 wd ht dp sh fo ch nn gs gp gpo gm gmo kids tx w).mono ?_
   rintro e w' ⟨rfl, hb⟩
   exact ⟨⟨_, rfl, .inr ⟨_, _, _, _, _, _, rfl, thg_8 wd ht dp sh fo ch nn gs gp gpo gm gmo kids tx, .inr (nohld_8 wd ht dp sh fo ch nn gs gp gpo gm gmo kids tx)⟩, ask_8 wd ht dp sh fo ch nn gs gp gpo gm gmo kids tx, by simp [thV]⟩, hb⟩
  ·refine (thing_9 wd ht dp sh fo ch nn gs gp gpo gm gmo kids tx w).mono ?_
   rintro e w' ⟨rfl, hb⟩
   exact ⟨⟨_, rfl, .inr ⟨_, _, _, _, _, _, rfl, thg_9 wd ht dp sh fo ch nn gs gp gpo gm gmo kids tx, .inr (nohld_9 wd ht dp sh fo ch nn gs gp gpo gm gmo kids tx)⟩, ask_9 wd ht dp sh fo ch nn gs gp gpo gm gmo kids tx, by simp [thV]⟩, hb⟩
  ·refine (thing_10 wd ht dp sh fo ch nn gs gp gpo gm gmo kids tx w).mono ?_
   rintro e w' ⟨rfl, hb⟩
   exact ⟨⟨_, rfl, .inr ⟨_, _, _, _, _, _, rfl, thg_10 wd ht dp sh fo ch nn gs gp gpo gm gmo kids tx, .inr (nohld_10 wd ht dp sh fo ch nn gs gp gpo gm gmo kids tx)⟩, ask_10 wd ht dp sh fo ch nn gs gp gpo gm gmo kids tx, by simp [thV]⟩, hb⟩
  ·refine (thing_11 wd ht dp sh fo ch nn gs gp gpo gm gmo kids tx w).mono ?_
   rintro e w' ⟨rfl, hb⟩
   exact ⟨⟨_, rfl, .inr ⟨_, _, _, _, _, _, rfl, thg_11 wd ht dp sh fo ch nn gs gp gpo gm gmo kids tx, .inl ⟨_, hld_11 wd ht dp sh fo ch nn gs gp gpo gm gmo kids tx⟩⟩, ask_11 wd ht dp sh fo ch nn gs gp gpo gm gmo kids tx, by simp [thV]⟩, hb⟩
 ·refine (thing_0 k wd ht dp sh fo ch nn gs gp gpo gm gmo kids tx w hk).mono ?_
  rintro e w' ⟨rfl, hb⟩
  exact ⟨⟨_, rfl, .inl ⟨rfl, bad_kind _ hk⟩, ask_0 _ hk, by unfold thV; rw [if_neg (by simp only; omega), if_neg (by simp only; omega), if_neg (by simp only; omega), if_neg (by simp only; omega), if_neg (by simp only; omega), if_neg (by simp only; omega), if_neg (by simp only; omega), if_neg (by simp only; omega), if_neg (by simp only; omega), if_neg (by simp only; omega), if_neg (by simp only; omega)]⟩, hb⟩
theorem thV_0 (x : Nd) (hk : ¬ (1 ≤ x.k ∧ x.k ≤ 11)) : thV x = .nilIface := by
 unfold thV
 rw [if_neg (by omega), if_neg (by omega), if_neg (by omega), if_neg (by omega), if_neg (by omega), if_neg (by omega), if_neg (by omega), if_neg (by omega), if_neg (by omega), if_neg (by omega), if_neg (by omega)]
theorem ask_space (x : Nd) : ∃ c0 c1 c2 c3 c4 c5 : Int, (∀ W : World, (Instr.typeAssert (thV x) 150 152 true).run Tryz.prog W = .ok (.tuple #[.agg #[.int .i64 c0, .int .i64 c1, .int .i64 c2, .int .i64 c3, .int .i64 c4, .int .i64 c5], .bool (x.k == 3)]) W) ∧ (x.k = 3 → c0 = x.gs ∧ c1 = x.gp ∧ c2 = x.gpo ∧ c3 = x.gm ∧ c4 = x.gmo ∧ c5 = x.wd) := by
 obtain ⟨k, wd, ht, dp, sh, fo, ch, nn, gs, gp, gpo, gm, gmo, tx, kids⟩ := x
 by_cases hk : 1 ≤ k ∧ k ≤ 11
 ·rcases kinds hk.1 hk.2 with rfl | rfl | rfl | rfl | rfl | rfl | rfl | rfl | rfl | rfl | rfl
  ·exact ⟨0, 0, 0, 0, 0, 0, fun _ => by kernel_rfl, fun h => absurd h (by simp)⟩
  ·exact ⟨0, 0, 0, 0, 0, 0, fun _ => by kernel_rfl, fun h => absurd h (by simp)⟩
  ·exact ⟨gs, gp, gpo, gm, gmo, wd, fun _ => by kernel_rfl, fun _ => ⟨rfl, rfl, rfl, rfl, rfl, rfl⟩⟩
  ·exact ⟨0, 0, 0, 0, 0, 0, fun _ => by kernel_rfl, fun h => absurd h (by simp)⟩
  ·exact ⟨0, 0, 0, 0, 0, 0, fun _ => by kernel_rfl, fun h => absurd h (by simp)⟩
  ·exact ⟨0, 0, 0, 0, 0, 0, fun _ => by kernel_rfl, fun h => absurd h (by simp)⟩
  ·exact ⟨0, 0, 0, 0, 0, 0, fun _ => by kernel_rfl, fun h => absurd h (by simp)⟩
  ·exact ⟨0, 0, 0, 0, 0, 0, fun _ => by kernel_rfl, fun h => absurd h (by simp)⟩
  ·exact ⟨0, 0, 0, 0, 0, 0, fun _ => by kernel_rfl, fun h => absurd h (by simp)⟩
  ·exact ⟨0, 0, 0, 0, 0, 0, fun _ => by kernel_rfl, fun h => absurd h (by simp)⟩
  ·exact ⟨0, 0, 0, 0, 0, 0, fun _ => by kernel_rfl, fun h => absurd h (by simp)⟩
 ·exact ⟨0, 0, 0, 0, 0, 0, fun _ => by rw [thV_0 _ hk, show (k == 3) = false by simp; omega]; kernel_rfl, fun h => absurd (show k = 3 from h) (by omega)⟩
theorem ask_kern (x : Nd) : ∃ c0 : Int, (∀ W : World, (Instr.typeAssert (thV x) 150 224 true).run Tryz.prog W = .ok (.tuple #[.agg #[.int .i64 c0], .bool (x.k == 2)]) W) ∧ (x.k = 2 → c0 = x.wd) := by
 obtain ⟨k, wd, ht, dp, sh, fo, ch, nn, gs, gp, gpo, gm, gmo, tx, kids⟩ := x
 by_cases hk : 1 ≤ k ∧ k ≤ 11
 ·rcases kinds hk.1 hk.2 with rfl | rfl | rfl | rfl | rfl | rfl | rfl | rfl | rfl | rfl | rfl
  ·exact ⟨0, fun _ => by kernel_rfl, fun h => absurd h (by simp)⟩
  ·exact ⟨wd, fun _ => by kernel_rfl, fun _ => rfl⟩
  ·exact ⟨0, fun _ => by kernel_rfl, fun h => absurd h (by simp)⟩
  ·exact ⟨0, fun _ => by kernel_rfl, fun h => absurd h (by simp)⟩
  ·exact ⟨0, fun _ => by kernel_rfl, fun h => absurd h (by simp)⟩
  ·exact ⟨0, fun _ => by kernel_rfl, fun h => absurd h (by simp)⟩
  ·exact ⟨0, fun _ => by kernel_rfl, fun h => absurd h (by simp)⟩
  ·exact ⟨0, fun _ => by kernel_rfl, fun h => absurd h (by simp)⟩
  ·exact ⟨0, fun _ => by kernel_rfl, fun h => absurd h (by simp)⟩
  ·exact ⟨0, fun _ => by kernel_rfl, fun h => absurd h (by simp)⟩
  ·exact ⟨0, fun _ => by kernel_rfl, fun h => absurd h (by simp)⟩
 ·exact ⟨0, fun _ => by rw [thV_0 _ hk, show (k == 2) = false by simp; omega]; kernel_rfl, fun h => absurd (show k = 2 from h) (by omega)⟩
theorem ask_pen (x : Nd) : ∃ c0 : Int, (∀ W : World, (Instr.typeAssert (thV x) 150 155 true).run Tryz.prog W = .ok (.tuple #[.agg #[.int .i64 c0], .bool (x.k == 4)]) W) ∧ (x.k = 4 → c0 = x.nn) := by
 obtain ⟨k, wd, ht, dp, sh, fo, ch, nn, gs, gp, gpo, gm, gmo, tx, kids⟩ := x
 by_cases hk : 1 ≤ k ∧ k ≤ 11
 ·rcases kinds hk.1 hk.2 with rfl | rfl | rfl | rfl | rfl | rfl | rfl | rfl | rfl | rfl | rfl
  ·exact ⟨0, fun _ => by kernel_rfl, fun h => absurd h (by simp)⟩
  ·exact ⟨0, fun _ => by kernel_rfl, fun h => absurd h (by simp)⟩
  ·exact ⟨0, fun _ => by kernel_rfl, fun h => absurd h (by simp)⟩
  ·exact ⟨nn, fun _ => by kernel_rfl, fun _ => rfl⟩
  ·exact ⟨0, fun _ => by kernel_rfl, fun h => absurd h (by simp)⟩
  ·exact ⟨0, fun _ => by kernel_rfl, fun h => absurd h (by simp)⟩
  ·exact ⟨0, fun _ => by kernel_rfl, fun h => absurd h (by simp)⟩
  ·exact ⟨0, fun _ => by kernel_rfl, fun h => absurd h (by simp)⟩
  ·exact ⟨0, fun _ => by kernel_rfl, fun h => absurd h (by simp)⟩
  ·exact ⟨0, fun _ => by kernel_rfl, fun h => absurd h (by simp)⟩
  ·exact ⟨0, fun _ => by kernel_rfl, fun h => absurd h (by simp)⟩
 ·exact ⟨0, fun _ => by rw [thV_0 _ hk, show (k == 4) = false by simp; omega]; kernel_rfl, fun h => absurd (show k = 4 from h) (by omega)⟩
theorem ask_note (x : Nd) : ∃ c0 c1 c2 : Int, (∀ W : World, (Instr.typeAssert (thV x) 150 188 true).run Tryz.prog W = .ok (.tuple #[.agg #[.int .i64 c0, .int .i64 c1, .int .i64 c2], .bool (x.k == 11)]) W) ∧ (x.k = 11 → c0 = x.nn ∧ c1 = x.ht ∧ c2 = x.kids) := by
 obtain ⟨k, wd, ht, dp, sh, fo, ch, nn, gs, gp, gpo, gm, gmo, tx, kids⟩ := x
 by_cases hk : 1 ≤ k ∧ k ≤ 11
 ·rcases kinds hk.1 hk.2 with rfl | rfl | rfl | rfl | rfl | rfl | rfl | rfl | rfl | rfl | rfl
  ·exact ⟨0, 0, 0, fun _ => by kernel_rfl, fun h => absurd h (by simp)⟩
  ·exact ⟨0, 0, 0, fun _ => by kernel_rfl, fun h => absurd h (by simp)⟩
  ·exact ⟨0, 0, 0, fun _ => by kernel_rfl, fun h => absurd h (by simp)⟩
  ·exact ⟨0, 0, 0, fun _ => by kernel_rfl, fun h => absurd h (by simp)⟩
  ·exact ⟨0, 0, 0, fun _ => by kernel_rfl, fun h => absurd h (by simp)⟩
  ·exact ⟨0, 0, 0, fun _ => by kernel_rfl, fun h => absurd h (by simp)⟩
  ·exact ⟨0, 0, 0, fun _ => by kernel_rfl, fun h => absurd h (by simp)⟩
  ·exact ⟨0, 0, 0, fun _ => by kernel_rfl, fun h => absurd h (by simp)⟩
  ·exact ⟨0, 0, 0, fun _ => by kernel_rfl, fun h => absurd h (by simp)⟩
  ·exact ⟨0, 0, 0, fun _ => by kernel_rfl, fun h => absurd h (by simp)⟩
  ·exact ⟨nn, ht, kids, fun _ => by kernel_rfl, fun _ => ⟨rfl, rfl, rfl⟩⟩
 ·exact ⟨0, 0, 0, fun _ => by rw [thV_0 _ hk, show (k == 11) = false by simp; omega]; kernel_rfl, fun h => absurd (show k = 11 from h) (by omega)⟩
theorem thV_shape (x : Nd) : thV x = .nilIface ∨ ∃ X p, thV x = .iface X p := by
 obtain ⟨k, wd, ht, dp, sh, fo, ch, nn, gs, gp, gpo, gm, gmo, tx, kids⟩ := x
 by_cases hk : 1 ≤ k ∧ k ≤ 11
 ·rcases kinds hk.1 hk.2 with rfl | rfl | rfl | rfl | rfl | rfl | rfl | rfl | rfl | rfl | rfl
  ·exact .inr ⟨_, _, rfl⟩
  ·exact .inr ⟨_, _, rfl⟩
  ·exact .inr ⟨_, _, rfl⟩
  ·exact .inr ⟨_, _, rfl⟩
  ·exact .inr ⟨_, _, rfl⟩
  ·exact .inr ⟨_, _, rfl⟩
  ·exact .inr ⟨_, _, rfl⟩
  ·exact .inr ⟨_, _, rfl⟩
  ·exact .inr ⟨_, _, rfl⟩
  ·exact .inr ⟨_, _, rfl⟩
  ·exact .inr ⟨_, _, rfl⟩
 ·exact .inl (thV_0 _ hk)
def discB (x : Nd) : Bool := x.k == 3 || (x.k == 2 || x.k == 4)
abbrev itV (x : Nd) (a b : Int) : Value := .agg #[thV x, .int .i64 a, .int .i64 b]
set_option maxHeartbeats 4000000 in
theorem disc_any (x : Nd) (a b : Int) (w : World) : Calls Tryz.prog 93 #[itV x a b] w fun e w' => e = .returned (.bool (discB x)) ∧ Below w.heap.size w w' := by
 obtain ⟨s0, s1, s2, s3, s4, s5, hs, _⟩ := ask_space x
 obtain ⟨k0, hk, _⟩ := ask_kern x
 obtain ⟨p0, hp, _⟩ := ask_pen x
 have hsh := thV_shape x
 unfold discB
 simp only [itV]
 obtain ⟨v, hv⟩ : ∃ v, v = thV x := ⟨_, rfl⟩
 obtain ⟨b3, h3⟩ : ∃ b, b = (x.k == 3) := ⟨_, rfl⟩
 obtain ⟨b2, h2⟩ : ∃ b, b = (x.k == 2) := ⟨_, rfl⟩
 obtain ⟨b4, h4⟩ : ∃ b, b = (x.k == 4) := ⟨_, rfl⟩
 rw [← hv] at hs hk hp hsh ⊢
 rw [← h3] at hs ⊢
 rw [← h2] at hk ⊢
 rw [← h4] at hp ⊢
 clear hv h3 h2 h4
 rcases hsh with rfl | ⟨X, q, rfl⟩
 all_goals
  cases b3 <;> cases b2 <;> cases b4
 all_goals
  go_enter Tryz.func93, Tryz.ntmps93
  go_wp2
  go_ret
  exact ⟨rfl, below1 _ _⟩
abbrev It := Nd × Int × Int
abbrev It.none : It := (Nd.none, 0, 0)
structure ItR (w : World) (B : Nat) (ys : List It) : Prop where
 c0 : ∀ i, i < ys.length → w.cell? ⟨B, i * 3, none⟩ = some (thV (ys.getD i It.none).1)
 c1 : ∀ i, i < ys.length → w.cell? ⟨B, i * 3 + 1, none⟩ = some (.int .i64 (ys.getD i It.none).2.1)
 c2 : ∀ i, i < ys.length → w.cell? ⟨B, i * 3 + 2, none⟩ = some (.int .i64 (ys.getD i It.none).2.2)
def brkB (ys : List It) (a : Nat) : Bool :=
 if (ys.getD a It.none).1.k = 3 then decide (0 < a) && !discB (ys.getD (a - 1) It.none).1
 else if (ys.getD a It.none).1.k = 4 then decide ((ys.getD a It.none).1.nn < 10000) else false
def brkC (ys : List It) (a : Nat) : Int := if (ys.getD a It.none).1.k = 4 then (ys.getD a It.none).1.nn else 0
set_option maxRecDepth 20000 in
set_option maxHeartbeats 8000000 in
theorem breakAt_any {w : World} {B cap n : Nat} {ys : List It} (a : Nat) (h : ItR w B ys) (hl : ys.length = n) (hB : B < w.heap.size) (ha : a < n) (hn : n ≤ 20000) :
 Calls Tryz.prog 114 #[.slice (some ⟨B, 0, none⟩) n cap, .int .i64 (a : Int)] w fun e w' => e = .returned (.tuple #[.int .i64 (brkC ys a), .bool (brkB ys a)]) ∧ Below w.heap.size w w' := by
 have ha' : a < ys.length := by omega
 have hai : (a : Int) < (n : Int) := by omega
 have g0 := h.c0 a ha'
 obtain ⟨x, hx⟩ : ∃ x, x = (ys.getD a It.none).1 := ⟨_, rfl⟩
 rw [← hx] at g0
 obtain ⟨s0, s1, s2, s3, s4, s5, hs, _⟩ := ask_space x
 obtain ⟨p0, hp, hpn⟩ := ask_pen x
 have hsh := thV_shape x
 obtain ⟨R, hR⟩ : ∃ R, R = brkB ys a := ⟨_, rfl⟩
 rw [← hR]
 obtain ⟨C, hC⟩ : ∃ C, C = brkC ys a := ⟨_, rfl⟩
 rw [← hC]
 unfold brkC at hC
 rw [← hx] at hC
 have HC := hideP hC
 clear hC
 unfold brkB at hR
 rw [← hx] at hR
 have HR := hideP hR
 clear hR
 obtain ⟨v, hv⟩ : ∃ v, v = thV x := ⟨_, rfl⟩
 rw [← hv] at hs hp hsh g0
 clear hv
 by_cases h3 : x.k = 3
 ·rw [show (x.k == 3) = true by simp [h3]] at hs
  by_cases h0 : a = 0
  ·subst h0
   have HE : Hid (R = false) := hideP (by rw [HR.out, if_pos h3]; rfl)
   have HCc : Hid (C = 0) := hideP (by rw [HC.out, if_neg (by omega)])
   clear hp hpn h3 hx
   rcases hsh with rfl | ⟨X, q, rfl⟩
   all_goals
    go_enter Tryz.func114, Tryz.ntmps114
    go_wp2
    refine bodyPost_ret (v := .tuple #[.int .i64 0, .bool false]) (by simp [results, Tryz.results114, go_sem]) rfl ⟨by rw [HE.out, HCc.out], ?_⟩
    repeat (first | with_reducible exact below1 _ _ | with_reducible exact below2 _ _ _ | (with_reducible refine Below.setCell ?_ ?_ _; rotate_left; focus (first | (simp; done) | (simp; omega))))
  ·have hap : (0 : Int) < (a : Int) := by omega
   obtain ⟨d, hd⟩ : ∃ d, d = a - 1 := ⟨_, rfl⟩
   have hd' : d < ys.length := by omega
   have k0 := h.c0 d hd'
   have k1 := h.c1 d hd'
   have k2 := h.c2 d hd'
   obtain ⟨y, hy⟩ : ∃ y, y = ys.getD d It.none := ⟨_, rfl⟩
   rw [← hy] at k0 k1 k2
   obtain ⟨y, ya, ye⟩ := y
   simp only at k0 k1 k2
   have HCc : Hid (C = 0) := hideP (by rw [HC.out, if_neg (by omega)])
   have HE : Hid (R = !discB y) := hideP (by rw [HR.out, if_pos h3, ← hd, ← hy, decide_eq_true (by omega)]; rfl)
   have DC : Hid (∀ W, Calls Tryz.prog 93 #[.agg #[thV y, .int .i64 ya, .int .i64 ye]] W fun e w' => e = .returned (.bool (discB y)) ∧ Below W.heap.size W w') := hideP (fun W => disc_any y ya ye W)
   obtain ⟨vy, hvy⟩ : ∃ v, v = thV y := ⟨_, rfl⟩
   obtain ⟨dy, hdy⟩ : ∃ v, v = discB y := ⟨_, rfl⟩
   rw [← hvy] at k0 DC
   rw [← hdy] at DC HE
   have hone : vy.oneCell' = true := by
    rw [hvy]
    rcases thV_shape y with h | ⟨X, q, h⟩ <;> rw [h] <;> rfl
   have hdi : ((a : Int) - 1) = (d : Int) := by omega
   have hdn : (d : Int) < (n : Int) := by omega
   have hwd : IntKind.i64.wrap ((a : Int) - 1) = (d : Int) := by rw [IntKind.wrap_i64]; omega
   clear hvy hdy hy hp hpn h3 hx hd h
   rcases hsh with rfl | ⟨X, q, rfl⟩
   all_goals
    go_enter Tryz.func114, Tryz.ntmps114
    go_wp2_with fail
    refine (DC.out _).mono ?_
    rintro e w2 ⟨rfl, hb2⟩
    have BY : Hid (Below w.heap.size w w2) := hideP (below_more (below1 _ _) hb2 (by simp))
    clear hb2
    go_wp2
    refine bodyPost_ret (v := .tuple #[.int .i64 0, .bool (!dy)]) (by simp [results, Tryz.results114, go_sem]) rfl ⟨by rw [HE.out, HCc.out], BY.out⟩
 ·rw [show (x.k == 3) = false by simp [h3]] at hs
  by_cases h4 : x.k = 4
  ·rw [show (x.k == 4) = true by simp [h4]] at hp
   have HCc : Hid (C = p0) := hideP (by rw [HC.out, if_pos h4, hpn h4])
   have HE : Hid (R = decide (p0 < 10000)) := hideP (by rw [HR.out, if_neg h3, if_pos h4, hpn h4])
   clear hpn h3 hx h4 h
   rcases hsh with rfl | ⟨X, q, rfl⟩
   all_goals
    go_enter Tryz.func114, Tryz.ntmps114
    go_wp2
    go_region
    go_wp2
    refine bodyPost_ret (v := .tuple #[.int .i64 p0, .bool (decide (p0 < 10000))]) (by simp [results, Tryz.results114, go_sem]) rfl ⟨by rw [HE.out, HCc.out], ?_⟩
    exact Below.drew (below1 _ _)
  ·rw [show (x.k == 4) = false by simp [h4]] at hp
   have HE : Hid (R = false) := hideP (by rw [HR.out, if_neg h3, if_neg h4])
   have HCc : Hid (C = 0) := hideP (by rw [HC.out, if_neg h4])
   clear hpn h3 hx h4 h
   rcases hsh with rfl | ⟨X, q, rfl⟩
   all_goals
    go_enter Tryz.func114, Tryz.ntmps114
    go_wp2
    refine bodyPost_ret (v := .tuple #[.int .i64 0, .bool false]) (by simp [results, Tryz.results114, go_sem]) rfl ⟨by rw [HE.out, HCc.out], Below.refl _ _⟩
end Go.Proofs.YtlohbaoigfaneaaGreat
