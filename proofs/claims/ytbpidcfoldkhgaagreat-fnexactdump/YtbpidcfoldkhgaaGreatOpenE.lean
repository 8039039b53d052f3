import Derived.Test.YtbpidcfoldkhgaaGreatLevs
import Derived.Deep.RegionWith
import Derived.Test.YtbpidcfoldkhgaaGreatRowg
namespace Go.Proofs.YtbpidcfoldkhgaaGreat
open Go.RowKit
set_option linter.unusedVariables false
set_option linter.unusedSimpArgs false
abbrev SmE (xs : List Lv) : Prop := xs.length ≤ 1048576 ∧ ∀ i, i < xs.length → SmL (xs.getD i Lv.none)
abbrev FnE (xs : List Lv) : Prop := xs.length ≤ 9223372036854775807 ∧ ∀ i, i < xs.length → FnL (xs.getD i Lv.none)
set_option maxHeartbeats 2000000 in
theorem toEnv_any {v : Value} {xs : List Lv} {w : World} (h : LRow 0 w v xs) (hs : SmE xs) :
 Calls Tryz.prog 7 #[.agg #[v]] w fun e w' => ∃ v', e = .returned (.agg #[v']) ∧ LRow w.heap.size w' v' xs ∧ Below w.heap.size w w' := by
 have HX : Hid (LRow 0 w v xs) := h
 obtain ⟨ao, cap, rfl⟩ := h.shape
 have HS : Hid (SmE xs) := hs
 clear h hs
 go_enter Tryz.func7, Tryz.ntmps7
 go_wp2_with fail
 refine (toLevels_any (SRow.below lvStable HX (below3 _ _ _ _)) HS).mono ?_
 rintro e w1 ⟨u, rfl, hp1, hb1⟩
 obtain ⟨a1, c1, rfl⟩ := hp1.shape
 have hz1 : w.heap.size + 1 + 1 < w1.heap.size := by have := hb1.size; simp at this; omega
 have hy1 : w.heap.size + 1 < w1.heap.size := by omega
 have hx1 : w.heap.size < w1.heap.size := by omega
 obtain ⟨hc1, hf1⟩ := bcell hb1
 have B1 : Hid (Below w.heap.size w w1) := below_more (below3 _ _ _ _) hb1 (by simp; omega)
 simp only [World.size_alloc, World.size_setCell] at hc1 hf1
 have P2 : Hid (LRow (w.heap.size + 1 + 1 + 1) w1 (.slice a1 xs.length c1) xs) := hp1.mono lvStable (by simp)
 clear hb1 hp1
 go_wp2
 refine bodyPost_ret (v := .agg #[.slice a1 xs.length c1]) (by simp [results, Tryz.results7, go_sem, hc1, hx1, hy1, hz1]) rfl ⟨_, rfl, ?_, ?_⟩
 ·exact SRow.mono lvStable (SRow.abv lvStable (SRow.abv lvStable P2 (Abv.set (by omega) _)) (Abv.set (by omega) _)) (by omega)
 ·exact Below.setCell (Below.setCell B1 (by first | (simp; done) | (simp; omega)) _) (by first | (simp; done) | (simp; omega)) _
set_option maxHeartbeats 2000000 in
theorem eqEnv_same {v u : Value} {xs : List Lv} {w : World} (h : LRow 0 w v xs) (g : LRow 0 w u xs) (hs : SmE xs) :
 Calls Tryz.prog 10 #[.agg #[v], .agg #[u]] w fun e w' => e = .returned (.bool true) ∧ Below w.heap.size w w' := by
 have HX : Hid (LRow 0 w v xs ∧ LRow 0 w u xs) := ⟨h, g⟩
 obtain ⟨ao, cap, rfl⟩ := h.shape
 obtain ⟨ao2, cap2, rfl⟩ := g.shape
 have HS : Hid (SmE xs) := hs
 clear h g hs
 go_enter Tryz.func10, Tryz.ntmps10
 go_wp2_with fail
 refine (eqLevels_same (SRow.below lvStable HX.1 (below2 _ _ _)) (SRow.below lvStable HX.2 (below2 _ _ _)) HS).mono ?_
 rintro e w1 ⟨rfl, hb1⟩
 have B1 : Hid (Below w.heap.size w w1) := below_more (below2 _ _ _) hb1 (by simp; omega)
 clear hb1
 go_wp2
 go_ret
 exact ⟨rfl, B1⟩
end Go.Proofs.YtbpidcfoldkhgaaGreat
namespace Go.Proofs.YtbpidcfoldkhgaaGreat
open Go.ChangeShapes Go.WideShapes Go.ChangeAt Go.RowKit Go.Joins
set_option linter.unusedVariables false
set_option linter.unusedSimpArgs false
theorem cells40 : Tryz.prog.cellsOf 40 = 1 := by kernel_rfl
theorem cells72 : Tryz.prog.cellsOf 72 = 1 := by kernel_rfl
theorem cells73 : Tryz.prog.cellsOf 73 = 1 := by kernel_rfl
theorem cells74 : Tryz.prog.cellsOf 74 = 1 := by kernel_rfl
theorem cells76 : Tryz.prog.cellsOf 76 = 6 := by kernel_rfl
theorem cells139 : Tryz.prog.cellsOf 139 = 9 := by kernel_rfl
theorem cells145 : Tryz.prog.cellsOf 145 = 5 := by kernel_rfl
theorem cells22 : Tryz.prog.cellsOf 22 = 1 := by kernel_rfl
theorem list5 {α : Type} {cs : List α} (h : cs.length = 5) : ∃ c0 c1 c2 c3 c4, cs = [c0, c1, c2, c3, c4] := by
 match cs, h with
 | [c0, c1, c2, c3, c4], _ => exact ⟨c0, c1, c2, c3, c4, rfl⟩
theorem list6 {α : Type} {cs : List α} (h : cs.length = 6) : ∃ c0 c1 c2 c3 c4 c5, cs = [c0, c1, c2, c3, c4, c5] := by
 match cs, h with
 | [c0, c1, c2, c3, c4, c5], _ => exact ⟨c0, c1, c2, c3, c4, c5, rfl⟩
theorem list9 {α : Type} {cs : List α} (h : cs.length = 9) : ∃ c0 c1 c2 c3 c4 c5 c6 c7 c8, cs = [c0, c1, c2, c3, c4, c5, c6, c7, c8] := by
 match cs, h with
 | [c0, c1, c2, c3, c4, c5, c6, c7, c8], _ => exact ⟨c0, c1, c2, c3, c4, c5, c6, c7, c8, rfl⟩
theorem list1 {α : Type} {cs : List α} (h : cs.length = 1) : ∃ c0, cs = [c0] := by
 match cs, h with
 | [c0], _ => exact ⟨c0, rfl⟩
theorem list2 {α : Type} {cs : List α} (h : cs.length = 2) : ∃ c0 c1, cs = [c0, c1] := by
 match cs, h with
 | [c0, c1], _ => exact ⟨c0, c1, rfl⟩
set_option maxRecDepth 100000 in
theorem openSlice {H : Type} {enc : TypeId × Value → H} {w : World} {base : Nat} {held : Bool} {fuel ty el sz : Nat} {v : Value} {y : DataW H × List MemPlace} {α : Type} {R : Nat → World → List Value → α → Prop} {F : α → Prop} (d : α)
 (hu : Tryz.prog.underlying ty = some (.slice el)) (hcell : Tryz.prog.cellsOf el = sz) (hpos : 0 < sz)
 (each : ∀ (fuel : Nat) (cs : List Value) (y : DataW H × List MemPlace), DataW.trod enc Tryz.prog w base (fun _ => true) held fuel el cs = some y → cs.length = sz → ∃ x, R 0 w cs x ∧ F x)
 (hf : DataW.trod enc Tryz.prog w base (fun _ => true) held fuel ty [v] = some y) : ∃ xs : List α, SRow sz R d 0 w v xs ∧ xs.length ≤ 9223372036854775807 ∧ ∀ i, i < xs.length → F (xs.getD i d) := by
 rcases Go.Deep.open_slice hu hf with ⟨hcs, hx⟩ | ⟨a, len, cap, m, n, D, Pl, hcs, _, hl, hm, hmm, hx, hel⟩
 ·simp at hcs
  subst hcs
  exact ⟨[], ⟨none, 0, 0, rfl, rfl, fun h => by omega⟩, Nat.zero_le _, fun i hi => by simp at hi⟩
 ·simp at hcs
  subst hcs
  by_cases h0 : len = 0
  ·subst h0
   exact ⟨[], ⟨_, 0, cap, rfl, rfl, fun h => by omega⟩, Nat.zero_le _, fun i hi => by simp at hi⟩
  ·rw [hcell] at hel
   have hplain : ∃ b off, a = ⟨b, off, none⟩ := by
    obtain ⟨cs', hcells, htr⟩ := hel 0 (by simp at hmm; omega)
    obtain ⟨_, hlen, hat⟩ := World.cells?_some hcells
    have h1 := hat 0 hpos
    rw [List.getElem?_eq_getElem (by omega)] at h1
    obtain ⟨b, off, spot⟩ := a
    have hspot : spot = none := by simpa [Addr.add] using World.cell?_spot h1
    subst hspot
    exact ⟨b, off, rfl⟩
   obtain ⟨b, off, rfl⟩ := hplain
   have each2 : ∀ i, i < len → ∃ x : α, F x ∧ ∃ cs : List Value, cs.length = sz ∧ R 0 w cs x ∧ ∀ j, j < sz → w.cell? ⟨b, off + i * sz + j, none⟩ = cs[j]? := by
    intro i hi
    obtain ⟨cs', hcells, htr⟩ := hel i (by simp at hmm; omega)
    rw [add_plain] at hcells
    obtain ⟨_, hlen, hat⟩ := World.cells?_some hcells
    obtain ⟨x, hR, hF⟩ := each _ _ _ htr hlen
    refine ⟨x, hF, cs', hlen, hR, fun j hj => ?_⟩
    have := hat j hj
    rw [add_plain] at this
    exact this
   let f : Nat → α := fun i => if hi : i < len then Classical.choose (each2 i hi) else d
   have hff : ∀ i, (hi : i < len) → F (f i) ∧ ∃ cs : List Value, cs.length = sz ∧ R 0 w cs (f i) ∧ ∀ j, j < sz → w.cell? ⟨b, off + i * sz + j, none⟩ = cs[j]? := by
    intro i hi
    have := Classical.choose_spec (each2 i hi)
    simp only [f, dif_pos hi]
    exact this
   have hget : ∀ i, i < len → ((List.range len).map f).getD i d = f i := by
    intro i hi
    simp [List.getD, List.getElem?_map, List.getElem?_range hi]
   have hblock : b < w.heap.size := by
    obtain ⟨_, cs, hcl, _, hj⟩ := hff 0 (by omega)
    have h1 := hj 0 hpos
    rw [List.getElem?_eq_getElem (by omega)] at h1
    exact World.block_lt_of_cell? w _ h1
   refine ⟨(List.range len).map f, ⟨_, len, cap, rfl, by simp, fun hp => ⟨b, off, rfl, Nat.zero_le _, hblock, fun i hi => ?_⟩⟩, ?_, ?_⟩
   ·rw [hget i hi]
    exact (hff i hi).2
   ·simp
    unfold maxLen at hm
    omega
   ·intro i hi
    have hi' : i < len := by simpa using hi
    rw [hget i hi']
    exact (hff i hi').1
def IntR (lo : Nat) (w : World) (cs : List Value) (z : Int) : Prop := cs = [.int .i64 z]
def GlR (lo : Nat) (w : World) (cs : List Value) (g : Gl) : Prop := cs = [.int .i64 g.s, .int .i64 g.p, .int .i64 g.po, .int .i64 g.m, .int .i64 g.mo]
theorem rowOf {w : World} {v : Value} {zs : List Int} (h : SRow 1 IntR 0 0 w v zs) : Row w v zs := by
 obtain ⟨ao, n, cap, rfl, hn, hc⟩ := h
 refine ⟨ao, n, cap, rfl, hn, fun hp => ?_⟩
 obtain ⟨b, off, rfl, _, hb, hcell⟩ := hc hp
 refine ⟨b, off, rfl, hb, fun i hi => ?_⟩
 obtain ⟨cs, _, hR, hj⟩ := hcell i hi
 have h0 := hj 0 (by omega)
 rw [show cs = _ from hR] at h0
 simpa using h0
theorem growOf {w : World} {v : Value} {gs : List Gl} (h : SRow 5 GlR Gl.none 0 w v gs) : GRow w v gs := by
 obtain ⟨ao, n, cap, rfl, hn, hc⟩ := h
 refine ⟨ao, n, cap, rfl, hn, fun hp => ?_⟩
 obtain ⟨b, off, rfl, _, hb, hcell⟩ := hc hp
 refine ⟨b, off, rfl, hb, fun i hi => ?_⟩
 obtain ⟨cs, _, hR, hj⟩ := hcell i hi
 rw [show cs = _ from hR] at hj
 exact ⟨hj 0 (by omega), hj 1 (by omega), hj 2 (by omega), hj 3 (by omega), hj 4 (by omega)⟩
theorem openInts {H : Type} {enc : TypeId × Value → H} {w : World} {base : Nat} {held : Bool} {fuel : Nat} {v : Value} {y : DataW H × List MemPlace}
 (hf : DataW.trod enc Tryz.prog w base (fun _ => true) held fuel 40 [v] = some y) : ∃ zs : List Int, Row w v zs ∧ zs.length ≤ 9223372036854775807 := by
 obtain ⟨zs, h1, h2, _⟩ := openSlice (R := IntR) (F := fun _ => True) (0 : Int) Tryz.underlying40 cells2 (by omega) (fun fuel cs y ht hl => by
  obtain ⟨c0, rfl⟩ := list1 hl
  obtain ⟨z, e, _, _⟩ := DataW.trod_int Tryz.underlying2 ht
  exact ⟨z, e, trivial⟩) hf
 exact ⟨zs, rowOf h1, h2⟩
theorem openGlues {H : Type} {enc : TypeId × Value → H} {w : World} {base : Nat} {held : Bool} {fuel : Nat} {v : Value} {y : DataW H × List MemPlace}
 (hf : DataW.trod enc Tryz.prog w base (fun _ => true) held fuel 73 [v] = some y) : ∃ gs : List Gl, GRow w v gs ∧ gs.length ≤ 9223372036854775807 := by
 obtain ⟨gs, h1, h2, _⟩ := openSlice (R := GlR) (F := fun _ => True) Gl.none Tryz.underlying73 cells145 (by omega) (fun fuel cs y ht hl => by
  obtain ⟨c0, c1, c2, c3, c4, rfl⟩ := list5 hl
  obtain ⟨xs, n, _, _, _, hlen, hfs⟩ := DataW.trod_struct Tryz.underlying145 ht
  obtain ⟨y0, y1, y2, y3, y4, rfl⟩ := list5 (by simpa using hlen)
  have g0 : DataW.trod enc Tryz.prog w base (fun _ => true) held n 2 [c0] = some y0 := by simpa [cells2] using hfs 0 _ rfl
  have g1 : DataW.trod enc Tryz.prog w base (fun _ => true) held n 2 [c1] = some y1 := by simpa [cells2] using hfs 1 _ rfl
  have g2 : DataW.trod enc Tryz.prog w base (fun _ => true) held n 2 [c2] = some y2 := by simpa [cells2] using hfs 2 _ rfl
  have g3 : DataW.trod enc Tryz.prog w base (fun _ => true) held n 2 [c3] = some y3 := by simpa [cells2] using hfs 3 _ rfl
  have g4 : DataW.trod enc Tryz.prog w base (fun _ => true) held n 2 [c4] = some y4 := by simpa [cells2] using hfs 4 _ rfl
  obtain ⟨n0, e0, _, _⟩ := DataW.trod_int Tryz.underlying2 g0
  obtain ⟨n1, e1, _, _⟩ := DataW.trod_int Tryz.underlying2 g1
  obtain ⟨n2, e2, _, _⟩ := DataW.trod_int Tryz.underlying2 g2
  obtain ⟨n3, e3, _, _⟩ := DataW.trod_int Tryz.underlying2 g3
  obtain ⟨n4, e4, _, _⟩ := DataW.trod_int Tryz.underlying2 g4
  simp at e0 e1 e2 e3 e4
  subst e0 e1 e2 e3 e4
  exact ⟨⟨n0, n1, n2, n3, n4⟩, rfl, trivial⟩) hf
 exact ⟨gs, growOf h1, h2⟩
theorem openTss {H : Type} {enc : TypeId × Value → H} {w : World} {base : Nat} {held : Bool} {fuel : Nat} {v : Value} {y : DataW H × List MemPlace}
 (hf : DataW.trod enc Tryz.prog w base (fun _ => true) held fuel 74 [v] = some y) : ∃ tss : List (List Tk), TsRow 0 w v tss ∧ tss.length ≤ 9223372036854775807 ∧ ∀ i, i < tss.length → Fine (tss.getD i []) :=
 openSlice (R := TsR) (F := Fine) [] Tryz.underlying74 cells133 (by omega) (fun fuel cs y ht hl => by
  obtain ⟨c0, rfl⟩ := list1 hl
  obtain ⟨ts, hr, hfi⟩ := openToks ht
  exact ⟨ts, ⟨c0, rfl, TIn.zero hr⟩, hfi⟩) hf
theorem openBinds {H : Type} {enc : TypeId × Value → H} {w : World} {base : Nat} {held : Bool} {fuel : Nat} {v : Value} {y : DataW H × List MemPlace}
 (hf : DataW.trod enc Tryz.prog w base (fun _ => true) held fuel 72 [v] = some y) : ∃ bs : List Bd, BRow 0 w v bs ∧ bs.length ≤ 9223372036854775807 ∧ ∀ i, i < bs.length → FnB (bs.getD i Bd.none) :=
 openSlice (R := BdR) (F := FnB) Bd.none Tryz.underlying72 cells139 (by omega) (fun fuel cs y ht hl => by
  obtain ⟨c0, c1, c2, c3, c4, c5, c6, c7, c8, rfl⟩ := list9 hl
  obtain ⟨xs, n, _, _, _, hlen, hfs⟩ := DataW.trod_struct Tryz.underlying139 ht
  obtain ⟨y0, y1, rfl⟩ := list2 (by simpa using hlen)
  have g0 : DataW.trod enc Tryz.prog w base (fun _ => true) held n 9 [c0] = some y0 := by simpa [cells9] using hfs 0 _ rfl
  have g1 : DataW.trod enc Tryz.prog w base (fun _ => true) held n 137 [c1, c2, c3, c4, c5, c6, c7, c8] = some y1 := by simpa [cells137] using hfs 1 _ rfl
  obtain ⟨s, e0, _, hsz⟩ := DataW.trod_string Tryz.underlying9 g0
  obtain ⟨mk, mn, mt, vp, vb, mp, mb, ms, e1, hp, fp, hb, fb, ft⟩ := openMean g1
  simp at e0
  subst e0
  refine ⟨⟨s, ⟨mk, mn, mt, mp, ms, mb⟩⟩, ⟨vp, vb, by rw [e1], TIn.zero hp, TIn.zero hb⟩, hsz, ft, fp, fb⟩) hf
theorem openLevels {H : Type} {enc : TypeId × Value → H} {w : World} {base : Nat} {held : Bool} {fuel : Nat} {v : Value} {y : DataW H × List MemPlace}
 (hf : DataW.trod enc Tryz.prog w base (fun _ => true) held fuel 22 [v] = some y) : ∃ ls : List Lv, LRow 0 w v ls ∧ FnE ls :=
 openSlice (R := LvR) (F := FnL) Lv.none Tryz.underlying22 cells76 (by omega) (fun fuel cs y ht hl => by
  obtain ⟨c0, c1, c2, c3, c4, c5, rfl⟩ := list6 hl
  obtain ⟨xs, n, _, _, _, hlen, hfs⟩ := DataW.trod_struct Tryz.underlying76 ht
  obtain ⟨y0, y1, y2, y3, y4, y5, rfl⟩ := list6 (by simpa using hlen)
  have g0 : DataW.trod enc Tryz.prog w base (fun _ => true) held n 40 [c0] = some y0 := by simpa [cells40] using hfs 0 _ rfl
  have g1 : DataW.trod enc Tryz.prog w base (fun _ => true) held n 72 [c1] = some y1 := by simpa [cells72] using hfs 1 _ rfl
  have g2 : DataW.trod enc Tryz.prog w base (fun _ => true) held n 40 [c2] = some y2 := by simpa [cells40] using hfs 2 _ rfl
  have g3 : DataW.trod enc Tryz.prog w base (fun _ => true) held n 40 [c3] = some y3 := by simpa [cells40] using hfs 3 _ rfl
  have g4 : DataW.trod enc Tryz.prog w base (fun _ => true) held n 73 [c4] = some y4 := by simpa [cells73] using hfs 4 _ rfl
  have g5 : DataW.trod enc Tryz.prog w base (fun _ => true) held n 74 [c5] = some y5 := by simpa [cells74] using hfs 5 _ rfl
  obtain ⟨z0, r0, f0⟩ := openInts g0
  obtain ⟨z1, r1, f1⟩ := openBinds g1
  obtain ⟨z2, r2, f2⟩ := openInts g2
  obtain ⟨z3, r3, f3⟩ := openInts g3
  obtain ⟨z4, r4, f4⟩ := openGlues g4
  obtain ⟨z5, r5, f5⟩ := openTss g5
  exact ⟨⟨z0, z1, z2, z3, z4, z5⟩, ⟨c0, c1, c2, c3, c4, c5, rfl, RIn.zero r0, r1, RIn.zero r2, RIn.zero r3, GIn.zero r4, r5⟩, f0, f1, f2, f3, f4, f5⟩) hf
end Go.Proofs.YtbpidcfoldkhgaaGreat
