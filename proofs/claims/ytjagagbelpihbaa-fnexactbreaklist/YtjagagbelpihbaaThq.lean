/-
  Things of a node, asked whether they are boxes or spaces.
-/
import Derived.Test.YtjagagbelpihbaaRows
import Derived.Test.YtjagagbelpihbaaSpl
import Derived.Test.YtjagagbelpihbaaLok
import Derived.Test.YtjagagbelpihbaaNdq
import Derived.Deep.RegionWith
import Derived.ProofKit
import Derived.OpenShut
import Derived.ShutString
import Derived.ChangeOld
import Derived.Lib.SmallJoins
import Derived.Deep.Slices
namespace Go.Proofs.Ytjagagbelpihbaa
open Go.ChangeShapes Go.WideShapes Go.ChangeAt Go.RowKit Go.Joins
set_option linter.unusedVariables false
set_option linter.unusedSimpArgs false

theorem nest_big {v : Value} {xs : List Nd} {w : World} (h : NRow 0 w v xs) (hbig : ¬ xs.length ≤ 20000) (hs : xs.length ≤ 1048576) :
    Calls Try.prog 32 #[v] w fun e w' => e = .returned (.int .i64 (-1)) ∧ Below w.heap.size w w' := by
  obtain ⟨ao, n, cap, rfl, hl, hr⟩ := h
  have hni : (20000 : Int) < (n : Int) := by omega
  clear hr
  go_enter Try.func32, Try.ntmps32
  go_wp2
  go_ret
  exact ⟨rfl, Below.refl _ _⟩

theorem nest_all {v : Value} {xs : List Nd} {w : World} (h : NRow 0 w v xs) (hs : xs.length ≤ 1048576) :
    Calls Try.prog 32 #[v] w fun e w' => ∃ m : Int, e = .returned (.int .i64 m) ∧ (decide (0 ≤ m) && decide (m ≤ 41)) = listB xs ∧ Below w.heap.size w w' := by
  by_cases hbig : xs.length ≤ 20000
  · refine (nest_any h hbig).mono ?_
    rintro e w' ⟨m, rfl, hm, hb⟩
    refine ⟨m, rfl, ?_, hb⟩
    rw [hm]
    unfold listB
    rw [decide_eq_true hbig]
    rfl
  · refine (nest_big h hbig hs).mono ?_
    rintro e w' ⟨rfl, hb⟩
    refine ⟨-1, rfl, ?_, hb⟩
    unfold listB
    rw [decide_eq_false hbig]
    rfl

theorem specListOk_any {v : Value} {xs : List Nd} {w : World} (h : NRow 0 w v xs) (hs : xs.length ≤ 1048576) :
    Calls Try.prog 9 #[v] w fun e w' => e = .returned (.bool (listB xs)) ∧ Below w.heap.size w w' := by
  have HC := hideP (nest_all h hs)
  obtain ⟨ao, n, cap, rfl, hl, hr⟩ := h
  clear hr hl hs
  go_enter Try.func9, Try.ntmps9
  go_wp2_with fail
  refine HC.out.mono ?_
  rintro e w1 ⟨m, rfl, hm, hb1⟩
  have B1 := hideP hb1
  have HM := hideP hm
  clear hb1 hm
  cases h1 : decide (0 ≤ m) with
  | false =>
    have HE : Hid (listB xs = false) := hideP (by rw [← HM.out, h1]; rfl)
    go_wp2
    go_ret
    exact ⟨retB HE.out.symm, B1.out⟩
  | true =>
    cases h2 : decide (m ≤ 41) with
    | false =>
      have HE : Hid (listB xs = false) := hideP (by rw [← HM.out, h1, h2]; rfl)
      go_wp2
      go_ret
      exact ⟨retB HE.out.symm, B1.out⟩
    | true =>
      have HE : Hid (listB xs = true) := hideP (by rw [← HM.out, h1, h2]; rfl)
      go_wp2
      go_ret
      exact ⟨retB HE.out.symm, B1.out⟩

set_option maxRecDepth 20000 in
set_option maxHeartbeats 4000000 in
theorem lawListOk_any {v : Value} {xs : List Nd} {w : World} (h : NRow 0 w v xs) (hf : xs.length ≤ 9223372036854775807 ∧ ∀ i, i < xs.length → FnN (xs.getD i Nd.none)) :
    Calls Try.prog 3 #[v] w fun e w' => e = .returned (.bool true) ∧ Below w.heap.size w w' := by
  have HX := hideP h
  obtain ⟨ao, n, cap, rfl⟩ : ∃ a n c, v = .slice a n c := by obtain ⟨a, c, rfl⟩ := h.shape; exact ⟨_, _, _, rfl⟩
  have HF := hideP hf
  clear h hf
  go_enter Try.func3, Try.ntmps3
  go_wp2_with fail
  refine (szNodeS_any HX.out HF.out (by omega) (by omega)).mono ?_
  rintro e w1 ⟨⟨m, rfl, hml, hm⟩, hb1⟩
  have B1 : Hid (Below w.heap.size w w1) := hb1
  have HM := hideP hm
  clear hb1 hm
  by_cases hneg : m < 0
  · go_wp2
    go_ret
    exact ⟨rfl, B1⟩
  · have HS : Hid (xs.length ≤ 1048576) := hideP (HM.out (by omega)).1
    clear HM HF
    go_wp2_with fail
    refine (toNodeS_any (SRow.below ndStable HX.out B1) HS.out).mono ?_
    rintro e w2 ⟨v2, rfl, hp2, hb2⟩
    obtain ⟨a2, m2, c2, rfl⟩ : ∃ a n c, v2 = .slice a n c := by obtain ⟨a, c, rfl⟩ := hp2.shape; exact ⟨_, _, _, rfl⟩
    have B2 : Hid (Below w.heap.size w w2) := below_more B1 hb2 (Below.size B1)
    have P2 : Hid (NRow 0 w2 (.slice a2 m2 c2) xs) := hp2.mono ndStable (Nat.zero_le _)
    clear hb2 hp2
    go_wp2_with fail
    refine (specListOk_any P2.out HS.out).mono ?_
    rintro e w3 ⟨rfl, hb3⟩
    have B3 : Hid (Below w.heap.size w w3) := below_more B2 hb3 (Below.size B2)
    clear hb3 P2
    go_wp2_with fail
    refine (toNodeS_any (SRow.below ndStable HX.out B3) HS.out).mono ?_
    rintro e w4 ⟨v4, rfl, hp4, hb4⟩
    obtain ⟨a4, n4, c4, rfl⟩ : ∃ a n c, v4 = .slice a n c := by obtain ⟨a, c, rfl⟩ := hp4.shape; exact ⟨_, _, _, rfl⟩
    have B4 : Hid (Below w.heap.size w w4) := below_more B3 hb4 (Below.size B3)
    have P4 : Hid (NRow 0 w4 (.slice a4 n4 c4) xs) := hp4.mono ndStable (Nat.zero_le _)
    clear hb4 hp4
    obtain ⟨mb, hmb⟩ : ∃ mb, mb = listB xs := ⟨_, rfl⟩
    rw [← hmb]
    have CI : Hid (Calls Try.prog 11 #[.slice a4 n4 c4] w4 fun e w' => e = .returned (.bool mb) ∧ Below w4.heap.size w4 w') := hideP (by rw [hmb]; exact implListOk_any P4.out HS.out)
    clear hmb
    go_wp2_with fail
    refine CI.out.mono ?_
    rintro e w5 ⟨rfl, hb5⟩
    have B5 : Hid (Below w.heap.size w w5) := below_more B4 hb5 (Below.size B4)
    have P5 : Hid (NRow 0 w5 (.slice a4 n4 c4) xs) := hideP (SRow.below ndStable P4.out hb5)
    clear hb5 P4 CI
    go_wp2_with fail
    refine (toNodeS_any (SRow.below ndStable HX.out B5) HS.out).mono ?_
    rintro e w6 ⟨v6, rfl, hp6, hb6⟩
    obtain ⟨a6, m6, c6, rfl⟩ : ∃ a n c, v6 = .slice a n c := by obtain ⟨a, c, rfl⟩ := hp6.shape; exact ⟨_, _, _, rfl⟩
    have P6 : Hid (NRow 0 w6 (.slice a4 n4 c4) xs ∧ NRow 0 w6 (.slice a6 m6 c6) xs ∧ Below w.heap.size w w6) := ⟨SRow.below ndStable P5.out hb6, hp6.mono ndStable (Nat.zero_le _), below_more B5.out hb6 (Below.size B5)⟩
    clear hb6 hp6
    go_wp2_with fail
    refine (eqNodeS_same P6.1 P6.2.1 HS.out).mono ?_
    rintro e w7 ⟨rfl, hb7⟩
    have B7 : Hid (Below w.heap.size w w7) := below_more P6.2.2 hb7 (Below.size P6.2.2)
    clear hb7
    go_wp2
    go_ret
    exact ⟨rfl, B7.out⟩

theorem ownT : ownKnob Try.prog.godebug = none := by kernel_rfl
theorem laidOut : laidOutB Try.prog = true := by kernel_rfl
theorem cells2 : Try.prog.cellsOf 2 = 1 := by kernel_rfl
theorem cells9 : Try.prog.cellsOf 9 = 1 := by kernel_rfl
theorem cells35 : Try.prog.cellsOf 35 = 5 := by kernel_rfl
theorem cells57 : Try.prog.cellsOf 57 = 15 := by kernel_rfl
theorem list5 {α : Type} {cs : List α} (h : cs.length = 5) : ∃ c0 c1 c2 c3 c4, cs = [c0, c1, c2, c3, c4] := by
  match cs, h with
  | [c0, c1, c2, c3, c4], _ => exact ⟨c0, c1, c2, c3, c4, rfl⟩
theorem list11 {α : Type} {cs : List α} (h : cs.length = 11) : ∃ c0 c1 c2 c3 c4 c5 c6 c7 c8 c9 c10, cs = [c0, c1, c2, c3, c4, c5, c6, c7, c8, c9, c10] := by
  match cs, h with
  | [c0, c1, c2, c3, c4, c5, c6, c7, c8, c9, c10], _ => exact ⟨c0, c1, c2, c3, c4, c5, c6, c7, c8, c9, c10, rfl⟩
theorem list15 {α : Type} {cs : List α} (h : cs.length = 15) : ∃ c0 c1 c2 c3 c4 c5 c6 c7 c8 c9 c10 c11 c12 c13 c14, cs = [c0, c1, c2, c3, c4, c5, c6, c7, c8, c9, c10, c11, c12, c13, c14] := by
  match cs, h with
  | [c0, c1, c2, c3, c4, c5, c6, c7, c8, c9, c10, c11, c12, c13, c14], _ => exact ⟨c0, c1, c2, c3, c4, c5, c6, c7, c8, c9, c10, c11, c12, c13, c14, rfl⟩
set_option maxRecDepth 100000 in
/-- A slice that comes in, in its cell, by what one element is. -/
theorem openSlice {H : Type} {enc : TypeId × Value → H} {w : World} {base : Nat} {held : Bool} {fuel ty el sz : Nat} {v : Value} {y : DataW H × List MemPlace} {α : Type} {R : Nat → World → List Value → α → Prop} {F : α → Prop} (d : α)
    (hu : Try.prog.underlying ty = some (.slice el)) (hcell : Try.prog.cellsOf el = sz) (hpos : 0 < sz)
    (each : ∀ (fuel : Nat) (cs : List Value) (y : DataW H × List MemPlace), DataW.trod enc Try.prog w base (fun _ => true) held fuel el cs = some y → cs.length = sz → ∃ x, R 0 w cs x ∧ F x)
    (hf : DataW.trod enc Try.prog w base (fun _ => true) held fuel ty [v] = some y) : ∃ xs : List α, SRow sz R d 0 w v xs ∧ xs.length ≤ 9223372036854775807 ∧ ∀ i, i < xs.length → F (xs.getD i d) := by
  rcases Go.Deep.open_slice hu hf with ⟨hcs, hx⟩ | ⟨a, len, cap, m, n, D, Pl, hcs, _, hl, hm, hmm, hx, hel⟩
  · simp at hcs
    subst hcs
    exact ⟨[], ⟨none, 0, 0, rfl, rfl, fun h => by omega⟩, Nat.zero_le _, fun i hi => by simp at hi⟩
  · simp at hcs
    subst hcs
    by_cases h0 : len = 0
    · subst h0
      exact ⟨[], ⟨_, 0, cap, rfl, rfl, fun h => by omega⟩, Nat.zero_le _, fun i hi => by simp at hi⟩
    · rw [hcell] at hel
      have hplain : ∃ b off, a = ⟨b, off, none⟩ := by
        obtain ⟨cs', hcells, htr⟩ := hel 0 (by simp at hmm; omega)
        obtain ⟨_, hlen, hat⟩ := World.cells?_some hcells
        have h1 := hat 0 hpos
        rw [List.getElem?_eq_getElem (by omega)] at h1
        obtain ⟨b, off, spot⟩ := a
        have hspot : spot = none := by simpa [Addr.add] using World.cell?_spot h1
        subst hspot
        exact ⟨b, off, rfl⟩
      obtain ⟨b, off, rfl⟩ := hplain
      have each2 : ∀ i, i < len → ∃ x : α, F x ∧ ∃ cs : List Value, cs.length = sz ∧ R 0 w cs x ∧ ∀ j, j < sz → w.cell? ⟨b, off + i * sz + j, none⟩ = cs[j]? := by
        intro i hi
        obtain ⟨cs', hcells, htr⟩ := hel i (by simp at hmm; omega)
        rw [add_plain] at hcells
        obtain ⟨_, hlen, hat⟩ := World.cells?_some hcells
        obtain ⟨x, hR, hF⟩ := each _ _ _ htr hlen
        refine ⟨x, hF, cs', hlen, hR, fun j hj => ?_⟩
        have := hat j hj
        rw [add_plain] at this
        exact this
      let f : Nat → α := fun i => if hi : i < len then Classical.choose (each2 i hi) else d
      have hff : ∀ i, (hi : i < len) → F (f i) ∧ ∃ cs : List Value, cs.length = sz ∧ R 0 w cs (f i) ∧ ∀ j, j < sz → w.cell? ⟨b, off + i * sz + j, none⟩ = cs[j]? := by
        intro i hi
        have := Classical.choose_spec (each2 i hi)
        simp only [f, dif_pos hi]
        exact this
      have hget : ∀ i, i < len → ((List.range len).map f).getD i d = f i := by
        intro i hi
        simp [List.getD, List.getElem?_map, List.getElem?_range hi]
      have hblock : b < w.heap.size := by
        obtain ⟨_, cs, hcl, _, hj⟩ := hff 0 (by omega)
        have h1 := hj 0 hpos
        rw [List.getElem?_eq_getElem (by omega)] at h1
        exact World.block_lt_of_cell? w _ h1
      refine ⟨(List.range len).map f, ⟨_, len, cap, rfl, by simp, fun hp => ⟨b, off, rfl, Nat.zero_le _, hblock, fun i hi => ?_⟩⟩, ?_, ?_⟩
      · rw [hget i hi]
        exact (hff i hi).2
      · simp
        unfold maxLen at hm
        omega
      · intro i hi
        have hi' : i < len := by simpa using hi
        rw [hget i hi']
        exact (hff i hi').1


set_option maxRecDepth 100000 in
theorem openNode {H : Type} {enc : TypeId × Value → H} {w : World} {base : Nat} {held : Bool} {fuel : Nat} {cs : List Value} {y : DataW H × List MemPlace} (hl : cs.length = 15)
    (hf : DataW.trod enc Try.prog w base (fun _ => true) held fuel 57 cs = some y) : ∃ x : Nd, NdR 0 w cs x ∧ FnN x := by
  obtain ⟨c0, c1, c2, c3, c4, c5, c6, c7, c8, c9, c10, c11, c12, c13, c14, rfl⟩ := list15 hl
  obtain ⟨xs, n, _, _, _, hlen, hfs⟩ := DataW.trod_struct Try.underlying57 hf
  obtain ⟨y0, y1, y2, y3, y4, y5, y6, y7, y8, y9, y10, rfl⟩ := list11 (by simpa using hlen)
  have g0 : DataW.trod enc Try.prog w base (fun _ => true) held n 2 [c0] = some y0 := by simpa [cells2, cells9, cells35] using hfs 0 _ rfl
  have g1 : DataW.trod enc Try.prog w base (fun _ => true) held n 2 [c1] = some y1 := by simpa [cells2, cells9, cells35] using hfs 1 _ rfl
  have g2 : DataW.trod enc Try.prog w base (fun _ => true) held n 2 [c2] = some y2 := by simpa [cells2, cells9, cells35] using hfs 2 _ rfl
  have g3 : DataW.trod enc Try.prog w base (fun _ => true) held n 2 [c3] = some y3 := by simpa [cells2, cells9, cells35] using hfs 3 _ rfl
  have g4 : DataW.trod enc Try.prog w base (fun _ => true) held n 2 [c4] = some y4 := by simpa [cells2, cells9, cells35] using hfs 4 _ rfl
  have g5 : DataW.trod enc Try.prog w base (fun _ => true) held n 2 [c5] = some y5 := by simpa [cells2, cells9, cells35] using hfs 5 _ rfl
  have g6 : DataW.trod enc Try.prog w base (fun _ => true) held n 2 [c6] = some y6 := by simpa [cells2, cells9, cells35] using hfs 6 _ rfl
  have g7 : DataW.trod enc Try.prog w base (fun _ => true) held n 2 [c7] = some y7 := by simpa [cells2, cells9, cells35] using hfs 7 _ rfl
  have g8 : DataW.trod enc Try.prog w base (fun _ => true) held n 35 [c8, c9, c10, c11, c12] = some y8 := by simpa [cells2, cells9, cells35] using hfs 8 _ rfl
  have g9 : DataW.trod enc Try.prog w base (fun _ => true) held n 9 [c13] = some y9 := by simpa [cells2, cells9, cells35] using hfs 9 _ rfl
  have g10 : DataW.trod enc Try.prog w base (fun _ => true) held n 2 [c14] = some y10 := by simpa [cells2, cells9, cells35] using hfs 10 _ rfl
  obtain ⟨xs2, n2, _, _, _, hlen2, hfs2⟩ := DataW.trod_struct Try.underlying35 g8
  obtain ⟨z0, z1, z2, z3, z4, rfl⟩ := list5 (by simpa using hlen2)
  have e0 : DataW.trod enc Try.prog w base (fun _ => true) held n2 2 [c8] = some z0 := by simpa [cells2] using hfs2 0 _ rfl
  have e1 : DataW.trod enc Try.prog w base (fun _ => true) held n2 2 [c9] = some z1 := by simpa [cells2] using hfs2 1 _ rfl
  have e2 : DataW.trod enc Try.prog w base (fun _ => true) held n2 2 [c10] = some z2 := by simpa [cells2] using hfs2 2 _ rfl
  have e3 : DataW.trod enc Try.prog w base (fun _ => true) held n2 2 [c11] = some z3 := by simpa [cells2] using hfs2 3 _ rfl
  have e4 : DataW.trod enc Try.prog w base (fun _ => true) held n2 2 [c12] = some z4 := by simpa [cells2] using hfs2 4 _ rfl
  obtain ⟨k, i0, _, _⟩ := DataW.trod_int Try.underlying2 g0
  obtain ⟨wd, i1, _, _⟩ := DataW.trod_int Try.underlying2 g1
  obtain ⟨ht, i2, _, _⟩ := DataW.trod_int Try.underlying2 g2
  obtain ⟨dp, i3, _, _⟩ := DataW.trod_int Try.underlying2 g3
  obtain ⟨sh, i4, _, _⟩ := DataW.trod_int Try.underlying2 g4
  obtain ⟨fo, i5, _, _⟩ := DataW.trod_int Try.underlying2 g5
  obtain ⟨ch, i6, _, _⟩ := DataW.trod_int Try.underlying2 g6
  obtain ⟨nn, i7, _, _⟩ := DataW.trod_int Try.underlying2 g7
  obtain ⟨kids, i10, _, _⟩ := DataW.trod_int Try.underlying2 g10
  obtain ⟨gs, j0, _, _⟩ := DataW.trod_int Try.underlying2 e0
  obtain ⟨gp, j1, _, _⟩ := DataW.trod_int Try.underlying2 e1
  obtain ⟨gpo, j2, _, _⟩ := DataW.trod_int Try.underlying2 e2
  obtain ⟨gm, j3, _, _⟩ := DataW.trod_int Try.underlying2 e3
  obtain ⟨gmo, j4, _, _⟩ := DataW.trod_int Try.underlying2 e4
  obtain ⟨tx, t0, ht0⟩ := DataW.trod_string Try.underlying9 g9
  simp only [List.cons.injEq, and_true] at i0 i1 i2 i3 i4 i5 i6 i7 i10 j0 j1 j2 j3 j4 t0
  refine ⟨⟨k, wd, ht, dp, sh, fo, ch, nn, gs, gp, gpo, gm, gmo, tx, kids⟩, ?_, by first | exact ht0.2 | (unfold FnN; dsimp only; omega)⟩
  simp only [NdR, Nd.cells, i0, i1, i2, i3, i4, i5, i6, i7, i10, j0, j1, j2, j3, j4, t0]

set_option maxRecDepth 100000 in
theorem listOk_lifted (os : Os) (started : os.Started) (H : Type) (enc : TypeId × Value → H) :
    ReturnsInHanded {} Try.checked os 3 .any (Rows.fnExactListOkSpec.pre6 enc Try.prog Try.f3 Rows.fnExactListOkRow.domain false) (Rows.fnExactListOkSpec.post enc Try.prog Try.f3 false true false false) := by
  refine returnsInHanded_of_change (C := Try.checked) ownT started (by kernel_rfl) Try.func3
    (ChangeSpec.witness6 (enc := enc) (C := Try.checked) false ⟨#[], #[.slice none 0 0], []⟩ 8 (by kernel_rfl) (by kernel_rfl) (by kernel_rfl) (by kernel_rfl)) ?_
  intro W base args ds gs before hval0 hW hcnd _
  have hval : ∀ (j : Nat) t v, Try.f3.params[j]? = some t → args[j]? = some v → Value.okWide Try.prog W .any base t v := hval0
  have hW' := hW
  obtain ⟨p, q, hA0, hV, rfl, hfz, hnd⟩ := hW
  have hA : DataW.TrodAll enc Try.prog W 0 (fun _ => true) true Try.f3.params.toList args.toList ds p := hA0
  rw [Try.params3] at hA hval
  obtain ⟨v0, vs0, d0, ds0, p0, q0, hargs, rfl, rfl, h0, r0⟩ := trodAll_cons hA
  obtain ⟨rfl, rfl, rfl⟩ := trodAll_nil r0
  obtain rfl : args = #[v0] := by cases args; simp_all
  obtain ⟨rfl, rfl⟩ := trodVars_none hV
  have k0 := h0
  have lt0 : ∀ x ∈ p0, x.block < W.heap.size := by obtain ⟨m, hm⟩ := k0; exact DataW.trod_lt m _ _ _ hm
  obtain ⟨ao, len, cap, rfl⟩ := okWide_slice Try.underlying22 (hval 0 22 v0 rfl rfl)
  obtain ⟨fuel, hf⟩ := h0
  have hf' : DataW.trod enc Try.prog W 0 (fun _ => true) true fuel 22 [.slice ao len cap] = some (d0, p0) := by simpa [Value.cells] using hf
  obtain ⟨xs, hr, hl, hF⟩ := openSlice (R := NdR) (F := FnN) Nd.none Try.underlying22 cells57 (by omega) (fun fuel cs y ht hl => openNode hl ht) hf'
  clear hA0 hval0
  refine (lawListOk_any hr ⟨hl, hF⟩).mono fun e W' ⟨he, bel⟩ => ?_
  subst he
  exact ⟨_, rfl, _, _, _, [], _, [], hW', trodAll_mk1 (shut_bool Try.underlying4 _), (trodAll_cons_mk (Below.trod laidOut (by kernel_rfl) (of_decide_eq_true (by kernel_rfl)) k0 bel lt0) trodAll_mk0), rfl, bel.frame _, fun h => by cases h⟩

theorem listOk_holds : Rows.FnExactListOkSaid :=
  OpenClaim.holds_of_wide 3 Try.f3 rfl rfl rfl rfl rfl rfl rfl ⟨rfl, rfl, rfl, rfl, rfl⟩ rfl rfl rfl rfl rfl (by kernel_rfl) Try.func3 (by kernel_rfl)
    (of_decide_eq_true (by kernel_rfl)) (by unfold Func.isWrapper; first | (rw [if_pos (by decide +kernel)]; kernel_rfl) | (rw [if_neg (by decide +kernel)]; exact ⟨rfl, rfl⟩))
    (fun os started H enc _ => listOk_lifted os started H enc)
#print axioms listOk_holds
end Go.Proofs.Ytjagagbelpihbaa
namespace Go.Proofs.Ytjagagbelpihbaa
open Go.RowKit
set_option linter.unusedVariables false
set_option linter.unusedSimpArgs false

def boxB (x : Nd) : Bool := x.k == 6 || x.k == 7
def glueB (x : Nd) : Bool := x.k == 3
/-- The assertions to a box and to a space. -/
structure Ask (x : Nd) (v : Value) : Prop where
  bx : ∃ a b c d e f : Int, ∀ W : World, (Instr.typeAssert v 64 123 true).run Try.prog W = .ok (.tuple #[.agg #[.int .i64 a, .int .i64 b, .int .i64 c, .int .i64 d, .int .i64 e, .int .i64 f], .bool (boxB x)]) W
  sp : ∃ a b c d e f : Int, ∀ W : World, (Instr.typeAssert v 64 117 true).run Try.prog W = .ok (.tuple #[.agg #[.int .i64 a, .int .i64 b, .int .i64 c, .int .i64 d, .int .i64 e, .int .i64 f], .bool (glueB x)]) W
/-- The value that the thing of a node is. -/
def thV (x : Nd) : Value :=
  if x.k = 1 then .iface 113 (.agg #[.int .i64 x.fo, .int .i64 x.ch, .int .i64 x.wd, .int .i64 x.ht, .int .i64 x.dp])
  else if x.k = 2 then .iface 115 (.agg #[.int .i64 x.wd])
  else if x.k = 3 then .iface 117 (.agg #[.int .i64 x.gs, .int .i64 x.gp, .int .i64 x.gpo, .int .i64 x.gm, .int .i64 x.gmo, .int .i64 x.wd])
  else if x.k = 4 then .iface 119 (.agg #[.int .i64 x.nn])
  else if x.k = 5 then .iface 121 (.agg #[.int .i64 x.wd, .int .i64 x.ht, .int .i64 x.dp])
  else if x.k = 6 then .iface 123 (.agg #[.int .i64 6, .int .i64 x.wd, .int .i64 x.ht, .int .i64 x.dp, .int .i64 x.sh, .int .i64 x.kids])
  else if x.k = 7 then .iface 123 (.agg #[.int .i64 7, .int .i64 x.wd, .int .i64 x.ht, .int .i64 x.dp, .int .i64 x.sh, .int .i64 x.kids])
  else if x.k = 8 then .iface 125 (.agg #[.int .i64 x.fo, .int .i64 x.ch, .int .i64 x.wd, .int .i64 x.ht, .int .i64 x.dp])
  else if x.k = 9 then .iface 127 (.agg #[.int .i64 9, .string x.tx])
  else if x.k = 10 then .iface 127 (.agg #[.int .i64 10, .string x.tx])
  else if x.k = 11 then .iface 129 (.agg #[.int .i64 x.nn, .int .i64 x.ht, .int .i64 x.kids])
  else .nilIface
def ThingQ (x : Nd) (v : Value) : Prop := ThingP x v ∧ Ask x v ∧ v = thV x
theorem ask_1 (wd ht dp sh fo ch nn gs gp gpo gm gmo kids : Int) (tx : ByteArray) : Ask ⟨1, wd, ht, dp, sh, fo, ch, nn, gs, gp, gpo, gm, gmo, tx, kids⟩ (.iface 113 (.agg #[.int .i64 fo, .int .i64 ch, .int .i64 wd, .int .i64 ht, .int .i64 dp])) where
  bx := ⟨0, 0, 0, 0, 0, 0, fun _ => by kernel_rfl⟩
  sp := ⟨0, 0, 0, 0, 0, 0, fun _ => by kernel_rfl⟩
theorem ask_2 (wd ht dp sh fo ch nn gs gp gpo gm gmo kids : Int) (tx : ByteArray) : Ask ⟨2, wd, ht, dp, sh, fo, ch, nn, gs, gp, gpo, gm, gmo, tx, kids⟩ (.iface 115 (.agg #[.int .i64 wd])) where
  bx := ⟨0, 0, 0, 0, 0, 0, fun _ => by kernel_rfl⟩
  sp := ⟨0, 0, 0, 0, 0, 0, fun _ => by kernel_rfl⟩
theorem ask_3 (wd ht dp sh fo ch nn gs gp gpo gm gmo kids : Int) (tx : ByteArray) : Ask ⟨3, wd, ht, dp, sh, fo, ch, nn, gs, gp, gpo, gm, gmo, tx, kids⟩ (.iface 117 (.agg #[.int .i64 gs, .int .i64 gp, .int .i64 gpo, .int .i64 gm, .int .i64 gmo, .int .i64 wd])) where
  bx := ⟨0, 0, 0, 0, 0, 0, fun _ => by kernel_rfl⟩
  sp := ⟨gs, gp, gpo, gm, gmo, wd, fun _ => by kernel_rfl⟩
theorem ask_4 (wd ht dp sh fo ch nn gs gp gpo gm gmo kids : Int) (tx : ByteArray) : Ask ⟨4, wd, ht, dp, sh, fo, ch, nn, gs, gp, gpo, gm, gmo, tx, kids⟩ (.iface 119 (.agg #[.int .i64 nn])) where
  bx := ⟨0, 0, 0, 0, 0, 0, fun _ => by kernel_rfl⟩
  sp := ⟨0, 0, 0, 0, 0, 0, fun _ => by kernel_rfl⟩
theorem ask_5 (wd ht dp sh fo ch nn gs gp gpo gm gmo kids : Int) (tx : ByteArray) : Ask ⟨5, wd, ht, dp, sh, fo, ch, nn, gs, gp, gpo, gm, gmo, tx, kids⟩ (.iface 121 (.agg #[.int .i64 wd, .int .i64 ht, .int .i64 dp])) where
  bx := ⟨0, 0, 0, 0, 0, 0, fun _ => by kernel_rfl⟩
  sp := ⟨0, 0, 0, 0, 0, 0, fun _ => by kernel_rfl⟩
theorem ask_6 (wd ht dp sh fo ch nn gs gp gpo gm gmo kids : Int) (tx : ByteArray) : Ask ⟨6, wd, ht, dp, sh, fo, ch, nn, gs, gp, gpo, gm, gmo, tx, kids⟩ (.iface 123 (.agg #[.int .i64 6, .int .i64 wd, .int .i64 ht, .int .i64 dp, .int .i64 sh, .int .i64 kids])) where
  bx := ⟨6, wd, ht, dp, sh, kids, fun _ => by kernel_rfl⟩
  sp := ⟨0, 0, 0, 0, 0, 0, fun _ => by kernel_rfl⟩
theorem ask_7 (wd ht dp sh fo ch nn gs gp gpo gm gmo kids : Int) (tx : ByteArray) : Ask ⟨7, wd, ht, dp, sh, fo, ch, nn, gs, gp, gpo, gm, gmo, tx, kids⟩ (.iface 123 (.agg #[.int .i64 7, .int .i64 wd, .int .i64 ht, .int .i64 dp, .int .i64 sh, .int .i64 kids])) where
  bx := ⟨7, wd, ht, dp, sh, kids, fun _ => by kernel_rfl⟩
  sp := ⟨0, 0, 0, 0, 0, 0, fun _ => by kernel_rfl⟩
theorem ask_8 (wd ht dp sh fo ch nn gs gp gpo gm gmo kids : Int) (tx : ByteArray) : Ask ⟨8, wd, ht, dp, sh, fo, ch, nn, gs, gp, gpo, gm, gmo, tx, kids⟩ (.iface 125 (.agg #[.int .i64 fo, .int .i64 ch, .int .i64 wd, .int .i64 ht, .int .i64 dp])) where
  bx := ⟨0, 0, 0, 0, 0, 0, fun _ => by kernel_rfl⟩
  sp := ⟨0, 0, 0, 0, 0, 0, fun _ => by kernel_rfl⟩
theorem ask_9 (wd ht dp sh fo ch nn gs gp gpo gm gmo kids : Int) (tx : ByteArray) : Ask ⟨9, wd, ht, dp, sh, fo, ch, nn, gs, gp, gpo, gm, gmo, tx, kids⟩ (.iface 127 (.agg #[.int .i64 9, .string tx])) where
  bx := ⟨0, 0, 0, 0, 0, 0, fun _ => by kernel_rfl⟩
  sp := ⟨0, 0, 0, 0, 0, 0, fun _ => by kernel_rfl⟩
theorem ask_10 (wd ht dp sh fo ch nn gs gp gpo gm gmo kids : Int) (tx : ByteArray) : Ask ⟨10, wd, ht, dp, sh, fo, ch, nn, gs, gp, gpo, gm, gmo, tx, kids⟩ (.iface 127 (.agg #[.int .i64 10, .string tx])) where
  bx := ⟨0, 0, 0, 0, 0, 0, fun _ => by kernel_rfl⟩
  sp := ⟨0, 0, 0, 0, 0, 0, fun _ => by kernel_rfl⟩
theorem ask_11 (wd ht dp sh fo ch nn gs gp gpo gm gmo kids : Int) (tx : ByteArray) : Ask ⟨11, wd, ht, dp, sh, fo, ch, nn, gs, gp, gpo, gm, gmo, tx, kids⟩ (.iface 129 (.agg #[.int .i64 nn, .int .i64 ht, .int .i64 kids])) where
  bx := ⟨0, 0, 0, 0, 0, 0, fun _ => by kernel_rfl⟩
  sp := ⟨0, 0, 0, 0, 0, 0, fun _ => by kernel_rfl⟩
theorem ask_0 (x : Nd) (h : ¬ (1 ≤ x.k ∧ x.k ≤ 11)) : Ask x .nilIface where
  bx := ⟨0, 0, 0, 0, 0, 0, fun _ => by rw [show boxB x = false by simp [boxB]; omega]; kernel_rfl⟩
  sp := ⟨0, 0, 0, 0, 0, 0, fun _ => by rw [show glueB x = false by simp [glueB]; omega]; kernel_rfl⟩
theorem thing_q (x : Nd) (w : World) : Calls Try.prog 34 #[ndV x] w fun r w' => (∃ v, r = .returned v ∧ ThingQ x v) ∧ Below w.heap.size w w' := by
  obtain ⟨k, wd, ht, dp, sh, fo, ch, nn, gs, gp, gpo, gm, gmo, tx, kids⟩ := x
  by_cases hk : 1 ≤ k ∧ k ≤ 11
  · rcases kinds hk.1 hk.2 with rfl | rfl | rfl | rfl | rfl | rfl | rfl | rfl | rfl | rfl | rfl
    · refine (thing_1 wd ht dp sh fo ch nn gs gp gpo gm gmo kids tx w).mono ?_
      rintro e w' ⟨rfl, hb⟩
      exact ⟨⟨_, rfl, .inr ⟨_, _, _, _, _, _, rfl, thg_1 wd ht dp sh fo ch nn gs gp gpo gm gmo kids tx, .inr (nohld_1 wd ht dp sh fo ch nn gs gp gpo gm gmo kids tx)⟩, ask_1 wd ht dp sh fo ch nn gs gp gpo gm gmo kids tx, by simp [thV]⟩, hb⟩
    · refine (thing_2 wd ht dp sh fo ch nn gs gp gpo gm gmo kids tx w).mono ?_
      rintro e w' ⟨rfl, hb⟩
      exact ⟨⟨_, rfl, .inr ⟨_, _, _, _, _, _, rfl, thg_2 wd ht dp sh fo ch nn gs gp gpo gm gmo kids tx, .inr (nohld_2 wd ht dp sh fo ch nn gs gp gpo gm gmo kids tx)⟩, ask_2 wd ht dp sh fo ch nn gs gp gpo gm gmo kids tx, by simp [thV]⟩, hb⟩
    · refine (thing_3 wd ht dp sh fo ch nn gs gp gpo gm gmo kids tx w).mono ?_
      rintro e w' ⟨rfl, hb⟩
      exact ⟨⟨_, rfl, .inr ⟨_, _, _, _, _, _, rfl, thg_3 wd ht dp sh fo ch nn gs gp gpo gm gmo kids tx, .inr (nohld_3 wd ht dp sh fo ch nn gs gp gpo gm gmo kids tx)⟩, ask_3 wd ht dp sh fo ch nn gs gp gpo gm gmo kids tx, by simp [thV]⟩, hb⟩
    · refine (thing_4 wd ht dp sh fo ch nn gs gp gpo gm gmo kids tx w).mono ?_
      rintro e w' ⟨rfl, hb⟩
      exact ⟨⟨_, rfl, .inr ⟨_, _, _, _, _, _, rfl, thg_4 wd ht dp sh fo ch nn gs gp gpo gm gmo kids tx, .inr (nohld_4 wd ht dp sh fo ch nn gs gp gpo gm gmo kids tx)⟩, ask_4 wd ht dp sh fo ch nn gs gp gpo gm gmo kids tx, by simp [thV]⟩, hb⟩
    · refine (thing_5 wd ht dp sh fo ch nn gs gp gpo gm gmo kids tx w).mono ?_
      rintro e w' ⟨rfl, hb⟩
      exact ⟨⟨_, rfl, .inr ⟨_, _, _, _, _, _, rfl, thg_5 wd ht dp sh fo ch nn gs gp gpo gm gmo kids tx, .inr (nohld_5 wd ht dp sh fo ch nn gs gp gpo gm gmo kids tx)⟩, ask_5 wd ht dp sh fo ch nn gs gp gpo gm gmo kids tx, by simp [thV]⟩, hb⟩
    · refine (thing_6 wd ht dp sh fo ch nn gs gp gpo gm gmo kids tx w).mono ?_
      rintro e w' ⟨rfl, hb⟩
      exact ⟨⟨_, rfl, .inr ⟨_, _, _, _, _, _, rfl, thg_6 wd ht dp sh fo ch nn gs gp gpo gm gmo kids tx, .inl ⟨_, hld_6 wd ht dp sh fo ch nn gs gp gpo gm gmo kids tx⟩⟩, ask_6 wd ht dp sh fo ch nn gs gp gpo gm gmo kids tx, by simp [thV]⟩, hb⟩
    · refine (thing_7 wd ht dp sh fo ch nn gs gp gpo gm gmo kids tx w).mono ?_
      rintro e w' ⟨rfl, hb⟩
      exact ⟨⟨_, rfl, .inr ⟨_, _, _, _, _, _, rfl, thg_7 wd ht dp sh fo ch nn gs gp gpo gm gmo kids tx, .inl ⟨_, hld_7 wd ht dp sh fo ch nn gs gp gpo gm gmo kids tx⟩⟩, ask_7 wd ht dp sh fo ch nn gs gp gpo gm gmo kids tx, by simp [thV]⟩, hb⟩
    · refine (thing_8 wd ht dp sh fo ch nn gs gp gpo gm gmo kids tx w).mono ?_
      rintro e w' ⟨rfl, hb⟩
      exact ⟨⟨_, rfl, .inr ⟨_, _, _, _, _, _, rfl, thg_8 wd ht dp sh fo ch nn gs gp gpo gm gmo kids tx, .inr (nohld_8 wd ht dp sh fo ch nn gs gp gpo gm gmo kids tx)⟩, ask_8 wd ht dp sh fo ch nn gs gp gpo gm gmo kids tx, by simp [thV]⟩, hb⟩
    · refine (thing_9 wd ht dp sh fo ch nn gs gp gpo gm gmo kids tx w).mono ?_
      rintro e w' ⟨rfl, hb⟩
      exact ⟨⟨_, rfl, .inr ⟨_, _, _, _, _, _, rfl, thg_9 wd ht dp sh fo ch nn gs gp gpo gm gmo kids tx, .inr (nohld_9 wd ht dp sh fo ch nn gs gp gpo gm gmo kids tx)⟩, ask_9 wd ht dp sh fo ch nn gs gp gpo gm gmo kids tx, by simp [thV]⟩, hb⟩
    · refine (thing_10 wd ht dp sh fo ch nn gs gp gpo gm gmo kids tx w).mono ?_
      rintro e w' ⟨rfl, hb⟩
      exact ⟨⟨_, rfl, .inr ⟨_, _, _, _, _, _, rfl, thg_10 wd ht dp sh fo ch nn gs gp gpo gm gmo kids tx, .inr (nohld_10 wd ht dp sh fo ch nn gs gp gpo gm gmo kids tx)⟩, ask_10 wd ht dp sh fo ch nn gs gp gpo gm gmo kids tx, by simp [thV]⟩, hb⟩
    · refine (thing_11 wd ht dp sh fo ch nn gs gp gpo gm gmo kids tx w).mono ?_
      rintro e w' ⟨rfl, hb⟩
      exact ⟨⟨_, rfl, .inr ⟨_, _, _, _, _, _, rfl, thg_11 wd ht dp sh fo ch nn gs gp gpo gm gmo kids tx, .inl ⟨_, hld_11 wd ht dp sh fo ch nn gs gp gpo gm gmo kids tx⟩⟩, ask_11 wd ht dp sh fo ch nn gs gp gpo gm gmo kids tx, by simp [thV]⟩, hb⟩
  · refine (thing_0 k wd ht dp sh fo ch nn gs gp gpo gm gmo kids tx w hk).mono ?_
    rintro e w' ⟨rfl, hb⟩
    exact ⟨⟨_, rfl, .inl ⟨rfl, bad_kind _ hk⟩, ask_0 _ hk, by unfold thV; rw [if_neg (by simp only; omega), if_neg (by simp only; omega), if_neg (by simp only; omega), if_neg (by simp only; omega), if_neg (by simp only; omega), if_neg (by simp only; omega), if_neg (by simp only; omega), if_neg (by simp only; omega), if_neg (by simp only; omega), if_neg (by simp only; omega), if_neg (by simp only; omega)]⟩, hb⟩
end Go.Proofs.Ytjagagbelpihbaa
