/-
  Proved: for every list of atoms, laws.FnExactClasses returns true and its argument reads behind the call as before it; no condition.
-/
import Derived.Test.YtfcfihlkckdmbaaRows
import Derived.Test.YtfcfihlkckdmbaaCla
import Derived.ProofKit
import Derived.OpenShut
import Derived.ShutString
import Derived.ChangeOld
import Derived.Lib.SmallJoins
import Derived.Deep.Slices
namespace Go.Proofs.Ytfcfihlkckdmbaa
open Go.ChangeShapes Go.WideShapes Go.ChangeAt Go.RowKit Go.Joins
set_option linter.unusedVariables false
set_option linter.unusedSimpArgs false

theorem ownT : ownKnob Try.prog.godebug = none := by kernel_rfl
theorem laidOut : laidOutB Try.prog = true := by kernel_rfl
theorem cells2 : Try.prog.cellsOf 2 = 1 := by kernel_rfl
theorem cells40 : Try.prog.cellsOf 40 = 6 := by kernel_rfl
theorem cells22 : Try.prog.cellsOf 22 = 1 := by kernel_rfl
theorem list6 {α : Type} {cs : List α} (h : cs.length = 6) : ∃ c0 c1 c2 c3 c4 c5, cs = [c0, c1, c2, c3, c4, c5] := by
  match cs, h with
  | [c0, c1, c2, c3, c4, c5], _ => exact ⟨c0, c1, c2, c3, c4, c5, rfl⟩
def FnA (x : At) : Prop := True

set_option maxRecDepth 100000 in
/-- A slice that comes in, in its cell, by what one element is. -/
theorem openSlice {H : Type} {enc : TypeId × Value → H} {w : World} {base : Nat} {held : Bool} {fuel ty el sz : Nat} {v : Value} {y : DataW H × List MemPlace} {α : Type} {R : Nat → World → List Value → α → Prop} {F : α → Prop} (d : α)
    (hu : Try.prog.underlying ty = some (.slice el)) (hcell : Try.prog.cellsOf el = sz) (hpos : 0 < sz)
    (each : ∀ (fuel : Nat) (cs : List Value) (y : DataW H × List MemPlace), DataW.trod enc Try.prog w base (fun _ => true) held fuel el cs = some y → cs.length = sz → ∃ x, R 0 w cs x ∧ F x)
    (hf : DataW.trod enc Try.prog w base (fun _ => true) held fuel ty [v] = some y) : ∃ xs : List α, SRow sz R d 0 w v xs ∧ xs.length ≤ 9223372036854775807 ∧ ∀ i, i < xs.length → F (xs.getD i d) := by
  rcases Go.Deep.open_slice hu hf with ⟨hcs, hx⟩ | ⟨a, len, cap, m, n, D, Pl, hcs, _, hl, hm, hmm, hx, hel⟩
  · simp at hcs
    subst hcs
    exact ⟨[], ⟨none, 0, 0, rfl, rfl, fun h => by omega⟩, Nat.zero_le _, fun i hi => by simp at hi⟩
  · simp at hcs
    subst hcs
    by_cases h0 : len = 0
    · subst h0
      exact ⟨[], ⟨_, 0, cap, rfl, rfl, fun h => by omega⟩, Nat.zero_le _, fun i hi => by simp at hi⟩
    · rw [hcell] at hel
      have hplain : ∃ b off, a = ⟨b, off, none⟩ := by
        obtain ⟨cs', hcells, htr⟩ := hel 0 (by simp at hmm; omega)
        obtain ⟨_, hlen, hat⟩ := World.cells?_some hcells
        have h1 := hat 0 hpos
        rw [List.getElem?_eq_getElem (by omega)] at h1
        obtain ⟨b, off, spot⟩ := a
        have hspot : spot = none := by simpa [Addr.add] using World.cell?_spot h1
        subst hspot
        exact ⟨b, off, rfl⟩
      obtain ⟨b, off, rfl⟩ := hplain
      have each2 : ∀ i, i < len → ∃ x : α, F x ∧ ∃ cs : List Value, cs.length = sz ∧ R 0 w cs x ∧ ∀ j, j < sz → w.cell? ⟨b, off + i * sz + j, none⟩ = cs[j]? := by
        intro i hi
        obtain ⟨cs', hcells, htr⟩ := hel i (by simp at hmm; omega)
        rw [add_plain] at hcells
        obtain ⟨_, hlen, hat⟩ := World.cells?_some hcells
        obtain ⟨x, hR, hF⟩ := each _ _ _ htr hlen
        refine ⟨x, hF, cs', hlen, hR, fun j hj => ?_⟩
        have := hat j hj
        rw [add_plain] at this
        exact this
      let f : Nat → α := fun i => if hi : i < len then Classical.choose (each2 i hi) else d
      have hff : ∀ i, (hi : i < len) → F (f i) ∧ ∃ cs : List Value, cs.length = sz ∧ R 0 w cs (f i) ∧ ∀ j, j < sz → w.cell? ⟨b, off + i * sz + j, none⟩ = cs[j]? := by
        intro i hi
        have := Classical.choose_spec (each2 i hi)
        simp only [f, dif_pos hi]
        exact this
      have hget : ∀ i, i < len → ((List.range len).map f).getD i d = f i := by
        intro i hi
        simp [List.getD, List.getElem?_map, List.getElem?_range hi]
      have hblock : b < w.heap.size := by
        obtain ⟨_, cs, hcl, _, hj⟩ := hff 0 (by omega)
        have h1 := hj 0 hpos
        rw [List.getElem?_eq_getElem (by omega)] at h1
        exact World.block_lt_of_cell? w _ h1
      refine ⟨(List.range len).map f, ⟨_, len, cap, rfl, by simp, fun hp => ⟨b, off, rfl, Nat.zero_le _, hblock, fun i hi => ?_⟩⟩, ?_, ?_⟩
      · rw [hget i hi]
        exact (hff i hi).2
      · simp
        unfold maxLen at hm
        omega
      · intro i hi
        have hi' : i < len := by simpa using hi
        rw [hget i hi']
        exact (hff i hi').1



set_option maxRecDepth 100000 in
theorem openAtom {H : Type} {enc : TypeId × Value → H} {w : World} {base : Nat} {held : Bool} {fuel : Nat} {cs : List Value} {y : DataW H × List MemPlace} (hl : cs.length = 6)
    (hf : DataW.trod enc Try.prog w base (fun _ => true) held fuel 40 cs = some y) : ∃ x : At, AtR 0 w cs x ∧ FnA x := by
  obtain ⟨c0, c1, c2, c3, c4, c5, rfl⟩ := list6 hl
  obtain ⟨xs, n, _, _, _, hlen, hfs⟩ := DataW.trod_struct Try.underlying40 hf
  obtain ⟨y0, y1, y2, y3, y4, y5, rfl⟩ := list6 (by simpa using hlen)
  have g0 : DataW.trod enc Try.prog w base (fun _ => true) held n 2 [c0] = some y0 := by simpa [cells2] using hfs 0 _ rfl
  have g1 : DataW.trod enc Try.prog w base (fun _ => true) held n 2 [c1] = some y1 := by simpa [cells2] using hfs 1 _ rfl
  have g2 : DataW.trod enc Try.prog w base (fun _ => true) held n 2 [c2] = some y2 := by simpa [cells2] using hfs 2 _ rfl
  have g3 : DataW.trod enc Try.prog w base (fun _ => true) held n 2 [c3] = some y3 := by simpa [cells2] using hfs 3 _ rfl
  have g4 : DataW.trod enc Try.prog w base (fun _ => true) held n 2 [c4] = some y4 := by simpa [cells2] using hfs 4 _ rfl
  have g5 : DataW.trod enc Try.prog w base (fun _ => true) held n 2 [c5] = some y5 := by simpa [cells2] using hfs 5 _ rfl
  obtain ⟨x0, i0, _, _⟩ := DataW.trod_int Try.underlying2 g0
  obtain ⟨x1, i1, _, _⟩ := DataW.trod_int Try.underlying2 g1
  obtain ⟨x2, i2, _, _⟩ := DataW.trod_int Try.underlying2 g2
  obtain ⟨x3, i3, _, _⟩ := DataW.trod_int Try.underlying2 g3
  obtain ⟨x4, i4, _, _⟩ := DataW.trod_int Try.underlying2 g4
  obtain ⟨x5, i5, _, _⟩ := DataW.trod_int Try.underlying2 g5
  simp only [List.cons.injEq, and_true] at i0 i1 i2 i3 i4 i5
  refine ⟨⟨x0, x1, x2, x3, x4, x5⟩, ?_, trivial⟩
  simp only [AtR, At.cells, i0, i1, i2, i3, i4, i5]

set_option maxRecDepth 100000 in
theorem classes_lifted (os : Os) (started : os.Started) (H : Type) (enc : TypeId × Value → H) :
    ReturnsInHanded {} Try.checked os 5 .any (Rows.fnExactClassesSpec.pre6 enc Try.prog Try.f5 Rows.fnExactClassesRow.domain false) (Rows.fnExactClassesSpec.post enc Try.prog Try.f5 false true false false) := by
  refine returnsInHanded_of_change (C := Try.checked) ownT started (by kernel_rfl) Try.func5
    (ChangeSpec.witness6 (enc := enc) (C := Try.checked) false ⟨#[], #[.slice none 0 0], []⟩ 8 (by kernel_rfl) (by kernel_rfl) (by kernel_rfl) (by kernel_rfl)) ?_
  intro W base args ds gs before hval0 hW hcnd _
  have hval : ∀ (j : Nat) t v, Try.f5.params[j]? = some t → args[j]? = some v → Value.okWide Try.prog W .any base t v := hval0
  have hW' := hW
  obtain ⟨p, q, hA0, hV, rfl, hfz, hnd⟩ := hW
  have hA : DataW.TrodAll enc Try.prog W 0 (fun _ => true) true Try.f5.params.toList args.toList ds p := hA0
  rw [Try.params5] at hA hval
  obtain ⟨v0, vs0, d0, ds0, p0, q0, hargs, rfl, rfl, h0, r0⟩ := trodAll_cons hA
  obtain ⟨rfl, rfl, rfl⟩ := trodAll_nil r0
  obtain rfl : args = #[v0] := by cases args; simp_all
  obtain ⟨rfl, rfl⟩ := trodVars_none hV
  have k0 := h0
  have lt0 : ∀ x ∈ p0, x.block < W.heap.size := by obtain ⟨m, hm⟩ := k0; exact DataW.trod_lt m _ _ _ hm
  obtain ⟨ao, len, cap, rfl⟩ := okWide_slice Try.underlying22 (hval 0 22 v0 rfl rfl)
  obtain ⟨fuel, hf⟩ := h0
  have hf' : DataW.trod enc Try.prog W 0 (fun _ => true) true fuel 22 [.slice ao len cap] = some (d0, p0) := by simpa [Value.cells] using hf
  obtain ⟨xs, hr, hl, hF⟩ := openSlice (R := AtR) (F := FnA) At.none Try.underlying22 cells40 (by omega) (fun fuel cs y ht hl => openAtom hl ht) hf'
  clear hA0 hval0
  refine (lawClasses_any hr hl).mono fun e W' ⟨he, bel⟩ => ?_
  subst he
  exact ⟨_, rfl, _, _, _, [], _, [], hW', trodAll_mk1 (shut_bool Try.underlying4 _), (trodAll_cons_mk (Below.trod laidOut (by kernel_rfl) (of_decide_eq_true (by kernel_rfl)) k0 bel lt0) trodAll_mk0), rfl, bel.frame _, fun h => by cases h⟩

theorem classes_holds : Rows.FnExactClassesSaid :=
  OpenClaim.holds_of_wide 5 Try.f5 rfl rfl rfl rfl rfl rfl rfl ⟨rfl, rfl, rfl, rfl, rfl⟩ rfl rfl rfl rfl rfl (by kernel_rfl) Try.func5 (by kernel_rfl)
    (of_decide_eq_true (by kernel_rfl)) (by unfold Func.isWrapper; first | (rw [if_pos (by decide +kernel)]; kernel_rfl) | (rw [if_neg (by decide +kernel)]; exact ⟨rfl, rfl⟩))
    (fun os started H enc _ => classes_lifted os started H enc)
#print axioms classes_holds
end Go.Proofs.Ytfcfihlkckdmbaa
