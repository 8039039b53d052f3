/-
  How patterns and rows of them that come in read in the world.
-/
import Derived.Test.YtejigikcpmhhoaaRows
import Derived.Test.YtejigikcpmhhoaaRowg
import Derived.ProofKit
import Derived.OpenShut
import Derived.ShutString
import Derived.ChangeOld
import Derived.Lib.SmallJoins
import Derived.Deep.Slices
namespace Go.Proofs.Ytejigikcpmhhoaa
open Go.ChangeShapes Go.WideShapes Go.ChangeAt Go.RowKit Go.Joins
set_option linter.unusedVariables false
set_option linter.unusedSimpArgs false

theorem ownT : ownKnob Try.prog.godebug = none := by kernel_rfl
theorem laidOut : laidOutB Try.prog = true := by kernel_rfl
theorem cells2 : Try.prog.cellsOf 2 = 1 := by kernel_rfl
theorem cells9 : Try.prog.cellsOf 9 = 1 := by kernel_rfl
theorem cells24 : Try.prog.cellsOf 24 = 1 := by kernel_rfl
theorem cells34 : Try.prog.cellsOf 34 = 2 := by kernel_rfl
theorem cells90 : Try.prog.cellsOf 90 = 2 := by kernel_rfl
theorem cells41 : Try.prog.cellsOf 41 = 1 := by kernel_rfl
theorem cells42 : Try.prog.cellsOf 42 = 1 := by kernel_rfl
theorem cells44 : Try.prog.cellsOf 44 = 2 := by kernel_rfl
theorem list1 {α : Type} {cs : List α} (h : cs.length = 1) : ∃ c0, cs = [c0] := by
  match cs, h with
  | [c0], _ => exact ⟨c0, rfl⟩
theorem list2 {α : Type} {cs : List α} (h : cs.length = 2) : ∃ c0 c1, cs = [c0, c1] := by
  match cs, h with
  | [c0, c1], _ => exact ⟨c0, c1, rfl⟩

set_option maxRecDepth 100000 in
/-- A slice that comes in, in its cell, by what one element is. -/
theorem openSlice {H : Type} {enc : TypeId × Value → H} {w : World} {base : Nat} {held : Bool} {fuel ty el sz : Nat} {v : Value} {y : DataW H × List MemPlace} {α : Type} {R : Nat → World → List Value → α → Prop} {F : α → Prop} (d : α)
    (hu : Try.prog.underlying ty = some (.slice el)) (hcell : Try.prog.cellsOf el = sz) (hpos : 0 < sz)
    (each : ∀ (fuel : Nat) (cs : List Value) (y : DataW H × List MemPlace), DataW.trod enc Try.prog w base (fun _ => true) held fuel el cs = some y → cs.length = sz → ∃ x, R 0 w cs x ∧ F x)
    (hf : DataW.trod enc Try.prog w base (fun _ => true) held fuel ty [v] = some y) : ∃ xs : List α, SRow sz R d 0 w v xs ∧ xs.length ≤ 9223372036854775807 ∧ ∀ i, i < xs.length → F (xs.getD i d) := by
  rcases Go.Deep.open_slice hu hf with ⟨hcs, hx⟩ | ⟨a, len, cap, m, n, D, Pl, hcs, _, hl, hm, hmm, hx, hel⟩
  · simp at hcs
    subst hcs
    exact ⟨[], ⟨none, 0, 0, rfl, rfl, fun h => by omega⟩, Nat.zero_le _, fun i hi => by simp at hi⟩
  · simp at hcs
    subst hcs
    by_cases h0 : len = 0
    · subst h0
      exact ⟨[], ⟨_, 0, cap, rfl, rfl, fun h => by omega⟩, Nat.zero_le _, fun i hi => by simp at hi⟩
    · rw [hcell] at hel
      have hplain : ∃ b off, a = ⟨b, off, none⟩ := by
        obtain ⟨cs', hcells, htr⟩ := hel 0 (by simp at hmm; omega)
        obtain ⟨_, hlen, hat⟩ := World.cells?_some hcells
        have h1 := hat 0 hpos
        rw [List.getElem?_eq_getElem (by omega)] at h1
        obtain ⟨b, off, spot⟩ := a
        have hspot : spot = none := by simpa [Addr.add] using World.cell?_spot h1
        subst hspot
        exact ⟨b, off, rfl⟩
      obtain ⟨b, off, rfl⟩ := hplain
      have each2 : ∀ i, i < len → ∃ x : α, F x ∧ ∃ cs : List Value, cs.length = sz ∧ R 0 w cs x ∧ ∀ j, j < sz → w.cell? ⟨b, off + i * sz + j, none⟩ = cs[j]? := by
        intro i hi
        obtain ⟨cs', hcells, htr⟩ := hel i (by simp at hmm; omega)
        rw [add_plain] at hcells
        obtain ⟨_, hlen, hat⟩ := World.cells?_some hcells
        obtain ⟨x, hR, hF⟩ := each _ _ _ htr hlen
        refine ⟨x, hF, cs', hlen, hR, fun j hj => ?_⟩
        have := hat j hj
        rw [add_plain] at this
        exact this
      let f : Nat → α := fun i => if hi : i < len then Classical.choose (each2 i hi) else d
      have hff : ∀ i, (hi : i < len) → F (f i) ∧ ∃ cs : List Value, cs.length = sz ∧ R 0 w cs (f i) ∧ ∀ j, j < sz → w.cell? ⟨b, off + i * sz + j, none⟩ = cs[j]? := by
        intro i hi
        have := Classical.choose_spec (each2 i hi)
        simp only [f, dif_pos hi]
        exact this
      have hget : ∀ i, i < len → ((List.range len).map f).getD i d = f i := by
        intro i hi
        simp [List.getD, List.getElem?_map, List.getElem?_range hi]
      have hblock : b < w.heap.size := by
        obtain ⟨_, cs, hcl, _, hj⟩ := hff 0 (by omega)
        have h1 := hj 0 hpos
        rw [List.getElem?_eq_getElem (by omega)] at h1
        exact World.block_lt_of_cell? w _ h1
      refine ⟨(List.range len).map f, ⟨_, len, cap, rfl, by simp, fun hp => ⟨b, off, rfl, Nat.zero_le _, hblock, fun i hi => ?_⟩⟩, ?_, ?_⟩
      · rw [hget i hi]
        exact (hff i hi).2
      · simp
        unfold maxLen at hm
        omega
      · intro i hi
        have hi' : i < len := by simpa using hi
        rw [hget i hi']
        exact (hff i hi').1

def IntR (lo : Nat) (w : World) (cs : List Value) (z : Int) : Prop := cs = [.int .i64 z]
theorem rowOf {w : World} {v : Value} {zs : List Int} (h : SRow 1 IntR 0 0 w v zs) : Row w v zs := by
  obtain ⟨ao, n, cap, rfl, hn, hc⟩ := h
  refine ⟨ao, n, cap, rfl, hn, fun hp => ?_⟩
  obtain ⟨b, off, rfl, _, hb, hcell⟩ := hc hp
  refine ⟨b, off, rfl, hb, fun i hi => ?_⟩
  obtain ⟨cs, _, hR, hj⟩ := hcell i hi
  have h0 := hj 0 (by omega)
  rw [show cs = _ from hR] at h0
  simpa using h0
theorem openInts {H : Type} {enc : TypeId × Value → H} {w : World} {base : Nat} {held : Bool} {fuel : Nat} {v : Value} {y : DataW H × List MemPlace}
    (hf : DataW.trod enc Try.prog w base (fun _ => true) held fuel 24 [v] = some y) : ∃ zs : List Int, Row w v zs ∧ zs.length ≤ 9223372036854775807 := by
  obtain ⟨zs, h1, h2, _⟩ := openSlice (R := IntR) (F := fun _ => True) (0 : Int) Try.underlying24 cells2 (by omega) (fun fuel cs y ht hl => by
    obtain ⟨c0, rfl⟩ := list1 hl
    obtain ⟨z, e, _, _⟩ := DataW.trod_int Try.underlying2 ht
    exact ⟨z, e, trivial⟩) hf
  exact ⟨zs, rowOf h1, h2⟩

/-- A pattern in its two cells. -/
theorem openPat {H : Type} {enc : TypeId × Value → H} {w : World} {base : Nat} {held : Bool} {fuel : Nat} {c0 c1 : Value} {y : DataW H × List MemPlace}
    (hf : DataW.trod enc Try.prog w base (fun _ => true) held fuel 34 [c0, c1] = some y) : ∃ (s : ByteArray) (zs : List Int), c0 = .string s ∧ Row w c1 zs ∧ s.size ≤ 9223372036854775807 ∧ zs.length ≤ 9223372036854775807 := by
  obtain ⟨xs, n, _, _, _, hlen, hfs⟩ := DataW.trod_struct Try.underlying34 hf
  obtain ⟨y0, y1, rfl⟩ := list2 (by simpa using hlen)
  have g0 : DataW.trod enc Try.prog w base (fun _ => true) held n 9 [c0] = some y0 := by simpa [cells9] using hfs 0 _ rfl
  have g1 : DataW.trod enc Try.prog w base (fun _ => true) held n 24 [c1] = some y1 := by simpa [cells9, cells24] using hfs 1 _ rfl
  obtain ⟨s, e, hs⟩ := DataW.trod_string Try.underlying9 g0
  obtain ⟨zs, hr, hz⟩ := openInts g1
  simp at e
  exact ⟨s, zs, e, hr, by first | exact hs.2 | omega, hz⟩
end Go.Proofs.Ytejigikcpmhhoaa
