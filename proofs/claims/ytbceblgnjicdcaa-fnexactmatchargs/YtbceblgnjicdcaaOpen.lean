/-
  How tokens and meanings that come in read in the world.
-/
import Derived.Test.YtbceblgnjicdcaaRows
import Derived.Test.YtbceblgnjicdcaaMeanB
import Derived.ProofKit
import Derived.OpenShut
import Derived.ShutString
import Derived.ChangeOld
import Derived.Lib.SmallJoins
import Derived.Deep.Slices
namespace Go.Proofs.Ytbceblgnjicdcaa
open Go.ChangeShapes Go.WideShapes Go.ChangeAt Go.RowKit Go.Joins
set_option linter.unusedVariables false
set_option linter.unusedSimpArgs false

theorem ownT : ownKnob Try.prog.godebug = none := by kernel_rfl
theorem laidOut : laidOutB Try.prog = true := by kernel_rfl
theorem cells2 : Try.prog.cellsOf 2 = 1 := by kernel_rfl
theorem cells9 : Try.prog.cellsOf 9 = 1 := by kernel_rfl
theorem cells23 : Try.prog.cellsOf 23 = 3 := by kernel_rfl
theorem cells24 : Try.prog.cellsOf 24 = 1 := by kernel_rfl
theorem cells26 : Try.prog.cellsOf 26 = 3 := by kernel_rfl
theorem cells28 : Try.prog.cellsOf 28 = 8 := by kernel_rfl

theorem list3 {α : Type} {cs : List α} (h : cs.length = 3) : ∃ c0 c1 c2, cs = [c0, c1, c2] := by
  match cs, h with
  | [c0, c1, c2], _ => exact ⟨c0, c1, c2, rfl⟩
theorem list4 {α : Type} {cs : List α} (h : cs.length = 4) : ∃ c0 c1 c2 c3, cs = [c0, c1, c2, c3] := by
  match cs, h with
  | [c0, c1, c2, c3], _ => exact ⟨c0, c1, c2, c3, rfl⟩
theorem list8 {α : Type} {cs : List α} (h : cs.length = 8) : ∃ c0 c1 c2 c3 c4 c5 c6 c7, cs = [c0, c1, c2, c3, c4, c5, c6, c7] := by
  match cs, h with
  | [c0, c1, c2, c3, c4, c5, c6, c7], _ => exact ⟨c0, c1, c2, c3, c4, c5, c6, c7, rfl⟩

/-- A token that comes in, in its three cells. -/
theorem openTok {H : Type} {enc : TypeId × Value → H} {w : World} {base : Nat} {spare : Nat → Bool} {held : Bool} {fuel : Nat} {c0 c1 c2 : Value} {y : DataW H × List MemPlace}
    (h : DataW.trod enc Try.prog w base spare held fuel 23 [c0, c1, c2] = some y) : ∃ t : Tk, c0 = .int .i64 t.c ∧ c1 = .int .i64 t.h ∧ c2 = .string t.s ∧ t.s.size ≤ 9223372036854775807 := by
  obtain ⟨xs, n', _, _, _, hlx, hfs⟩ := DataW.trod_struct Try.underlying23 h
  obtain ⟨y0, y1, y2, rfl⟩ := list3 (by simpa using hlx)
  have g0 : DataW.trod enc Try.prog w base spare held n' 2 [c0] = some y0 := by simpa [cells2] using hfs 0 _ rfl
  have g1 : DataW.trod enc Try.prog w base spare held n' 2 [c1] = some y1 := by simpa [cells2] using hfs 1 _ rfl
  have g2 : DataW.trod enc Try.prog w base spare held n' 9 [c2] = some y2 := by simpa [cells2, cells9] using hfs 2 _ rfl
  obtain ⟨n0, e0, _, w0⟩ := DataW.trod_int Try.underlying2 g0
  obtain ⟨n1, e1, _, w1⟩ := DataW.trod_int Try.underlying2 g1
  obtain ⟨s, e2, _, hs⟩ := DataW.trod_string Try.underlying9 g2
  simp at e0 e1 e2
  exact ⟨⟨n0, n1, s⟩, e0, e1, e2, hs⟩

set_option maxRecDepth 100000 in
/-- A slice of tokens that comes in, in its cell. -/
theorem openToks {H : Type} {enc : TypeId × Value → H} {w : World} {base : Nat} {held : Bool} {fuel : Nat} {v : Value} {y : DataW H × List MemPlace}
    (hf : DataW.trod enc Try.prog w base (fun _ => true) held fuel 24 [v] = some y) : ∃ ts : List Tk, TRow w v ts ∧ Fine ts := by
  rcases Go.Deep.open_slice Try.underlying24 hf with ⟨hcs, hx⟩ | ⟨a, len, cap, m, n, D, Pl, hcs, _, hl, hm, hmm, hx, hel⟩
  · simp at hcs
    subst hcs
    exact ⟨[], ⟨none, 0, 0, rfl, rfl, fun h => by omega⟩, ⟨Nat.zero_le _, fun i hi => by simp at hi⟩⟩
  · simp at hcs
    subst hcs
    by_cases h0 : len = 0
    · subst h0
      exact ⟨[], ⟨_, 0, cap, rfl, rfl, fun h => by omega⟩, ⟨Nat.zero_le _, fun i hi => by simp at hi⟩⟩
    · have hplain : ∃ b off, a = ⟨b, off, none⟩ := by
        obtain ⟨cs', hcells, htr⟩ := hel 0 (by simp at hmm; omega)
        rw [cells23] at hcells
        obtain ⟨_, hlen, hat⟩ := World.cells?_some hcells
        have h1 := hat 0 (by omega)
        rw [List.getElem?_eq_getElem (by omega)] at h1
        obtain ⟨b, off, spot⟩ := a
        have hspot : spot = none := by simpa [Addr.add] using World.cell?_spot h1
        subst hspot
        exact ⟨b, off, rfl⟩
      obtain ⟨b, off, rfl⟩ := hplain
      have each : ∀ i, i < len → ∃ t : Tk, w.cell? ⟨b, off + i * 3, none⟩ = some (.int .i64 t.c) ∧ w.cell? ⟨b, off + i * 3 + 1, none⟩ = some (.int .i64 t.h) ∧ w.cell? ⟨b, off + i * 3 + 2, none⟩ = some (.string t.s) ∧ t.s.size ≤ 9223372036854775807 := by
        intro i hi
        obtain ⟨cs', hcells, htr⟩ := hel i (by simp at hmm; omega)
        rw [cells23, add_plain] at hcells
        obtain ⟨_, hlen, hat⟩ := World.cells?_some hcells
        obtain ⟨c0, c1, c2, rfl⟩ := list3 hlen
        obtain ⟨t, rfl, rfl, rfl, hs⟩ := openTok htr
        refine ⟨t, ?_, ?_, ?_, hs⟩
        · have := hat 0 (by omega); rw [add_plain] at this; simpa using this
        · have := hat 1 (by omega); rw [add_plain] at this; simpa using this
        · have := hat 2 (by omega); rw [add_plain] at this; simpa using this
      let f : Nat → Tk := fun i => if hi : i < len then Classical.choose (each i hi) else Tk.none
      have hf : ∀ i, (hi : i < len) → w.cell? ⟨b, off + i * 3, none⟩ = some (.int .i64 (f i).c) ∧ w.cell? ⟨b, off + i * 3 + 1, none⟩ = some (.int .i64 (f i).h) ∧ w.cell? ⟨b, off + i * 3 + 2, none⟩ = some (.string (f i).s) ∧ (f i).s.size ≤ 9223372036854775807 := by
        intro i hi
        have := Classical.choose_spec (each i hi)
        simp only [f, dif_pos hi]
        exact this
      have hget : ∀ i, i < len → ((List.range len).map f).getD i Tk.none = f i := by
        intro i hi
        simp [List.getD, List.getElem?_map, List.getElem?_range hi]
      refine ⟨(List.range len).map f, ⟨_, len, cap, rfl, by simp, fun hp => ⟨b, off, rfl, World.block_lt_of_cell? w _ (hf 0 hp).1, fun i hi => ?_⟩⟩, ?_, ?_⟩
      · rw [hget i hi]
        exact ⟨(hf i hi).1, (hf i hi).2.1, (hf i hi).2.2.1⟩
      · simp
        unfold maxLen at hm
        omega
      · intro i hi
        have hi' : i < len := by simpa using hi
        rw [hget i hi']
        exact (hf i hi').2.2.2

/-- A rule of rewriting that comes in, in its three cells. -/
theorem openMacro {H : Type} {enc : TypeId × Value → H} {w : World} {base : Nat} {held : Bool} {fuel : Nat} {c0 c1 c2 : Value} {y : DataW H × List MemPlace}
    (h : DataW.trod enc Try.prog w base (fun _ => true) held fuel 26 [c0, c1, c2] = some y) : ∃ (p b : List Tk) (sl : Int), TRow w c0 p ∧ Fine p ∧ c1 = .int .i64 sl ∧ TRow w c2 b ∧ Fine b := by
  obtain ⟨xs, n', _, _, _, hlx, hfs⟩ := DataW.trod_struct Try.underlying26 h
  obtain ⟨y0, y1, y2, rfl⟩ := list3 (by simpa using hlx)
  have g0 : DataW.trod enc Try.prog w base (fun _ => true) held n' 24 [c0] = some y0 := by simpa [cells24] using hfs 0 _ rfl
  have g1 : DataW.trod enc Try.prog w base (fun _ => true) held n' 2 [c1] = some y1 := by simpa [cells2] using hfs 1 _ rfl
  have g2 : DataW.trod enc Try.prog w base (fun _ => true) held n' 24 [c2] = some y2 := by simpa [cells24] using hfs 2 _ rfl
  obtain ⟨p, hp, fp⟩ := openToks g0
  obtain ⟨n1, e1, _, w1⟩ := DataW.trod_int Try.underlying2 g1
  obtain ⟨b, hb, fb⟩ := openToks g2
  simp at e1
  exact ⟨p, b, n1, hp, fp, e1, hb, fb⟩

/-- A meaning that comes in, in its eight cells. -/
theorem openMean {H : Type} {enc : TypeId × Value → H} {w : World} {base : Nat} {held : Bool} {fuel : Nat} {cs : List Value} {y : DataW H × List MemPlace}
    (h : DataW.trod enc Try.prog w base (fun _ => true) held fuel 28 cs = some y) : ∃ (k n : Int) (t : Tk) (vp vb : Value) (p b : List Tk) (sl : Int), cs = [.int .i64 k, .int .i64 n, .int .i64 t.c, .int .i64 t.h, .string t.s, vp, .int .i64 sl, vb] ∧ TRow w vp p ∧ Fine p ∧ TRow w vb b ∧ Fine b ∧ t.s.size ≤ 9223372036854775807 := by
  obtain ⟨xs, n', _, _, hlc, hlx, hfs⟩ := DataW.trod_struct Try.underlying28 h
  obtain ⟨c0, c1, c2, c3, c4, c5, c6, c7, rfl⟩ := list8 (hlc.trans cells28)
  obtain ⟨y0, y1, y2, y3, rfl⟩ := list4 (by simpa using hlx)
  have g0 : DataW.trod enc Try.prog w base (fun _ => true) held n' 2 [c0] = some y0 := by simpa [cells2] using hfs 0 _ rfl
  have g1 : DataW.trod enc Try.prog w base (fun _ => true) held n' 2 [c1] = some y1 := by simpa [cells2] using hfs 1 _ rfl
  have g2 : DataW.trod enc Try.prog w base (fun _ => true) held n' 23 [c2, c3, c4] = some y2 := by simpa [cells23] using hfs 2 _ rfl
  have g3 : DataW.trod enc Try.prog w base (fun _ => true) held n' 26 [c5, c6, c7] = some y3 := by simpa [cells26] using hfs 3 _ rfl
  obtain ⟨n0, e0, _, w0⟩ := DataW.trod_int Try.underlying2 g0
  obtain ⟨n1, e1, _, w1⟩ := DataW.trod_int Try.underlying2 g1
  obtain ⟨t, rfl, rfl, rfl, ht⟩ := openTok g2
  obtain ⟨p, b, sl, hp, fp, rfl, hb, fb⟩ := openMacro g3
  simp at e0 e1
  subst e0 e1
  exact ⟨n0, n1, t, c5, c7, p, b, sl, rfl, hp, fp, hb, fb, ht⟩
end Go.Proofs.Ytbceblgnjicdcaa
