/-
  How a font that comes in reads in the world.
-/
import Derived.Test.YtggcfgbpameppaaRows
import Derived.Test.YtggcfgbpameppaaFnt
import Derived.ProofKit
import Derived.OpenShut
import Derived.ShutString
import Derived.ChangeOld
import Derived.Lib.SmallJoins
import Derived.Deep.Slices
namespace Go.Proofs.Ytggcfgbpameppaa
open Go.ChangeShapes Go.WideShapes Go.ChangeAt Go.RowKit Go.Joins
set_option linter.unusedVariables false
set_option linter.unusedSimpArgs false

theorem ownT : ownKnob Try.prog.godebug = none := by kernel_rfl
theorem laidOut : laidOutB Try.prog = true := by kernel_rfl
theorem cells2 : Try.prog.cellsOf 2 = 1 := by kernel_rfl
theorem cells9 : Try.prog.cellsOf 9 = 1 := by kernel_rfl
theorem cells22 : Try.prog.cellsOf 22 = 1 := by kernel_rfl
theorem cells23 : Try.prog.cellsOf 23 = 1 := by kernel_rfl
theorem cells25 : Try.prog.cellsOf 25 = 5 := by kernel_rfl
theorem cells27 : Try.prog.cellsOf 27 = 10 := by kernel_rfl
theorem cells89 : Try.prog.cellsOf 89 = 4 := by kernel_rfl
theorem cells91 : Try.prog.cellsOf 91 = 4 := by kernel_rfl
theorem list4 {α : Type} {cs : List α} (h : cs.length = 4) : ∃ c0 c1 c2 c3, cs = [c0, c1, c2, c3] := by
  match cs, h with
  | [c0, c1, c2, c3], _ => exact ⟨c0, c1, c2, c3, rfl⟩
theorem list5 {α : Type} {cs : List α} (h : cs.length = 5) : ∃ c0 c1 c2 c3 c4, cs = [c0, c1, c2, c3, c4] := by
  match cs, h with
  | [c0, c1, c2, c3, c4], _ => exact ⟨c0, c1, c2, c3, c4, rfl⟩
theorem list6 {α : Type} {cs : List α} (h : cs.length = 6) : ∃ c0 c1 c2 c3 c4 c5, cs = [c0, c1, c2, c3, c4, c5] := by
  match cs, h with
  | [c0, c1, c2, c3, c4, c5], _ => exact ⟨c0, c1, c2, c3, c4, c5, rfl⟩
theorem list10 {α : Type} {cs : List α} (h : cs.length = 10) : ∃ c0 c1 c2 c3 c4 c5 c6 c7 c8 c9, cs = [c0, c1, c2, c3, c4, c5, c6, c7, c8, c9] := by
  match cs, h with
  | [c0, c1, c2, c3, c4, c5, c6, c7, c8, c9], _ => exact ⟨c0, c1, c2, c3, c4, c5, c6, c7, c8, c9, rfl⟩
theorem rngI {n : Int} (h : (Lit.int .i64 n).wf = true) : I64 n := by
  simp [Lit.wf, IntKind.min, IntKind.max, IntKind.signed, IntKind.bits] at h
  exact ⟨by omega, by omega⟩

set_option maxRecDepth 100000 in
/-- A slice that comes in, in its cell, by what one element is. -/
theorem openSlice {H : Type} {enc : TypeId × Value → H} {w : World} {base : Nat} {held : Bool} {fuel ty el sz : Nat} {v : Value} {y : DataW H × List MemPlace} {α : Type} {R : Nat → World → List Value → α → Prop} {F : α → Prop} (d : α)
    (hu : Try.prog.underlying ty = some (.slice el)) (hcell : Try.prog.cellsOf el = sz) (hpos : 0 < sz)
    (each : ∀ (fuel : Nat) (cs : List Value) (y : DataW H × List MemPlace), DataW.trod enc Try.prog w base (fun _ => true) held fuel el cs = some y → cs.length = sz → ∃ x, R 0 w cs x ∧ F x)
    (hf : DataW.trod enc Try.prog w base (fun _ => true) held fuel ty [v] = some y) : ∃ xs : List α, SRow sz R d 0 w v xs ∧ xs.length ≤ 9223372036854775807 ∧ ∀ i, i < xs.length → F (xs.getD i d) := by
  rcases Go.Deep.open_slice hu hf with ⟨hcs, hx⟩ | ⟨a, len, cap, m, n, D, Pl, hcs, _, hl, hm, hmm, hx, hel⟩
  · simp at hcs
    subst hcs
    exact ⟨[], ⟨none, 0, 0, rfl, rfl, fun h => by omega⟩, Nat.zero_le _, fun i hi => by simp at hi⟩
  · simp at hcs
    subst hcs
    by_cases h0 : len = 0
    · subst h0
      exact ⟨[], ⟨_, 0, cap, rfl, rfl, fun h => by omega⟩, Nat.zero_le _, fun i hi => by simp at hi⟩
    · rw [hcell] at hel
      have hplain : ∃ b off, a = ⟨b, off, none⟩ := by
        obtain ⟨cs', hcells, htr⟩ := hel 0 (by simp at hmm; omega)
        obtain ⟨_, hlen, hat⟩ := World.cells?_some hcells
        have h1 := hat 0 hpos
        rw [List.getElem?_eq_getElem (by omega)] at h1
        obtain ⟨b, off, spot⟩ := a
        have hspot : spot = none := by simpa [Addr.add] using World.cell?_spot h1
        subst hspot
        exact ⟨b, off, rfl⟩
      obtain ⟨b, off, rfl⟩ := hplain
      have each2 : ∀ i, i < len → ∃ x : α, F x ∧ ∃ cs : List Value, cs.length = sz ∧ R 0 w cs x ∧ ∀ j, j < sz → w.cell? ⟨b, off + i * sz + j, none⟩ = cs[j]? := by
        intro i hi
        obtain ⟨cs', hcells, htr⟩ := hel i (by simp at hmm; omega)
        rw [add_plain] at hcells
        obtain ⟨_, hlen, hat⟩ := World.cells?_some hcells
        obtain ⟨x, hR, hF⟩ := each _ _ _ htr hlen
        refine ⟨x, hF, cs', hlen, hR, fun j hj => ?_⟩
        have := hat j hj
        rw [add_plain] at this
        exact this
      let f : Nat → α := fun i => if hi : i < len then Classical.choose (each2 i hi) else d
      have hff : ∀ i, (hi : i < len) → F (f i) ∧ ∃ cs : List Value, cs.length = sz ∧ R 0 w cs (f i) ∧ ∀ j, j < sz → w.cell? ⟨b, off + i * sz + j, none⟩ = cs[j]? := by
        intro i hi
        have := Classical.choose_spec (each2 i hi)
        simp only [f, dif_pos hi]
        exact this
      have hget : ∀ i, i < len → ((List.range len).map f).getD i d = f i := by
        intro i hi
        simp [List.getD, List.getElem?_map, List.getElem?_range hi]
      have hblock : b < w.heap.size := by
        obtain ⟨_, cs, hcl, _, hj⟩ := hff 0 (by omega)
        have h1 := hj 0 hpos
        rw [List.getElem?_eq_getElem (by omega)] at h1
        exact World.block_lt_of_cell? w _ h1
      refine ⟨(List.range len).map f, ⟨_, len, cap, rfl, by simp, fun hp => ⟨b, off, rfl, Nat.zero_le _, hblock, fun i hi => ?_⟩⟩, ?_, ?_⟩
      · rw [hget i hi]
        exact (hff i hi).2
      · simp
        unfold maxLen at hm
        omega
      · intro i hi
        have hi' : i < len := by simpa using hi
        rw [hget i hi']
        exact (hff i hi').1


theorem openQ {H : Type} {enc : TypeId × Value → H} {w : World} {base : Nat} {spare : Nat → Bool} {held : Bool} {fuel ty : Nat} {cs : List Value} {y : DataW H × List MemPlace} (hty : ty = 89 ∨ ty = 91)
    (hf : DataW.trod enc Try.prog w base spare held fuel ty cs = some y) (hl : cs.length = 4) : ∃ x : Q4, QR 0 w cs x := by
  obtain ⟨a, b, c, d, rfl⟩ := list4 hl
  have key : ∃ m y0 y1 y2 y3, DataW.trod enc Try.prog w base spare held m 2 [a] = some y0 ∧ DataW.trod enc Try.prog w base spare held m 2 [b] = some y1 ∧ DataW.trod enc Try.prog w base spare held m 2 [c] = some y2 ∧ DataW.trod enc Try.prog w base spare held m 2 [d] = some y3 := by
    rcases hty with rfl | rfl
    · obtain ⟨xs, m, _, _, _, hlen, hfs⟩ := DataW.trod_struct Try.underlying89 hf
      obtain ⟨y0, y1, y2, y3, rfl⟩ := list4 (by simpa using hlen)
      exact ⟨m, y0, y1, y2, y3, by simpa [Value.cells, cells2] using hfs 0 _ rfl, by simpa [Value.cells, cells2] using hfs 1 _ rfl, by simpa [Value.cells, cells2] using hfs 2 _ rfl, by simpa [Value.cells, cells2] using hfs 3 _ rfl⟩
    · obtain ⟨xs, m, _, _, _, hlen, hfs⟩ := DataW.trod_struct Try.underlying91 hf
      obtain ⟨y0, y1, y2, y3, rfl⟩ := list4 (by simpa using hlen)
      exact ⟨m, y0, y1, y2, y3, by simpa [Value.cells, cells2] using hfs 0 _ rfl, by simpa [Value.cells, cells2] using hfs 1 _ rfl, by simpa [Value.cells, cells2] using hfs 2 _ rfl, by simpa [Value.cells, cells2] using hfs 3 _ rfl⟩
  obtain ⟨m, y0, y1, y2, y3, h0, h1, h2, h3⟩ := key
  obtain ⟨n0, e0, _, w0⟩ := DataW.trod_int Try.underlying2 h0
  obtain ⟨n1, e1, _, w1⟩ := DataW.trod_int Try.underlying2 h1
  obtain ⟨n2, e2, _, w2⟩ := DataW.trod_int Try.underlying2 h2
  obtain ⟨n3, e3, _, w3⟩ := DataW.trod_int Try.underlying2 h3
  simp at e0 e1 e2 e3
  subst e0 e1 e2 e3
  exact ⟨⟨n0, n1, n2, n3⟩, rfl, rngI w0, rngI w1, rngI w2, rngI w3⟩

theorem openGlue {H : Type} {enc : TypeId × Value → H} {w : World} {base : Nat} {spare : Nat → Bool} {held : Bool} {n : Nat} {a b c d e : Value} {y : DataW H × List MemPlace}
    (h : DataW.trod enc Try.prog w base spare held n 25 [a, b, c, d, e] = some y) : ∃ a' b' c' d' e' : Int, a = .int .i64 a' ∧ b = .int .i64 b' ∧ c = .int .i64 c' ∧ d = .int .i64 d' ∧ e = .int .i64 e' := by
  obtain ⟨xs, m, _, _, _, hlen, hfs⟩ := DataW.trod_struct Try.underlying25 h
  obtain ⟨y0, y1, y2, y3, y4, rfl⟩ := list5 (by simpa using hlen)
  have g0 : DataW.trod enc Try.prog w base spare held m 2 [a] = some y0 := by simpa [Value.cells, cells2] using hfs 0 _ rfl
  have g1 : DataW.trod enc Try.prog w base spare held m 2 [b] = some y1 := by simpa [Value.cells, cells2] using hfs 1 _ rfl
  have g2 : DataW.trod enc Try.prog w base spare held m 2 [c] = some y2 := by simpa [Value.cells, cells2] using hfs 2 _ rfl
  have g3 : DataW.trod enc Try.prog w base spare held m 2 [d] = some y3 := by simpa [Value.cells, cells2] using hfs 3 _ rfl
  have g4 : DataW.trod enc Try.prog w base spare held m 2 [e] = some y4 := by simpa [Value.cells, cells2] using hfs 4 _ rfl
  obtain ⟨n0, e0, _, _⟩ := DataW.trod_int Try.underlying2 g0
  obtain ⟨n1, e1, _, _⟩ := DataW.trod_int Try.underlying2 g1
  obtain ⟨n2, e2, _, _⟩ := DataW.trod_int Try.underlying2 g2
  obtain ⟨n3, e3, _, _⟩ := DataW.trod_int Try.underlying2 g3
  obtain ⟨n4, e4, _, _⟩ := DataW.trod_int Try.underlying2 g4
  simp at e0 e1 e2 e3 e4
  exact ⟨n0, n1, n2, n3, n4, e0, e1, e2, e3, e4⟩

set_option maxRecDepth 100000 in
/-- A font that comes in by value. -/
theorem openFont {H : Type} {enc : TypeId × Value → H} {w : World} {r : Reach} {b0 : Nat} {v : Value} {d : DataW H} {p : List MemPlace}
    (hv : Value.okWide Try.prog w r b0 27 v) (h : DataW.Trod enc Try.prog w 0 (fun _ => true) true 27 v d p) : ∃ (f : Fo) (vg vp : Value) (gs ps : List Q4), v = foV f vg vp ∧ TwoQ w vg vp gs ps ∧ f.s.size ≤ 9223372036854775807 ∧ gs.length ≤ 9223372036854775807 ∧ ps.length ≤ 9223372036854775807 := by
  obtain ⟨cs, rfl, hsz⟩ := okWide_struct Try.underlying27 hv
  obtain ⟨l⟩ := cs
  obtain ⟨c0, c1, c2, c3, c4, c5, c6, c7, c8, c9, rfl⟩ := list10 (cs := l) (by simpa using hsz.trans cells27)
  obtain ⟨fuel, hf⟩ := h
  obtain ⟨xs, n, _, _, _, hlen, hfs⟩ := DataW.trod_struct Try.underlying27 (by simpa [Value.cells] using hf : DataW.trod enc Try.prog w 0 (fun _ => true) true fuel 27 [c0, c1, c2, c3, c4, c5, c6, c7, c8, c9] = _)
  obtain ⟨y0, y1, y2, y3, y4, y5, rfl⟩ := list6 (by simpa using hlen)
  have k0 : DataW.trod enc Try.prog w 0 (fun _ => true) true n 9 [c0] = some y0 := by simpa [Value.cells, cells2, cells9, cells22, cells23, cells25] using hfs 0 _ rfl
  have k1 : DataW.trod enc Try.prog w 0 (fun _ => true) true n 22 [c1] = some y1 := by simpa [Value.cells, cells2, cells9, cells22, cells23, cells25] using hfs 1 _ rfl
  have k2 : DataW.trod enc Try.prog w 0 (fun _ => true) true n 23 [c2] = some y2 := by simpa [Value.cells, cells2, cells9, cells22, cells23, cells25] using hfs 2 _ rfl
  have k3 : DataW.trod enc Try.prog w 0 (fun _ => true) true n 25 [c3, c4, c5, c6, c7] = some y3 := by simpa [Value.cells, cells2, cells9, cells22, cells23, cells25] using hfs 3 _ rfl
  have k4 : DataW.trod enc Try.prog w 0 (fun _ => true) true n 2 [c8] = some y4 := by simpa [Value.cells, cells2, cells9, cells22, cells23, cells25] using hfs 4 _ rfl
  have k5 : DataW.trod enc Try.prog w 0 (fun _ => true) true n 2 [c9] = some y5 := by simpa [Value.cells, cells2, cells9, cells22, cells23, cells25] using hfs 5 _ rfl
  obtain ⟨s, e0, hs⟩ := DataW.trod_string Try.underlying9 k0
  obtain ⟨gs, hr1, hl1, _⟩ := openSlice (R := QR) (F := fun _ => True) Q4.none Try.underlying22 cells89 (by omega) (fun fuel cs y ht hl => by
    obtain ⟨x, hx⟩ := openQ (Or.inl rfl) ht hl
    exact ⟨x, hx, trivial⟩) k1
  obtain ⟨ps, hr2, hl2, _⟩ := openSlice (R := QR) (F := fun _ => True) Q4.none Try.underlying23 cells91 (by omega) (fun fuel cs y ht hl => by
    obtain ⟨x, hx⟩ := openQ (Or.inr rfl) ht hl
    exact ⟨x, hx, trivial⟩) k2
  obtain ⟨n3, n4, n5, n6, n7, e3, e4, e5, e6, e7⟩ := openGlue k3
  obtain ⟨n8, e8, _, _⟩ := DataW.trod_int Try.underlying2 k4
  obtain ⟨n9, e9, _, _⟩ := DataW.trod_int Try.underlying2 k5
  simp at e0 e8 e9
  subst e0 e3 e4 e5 e6 e7 e8 e9
  exact ⟨⟨s, n3, n4, n5, n6, n7, n8, n9⟩, c1, c2, gs, ps, rfl, ⟨hr1, hr2⟩, by first | exact hs.2 | (have := hs.2; unfold maxLen at this; omega), hl1, hl2⟩
end Go.Proofs.Ytggcfgbpameppaa
