/-
  Proved: for every list of glues, laws.FnExactSumGlue returns true and its argument reads behind the call as before it; no condition.
-/
import Derived.Test.YtgfphgbemfmkfaaRows
import Derived.Test.YtgfphgbemfmkfaaSumE
import Derived.ProofKit
import Derived.OpenShut
import Derived.ShutString
import Derived.ChangeOld
import Derived.Deep.Slices
namespace Go.Proofs.Ytgfphgbemfmkfaa
open Go.ChangeShapes Go.WideShapes Go.ChangeAt Go.RowKit
set_option linter.unusedVariables false
set_option linter.unusedSimpArgs false

set_option maxHeartbeats 1000000 in
/-- A slice of nothing is not written. -/
theorem mark_none {ao : Option Addr} {cap : Nat} (w : World) (k : Int) : Calls Try.prog 18 #[.slice ao 0 cap, .int .i64 k] w fun e w' => e = .returned (.int .i64 k) ∧ w' = w := by
  go_enter Try.func18, Try.ntmps18
  go_wp2
  refine wp_loop_rounds 1 ?_
  rw [rounds_succ]
  go_wp2
  go_ret
  exact ⟨rfl, rfl⟩

theorem Four.owns {w : World} {g : Nat} {xs : List Int} (h : Four w 53 g xs) : w.ownsRow g 53 1 (.slice (some ⟨g, 0, none⟩) 4 4) 4 (xs.map (Value.int .i64)) :=
  ⟨by simp [h.2], .inr ⟨g, 4, (xs.map (Value.int .i64)).toArray, rfl, Nat.le_refl _, h.1, Nat.le_refl _, by unfold maxLen; omega, by simp [h.2], by rw [List.take_of_length_le (by simp [h.2])]⟩⟩
theorem four_own {w : World} {base g : Nat} {xs : List Int} (h : w.ownsRow base 53 1 (.slice (some ⟨g, 0, none⟩) 4 4) 4 (xs.map (Value.int .i64))) : Four w 53 g xs := by
  have hl : xs.length = 4 := by simpa using h.1
  rcases h.2 with ⟨h', _⟩ | ⟨g', cap', cur, h', _, hg, _, _, hcs, htake⟩
  · simp at h'
  · simp only [Value.slice.injEq, Option.some.injEq, Addr.mk.injEq, and_true, true_and] at h'
    obtain ⟨rfl, rfl⟩ := h'
    refine ⟨?_, hl⟩
    rw [hg, ← htake, List.take_of_length_le (by rw [Array.length_toList]; omega)]

/-- What the law's walk carries: old memory, what the specification made, and the two rows that the program made. -/
def St (w w3 wi : World) (P Q : Nat) (xs ys : List Int) : Prop := Below w.heap.size w wi ∧ Below w3.heap.size w3 wi ∧ Four wi 53 P xs ∧ Four wi 53 Q ys
theorem St.step {w w3 wi wj : World} {P Q : Nat} {xs ys : List Int} (h : St w w3 wi P Q xs ys) (hb : Below wi.heap.size wi wj) : St w w3 wj P Q xs ys :=
  ⟨h.1.trans (hb.mono h.1.size), h.2.1.trans (hb.mono h.2.1.size), h.2.2.1.below hb, h.2.2.2.below hb⟩
theorem St.only {w w3 wi wj : World} {P Q g : Nat} {xs ys : List Int} (h : St w w3 wi P Q xs ys) (ho : Only g wi wj) (hw : w.heap.size ≤ g) (h3 : w3.heap.size ≤ g) (hP : P ≠ g) (hQ : Q ≠ g) : St w w3 wj P Q xs ys :=
  ⟨h.1.trans (ho.2.2.mono hw), h.2.1.trans (ho.2.2.mono h3), ⟨(ho.2.1 P hP).trans h.2.2.1.1, h.2.2.1.2⟩, ⟨(ho.2.1 Q hQ).trans h.2.2.2.1, h.2.2.2.2⟩⟩

theorem rowNone (w : World) : Row w (.slice none 0 0) [] := ⟨none, 0, 0, rfl, rfl, fun h => by omega⟩

theorem ownT : ownKnob Try.prog.godebug = none := by kernel_rfl
theorem laidOut : laidOutB Try.prog = true := by kernel_rfl
theorem cells59 : Try.prog.cellsOf 59 = 5 := by kernel_rfl
theorem cells2 : Try.prog.cellsOf 2 = 1 := by kernel_rfl

theorem list5 {α : Type} {cs : List α} (h : cs.length = 5) : ∃ c0 c1 c2 c3 c4, cs = [c0, c1, c2, c3, c4] := by
  match cs, h with
  | [c0, c1, c2, c3, c4], _ => exact ⟨c0, c1, c2, c3, c4, rfl⟩

set_option maxRecDepth 100000 in
/-- A slice of glues that comes in. -/
theorem open_gls {H : Type} {enc : TypeId × Value → H} {w : World} {base : Nat} {held : Bool} {r : Reach} {b0 : Nat} {v : Value} {d : DataW H} {p : List MemPlace}
    (hv : Value.okWide Try.prog w r b0 38 v) (h : DataW.Trod enc Try.prog w base (fun _ => true) held 38 v d p) :
    ∃ gs : List Gl, GRow w v gs ∧ gs.length ≤ 9223372036854775807 := by
  obtain ⟨a0, len, cap, rfl⟩ := okWide_slice Try.underlying38 hv
  obtain ⟨fuel, hf⟩ := h
  rcases Go.Deep.open_slice Try.underlying38 hf with ⟨hcs, hx⟩ | ⟨a, len', cap', m, n, D, Pl, hcs, _, hl, hm, hmm, hx, hel⟩
  · simp [Value.cells] at hcs
    obtain ⟨rfl, rfl, rfl⟩ := hcs
    exact ⟨[], ⟨none, 0, 0, rfl, rfl, fun h => by omega⟩, by simp⟩
  · simp [Value.cells] at hcs
    obtain ⟨rfl, rfl, rfl⟩ := hcs
    by_cases h0 : len = 0
    · subst h0
      exact ⟨[], ⟨_, 0, cap, rfl, rfl, fun h => by omega⟩, by simp⟩
    · have hplain : ∃ b off, a = ⟨b, off, none⟩ := by
        obtain ⟨cs', hcells, htr⟩ := hel 0 (by simp at hmm; omega)
        rw [cells59] at hcells
        obtain ⟨_, hlen, hat⟩ := World.cells?_some hcells
        have h1 := hat 0 (by omega)
        rw [List.getElem?_eq_getElem (by omega)] at h1
        obtain ⟨b, off, spot⟩ := a
        have hspot : spot = none := by simpa [Addr.add] using World.cell?_spot h1
        subst hspot
        exact ⟨b, off, rfl⟩
      obtain ⟨b, off, rfl⟩ := hplain
      have each : ∀ i, i < len → ∃ t : Gl, w.cell? ⟨b, off + i * 5, none⟩ = some (.int .i64 t.s) ∧ w.cell? ⟨b, off + i * 5 + 1, none⟩ = some (.int .i64 t.p) ∧ w.cell? ⟨b, off + i * 5 + 2, none⟩ = some (.int .i64 t.po) ∧ w.cell? ⟨b, off + i * 5 + 3, none⟩ = some (.int .i64 t.m) ∧ w.cell? ⟨b, off + i * 5 + 4, none⟩ = some (.int .i64 t.mo) := by
        intro i hi
        obtain ⟨cs', hcells, htr⟩ := hel i (by simp at hmm; omega)
        rw [cells59, add_plain] at hcells
        obtain ⟨_, hlen, hat⟩ := World.cells?_some hcells
        obtain ⟨c0, c1, c2, c3, c4, rfl⟩ := list5 hlen
        obtain ⟨xs, n', _, _, _, hlx, hfs⟩ := DataW.trod_struct Try.underlying59 htr
        obtain ⟨y0, y1, y2, y3, y4, rfl⟩ := list5 (by simpa using hlx)
        have g0 : DataW.trod enc Try.prog w base (fun _ => true) held n' 2 [c0] = some y0 := by simpa [cells2] using hfs 0 _ rfl
        have g1 : DataW.trod enc Try.prog w base (fun _ => true) held n' 2 [c1] = some y1 := by simpa [cells2] using hfs 1 _ rfl
        have g2 : DataW.trod enc Try.prog w base (fun _ => true) held n' 2 [c2] = some y2 := by simpa [cells2] using hfs 2 _ rfl
        have g3 : DataW.trod enc Try.prog w base (fun _ => true) held n' 2 [c3] = some y3 := by simpa [cells2] using hfs 3 _ rfl
        have g4 : DataW.trod enc Try.prog w base (fun _ => true) held n' 2 [c4] = some y4 := by simpa [cells2] using hfs 4 _ rfl
        obtain ⟨n0, e0, _, _⟩ := DataW.trod_int Try.underlying2 g0
        obtain ⟨n1, e1, _, _⟩ := DataW.trod_int Try.underlying2 g1
        obtain ⟨n2, e2, _, _⟩ := DataW.trod_int Try.underlying2 g2
        obtain ⟨n3, e3, _, _⟩ := DataW.trod_int Try.underlying2 g3
        obtain ⟨n4, e4, _, _⟩ := DataW.trod_int Try.underlying2 g4
        simp at e0 e1 e2 e3 e4
        subst e0 e1 e2 e3 e4
        refine ⟨⟨n0, n1, n2, n3, n4⟩, ?_, ?_, ?_, ?_, ?_⟩
        · have := hat 0 (by omega); rw [add_plain] at this; simpa using this
        · have := hat 1 (by omega); rw [add_plain] at this; simpa using this
        · have := hat 2 (by omega); rw [add_plain] at this; simpa using this
        · have := hat 3 (by omega); rw [add_plain] at this; simpa using this
        · have := hat 4 (by omega); rw [add_plain] at this; simpa using this
      let f : Nat → Gl := fun i => if hi : i < len then Classical.choose (each i hi) else Gl.none
      have hf : ∀ i, (hi : i < len) → w.cell? ⟨b, off + i * 5, none⟩ = some (.int .i64 (f i).s) ∧ w.cell? ⟨b, off + i * 5 + 1, none⟩ = some (.int .i64 (f i).p) ∧ w.cell? ⟨b, off + i * 5 + 2, none⟩ = some (.int .i64 (f i).po) ∧ w.cell? ⟨b, off + i * 5 + 3, none⟩ = some (.int .i64 (f i).m) ∧ w.cell? ⟨b, off + i * 5 + 4, none⟩ = some (.int .i64 (f i).mo) := by
        intro i hi
        have := Classical.choose_spec (each i hi)
        simp only [f, dif_pos hi]
        exact this
      have hget : ∀ i, i < len → ((List.range len).map f).getD i Gl.none = f i := by
        intro i hi
        simp [List.getD, List.getElem?_map, List.getElem?_range hi]
      refine ⟨(List.range len).map f, ⟨_, len, cap, rfl, by simp, fun hp => ⟨b, off, rfl, World.block_lt_of_cell? w _ (hf 0 hp).1, fun i hi => ?_⟩⟩, ?_⟩
      · rw [hget i hi]
        exact hf i hi
      · simp
        unfold maxLen at hm
        omega
end Go.Proofs.Ytgfphgbemfmkfaa
