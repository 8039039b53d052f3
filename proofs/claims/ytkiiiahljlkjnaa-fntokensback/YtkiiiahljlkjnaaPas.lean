/-
  The program's passNote: the reader stands behind the end of the line.
-/
import Derived.Test.YtkiiiahljlkjnaaRng
namespace Go.Proofs.Ytkiiiahljlkjnaa
open Go.RowKit Go.Shelf
set_option linter.unusedVariables false
set_option linter.unusedSimpArgs false
attribute [local go_sem] Oper.semAt_some

/-- Of the first B blocks all but one stand. -/
structure Gr (g B : Nat) (w w' : World) : Prop where
  os : w'.os = w.os
  tape : w'.tape = w.tape
  output : w'.output = w.output
  size : w.heap.size ≤ w'.heap.size
  block : ∀ k, k < B → k ≠ g → w'.heap[k]? = w.heap[k]?
section
variable {g B : Nat} {a b c : World}
theorem Gr.refl (g B : Nat) (w : World) : Gr g B w w := ⟨rfl, rfl, rfl, Nat.le_refl _, fun _ _ _ => rfl⟩
theorem Gr.trans (h : Gr g B a b) (k : Gr g B b c) : Gr g B a c := ⟨k.os.trans h.os, k.tape.trans h.tape, k.output.trans h.output, Nat.le_trans h.size k.size, fun i h1 h2 => (k.block i h1 h2).trans (h.block i h1 h2)⟩
theorem Gr.mono {B' : Nat} (h : Gr g B a b) (hB : B' ≤ B) : Gr g B' a b := ⟨h.os, h.tape, h.output, h.size, fun k h1 h2 => h.block k (by omega) h2⟩
theorem Gr.below (h : Below B a b) : Gr g B a b := ⟨h.os, h.tape, h.output, h.size, fun k h1 _ => h.block k h1⟩
theorem Gr.to_below {B' : Nat} (h : Gr g B a b) (hB : B' ≤ B) (hg : B' ≤ g) : Below B' a b := ⟨h.os, h.tape, h.output, h.size, fun k h1 => h.block k (by omega) (by omega)⟩
theorem Gr.alloc (h : Gr g B a b) (hB : B ≤ b.heap.size) (o : Obj) : Gr g B a (b.alloc o) := h.trans (Gr.below ((Below.refl B b).alloc hB o))
theorem Gr.drew (h : Gr g B a b) : Gr g B a b.drew := h.trans (Gr.below (Below.refl B b).drew)
theorem Gr.set (h : Gr g B a b) (j : Nat) (v : Value) : Gr g B a (b.setCell ⟨g, j, none⟩ v) :=
  h.trans ⟨by simp [World.setCell], by simp [World.setCell], by simp [World.setCell], by simp, fun k _ h2 => Below.heap_setCell _ _ _ _ h2⟩
theorem Gr.setO (h : Gr g B a b) {q : Nat} (hq : B ≤ q) (j : Nat) (v : Value) : Gr g B a (b.setCell ⟨q, j, none⟩ v) := h.trans (Gr.below ((Below.refl B b).setCell (p := ⟨q, j, none⟩) hq v))
theorem Gr.grown {row : Option Nat} (h : Gr g B a b) (hg : b.grownBy c row) (hB : B ≤ b.heap.size) (hr : ∀ k, row = some k → B ≤ k) : Gr g B a c := h.trans (Gr.below ((Below.refl B b).grown hg hB hr))
theorem Gr.puts (h : Gr g B a b) {l : Nat} (hB : B ≤ b.heap.size) (hl : B ≤ l) (o' : Obj) : Gr g B a (b.putObj l o') := h.grown (grownBy_putObj' b l o') hB (fun k e => by cases e; exact hl)
end
theorem ownFrom_gr {β : Type} {g B n₀ : Nat} {w₀ : World} (hn : n₀ ≤ w₀.heap.size) (hB : n₀ ≤ B) : OwnFrom B (fun (_ : β) W => Gr g n₀ w₀ W) :=
  fun _ _ _ _ hs hg hr => hs.grown hg (Nat.le_trans hn hs.size) (fun k e => Nat.le_trans hB (hr k e).1)

theorem skN_stop {zs : List Int} {s : ByteArray} {p : Nat} (h : p < s.size) (h6 : catAt zs s p = 6) : skN zs s p = p + 1 := by
  have : endN zs s (s.size - p) p = p := endN_stop (fun hh => hh.2 h6)
  unfold skN
  rw [this, if_pos h]
theorem skN_go {zs : List Int} {s : ByteArray} {p : Nat} (h : p < s.size) (h6 : catAt zs s p ≠ 6) : skN zs s p = skN zs s (p + 1) := by
  unfold skN
  rw [endN_go h h6]
theorem skN_end {zs : List Int} {s : ByteArray} {p : Nat} (h : ¬ p < s.size) : skN zs s p = p := by
  have : endN zs s (s.size - p) p = p := endN_stop (fun hh => h hh.1)
  unfold skN
  rw [this, if_neg h]
theorem skN_le {zs : List Int} {s : ByteArray} {p : Nat} (h : p ≤ s.size) : skN zs s p ≤ s.size := by
  obtain ⟨k, hk⟩ : ∃ k, k = s.size - p := ⟨_, rfl⟩
  induction k generalizing p with
  | zero => rw [skN_end (by omega)]; exact h
  | succ k ih =>
    by_cases h6 : catAt zs s p = 6
    · rw [skN_stop (by omega) h6]; omega
    · rw [skN_go (by omega) h6]; exact ih (by omega) (by omega)

set_option maxRecDepth 100000 in
set_option maxHeartbeats 4000000 in
theorem pass_in {g t lo p0 : Nat} {zs : List Int} {s : ByteArray} {st : Int} {w : World} (hR : Rdr w g t lo zs s (p0 : Int) st) (hp : p0 ≤ s.size) (hz : zs.length = 256) (hs : s.size ≤ 65536) :
    CallsIn Fence.wide 5 Try.prog 45 #[.pointer (some ⟨g, 0, none⟩)] w fun e W' => (∃ v, e = .returned v) ∧ Rdr W' g t lo zs s (skN zs s p0 : Nat) st ∧ Gr g w.heap.size w W' := by
  have hgl := hR.inn
  have HR := hideP hR
  clear hR
  refine callsIn_of_wp_marks Try.func45 rfl trivial ?_ rfl
  simp only [Try.ntmps45, List.size_toArray, List.length_cons, List.length_nil, Nat.reduceAdd, Nat.reduceSub, Array.replicate_succ, Array.replicate_zero, List.push_toArray, List.append_toArray, List.nil_append, List.cons_append]
  gi_wp2_with fail
  refine ⟨trivial, CallsIn.mono (callsIn_wide.2 (bytes_any g _)) ?_⟩
  rintro e w2 ⟨rfl, rfl⟩
  gi_wp2_with fail
  obtain ⟨W0, hW0⟩ : ∃ W0, w.alloc (.cells #[.pointer (some ⟨g, 0, none⟩)] 52) = W0 := ⟨_, rfl⟩
  have hsz : W0.heap.size = w.heap.size + 1 := by rw [← hW0]; simp
  have bx : Boxed W0 w.heap.size 52 (.pointer (some ⟨g, 0, none⟩)) := by rw [← hW0]; exact Boxed.new w 52 _
  have R0 : Rdr W0 g t lo zs s (p0 : Int) st := by rw [← hW0]; exact HR.out.below (below1 w _)
  have G0 : Gr g w.heap.size w W0 := by rw [← hW0]; exact Gr.below (below1 w _)
  rw [hW0]
  clear hW0
  refine range_bytes (g := g) (t := t) (lo := lo) (Bs := w.heap.size) (zs := zs) (s := s) (by omega) hz hs rfl rfl
    (fun p W => p ≤ s.size ∧ Boxed W w.heap.size 52 (.pointer (some ⟨g, 0, none⟩)) ∧ Rdr W g t lo zs s (p : Int) st ∧ skN zs s p = skN zs s p0 ∧ Gr g w.heap.size w W)
    (fun p W => Boxed W w.heap.size 52 (.pointer (some ⟨g, 0, none⟩)) ∧ Rdr W g t lo zs s ((p + 1 : Nat) : Int) st ∧ skN zs s p = skN zs s p0 ∧ Gr g w.heap.size w W)
    (fun c W => c = .ret ∧ Rdr W g t lo zs s (skN zs s p0 : Nat) st ∧ Gr g w.heap.size w W)
    ?ow1 ?ow2 ?ow3 ?hA (by omega) ?hS p0 ⟨hp, bx, R0, rfl, G0⟩ ?a1 ?assign ?body ?done ?stop
  case assign =>
    intro l p W K hK
    gi_wp2
    exact hK
  case ow1 =>
    intro p A B row hs hg hr
    have hr2 := fun r e => (hr r e).2
    exact ⟨hs.1, boxed_own w.heap.size 52 (fun (_ : Nat) => _) p A B row hs.2.1 hg hr2, hs.2.2.1.kept hg hr2, hs.2.2.2.1, hs.2.2.2.2.grown hg hs.2.2.2.2.size (fun k e => by have := (hr k e).1; omega)⟩
  case ow2 =>
    intro p A B row hs hg hr
    have hr2 := fun r e => (hr r e).2
    exact ⟨boxed_own w.heap.size 52 (fun (_ : Nat) => _) p A B row hs.1 hg hr2, hs.2.1.kept hg hr2, hs.2.2.1, hs.2.2.2.grown hg hs.2.2.2.size (fun k e => by have := (hr k e).1; omega)⟩
  case ow3 =>
    intro p A B row hs hg hr
    have hr2 := fun r e => (hr r e).2
    exact ⟨hs.1, hs.2.1.kept hg hr2, hs.2.2.grown hg hs.2.2.size (fun k e => by have := (hr k e).1; omega)⟩
  case hA =>
    rintro p W ⟨h1, h2, h3, h4, h5⟩
    exact ⟨h1, h2.cell, st, h3⟩
  case hS =>
    rintro p W ⟨h1, h2, h3, h4, h5⟩ h6
    refine ⟨(Below.heap_setCell _ _ _ _ (by simp; omega)).trans h2, ?_, h4, h5.set _ _⟩
    have h7 := h3.setAt ((p : Int) + 1)
    rw [show ((p + 1 : Nat) : Int) = (p : Int) + 1 by omega]
    exact h7
  case body =>
    rintro l p W ⟨h2, h3, h4, h5⟩ h6
    have H := hideP (And.intro h2 (And.intro h3 (And.intro h4 h5)))
    clear h2 h3 h4 h5
    by_cases hc : catAt zs s p = 6
    · have hc2 : decide (catAt zs s p = 6) = true := by simp [hc]
      have hc3 : (catAt zs s p == 6) = true := by simp [hc]
      gi_wp2
      obtain ⟨h2, h3, h4, h5⟩ := H.out
      refine ⟨KeepsFrom.refl _ _, rfl, ?_, h5⟩
      rw [← h4, skN_stop h6 hc]
      exact h3
    · have hc2 : decide (catAt zs s p = 6) = false := by simp [hc]
      have hc3 : (catAt zs s p == 6) = false := by simp [hc]
      gi_wp2
      obtain ⟨h2, h3, h4, h5⟩ := H.out
      refine ⟨KeepsFrom.refl _ _, by omega, h2, h3, ?_, h5⟩
      rw [← h4, skN_go h6 hc]
  case done =>
    rintro D p W hD hpe ⟨h1, h2, h3, h4, h5⟩ hK
    gi_wp2
    refine ⟨by simp, .inl ⟨_, _, rfl, run_takeDeferred hK, ?_⟩⟩
    have hk : ∀ q, q ≠ D → (W.putObj D (.deferred none)).heap[q]? = W.heap[q]? := fun q hq => World.putObj_heap_other hq
    refine ⟨_, results_none rfl _ _ _, ⟨_, rfl⟩, ?_, h5.puts h5.size (by omega) _⟩
    have e : skN zs s p0 = p := by rw [← h4, skN_end hpe]
    rw [e]
    have i1 := h3.inn
    exact h3.heap (hk g (by omega)) (hk t (fun e => by subst e; rw [show W.heap[t]? = _ from h3.tb] at hK; cases hK))
  case stop =>
    rintro D c W hD ⟨rfl, h3, h5⟩ hK
    gi_wp2
    refine ⟨by simp, .inl ⟨_, _, rfl, run_takeDeferred hK, ?_⟩⟩
    have hk : ∀ q, q ≠ D → (W.putObj D (.deferred none)).heap[q]? = W.heap[q]? := fun q hq => World.putObj_heap_other hq
    refine ⟨_, results_none rfl _ _ _, ⟨_, rfl⟩, ?_, h5.puts h5.size (by omega) _⟩
    exact h3.heap (hk g (by omega)) (hk t (fun e => by subst e; rw [show W.heap[t]? = _ from h3.tb] at hK; cases hK))
end Go.Proofs.Ytkiiiahljlkjnaa
