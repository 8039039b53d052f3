/-
  The program's gathering of tokens: it begins with the row of all that is left, and counts.
-/
import Derived.Test.YtbceblgnjicdcaaXt
namespace Go.Proofs.Ytbceblgnjicdcaa
open Go.RowKit
set_option linter.unusedVariables false
set_option linter.unusedSimpArgs false

/-- The row without spare room. -/
def clipV : Value → Value
  | .slice a n _ => .slice a n n
  | v => v
theorem TNb.clip {w : World} {x : Nat} {v : Value} {ts : List Tk} (h : TNb w x v ts) : TNb w x (clipV v) ts := by
  rcases h with ⟨rfl, rfl⟩ | ⟨b, off, n, cap, rfl, hb, b2, off2, cap2, e, hcap, hlo, hb2, hc⟩
  · exact .inl ⟨rfl, rfl⟩
  · simp at e
    obtain ⟨⟨rfl, rfl⟩, rfl, rfl⟩ := e
    exact .inr ⟨b, off, _, _, rfl, hb, b, off, _, rfl, Nat.le_refl _, hlo, hb2, hc⟩

set_option maxRecDepth 100000 in
set_option maxHeartbeats 2000000 in
theorem gather_any {w : World} {x : Nat} {rest : List Tk} (h : Xs w x rest) (hl : rest.length ≤ 20000) : Calls Try.prog 138 #[ptr x] w fun e w' => ∃ a n, e = .returned (.agg #[.slice a n n, .int .i64 0]) ∧ TNb w' x (.slice a n n) rest ∧ n = rest.length ∧ Below w.heap.size w w' := by
  have H : Hid (Xs w x rest) := h
  have hsz := h.lt
  obtain ⟨fv, h, ht⟩ := h
  obtain ⟨a, n, cap, rfl, hn, hcap⟩ : ∃ a n cap, fv = .slice a n cap ∧ n = rest.length ∧ n ≤ cap := by
    rcases ht with ⟨rfl, rfl⟩ | ⟨b, off, n, cap, rfl, hb, b2, off2, cap2, e, hcap, _⟩
    · exact ⟨_, _, _, rfl, rfl, Nat.le_refl _⟩
    · simp at e; exact ⟨_, _, _, rfl, e.2.1, by rw [e.2.1, e.2.2]; exact hcap⟩
  have HX : Hid (XH w x (.slice a n cap) rest.length) := h
  have HT : Hid (TNb w x (.slice a n n) rest) := ht.clip
  have HN : Hid (n = rest.length) := hn
  have hn2 : n ≤ 20000 := by omega
  clear h ht hn
  have HF : Hid (∀ W, Below w.heap.size w W → Calls Try.prog 137 #[ptr x] W fun e w' => (∃ v, e = .returned v) ∧ Below W.heap.size W w') := by
    intro W hW
    cases rest with
    | nil => exact (first_none (Xs.fr H hW)).mono (fun e w' h => ⟨⟨_, h.1⟩, h.2⟩)
    | cons t r => exact (first_some (Xs.fr H hW) (by simp at hl; omega)).mono (fun e w' h => ⟨⟨_, h.1⟩, h.2⟩)
  go_enter Try.func138, Try.ntmps138
  go_wp2_with fail
  refine (HF _ (below1 _ _)).mono ?_
  rintro e w1 ⟨⟨v, rfl⟩, hb1⟩
  have B1 : Hid (Below w.heap.size w w1) := below_more (below1 _ _) hb1 (by simp)
  have hz1 : w.heap.size < w1.heap.size := by have := hb1.size; simp at this; omega
  have q1 : w1.heap[w.heap.size]? = some (.cells #[.slice none 0 0, .int .i64 0] 173) := by rw [hb1.block _ (by simp)]; exact Array.getElem?_push_size
  obtain ⟨g0, g1, g2, g3, hsz1, hfz⟩ := (XH.keep HX (Below.block B1 _ hsz)).cells
  have hf2 : ∀ o, w1.frozen? ⟨w.heap.size, o, none⟩ = false := fun o => frozen_row q1 o
  have c0 : w1.cell? ⟨w.heap.size, 0, none⟩ = some (.slice none 0 0) := by rw [cell_of_row w1 _ _ _ 173 _ q1]; rfl
  have c1 : w1.cell? ⟨w.heap.size, 1, none⟩ = some (.int .i64 0) := by rw [cell_of_row w1 _ _ _ 173 _ q1]; rfl
  have hne : x ≠ w.heap.size := by omega
  have hne2 : w.heap.size ≠ x := by omega
  have hnc : (n : Int) ≤ (cap : Int) := by omega
  clear hb1 HF q1
  go_wp2
  have B2 := (Below.setCell B1 (p := ⟨w.heap.size, 0, none⟩) (by simp) (.slice a n n)).setCell (p := ⟨w.heap.size, 1, none⟩) (by simp) (.int .i64 0)
  exact bodyPost_ret (v := .agg #[.slice a n n, .int .i64 0]) (by simp [results, Try.results138, go_sem, c0, c1]; try rfl) rfl ⟨a, n, rfl, TNb.below HT B2, HN, B2⟩

/-- What is gathered, in a block of its own. -/
def GH (w : World) (g : Nat) (v : Value) (k : Nat) : Prop := w.heap[g]? = some (.cells #[v, .int .i64 k] 173)
theorem GH.cells {w : World} {g k : Nat} {v : Value} (h : GH w g v k) : w.cell? ⟨g, 0, none⟩ = some v ∧ w.cell? ⟨g, 1, none⟩ = some (.int .i64 k) ∧ g < w.heap.size ∧ ∀ o, w.frozen? ⟨g, o, none⟩ = false := by
  refine ⟨?_, ?_, (Array.getElem?_eq_some_iff.1 h).1, fun o => frozen_row h o⟩ <;> (rw [cell_of_row w g _ _ 173 _ h]; rfl)

set_option maxRecDepth 100000 in
set_option maxHeartbeats 2000000 in
theorem add_any {w : World} {g k n : Nat} {a : Option Addr} {t : Tk} (h : GH w g (.slice a n n) k) (hk : k < n) (hn : n ≤ 20000) : Calls Try.prog 140 #[ptr g, t.v] w fun e w' => e = .returned (.tuple #[]) ∧ GH w' g (.slice a n n) (k + 1) ∧ Fr g w w' := by
  have H : Hid (GH w g (.slice a n n) k) := h
  obtain ⟨g0, g1, hsz, hfz⟩ := h.cells
  clear h
  obtain ⟨tc, th, ts⟩ := t
  rw [show (⟨tc, th, ts⟩ : Tk).v = tokV tc th ts from rfl]
  have hkn : ¬ (k : Int) = (n : Int) := by omega
  have hkb : ((k : Int) == (n : Int)) = false := beq_eq_false_iff_ne.2 hkn
  go_enter Try.func140, Try.ntmps140
  go_wp2
  go_region
  all_goals
    go_wp2
    go_end0
    have e1 := heap_setCell_same w g 1 _ 173 (.int .i64 ((k : Int) + 1)) H
    refine ⟨rfl, ?_, (Fr.set _ _).trans (Fr.below (below1 _ _).drew (by simp; omega))⟩
    show ((w.setCell _ _).alloc _).drew.heap[g]? = _
    rw [((below1 (w.setCell ⟨g, 1, none⟩ (.int .i64 ((k : Int) + 1))) (.cells #[.int .i64 tc, .int .i64 th, .string ts] 31)).drew).block g (by simp; omega), e1]
    rfl

set_option maxRecDepth 100000 in
set_option maxHeartbeats 2000000 in
theorem nesting_any (t : Tk) (w : World) : Calls Try.prog 139 #[t.v] w fun e w' => e = .returned (.int .i64 (dl t)) ∧ Below w.heap.size w w' := by
  obtain ⟨c, h, s⟩ := t
  rw [show (⟨c, h, s⟩ : Tk).v = tokV c h s from rfl]
  by_cases h1 : c = 1
  · subst h1
    rw [show dl ⟨1, h, s⟩ = 1 from rfl]
    go_enter Try.func139, Try.ntmps139
    go_wp2
    go_ret
    exact ⟨rfl, below1 _ _⟩
  · by_cases h2 : c = 2
    · subst h2
      rw [show dl ⟨2, h, s⟩ = -1 from rfl]
      go_enter Try.func139, Try.ntmps139
      go_wp2
      go_ret
      exact ⟨rfl, below1 _ _⟩
    · rw [show dl ⟨c, h, s⟩ = 0 by unfold dl; rw [if_neg h1, if_neg h2]]
      go_enter Try.func139, Try.ntmps139
      go_wp2
      go_ret
      exact ⟨rfl, below1 _ _⟩
end Go.Proofs.Ytbceblgnjicdcaa
