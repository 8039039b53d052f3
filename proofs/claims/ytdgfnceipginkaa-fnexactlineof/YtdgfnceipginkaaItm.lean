/-
  Rows of rows of nodes: marked, and looked at again.
-/
import Derived.Test.YtdgfnceipginkaaOw
import Derived.Test.YtdgfnceipginkaaNdq
import Derived.Test.YtdgfnceipginkaaSpl
import Derived.Deep.RegionWith
import Derived.Deep.RegionHeld3
namespace Go.Proofs.Ytdgfnceipginkaa
open Go.RowKit
set_option linter.unusedVariables false
set_option linter.unusedSimpArgs false

/-- In world w the slice v reads as n rows of nodes, f of each place. -/
def RR (w : World) (v : Value) (n : Nat) (f : Nat → List Nd) : Prop :=
  ∃ ao cap, v = .slice ao n cap ∧ (0 < n → ∃ b off, ao = some ⟨b, off, none⟩ ∧ b < w.heap.size ∧ ∀ i, i < n → ∃ u, w.cell? ⟨b, off + i, none⟩ = some u ∧ NRow 0 w u (f i))
theorem RR.below {w w' : World} {v : Value} {n : Nat} {f : Nat → List Nd} (h : RR w v n f) (hb : Below w.heap.size w w') : RR w' v n f := by
  obtain ⟨ao, cap, rfl, hc⟩ := h
  refine ⟨ao, cap, rfl, fun hp => ?_⟩
  obtain ⟨b, off, rfl, hlt, hcell⟩ := hc hp
  refine ⟨b, off, rfl, Nat.lt_of_lt_of_le hlt hb.size, fun i hi => ?_⟩
  obtain ⟨u, hu, hr⟩ := hcell i hi
  exact ⟨u, (hb.cell (p := ⟨b, off + i, none⟩) hlt).trans hu, SRow.below ndStable hr hb⟩

/-- Rows of nodes that are owned, each its own block. -/
structure Lsts (base : Nat) (w : World) (vs : List Value) (f : Nat → List Nd) : Prop where
  own : ∀ (i : Nat) (u : Value), vs[i]? = some u → w.ownsRow base 48 15 u (f i).length (flatN (f i))
  apart : ∀ (i j : Nat) (u t : Value), i ≠ j → vs[i]? = some u → vs[j]? = some t → ∀ b, u.ownBlock = some b → t.ownBlock ≠ some b

theorem own25_cell {base g n cap : Nat} {w : World} {xs : List Value} (h : w.ownsRow base 28 1 (.slice (some ⟨g, 0, none⟩) n cap) n xs) {j : Nat} {x : Value} (hj : xs[j]? = some x) : w.cell? ⟨g, j, none⟩ = some x ∧ w.frozen? ⟨g, j, none⟩ = false := by
  obtain ⟨hl, ⟨h, _⟩ | ⟨g', cap', cur, e, _, hb, hn, hm, hs, hx⟩⟩ := h
  · simp at h
  · simp only [Value.slice.injEq, Option.some.injEq, Addr.mk.injEq, and_true, true_and] at e
    obtain ⟨rfl, rfl⟩ := e
    refine ⟨?_, frozen_of_row w g j cur 28 hb⟩
    rw [cell_of_row w g _ cur 28 _ hb, ← Array.getElem?_toList]
    rw [← hx, List.getElem?_take] at hj
    split at hj
    · exact hj
    · simp at hj
theorem own25_shape {base n : Nat} {w : World} {v : Value} {xs : List Value} (h : w.ownsRow base 28 1 v n xs) : ∃ ao cap, v = .slice ao n cap ∧ (0 < n → ∃ g, ao = some ⟨g, 0, none⟩ ∧ base ≤ g ∧ g < w.heap.size) := by
  obtain ⟨hl, ⟨rfl, rfl⟩ | ⟨g, cap, cur, rfl, hg, hb, _⟩⟩ := h
  · exact ⟨_, _, rfl, fun h => absurd h (Nat.lt_irrefl _)⟩
  · exact ⟨_, _, rfl, fun _ => ⟨g, rfl, hg, (Array.getElem?_eq_some_iff.1 hb).1⟩⟩
theorem own25_len {base n : Nat} {w : World} {v : Value} {xs : List Value} (h : w.ownsRow base 28 1 v n xs) : xs.length = n := by
  have := h.1
  omega
/-- The row of rows lies in a block of another type than the rows. -/
theorem other_block {base base' n m : Nat} {w : World} {v u : Value} {xs ys : List Value} (h : w.ownsRow base 28 1 v n xs) (k : w.ownsRow base' 48 15 u m ys) : ∀ b, v.ownBlock = some b → u.ownBlock ≠ some b := by
  intro b hb hu
  obtain ⟨_, ⟨rfl, _⟩ | ⟨g, cap, cur, rfl, _, hg, _⟩⟩ := h
  · simp [Value.ownBlock] at hb
  · obtain ⟨_, ⟨rfl, _⟩ | ⟨g', cap', cur', rfl, _, hg', _⟩⟩ := k
    · simp [Value.ownBlock] at hu
    · simp [Value.ownBlock] at hb hu
      subst hb hu
      rw [hg] at hg'
      simp at hg'


/-- How many nodes stand ahead of row j. -/
def offs (f : Nat → List Nd) : Nat → Nat
  | 0 => 0
  | j + 1 => offs f j + (f j).length
def marked (k : Nat) (f : Nat → List Nd) (j : Nat) : List Nd := marksN (k + 15 * offs f j) (f j).length
theorem own25_below {base n : Nat} {w w' : World} {v : Value} {xs : List Value} (h : w.ownsRow base 28 1 v n xs) (hb : Below w.heap.size w w') : w'.ownsRow base 28 1 v n xs := by
  obtain ⟨hl, h | ⟨g, cap, cur, rfl, hg, hbk, hr⟩⟩ := h
  · exact ⟨hl, .inl h⟩
  · exact ⟨hl, .inr ⟨g, cap, cur, rfl, hg, (hb.block g (Array.getElem?_eq_some_iff.1 hbk).1).trans hbk, hr⟩⟩
theorem Lsts.below {base : Nat} {w w' : World} {vs : List Value} {f : Nat → List Nd} (h : Lsts base w vs f) (hb : Below w.heap.size w w') : Lsts base w' vs f :=
  ⟨fun i u hu => own_below (h.own i u hu) hb, h.apart⟩

end Go.Proofs.Ytdgfnceipginkaa
