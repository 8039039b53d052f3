/-
  Nodes marked, and looked at.
-/
import Derived.Test.YtmnhjikmnhlbgaaMkt
import Derived.Deep.RegionHeld3
namespace Go.Proofs.Ytmnhjikmnhlbgaa
open Go.RowKit
set_option linter.unusedVariables false
set_option linter.unusedSimpArgs false

/-- A node of marks. -/
def mkN (q : Nat) : Nd := ⟨(q : Int), (q : Int) + 1, (q : Int) + 2, (q : Int) + 3, (q : Int) + 4, (q : Int) + 5, (q : Int) + 6, (q : Int) + 7, (q : Int) + 8, (q : Int) + 9, (q : Int) + 10, (q : Int) + 11, (q : Int) + 12, mtext (q + 13), (q : Int) + 14⟩
def marksN (k n : Nat) : List Nd := (List.range n).map (fun i => mkN (k + 15 * i))
theorem marksN_len (k n : Nat) : (marksN k n).length = n := by simp [marksN]
theorem marksN_get {k n i : Nat} (h : i < n) : (marksN k n).getD i Nd.none = mkN (k + 15 * i) := by simp [marksN, List.getD, h]
theorem flat_ext {L : List Value} {xs : List Nd} (hl : L.length = xs.length * 15) (h : ∀ t, t < xs.length * 15 → L[t]? = (flatN xs)[t]?) : L = flatN xs := by
  apply List.ext_getElem?
  intro t
  by_cases ht : t < xs.length * 15
  · exact h t ht
  · rw [List.getElem?_eq_none (by omega), List.getElem?_eq_none (by rw [flatN_len]; omega)]

/-- All old blocks but g stand. -/
structure Sole (g : Nat) (w w' : World) : Prop where
  below : Below g w w'
  other : ∀ b, b < w.heap.size → b ≠ g → w'.heap[b]? = w.heap[b]?
theorem Sole.refl (g : Nat) (w : World) : Sole g w w := ⟨Below.refl _ _, fun _ _ _ => rfl⟩
theorem Sole.set {g o : Nat} {w w' : World} (h : Sole g w w') (x : Value) : Sole g w (w'.setCell ⟨g, o, none⟩ x) :=
  ⟨h.below.setCell (Nat.le_refl _) _, fun b hb hn => (Below.heap_setCell _ _ _ _ (by simpa using hn)).trans (h.other b hb hn)⟩
theorem Sole.below_more {g : Nat} {w w' w2 : World} (h : Sole g w w') (hb : Below w'.heap.size w' w2) (hg : g < w'.heap.size) : Sole g w w2 :=
  ⟨h.below.trans (hb.mono (by omega)), fun b hb2 hn => (hb.block b (Nat.lt_of_lt_of_le hb2 h.below.size)).trans (h.other b hb2 hn)⟩

theorem marked_at {n k j : Nat} {L : List Value} (hL : L.length = n * 15) (hj : j < n) (hd : ∀ t, t < j * 15 → L[t]? = (flatN (marksN k n))[t]?) {T : ByteArray} {q : Nat} (hq : q = k + 15 * j) (hT : T = mtext (q + 13)) :
    ∀ t, t < (j + 1) * 15 → ((((((((((((((((L.set (j * 15) (.int .i64 ((q : Int)))).set (j * 15 + 1) (.int .i64 ((q : Int) + 1))).set (j * 15 + 2) (.int .i64 ((q : Int) + 1 + 1))).set (j * 15 + 3) (.int .i64 ((q : Int) + 1 + 1 + 1))).set (j * 15 + 4) (.int .i64 ((q : Int) + 1 + 1 + 1 + 1))).set (j * 15 + 5) (.int .i64 ((q : Int) + 1 + 1 + 1 + 1 + 1))).set (j * 15 + 6) (.int .i64 ((q : Int) + 1 + 1 + 1 + 1 + 1 + 1))).set (j * 15 + 7) (.int .i64 ((q : Int) + 1 + 1 + 1 + 1 + 1 + 1 + 1))).set (j * 15 + 8) (.int .i64 ((q : Int) + 1 + 1 + 1 + 1 + 1 + 1 + 1 + 1))).set (j * 15 + 9) (.int .i64 ((q : Int) + 1 + 1 + 1 + 1 + 1 + 1 + 1 + 1 + 1))).set (j * 15 + 10) (.int .i64 ((q : Int) + 1 + 1 + 1 + 1 + 1 + 1 + 1 + 1 + 1 + 1))).set (j * 15 + 11) (.int .i64 ((q : Int) + 1 + 1 + 1 + 1 + 1 + 1 + 1 + 1 + 1 + 1 + 1))).set (j * 15 + 12) (.int .i64 ((q : Int) + 1 + 1 + 1 + 1 + 1 + 1 + 1 + 1 + 1 + 1 + 1 + 1))).set (j * 15 + 13) (.string T)).set (j * 15 + 14) (.int .i64 ((q : Int) + 1 + 1 + 1 + 1 + 1 + 1 + 1 + 1 + 1 + 1 + 1 + 1 + 1 + 1))))[t]? = (flatN (marksN k n))[t]? := by
  intro t ht
  by_cases h1 : t < j * 15
  · rw [← hd t h1]
    rw [List.getElem?_set_ne (by omega), List.getElem?_set_ne (by omega), List.getElem?_set_ne (by omega), List.getElem?_set_ne (by omega), List.getElem?_set_ne (by omega), List.getElem?_set_ne (by omega), List.getElem?_set_ne (by omega), List.getElem?_set_ne (by omega), List.getElem?_set_ne (by omega), List.getElem?_set_ne (by omega), List.getElem?_set_ne (by omega), List.getElem?_set_ne (by omega), List.getElem?_set_ne (by omega), List.getElem?_set_ne (by omega), List.getElem?_set_ne (by omega)]
  · obtain ⟨s, rfl⟩ : ∃ s, t = j * 15 + s := ⟨t - j * 15, by omega⟩
    rw [flatN_get _ j (by rw [marksN_len]; exact hj) s (by omega), marksN_get hj, ← hq]
    have hs : s = 0 ∨ s = 1 ∨ s = 2 ∨ s = 3 ∨ s = 4 ∨ s = 5 ∨ s = 6 ∨ s = 7 ∨ s = 8 ∨ s = 9 ∨ s = 10 ∨ s = 11 ∨ s = 12 ∨ s = 13 ∨ s = 14 := by omega
    rcases hs with rfl | rfl | rfl | rfl | rfl | rfl | rfl | rfl | rfl | rfl | rfl | rfl | rfl | rfl | rfl
    · rw [List.getElem?_set_ne (by omega), List.getElem?_set_ne (by omega), List.getElem?_set_ne (by omega), List.getElem?_set_ne (by omega), List.getElem?_set_ne (by omega), List.getElem?_set_ne (by omega), List.getElem?_set_ne (by omega), List.getElem?_set_ne (by omega), List.getElem?_set_ne (by omega), List.getElem?_set_ne (by omega), List.getElem?_set_ne (by omega), List.getElem?_set_ne (by omega), List.getElem?_set_ne (by omega), List.getElem?_set_ne (by omega)]
      rw [Nat.add_zero, List.getElem?_set_self (by omega)]
      show some (Value.int .i64 _) = some (Value.int .i64 _)
      congr 2
      try omega
    · rw [List.getElem?_set_ne (by omega), List.getElem?_set_ne (by omega), List.getElem?_set_ne (by omega), List.getElem?_set_ne (by omega), List.getElem?_set_ne (by omega), List.getElem?_set_ne (by omega), List.getElem?_set_ne (by omega), List.getElem?_set_ne (by omega), List.getElem?_set_ne (by omega), List.getElem?_set_ne (by omega), List.getElem?_set_ne (by omega), List.getElem?_set_ne (by omega), List.getElem?_set_ne (by omega)]
      rw [List.getElem?_set_self (by simp only [List.length_set]; omega)]
      show some (Value.int .i64 _) = some (Value.int .i64 _)
      congr 2
      try omega
    · rw [List.getElem?_set_ne (by omega), List.getElem?_set_ne (by omega), List.getElem?_set_ne (by omega), List.getElem?_set_ne (by omega), List.getElem?_set_ne (by omega), List.getElem?_set_ne (by omega), List.getElem?_set_ne (by omega), List.getElem?_set_ne (by omega), List.getElem?_set_ne (by omega), List.getElem?_set_ne (by omega), List.getElem?_set_ne (by omega), List.getElem?_set_ne (by omega)]
      rw [List.getElem?_set_self (by simp only [List.length_set]; omega)]
      show some (Value.int .i64 _) = some (Value.int .i64 _)
      congr 2
      try omega
    · rw [List.getElem?_set_ne (by omega), List.getElem?_set_ne (by omega), List.getElem?_set_ne (by omega), List.getElem?_set_ne (by omega), List.getElem?_set_ne (by omega), List.getElem?_set_ne (by omega), List.getElem?_set_ne (by omega), List.getElem?_set_ne (by omega), List.getElem?_set_ne (by omega), List.getElem?_set_ne (by omega), List.getElem?_set_ne (by omega)]
      rw [List.getElem?_set_self (by simp only [List.length_set]; omega)]
      show some (Value.int .i64 _) = some (Value.int .i64 _)
      congr 2
      try omega
    · rw [List.getElem?_set_ne (by omega), List.getElem?_set_ne (by omega), List.getElem?_set_ne (by omega), List.getElem?_set_ne (by omega), List.getElem?_set_ne (by omega), List.getElem?_set_ne (by omega), List.getElem?_set_ne (by omega), List.getElem?_set_ne (by omega), List.getElem?_set_ne (by omega), List.getElem?_set_ne (by omega)]
      rw [List.getElem?_set_self (by simp only [List.length_set]; omega)]
      show some (Value.int .i64 _) = some (Value.int .i64 _)
      congr 2
      try omega
    · rw [List.getElem?_set_ne (by omega), List.getElem?_set_ne (by omega), List.getElem?_set_ne (by omega), List.getElem?_set_ne (by omega), List.getElem?_set_ne (by omega), List.getElem?_set_ne (by omega), List.getElem?_set_ne (by omega), List.getElem?_set_ne (by omega), List.getElem?_set_ne (by omega)]
      rw [List.getElem?_set_self (by simp only [List.length_set]; omega)]
      show some (Value.int .i64 _) = some (Value.int .i64 _)
      congr 2
      try omega
    · rw [List.getElem?_set_ne (by omega), List.getElem?_set_ne (by omega), List.getElem?_set_ne (by omega), List.getElem?_set_ne (by omega), List.getElem?_set_ne (by omega), List.getElem?_set_ne (by omega), List.getElem?_set_ne (by omega), List.getElem?_set_ne (by omega)]
      rw [List.getElem?_set_self (by simp only [List.length_set]; omega)]
      show some (Value.int .i64 _) = some (Value.int .i64 _)
      congr 2
      try omega
    · rw [List.getElem?_set_ne (by omega), List.getElem?_set_ne (by omega), List.getElem?_set_ne (by omega), List.getElem?_set_ne (by omega), List.getElem?_set_ne (by omega), List.getElem?_set_ne (by omega), List.getElem?_set_ne (by omega)]
      rw [List.getElem?_set_self (by simp only [List.length_set]; omega)]
      show some (Value.int .i64 _) = some (Value.int .i64 _)
      congr 2
      try omega
    · rw [List.getElem?_set_ne (by omega), List.getElem?_set_ne (by omega), List.getElem?_set_ne (by omega), List.getElem?_set_ne (by omega), List.getElem?_set_ne (by omega), List.getElem?_set_ne (by omega)]
      rw [List.getElem?_set_self (by simp only [List.length_set]; omega)]
      show some (Value.int .i64 _) = some (Value.int .i64 _)
      congr 2
      try omega
    · rw [List.getElem?_set_ne (by omega), List.getElem?_set_ne (by omega), List.getElem?_set_ne (by omega), List.getElem?_set_ne (by omega), List.getElem?_set_ne (by omega)]
      rw [List.getElem?_set_self (by simp only [List.length_set]; omega)]
      show some (Value.int .i64 _) = some (Value.int .i64 _)
      congr 2
      try omega
    · rw [List.getElem?_set_ne (by omega), List.getElem?_set_ne (by omega), List.getElem?_set_ne (by omega), List.getElem?_set_ne (by omega)]
      rw [List.getElem?_set_self (by simp only [List.length_set]; omega)]
      show some (Value.int .i64 _) = some (Value.int .i64 _)
      congr 2
      try omega
    · rw [List.getElem?_set_ne (by omega), List.getElem?_set_ne (by omega), List.getElem?_set_ne (by omega)]
      rw [List.getElem?_set_self (by simp only [List.length_set]; omega)]
      show some (Value.int .i64 _) = some (Value.int .i64 _)
      congr 2
      try omega
    · rw [List.getElem?_set_ne (by omega), List.getElem?_set_ne (by omega)]
      rw [List.getElem?_set_self (by simp only [List.length_set]; omega)]
      show some (Value.int .i64 _) = some (Value.int .i64 _)
      congr 2
      try omega
    · rw [List.getElem?_set_ne (by omega)]
      rw [List.getElem?_set_self (by simp only [List.length_set]; omega)]
      rw [hT]; rfl
    · rw [List.getElem?_set_self (by simp only [List.length_set]; omega)]
      show some (Value.int .i64 _) = some (Value.int .i64 _)
      congr 2
      try omega
end Go.Proofs.Ytmnhjikmnhlbgaa
