/-
  Nodes marked, and looked at.
-/
import Derived.Test.YtjagagbelpihbaaCln
import Derived.Laws.BytesArg
import Derived.Deep.RegionWith
import Derived.Deep.RegionHeld3
namespace Go.Proofs.Ytjagagbelpihbaa
open Go.RowKit
set_option linter.unusedVariables false
set_option linter.unusedSimpArgs false

/-- The digits of a number ahead of a text. -/
def mtGo (k : Nat) (out : ByteArray) : ByteArray := if h : k = 0 then out else mtGo (k / 10) (strOfNums [48 + (k : Int) % 10] ++ out)
def mtext (k : Nat) : ByteArray := ⟨#[109]⟩ ++ mtGo k ⟨#[]⟩
theorem mtGo_zero (o : ByteArray) : mtGo 0 o = o := by rw [mtGo]; simp
theorem mtGo_step {k : Nat} (h : 0 < k) (o : ByteArray) : mtGo k o = mtGo (k / 10) (strOfNums [48 + (k : Int) % 10] ++ o) := by
  rw [mtGo, dif_neg (by omega)]

theorem conv_one (w : World) (x : Int) : (convert 133 9 (.slice (some ⟨w.heap.size, 0, none⟩) 1 1)).run Try.prog (w.alloc (.cells #[.int .u8 x] 5)) = .ok (.string (strOfNums [x])) (w.alloc (.cells #[.int .u8 x] 5)) := by
  refine run_convert_bytes_arg (w.alloc (.cells #[.int .u8 x] 5)) 133 5 Try.underlying133 Try.underlying5 w.heap.size 0 1 1 [x] rfl ?_ 9 Try.underlying9
  intro i hi
  have h0 : i = 0 := by omega
  subst h0
  simp

set_option maxRecDepth 100000 in
set_option maxHeartbeats 2000000 in
theorem markText_any (k : Nat) (hk : 0 < k) (hk2 : k ≤ 4611686018424287904) (w : World) : Calls Try.prog 39 #[.int .i64 (k : Int)] w fun e w' => e = .returned (.string (mtext k)) ∧ Below w.heap.size w w' := by
  have h1 : ¬ (k : Int) ≤ 0 := by omega
  obtain ⟨S, hS⟩ : ∃ S, S = mtext k := ⟨_, rfl⟩
  rw [← hS]
  have HS : Hid (S = mtext k) := hS
  clear hS
  go_enter Try.func39, Try.ntmps39
  go_wp2
  go_loopw [0, 3] (fun kv out wr => ∃ (q : Nat) (o : ByteArray), kv = .int .i64 q ∧ out = .string o ∧ o.size + q ≤ k ∧ Hid (mtGo q o = mtGo k ⟨#[]⟩) ∧ Below w.heap.size w wr) (fun kv _ _ => (intOf kv).toNat)
  case atStart => exact ⟨k, ⟨#[]⟩, rfl, rfl, by show 0 + k ≤ k; omega, rfl, Below.refl _ _⟩
  case round =>
    obtain ⟨q, o, rfl, rfl, hq, HG, hbel⟩ := hrel
    have HB : Hid (Below w.heap.size w wr) := hbel
    clear hbel
    by_cases h0 : 0 < q
    · have hq0 : (0 : Int) < (q : Int) := by omega
      have hcv := conv_one wr
      have hsz : (strOfNums [48 + (q : Int) % 10]).size = 1 := rfl
      have hos : o.size ≤ 4611686018424287904 := by omega
      have HG2 : Hid (mtGo (q / 10) (strOfNums [48 + (q : Int) % 10] ++ o) = mtGo k ⟨#[]⟩) := by rw [← mtGo_step h0]; exact HG
      go_wp2
      go_roundw
      case rel => exact ⟨q / 10, _, by go_num, rfl, by rw [ByteArray.size_append, hsz]; omega, HG2, Below.alloc HB (Below.size HB) _⟩
      case measure => simp [intOf]; omega
    · have hq0 : ¬ (0 : Int) < (q : Int) := by omega
      obtain rfl : q = 0 := by omega
      have hos : o.size ≤ 4611686018424287904 := by omega
      have HE : Hid (S = ⟨#[109]⟩ ++ o) := by
        show S = _
        rw [show S = _ from HS]
        unfold mtext
        rw [← show mtGo 0 o = _ from HG, mtGo_zero]
      go_wp2
      go_ret
      refine ⟨?_, HB⟩
      rw [show S = _ from HE]
      rfl

end Go.Proofs.Ytjagagbelpihbaa

namespace Go.Proofs.Ytjagagbelpihbaa
open Go.RowKit
set_option linter.unusedVariables false
set_option linter.unusedSimpArgs false

/-- A node of marks. -/
def mkN (q : Nat) : Nd := ⟨(q : Int), (q : Int) + 1, (q : Int) + 2, (q : Int) + 3, (q : Int) + 4, (q : Int) + 5, (q : Int) + 6, (q : Int) + 7, (q : Int) + 8, (q : Int) + 9, (q : Int) + 10, (q : Int) + 11, (q : Int) + 12, mtext (q + 13), (q : Int) + 14⟩
def marksN (k n : Nat) : List Nd := (List.range n).map (fun i => mkN (k + 15 * i))
theorem marksN_len (k n : Nat) : (marksN k n).length = n := by simp [marksN]
theorem marksN_get {k n i : Nat} (h : i < n) : (marksN k n).getD i Nd.none = mkN (k + 15 * i) := by simp [marksN, List.getD, h]
theorem flat_ext {L : List Value} {xs : List Nd} (hl : L.length = xs.length * 15) (h : ∀ t, t < xs.length * 15 → L[t]? = (flatN xs)[t]?) : L = flatN xs := by
  apply List.ext_getElem?
  intro t
  by_cases ht : t < xs.length * 15
  · exact h t ht
  · rw [List.getElem?_eq_none (by omega), List.getElem?_eq_none (by rw [flatN_len]; omega)]

/-- All old blocks but g stand. -/
structure Sole (g : Nat) (w w' : World) : Prop where
  below : Below g w w'
  other : ∀ b, b < w.heap.size → b ≠ g → w'.heap[b]? = w.heap[b]?
theorem Sole.refl (g : Nat) (w : World) : Sole g w w := ⟨Below.refl _ _, fun _ _ _ => rfl⟩
theorem Sole.set {g o : Nat} {w w' : World} (h : Sole g w w') (x : Value) : Sole g w (w'.setCell ⟨g, o, none⟩ x) :=
  ⟨h.below.setCell (Nat.le_refl _) _, fun b hb hn => (Below.heap_setCell _ _ _ _ (by simpa using hn)).trans (h.other b hb hn)⟩
theorem Sole.below_more {g : Nat} {w w' w2 : World} (h : Sole g w w') (hb : Below w'.heap.size w' w2) (hg : g < w'.heap.size) : Sole g w w2 :=
  ⟨h.below.trans (hb.mono (by omega)), fun b hb2 hn => (hb.block b (Nat.lt_of_lt_of_le hb2 h.below.size)).trans (h.other b hb2 hn)⟩

theorem marked_at {n k j : Nat} {L : List Value} (hL : L.length = n * 15) (hj : j < n) (hd : ∀ t, t < j * 15 → L[t]? = (flatN (marksN k n))[t]?) {T : ByteArray} {q : Nat} (hq : q = k + 15 * j) (hT : T = mtext (q + 13)) :
    ∀ t, t < (j + 1) * 15 → ((((((((((((((((L.set (j * 15) (.int .i64 ((q : Int)))).set (j * 15 + 1) (.int .i64 ((q : Int) + 1))).set (j * 15 + 2) (.int .i64 ((q : Int) + 1 + 1))).set (j * 15 + 3) (.int .i64 ((q : Int) + 1 + 1 + 1))).set (j * 15 + 4) (.int .i64 ((q : Int) + 1 + 1 + 1 + 1))).set (j * 15 + 5) (.int .i64 ((q : Int) + 1 + 1 + 1 + 1 + 1))).set (j * 15 + 6) (.int .i64 ((q : Int) + 1 + 1 + 1 + 1 + 1 + 1))).set (j * 15 + 7) (.int .i64 ((q : Int) + 1 + 1 + 1 + 1 + 1 + 1 + 1))).set (j * 15 + 8) (.int .i64 ((q : Int) + 1 + 1 + 1 + 1 + 1 + 1 + 1 + 1))).set (j * 15 + 9) (.int .i64 ((q : Int) + 1 + 1 + 1 + 1 + 1 + 1 + 1 + 1 + 1))).set (j * 15 + 10) (.int .i64 ((q : Int) + 1 + 1 + 1 + 1 + 1 + 1 + 1 + 1 + 1 + 1))).set (j * 15 + 11) (.int .i64 ((q : Int) + 1 + 1 + 1 + 1 + 1 + 1 + 1 + 1 + 1 + 1 + 1))).set (j * 15 + 12) (.int .i64 ((q : Int) + 1 + 1 + 1 + 1 + 1 + 1 + 1 + 1 + 1 + 1 + 1 + 1))).set (j * 15 + 13) (.string T)).set (j * 15 + 14) (.int .i64 ((q : Int) + 1 + 1 + 1 + 1 + 1 + 1 + 1 + 1 + 1 + 1 + 1 + 1 + 1 + 1))))[t]? = (flatN (marksN k n))[t]? := by
  intro t ht
  by_cases h1 : t < j * 15
  · rw [← hd t h1]
    rw [List.getElem?_set_ne (by omega), List.getElem?_set_ne (by omega), List.getElem?_set_ne (by omega), List.getElem?_set_ne (by omega), List.getElem?_set_ne (by omega), List.getElem?_set_ne (by omega), List.getElem?_set_ne (by omega), List.getElem?_set_ne (by omega), List.getElem?_set_ne (by omega), List.getElem?_set_ne (by omega), List.getElem?_set_ne (by omega), List.getElem?_set_ne (by omega), List.getElem?_set_ne (by omega), List.getElem?_set_ne (by omega), List.getElem?_set_ne (by omega)]
  · obtain ⟨s, rfl⟩ : ∃ s, t = j * 15 + s := ⟨t - j * 15, by omega⟩
    rw [flatN_get _ j (by rw [marksN_len]; exact hj) s (by omega), marksN_get hj, ← hq]
    have hs : s = 0 ∨ s = 1 ∨ s = 2 ∨ s = 3 ∨ s = 4 ∨ s = 5 ∨ s = 6 ∨ s = 7 ∨ s = 8 ∨ s = 9 ∨ s = 10 ∨ s = 11 ∨ s = 12 ∨ s = 13 ∨ s = 14 := by omega
    rcases hs with rfl | rfl | rfl | rfl | rfl | rfl | rfl | rfl | rfl | rfl | rfl | rfl | rfl | rfl | rfl
    · rw [List.getElem?_set_ne (by omega), List.getElem?_set_ne (by omega), List.getElem?_set_ne (by omega), List.getElem?_set_ne (by omega), List.getElem?_set_ne (by omega), List.getElem?_set_ne (by omega), List.getElem?_set_ne (by omega), List.getElem?_set_ne (by omega), List.getElem?_set_ne (by omega), List.getElem?_set_ne (by omega), List.getElem?_set_ne (by omega), List.getElem?_set_ne (by omega), List.getElem?_set_ne (by omega), List.getElem?_set_ne (by omega)]
      rw [Nat.add_zero, List.getElem?_set_self (by omega)]
      show some (Value.int .i64 _) = some (Value.int .i64 _)
      congr 2
      try omega
    · rw [List.getElem?_set_ne (by omega), List.getElem?_set_ne (by omega), List.getElem?_set_ne (by omega), List.getElem?_set_ne (by omega), List.getElem?_set_ne (by omega), List.getElem?_set_ne (by omega), List.getElem?_set_ne (by omega), List.getElem?_set_ne (by omega), List.getElem?_set_ne (by omega), List.getElem?_set_ne (by omega), List.getElem?_set_ne (by omega), List.getElem?_set_ne (by omega), List.getElem?_set_ne (by omega)]
      rw [List.getElem?_set_self (by simp only [List.length_set]; omega)]
      show some (Value.int .i64 _) = some (Value.int .i64 _)
      congr 2
      try omega
    · rw [List.getElem?_set_ne (by omega), List.getElem?_set_ne (by omega), List.getElem?_set_ne (by omega), List.getElem?_set_ne (by omega), List.getElem?_set_ne (by omega), List.getElem?_set_ne (by omega), List.getElem?_set_ne (by omega), List.getElem?_set_ne (by omega), List.getElem?_set_ne (by omega), List.getElem?_set_ne (by omega), List.getElem?_set_ne (by omega), List.getElem?_set_ne (by omega)]
      rw [List.getElem?_set_self (by simp only [List.length_set]; omega)]
      show some (Value.int .i64 _) = some (Value.int .i64 _)
      congr 2
      try omega
    · rw [List.getElem?_set_ne (by omega), List.getElem?_set_ne (by omega), List.getElem?_set_ne (by omega), List.getElem?_set_ne (by omega), List.getElem?_set_ne (by omega), List.getElem?_set_ne (by omega), List.getElem?_set_ne (by omega), List.getElem?_set_ne (by omega), List.getElem?_set_ne (by omega), List.getElem?_set_ne (by omega), List.getElem?_set_ne (by omega)]
      rw [List.getElem?_set_self (by simp only [List.length_set]; omega)]
      show some (Value.int .i64 _) = some (Value.int .i64 _)
      congr 2
      try omega
    · rw [List.getElem?_set_ne (by omega), List.getElem?_set_ne (by omega), List.getElem?_set_ne (by omega), List.getElem?_set_ne (by omega), List.getElem?_set_ne (by omega), List.getElem?_set_ne (by omega), List.getElem?_set_ne (by omega), List.getElem?_set_ne (by omega), List.getElem?_set_ne (by omega), List.getElem?_set_ne (by omega)]
      rw [List.getElem?_set_self (by simp only [List.length_set]; omega)]
      show some (Value.int .i64 _) = some (Value.int .i64 _)
      congr 2
      try omega
    · rw [List.getElem?_set_ne (by omega), List.getElem?_set_ne (by omega), List.getElem?_set_ne (by omega), List.getElem?_set_ne (by omega), List.getElem?_set_ne (by omega), List.getElem?_set_ne (by omega), List.getElem?_set_ne (by omega), List.getElem?_set_ne (by omega), List.getElem?_set_ne (by omega)]
      rw [List.getElem?_set_self (by simp only [List.length_set]; omega)]
      show some (Value.int .i64 _) = some (Value.int .i64 _)
      congr 2
      try omega
    · rw [List.getElem?_set_ne (by omega), List.getElem?_set_ne (by omega), List.getElem?_set_ne (by omega), List.getElem?_set_ne (by omega), List.getElem?_set_ne (by omega), List.getElem?_set_ne (by omega), List.getElem?_set_ne (by omega), List.getElem?_set_ne (by omega)]
      rw [List.getElem?_set_self (by simp only [List.length_set]; omega)]
      show some (Value.int .i64 _) = some (Value.int .i64 _)
      congr 2
      try omega
    · rw [List.getElem?_set_ne (by omega), List.getElem?_set_ne (by omega), List.getElem?_set_ne (by omega), List.getElem?_set_ne (by omega), List.getElem?_set_ne (by omega), List.getElem?_set_ne (by omega), List.getElem?_set_ne (by omega)]
      rw [List.getElem?_set_self (by simp only [List.length_set]; omega)]
      show some (Value.int .i64 _) = some (Value.int .i64 _)
      congr 2
      try omega
    · rw [List.getElem?_set_ne (by omega), List.getElem?_set_ne (by omega), List.getElem?_set_ne (by omega), List.getElem?_set_ne (by omega), List.getElem?_set_ne (by omega), List.getElem?_set_ne (by omega)]
      rw [List.getElem?_set_self (by simp only [List.length_set]; omega)]
      show some (Value.int .i64 _) = some (Value.int .i64 _)
      congr 2
      try omega
    · rw [List.getElem?_set_ne (by omega), List.getElem?_set_ne (by omega), List.getElem?_set_ne (by omega), List.getElem?_set_ne (by omega), List.getElem?_set_ne (by omega)]
      rw [List.getElem?_set_self (by simp only [List.length_set]; omega)]
      show some (Value.int .i64 _) = some (Value.int .i64 _)
      congr 2
      try omega
    · rw [List.getElem?_set_ne (by omega), List.getElem?_set_ne (by omega), List.getElem?_set_ne (by omega), List.getElem?_set_ne (by omega)]
      rw [List.getElem?_set_self (by simp only [List.length_set]; omega)]
      show some (Value.int .i64 _) = some (Value.int .i64 _)
      congr 2
      try omega
    · rw [List.getElem?_set_ne (by omega), List.getElem?_set_ne (by omega), List.getElem?_set_ne (by omega)]
      rw [List.getElem?_set_self (by simp only [List.length_set]; omega)]
      show some (Value.int .i64 _) = some (Value.int .i64 _)
      congr 2
      try omega
    · rw [List.getElem?_set_ne (by omega), List.getElem?_set_ne (by omega)]
      rw [List.getElem?_set_self (by simp only [List.length_set]; omega)]
      show some (Value.int .i64 _) = some (Value.int .i64 _)
      congr 2
      try omega
    · rw [List.getElem?_set_ne (by omega)]
      rw [List.getElem?_set_self (by simp only [List.length_set]; omega)]
      rw [hT]; rfl
    · rw [List.getElem?_set_self (by simp only [List.length_set]; omega)]
      show some (Value.int .i64 _) = some (Value.int .i64 _)
      congr 2
      try omega
end Go.Proofs.Ytjagagbelpihbaa
