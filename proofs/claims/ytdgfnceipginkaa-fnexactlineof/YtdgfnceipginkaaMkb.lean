/-
  Nodes marked: the walk.
-/
import Derived.Test.YtdgfnceipginkaaMkt
import Derived.Deep.RegionHeld3
namespace Go.Proofs.Ytdgfnceipginkaa
open Go.RowKit
set_option linter.unusedVariables false
set_option linter.unusedSimpArgs false

/-- A node of marks. -/
def mkN (q : Nat) : Nd := ⟨(q : Int), (q : Int) + 1, (q : Int) + 2, (q : Int) + 3, (q : Int) + 4, (q : Int) + 5, (q : Int) + 6, (q : Int) + 7, (q : Int) + 8, (q : Int) + 9, (q : Int) + 10, (q : Int) + 11, (q : Int) + 12, mtext (q + 13), (q : Int) + 14⟩
def marksN (k n : Nat) : List Nd := (List.range n).map (fun i => mkN (k + 15 * i))
theorem marksN_len (k n : Nat) : (marksN k n).length = n := by simp [marksN]
theorem marksN_get {k n i : Nat} (h : i < n) : (marksN k n).getD i Nd.none = mkN (k + 15 * i) := by simp [marksN, List.getD, h]
theorem flat_ext {L : List Value} {xs : List Nd} (hl : L.length = xs.length * 15) (h : ∀ t, t < xs.length * 15 → L[t]? = (flatN xs)[t]?) : L = flatN xs := by
  apply List.ext_getElem?
  intro t
  by_cases ht : t < xs.length * 15
  · exact h t ht
  · rw [List.getElem?_eq_none (by omega), List.getElem?_eq_none (by rw [flatN_len]; omega)]

/-- All old blocks but g stand. -/
structure Sole (g : Nat) (w w' : World) : Prop where
  below : Below g w w'
  other : ∀ b, b < w.heap.size → b ≠ g → w'.heap[b]? = w.heap[b]?
theorem Sole.refl (g : Nat) (w : World) : Sole g w w := ⟨Below.refl _ _, fun _ _ _ => rfl⟩
theorem Sole.set {g o : Nat} {w w' : World} (h : Sole g w w') (x : Value) : Sole g w (w'.setCell ⟨g, o, none⟩ x) :=
  ⟨h.below.setCell (Nat.le_refl _) _, fun b hb hn => (Below.heap_setCell _ _ _ _ (by simpa using hn)).trans (h.other b hb hn)⟩
theorem Sole.below_more {g : Nat} {w w' w2 : World} (h : Sole g w w') (hb : Below w'.heap.size w' w2) (hg : g < w'.heap.size) : Sole g w w2 :=
  ⟨h.below.trans (hb.mono (by omega)), fun b hb2 hn => (hb.block b (Nat.lt_of_lt_of_le hb2 h.below.size)).trans (h.other b hb2 hn)⟩

theorem marked_at {n k j : Nat} {L : List Value} (hL : L.length = n * 15) (hj : j < n) (hd : ∀ t, t < j * 15 → L[t]? = (flatN (marksN k n))[t]?) {T : ByteArray} {q : Nat} (hq : q = k + 15 * j) (hT : T = mtext (q + 13)) :
    ∀ t, t < (j + 1) * 15 → ((((((((((((((((L.set (j * 15) (.int .i64 ((q : Int)))).set (j * 15 + 1) (.int .i64 ((q : Int) + 1))).set (j * 15 + 2) (.int .i64 ((q : Int) + 1 + 1))).set (j * 15 + 3) (.int .i64 ((q : Int) + 1 + 1 + 1))).set (j * 15 + 4) (.int .i64 ((q : Int) + 1 + 1 + 1 + 1))).set (j * 15 + 5) (.int .i64 ((q : Int) + 1 + 1 + 1 + 1 + 1))).set (j * 15 + 6) (.int .i64 ((q : Int) + 1 + 1 + 1 + 1 + 1 + 1))).set (j * 15 + 7) (.int .i64 ((q : Int) + 1 + 1 + 1 + 1 + 1 + 1 + 1))).set (j * 15 + 8) (.int .i64 ((q : Int) + 1 + 1 + 1 + 1 + 1 + 1 + 1 + 1))).set (j * 15 + 9) (.int .i64 ((q : Int) + 1 + 1 + 1 + 1 + 1 + 1 + 1 + 1 + 1))).set (j * 15 + 10) (.int .i64 ((q : Int) + 1 + 1 + 1 + 1 + 1 + 1 + 1 + 1 + 1 + 1))).set (j * 15 + 11) (.int .i64 ((q : Int) + 1 + 1 + 1 + 1 + 1 + 1 + 1 + 1 + 1 + 1 + 1))).set (j * 15 + 12) (.int .i64 ((q : Int) + 1 + 1 + 1 + 1 + 1 + 1 + 1 + 1 + 1 + 1 + 1 + 1))).set (j * 15 + 13) (.string T)).set (j * 15 + 14) (.int .i64 ((q : Int) + 1 + 1 + 1 + 1 + 1 + 1 + 1 + 1 + 1 + 1 + 1 + 1 + 1 + 1))))[t]? = (flatN (marksN k n))[t]? := by
  intro t ht
  by_cases h1 : t < j * 15
  · rw [← hd t h1]
    rw [List.getElem?_set_ne (by omega), List.getElem?_set_ne (by omega), List.getElem?_set_ne (by omega), List.getElem?_set_ne (by omega), List.getElem?_set_ne (by omega), List.getElem?_set_ne (by omega), List.getElem?_set_ne (by omega), List.getElem?_set_ne (by omega), List.getElem?_set_ne (by omega), List.getElem?_set_ne (by omega), List.getElem?_set_ne (by omega), List.getElem?_set_ne (by omega), List.getElem?_set_ne (by omega), List.getElem?_set_ne (by omega), List.getElem?_set_ne (by omega)]
  · obtain ⟨s, rfl⟩ : ∃ s, t = j * 15 + s := ⟨t - j * 15, by omega⟩
    rw [flatN_get _ j (by rw [marksN_len]; exact hj) s (by omega), marksN_get hj, ← hq]
    have hs : s = 0 ∨ s = 1 ∨ s = 2 ∨ s = 3 ∨ s = 4 ∨ s = 5 ∨ s = 6 ∨ s = 7 ∨ s = 8 ∨ s = 9 ∨ s = 10 ∨ s = 11 ∨ s = 12 ∨ s = 13 ∨ s = 14 := by omega
    rcases hs with rfl | rfl | rfl | rfl | rfl | rfl | rfl | rfl | rfl | rfl | rfl | rfl | rfl | rfl | rfl
    · rw [List.getElem?_set_ne (by omega), List.getElem?_set_ne (by omega), List.getElem?_set_ne (by omega), List.getElem?_set_ne (by omega), List.getElem?_set_ne (by omega), List.getElem?_set_ne (by omega), List.getElem?_set_ne (by omega), List.getElem?_set_ne (by omega), List.getElem?_set_ne (by omega), List.getElem?_set_ne (by omega), List.getElem?_set_ne (by omega), List.getElem?_set_ne (by omega), List.getElem?_set_ne (by omega), List.getElem?_set_ne (by omega)]
      rw [Nat.add_zero, List.getElem?_set_self (by omega)]
      show some (Value.int .i64 _) = some (Value.int .i64 _)
      congr 2
      try omega
    · rw [List.getElem?_set_ne (by omega), List.getElem?_set_ne (by omega), List.getElem?_set_ne (by omega), List.getElem?_set_ne (by omega), List.getElem?_set_ne (by omega), List.getElem?_set_ne (by omega), List.getElem?_set_ne (by omega), List.getElem?_set_ne (by omega), List.getElem?_set_ne (by omega), List.getElem?_set_ne (by omega), List.getElem?_set_ne (by omega), List.getElem?_set_ne (by omega), List.getElem?_set_ne (by omega)]
      rw [List.getElem?_set_self (by simp only [List.length_set]; omega)]
      show some (Value.int .i64 _) = some (Value.int .i64 _)
      congr 2
      try omega
    · rw [List.getElem?_set_ne (by omega), List.getElem?_set_ne (by omega), List.getElem?_set_ne (by omega), List.getElem?_set_ne (by omega), List.getElem?_set_ne (by omega), List.getElem?_set_ne (by omega), List.getElem?_set_ne (by omega), List.getElem?_set_ne (by omega), List.getElem?_set_ne (by omega), List.getElem?_set_ne (by omega), List.getElem?_set_ne (by omega), List.getElem?_set_ne (by omega)]
      rw [List.getElem?_set_self (by simp only [List.length_set]; omega)]
      show some (Value.int .i64 _) = some (Value.int .i64 _)
      congr 2
      try omega
    · rw [List.getElem?_set_ne (by omega), List.getElem?_set_ne (by omega), List.getElem?_set_ne (by omega), List.getElem?_set_ne (by omega), List.getElem?_set_ne (by omega), List.getElem?_set_ne (by omega), List.getElem?_set_ne (by omega), List.getElem?_set_ne (by omega), List.getElem?_set_ne (by omega), List.getElem?_set_ne (by omega), List.getElem?_set_ne (by omega)]
      rw [List.getElem?_set_self (by simp only [List.length_set]; omega)]
      show some (Value.int .i64 _) = some (Value.int .i64 _)
      congr 2
      try omega
    · rw [List.getElem?_set_ne (by omega), List.getElem?_set_ne (by omega), List.getElem?_set_ne (by omega), List.getElem?_set_ne (by omega), List.getElem?_set_ne (by omega), List.getElem?_set_ne (by omega), List.getElem?_set_ne (by omega), List.getElem?_set_ne (by omega), List.getElem?_set_ne (by omega), List.getElem?_set_ne (by omega)]
      rw [List.getElem?_set_self (by simp only [List.length_set]; omega)]
      show some (Value.int .i64 _) = some (Value.int .i64 _)
      congr 2
      try omega
    · rw [List.getElem?_set_ne (by omega), List.getElem?_set_ne (by omega), List.getElem?_set_ne (by omega), List.getElem?_set_ne (by omega), List.getElem?_set_ne (by omega), List.getElem?_set_ne (by omega), List.getElem?_set_ne (by omega), List.getElem?_set_ne (by omega), List.getElem?_set_ne (by omega)]
      rw [List.getElem?_set_self (by simp only [List.length_set]; omega)]
      show some (Value.int .i64 _) = some (Value.int .i64 _)
      congr 2
      try omega
    · rw [List.getElem?_set_ne (by omega), List.getElem?_set_ne (by omega), List.getElem?_set_ne (by omega), List.getElem?_set_ne (by omega), List.getElem?_set_ne (by omega), List.getElem?_set_ne (by omega), List.getElem?_set_ne (by omega), List.getElem?_set_ne (by omega)]
      rw [List.getElem?_set_self (by simp only [List.length_set]; omega)]
      show some (Value.int .i64 _) = some (Value.int .i64 _)
      congr 2
      try omega
    · rw [List.getElem?_set_ne (by omega), List.getElem?_set_ne (by omega), List.getElem?_set_ne (by omega), List.getElem?_set_ne (by omega), List.getElem?_set_ne (by omega), List.getElem?_set_ne (by omega), List.getElem?_set_ne (by omega)]
      rw [List.getElem?_set_self (by simp only [List.length_set]; omega)]
      show some (Value.int .i64 _) = some (Value.int .i64 _)
      congr 2
      try omega
    · rw [List.getElem?_set_ne (by omega), List.getElem?_set_ne (by omega), List.getElem?_set_ne (by omega), List.getElem?_set_ne (by omega), List.getElem?_set_ne (by omega), List.getElem?_set_ne (by omega)]
      rw [List.getElem?_set_self (by simp only [List.length_set]; omega)]
      show some (Value.int .i64 _) = some (Value.int .i64 _)
      congr 2
      try omega
    · rw [List.getElem?_set_ne (by omega), List.getElem?_set_ne (by omega), List.getElem?_set_ne (by omega), List.getElem?_set_ne (by omega), List.getElem?_set_ne (by omega)]
      rw [List.getElem?_set_self (by simp only [List.length_set]; omega)]
      show some (Value.int .i64 _) = some (Value.int .i64 _)
      congr 2
      try omega
    · rw [List.getElem?_set_ne (by omega), List.getElem?_set_ne (by omega), List.getElem?_set_ne (by omega), List.getElem?_set_ne (by omega)]
      rw [List.getElem?_set_self (by simp only [List.length_set]; omega)]
      show some (Value.int .i64 _) = some (Value.int .i64 _)
      congr 2
      try omega
    · rw [List.getElem?_set_ne (by omega), List.getElem?_set_ne (by omega), List.getElem?_set_ne (by omega)]
      rw [List.getElem?_set_self (by simp only [List.length_set]; omega)]
      show some (Value.int .i64 _) = some (Value.int .i64 _)
      congr 2
      try omega
    · rw [List.getElem?_set_ne (by omega), List.getElem?_set_ne (by omega)]
      rw [List.getElem?_set_self (by simp only [List.length_set]; omega)]
      show some (Value.int .i64 _) = some (Value.int .i64 _)
      congr 2
      try omega
    · rw [List.getElem?_set_ne (by omega)]
      rw [List.getElem?_set_self (by simp only [List.length_set]; omega)]
      rw [hT]; rfl
    · rw [List.getElem?_set_self (by simp only [List.length_set]; omega)]
      show some (Value.int .i64 _) = some (Value.int .i64 _)
      congr 2
      try omega

set_option maxRecDepth 20000 in
set_option maxHeartbeats 8000000 in
theorem markNodeS_any {base g n cap k : Nat} {L : List Value} {w : World} (h : w.ownsRow base 48 15 (.slice (some ⟨g, 0, none⟩) n cap) n L) (hn : n ≤ 1048576) (hk0 : 0 < k) (hk1 : k ≤ 1048576) :
    Calls Try.prog 10 #[.slice (some ⟨g, 0, none⟩) n cap, .int .i64 (k : Int)] w fun e w' => e = .returned (.int .i64 ((k + 15 * n : Nat) : Int)) ∧ w'.ownsRow base 48 15 (.slice (some ⟨g, 0, none⟩) n cap) n (flatN (marksN k n)) ∧ Sole g w w' := by
  have HO := hideP h
  clear h
  go_enter Try.func10, Try.ntmps10
  go_wp2
  go_loopw [1, 5] (fun s i wr => ∃ (j q : Nat) (M : List Value), j ≤ n ∧ i = .int .i64 (j : Int) ∧ s = .int .i64 (q : Int) ∧ q = k + 15 * j ∧ M.length = n * 15 ∧ Hid (∀ t, t < j * 15 → M[t]? = (flatN (marksN k n))[t]?) ∧ wr.ownsRow base 48 15 (.slice (some ⟨g, 0, none⟩) n cap) n M ∧ Sole g w wr) (fun _ i _ => n - (intOf i).toNat)
  case atStart => exact ⟨0, k, L, by omega, rfl, rfl, by omega, HO.out.1, fun t ht => by omega, HO.out, Sole.refl _ _⟩
  case round =>
    obtain ⟨j, q, M, hj, rfl, rfl, hq, hM, HD, how, hso⟩ := hrel
    by_cases hjn : j < n
    · have hji : (j : Int) < (n : Int) := by omega
      obtain ⟨T, hT⟩ : ∃ T, T = mtext (q + 13) := ⟨_, rfl⟩
      have HMT : Hid (∀ W : World, Calls Try.prog 22 #[.int .i64 ((q : Int) + 1 + 1 + 1 + 1 + 1 + 1 + 1 + 1 + 1 + 1 + 1 + 1 + 1)] W fun e w' => e = .returned (.string T) ∧ Below W.heap.size W w') := hideP (fun W => by
        have hh : (q : Int) + 1 + 1 + 1 + 1 + 1 + 1 + 1 + 1 + 1 + 1 + 1 + 1 + 1 = ((q + 13 : Nat) : Int) := by push_cast; omega
        rw [hh, hT]
        exact markText_any (q + 13) (by omega) (by omega) W)
      have HAT : Hid (∀ t, t < (j + 1) * 15 → ((((((((((((((((M.set (j * 15) (.int .i64 ((q : Int)))).set (j * 15 + 1) (.int .i64 ((q : Int) + 1))).set (j * 15 + 2) (.int .i64 ((q : Int) + 1 + 1))).set (j * 15 + 3) (.int .i64 ((q : Int) + 1 + 1 + 1))).set (j * 15 + 4) (.int .i64 ((q : Int) + 1 + 1 + 1 + 1))).set (j * 15 + 5) (.int .i64 ((q : Int) + 1 + 1 + 1 + 1 + 1))).set (j * 15 + 6) (.int .i64 ((q : Int) + 1 + 1 + 1 + 1 + 1 + 1))).set (j * 15 + 7) (.int .i64 ((q : Int) + 1 + 1 + 1 + 1 + 1 + 1 + 1))).set (j * 15 + 8) (.int .i64 ((q : Int) + 1 + 1 + 1 + 1 + 1 + 1 + 1 + 1))).set (j * 15 + 9) (.int .i64 ((q : Int) + 1 + 1 + 1 + 1 + 1 + 1 + 1 + 1 + 1))).set (j * 15 + 10) (.int .i64 ((q : Int) + 1 + 1 + 1 + 1 + 1 + 1 + 1 + 1 + 1 + 1))).set (j * 15 + 11) (.int .i64 ((q : Int) + 1 + 1 + 1 + 1 + 1 + 1 + 1 + 1 + 1 + 1 + 1))).set (j * 15 + 12) (.int .i64 ((q : Int) + 1 + 1 + 1 + 1 + 1 + 1 + 1 + 1 + 1 + 1 + 1 + 1))).set (j * 15 + 13) (.string T)).set (j * 15 + 14) (.int .i64 ((q : Int) + 1 + 1 + 1 + 1 + 1 + 1 + 1 + 1 + 1 + 1 + 1 + 1 + 1 + 1))))[t]? = (flatN (marksN k n))[t]?) := hideP (marked_at hM hjn HD.out hq hT)
      have hcl : ∀ t, t < n * 15 → ∃ x, wr.cell? ⟨g, t, none⟩ = some x := fun t ht => by
        obtain ⟨x, hx⟩ : ∃ x, M[t]? = some x := ⟨_, List.getElem?_eq_getElem (by omega)⟩
        exact ⟨x, (own_cell how hx).1⟩
      obtain ⟨x0, hx0⟩ := hcl (j * 15) (by omega)
      obtain ⟨x1, hx1⟩ := hcl (j * 15 + 1) (by omega)
      obtain ⟨x2, hx2⟩ := hcl (j * 15 + 2) (by omega)
      obtain ⟨x3, hx3⟩ := hcl (j * 15 + 3) (by omega)
      obtain ⟨x4, hx4⟩ := hcl (j * 15 + 4) (by omega)
      obtain ⟨x5, hx5⟩ := hcl (j * 15 + 5) (by omega)
      obtain ⟨x6, hx6⟩ := hcl (j * 15 + 6) (by omega)
      obtain ⟨x7, hx7⟩ := hcl (j * 15 + 7) (by omega)
      obtain ⟨x8, hx8⟩ := hcl (j * 15 + 8) (by omega)
      obtain ⟨x9, hx9⟩ := hcl (j * 15 + 9) (by omega)
      obtain ⟨x10, hx10⟩ := hcl (j * 15 + 10) (by omega)
      obtain ⟨x11, hx11⟩ := hcl (j * 15 + 11) (by omega)
      obtain ⟨x12, hx12⟩ := hcl (j * 15 + 12) (by omega)
      obtain ⟨x13, hx13⟩ := hcl (j * 15 + 13) (by omega)
      obtain ⟨x14, hx14⟩ := hcl (j * 15 + 14) (by omega)
      have hfz : ∀ t, wr.frozen? ⟨g, t, none⟩ = false := World.ownsRow.frozenAt how
      have hgw : g < wr.heap.size := (World.ownsRow.lt how g rfl).2
      have HOW := hideP how
      have HSO := hideP hso
      have hqs : q ≤ 16777216 := by omega
      have HQ := hideP hq
      clear hcl how hso hT hq
      go_wp2_with fail
      refine (HMT.out _).mono ?_
      rintro e w2 ⟨rfl, hb2⟩
      have hO2 : w2.ownsRow base 48 15 (.slice (some ⟨g, 0, none⟩) n cap) n ((((((((((((((M.set (j * 15) (.int .i64 ((q : Int)))).set (j * 15 + 1) (.int .i64 ((q : Int) + 1))).set (j * 15 + 2) (.int .i64 ((q : Int) + 1 + 1))).set (j * 15 + 3) (.int .i64 ((q : Int) + 1 + 1 + 1))).set (j * 15 + 4) (.int .i64 ((q : Int) + 1 + 1 + 1 + 1))).set (j * 15 + 5) (.int .i64 ((q : Int) + 1 + 1 + 1 + 1 + 1))).set (j * 15 + 6) (.int .i64 ((q : Int) + 1 + 1 + 1 + 1 + 1 + 1))).set (j * 15 + 7) (.int .i64 ((q : Int) + 1 + 1 + 1 + 1 + 1 + 1 + 1))).set (j * 15 + 8) (.int .i64 ((q : Int) + 1 + 1 + 1 + 1 + 1 + 1 + 1 + 1))).set (j * 15 + 9) (.int .i64 ((q : Int) + 1 + 1 + 1 + 1 + 1 + 1 + 1 + 1 + 1))).set (j * 15 + 10) (.int .i64 ((q : Int) + 1 + 1 + 1 + 1 + 1 + 1 + 1 + 1 + 1 + 1))).set (j * 15 + 11) (.int .i64 ((q : Int) + 1 + 1 + 1 + 1 + 1 + 1 + 1 + 1 + 1 + 1 + 1))).set (j * 15 + 12) (.int .i64 ((q : Int) + 1 + 1 + 1 + 1 + 1 + 1 + 1 + 1 + 1 + 1 + 1 + 1)))) := by
        refine own_below ?_ hb2
        iterate 13 (refine own_set ?_ _ _)
        exact HOW.out
      have hS2 : Sole g w w2 := by
        refine Sole.below_more ?_ hb2 (by simpa using hgw)
        iterate 13 (refine Sole.set ?_ _)
        exact HSO.out
      have hcl2 : ∀ t, t < n * 15 → ∃ x, w2.cell? ⟨g, t, none⟩ = some x := fun t ht => by
        obtain ⟨x, hx⟩ : ∃ x, ((((((((((((((M.set (j * 15) (.int .i64 ((q : Int)))).set (j * 15 + 1) (.int .i64 ((q : Int) + 1))).set (j * 15 + 2) (.int .i64 ((q : Int) + 1 + 1))).set (j * 15 + 3) (.int .i64 ((q : Int) + 1 + 1 + 1))).set (j * 15 + 4) (.int .i64 ((q : Int) + 1 + 1 + 1 + 1))).set (j * 15 + 5) (.int .i64 ((q : Int) + 1 + 1 + 1 + 1 + 1))).set (j * 15 + 6) (.int .i64 ((q : Int) + 1 + 1 + 1 + 1 + 1 + 1))).set (j * 15 + 7) (.int .i64 ((q : Int) + 1 + 1 + 1 + 1 + 1 + 1 + 1))).set (j * 15 + 8) (.int .i64 ((q : Int) + 1 + 1 + 1 + 1 + 1 + 1 + 1 + 1))).set (j * 15 + 9) (.int .i64 ((q : Int) + 1 + 1 + 1 + 1 + 1 + 1 + 1 + 1 + 1))).set (j * 15 + 10) (.int .i64 ((q : Int) + 1 + 1 + 1 + 1 + 1 + 1 + 1 + 1 + 1 + 1))).set (j * 15 + 11) (.int .i64 ((q : Int) + 1 + 1 + 1 + 1 + 1 + 1 + 1 + 1 + 1 + 1 + 1))).set (j * 15 + 12) (.int .i64 ((q : Int) + 1 + 1 + 1 + 1 + 1 + 1 + 1 + 1 + 1 + 1 + 1 + 1))))[t]? = some x := ⟨_, List.getElem?_eq_getElem (by simp only [List.length_set]; omega)⟩
        exact ⟨x, (own_cell hO2 hx).1⟩
      obtain ⟨y13, hy13⟩ := hcl2 (j * 15 + 13) (by omega)
      obtain ⟨y14, hy14⟩ := hcl2 (j * 15 + 14) (by omega)
      have hfz2 : ∀ t, w2.frozen? ⟨g, t, none⟩ = false := World.ownsRow.frozenAt hO2
      have hgw2 : g < w2.heap.size := (World.ownsRow.lt hO2 g rfl).2
      have HO2 := hideP hO2
      have HS2 := hideP hS2
      clear hb2 hcl2 hO2 hS2 hfz hx0 hx1 hx2 hx3 hx4 hx5 hx6 hx7 hx8 hx9 hx10 hx11 hx12 hx13 hx14
      go_wp2_with fail
      go_roundw
      case rel =>
        refine ⟨j + 1, q + 15, _, by omega, by go_num, congrArg _ (by push_cast; omega), by have := HQ.out; omega, ?_, HAT, own_set (own_set HO2.out _ _) _ _, (HS2.out.set _).set _⟩
        simp only [List.length_set]
        exact hM
      case measure => simp [intOf]; omega
    · have hji : ¬ (j : Int) < (n : Int) := by omega
      obtain rfl : j = n := by omega
      have HE : Hid (wr.ownsRow base 48 15 (.slice (some ⟨g, 0, none⟩) j cap) j (flatN (marksN k j)) ∧ Sole g w wr) := hideP ⟨by rw [← flat_ext (L := M) (by rw [marksN_len]; exact hM) (fun t ht => HD.out t (by rw [marksN_len] at ht; exact ht))]; exact how, hso⟩
      subst hq
      clear how hso
      go_wp2
      go_ret
      exact ⟨rfl, HE.out⟩
end Go.Proofs.Ytdgfnceipginkaa
