/-
  Tokens back to text, as data; the program's TokenOk.
-/
import Derived.Test.YtkiiiahljlkjnaaTim
import Derived.Test.YtkiiiahljlkjnaaPla
import Derived.Lib.AppendStr
import Derived.Lib.UnsafeStr
import Derived.Laws.IdiomStrings
namespace Go.Proofs.Ytkiiiahljlkjnaa
open Go.RowKit
set_option linter.unusedVariables false
set_option linter.unusedSimpArgs false

def tokB (c h : Int) (s : ByteArray) : Bool :=
  if c = 0 then decide (h = 0 ∧ s.size ≤ 40)
  else if s.toList ≠ [] then false
  else if c = 16 then decide (1 ≤ h ∧ h ≤ 9)
  else if c = 6 ∨ c = 8 ∨ c = 9 ∨ c = 15 then false
  else decide (1 ≤ c ∧ c < 15 ∧ 0 ≤ h ∧ h ≤ 255)


theorem isE {s : ByteArray} : (s.toList ≠ []) ↔ (s.toList.isEmpty = false) := by cases s.toList <;> simp

theorem tokB_name {c h : Int} {s : ByteArray} (hc : c = 0) : tokB c h s = decide (h = 0 ∧ s.size ≤ 40) := by simp [tokB, hc]
theorem tokB_full {c h : Int} {s : ByteArray} (hc : c ≠ 0) (hs : s.toList.isEmpty = false) : tokB c h s = false := by
  unfold tokB; rw [if_neg hc, if_pos (isE.2 hs)]
theorem tokB_slot {h : Int} {s : ByteArray} (hs : s.toList.isEmpty = true) : tokB 16 h s = decide (1 ≤ h ∧ h ≤ 9) := by
  unfold tokB; rw [if_neg (by omega), if_neg (by rw [isE, hs]; simp), if_pos rfl]
theorem tokB_none {c h : Int} {s : ByteArray} (hc : c = 6 ∨ c = 8 ∨ c = 9 ∨ c = 15) : tokB c h s = false := by
  unfold tokB; rw [if_neg (by omega)]
  split
  · rfl
  · split <;> first | rfl | omega
theorem tokB_else {c h : Int} {s : ByteArray} (hs : s.toList.isEmpty = true) (hc : c ≠ 0) (hc' : c ≠ 16) (hn : ¬ (c = 6 ∨ c = 8 ∨ c = 9 ∨ c = 15)) : tokB c h s = decide (1 ≤ c ∧ c < 15 ∧ 0 ≤ h ∧ h ≤ 255) := by
  unfold tokB; rw [if_neg hc, if_neg (by rw [isE, hs]; simp), if_neg hc', if_neg hn]

set_option maxHeartbeats 2000000 in
theorem implTokenOk_ex (c h : Int) (s : ByteArray) (w : World) : Calls Try.prog 31 #[tokV c h s] w fun e w' => e = .returned (.bool (tokB c h s)) ∧ ∃ cs : Array Value, w' = w.alloc (.cells cs 34) := by
  by_cases h0 : c = 0
  · go_enter Try.func31, Try.ntmps31
    go_wp2
    all_goals (go_ret; go_light; refine ⟨congrArg (fun b => Ending.returned (Value.bool b)) (Eq.trans ?_ (tokB_name (by first | rfl | assumption)).symm), _, rfl⟩; first | exact decide_eq_decide.2 (by omega) | exact (decide_eq_false (by omega)).symm | exact (decide_eq_true (by omega)).symm)
  · cases hs : s.toList.isEmpty
    · go_enter Try.func31, Try.ntmps31
      go_wp2
      all_goals (go_ret; exact ⟨congrArg (fun b => Ending.returned (Value.bool b)) (tokB_full h0 hs).symm, _, rfl⟩)
    · by_cases h16 : c = 16
      · subst h16
        go_enter Try.func31, Try.ntmps31
        go_wp2
        all_goals (go_ret; go_light; refine ⟨congrArg (fun b => Ending.returned (Value.bool b)) (Eq.trans ?_ (tokB_slot hs).symm), _, rfl⟩; first | exact decide_eq_decide.2 (by omega) | exact (decide_eq_false (by omega)).symm | exact (decide_eq_true (by omega)).symm)
      · by_cases hn : c = 6 ∨ c = 8 ∨ c = 9 ∨ c = 15
        · have hb := tokB_none (h := h) (s := s) hn
          rcases hn with rfl | rfl | rfl | rfl
          all_goals
            go_enter Try.func31, Try.ntmps31
            go_wp2
            go_ret
            exact ⟨congrArg (fun b => Ending.returned (Value.bool b)) hb.symm, _, rfl⟩
        · have hb := tokB_else (h := h) hs h0 h16 hn
          have n6 : (c == 6) = false := by simp; omega
          have n8 : (c == 8) = false := by simp; omega
          have n9 : (c == 9) = false := by simp; omega
          have n15 : (c == 15) = false := by simp; omega
          have m6 : c ≠ 6 := by omega
          have m8 : c ≠ 8 := by omega
          have m9 : c ≠ 9 := by omega
          have m15 : c ≠ 15 := by omega
          have HB : Hid (tokB c h s = decide (1 ≤ c ∧ c < 15 ∧ 0 ≤ h ∧ h ≤ 255)) := hb
          clear hn hb
          go_enter Try.func31, Try.ntmps31
          go_wp2
          all_goals (go_ret; go_light; refine ⟨congrArg (fun b => Ending.returned (Value.bool b)) (Eq.trans ?_ (show tokB c h s = decide (1 ≤ c ∧ c < 15 ∧ 0 ≤ h ∧ h ≤ 255) from HB).symm), _, rfl⟩; first | exact decide_eq_decide.2 (by omega) | exact (decide_eq_false (by omega)).symm | exact (decide_eq_true (by omega)).symm)
theorem implTokenOk_any (c h : Int) (s : ByteArray) (w : World) : Calls Try.prog 31 #[tokV c h s] w fun e w' => e = .returned (.bool (tokB c h s)) ∧ Below w.heap.size w w' := by
  refine (implTokenOk_ex c h s w).mono ?_
  rintro e w' ⟨rfl, cs, rfl⟩
  exact ⟨rfl, (Below.refl _ _).alloc (Nat.le_refl _) _⟩
/-- What tokens weigh. -/
def weight (ts : List Tk) : Nat := ts.length + (ts.map (fun t => t.s.size)).sum
theorem take_sum {ts : List Tk} {k : Nat} (h : k < ts.length) : ((ts.take (k + 1)).map (fun t => t.s.size)).sum = ((ts.take k).map (fun t => t.s.size)).sum + (ts.getD k Tk.none).s.size := by
  rw [List.take_succ_eq_append_getElem h, List.map_append, List.sum_append]
  simp [List.getD, List.getElem?_eq_getElem h]

/-- Is the last byte of a name a letter? -/
def lastB (s : ByteArray) : Bool := match s.data.toList.getLast? with | some b => letB (b.toNat : Int) | none => false

/-- A token's text. -/
def showT (t : Tk) : List UInt8 :=
  if t.c = 0 then [92] ++ t.s.data.toList ++ (if lastB t.s then [32] else [])
  else if t.c = 16 then [35, UInt8.ofNat (48 + t.h).toNat]
  else [UInt8.ofNat t.h.toNat]

theorem u8_of {x : Int} (h0 : 0 ≤ x) (h1 : x ≤ 255) : Lib.byteCells [UInt8.ofNat x.toNat] = [.int .u8 x] := by
  have e : (((UInt8.ofNat x.toNat).toNat : Nat) : Int) = x := by
    have : (UInt8.ofNat x.toNat).toNat = x.toNat % 256 := by simp
    rw [this]
    omega
  simp only [Lib.byteCells, List.map_cons, List.map_nil]
  rw [e]

def okAll (ts : List Tk) : Bool := decide (ts.length ≤ 20000) && ts.all (fun t => tokB t.c t.h t.s)
def showAll (ts : List Tk) : List UInt8 := if okAll ts then ts.flatMap showT else []

theorem okAll_long {ts : List Tk} (h : 20000 < ts.length) : showAll ts = [] := by simp [showAll, okAll]; omega
theorem okAll_no {ts : List Tk} {k : Nat} (hk : k < ts.length) (h : tokB (ts.getD k Tk.none).c (ts.getD k Tk.none).h (ts.getD k Tk.none).s = false) : showAll ts = [] := by
  have : okAll ts = false := by
    cases hq : okAll ts with
    | false => rfl
    | true =>
      simp only [okAll, Bool.and_eq_true, List.all_eq_true, decide_eq_true_eq] at hq
      have hm := hq.2 _ (List.getElem_mem (l := ts) (n := k) hk)
      simp only [List.getD, List.getElem?_eq_getElem hk, Option.getD_some] at h
      rw [h] at hm
      cases hm
  simp [showAll, this]
theorem okAll_yes {ts : List Tk} (hl : ts.length ≤ 20000) (h : ∀ k, k < ts.length → tokB (ts.getD k Tk.none).c (ts.getD k Tk.none).h (ts.getD k Tk.none).s = true) : showAll ts = ts.flatMap showT := by
  have : okAll ts = true := by
    simp only [okAll, Bool.and_eq_true, List.all_eq_true, decide_eq_true_eq]
    refine ⟨hl, fun t hm => ?_⟩
    obtain ⟨i, hi, rfl⟩ := List.getElem_of_mem hm
    have := h i hi
    simpa [List.getD, List.getElem?_eq_getElem hi] using this
  simp [showAll, this]

theorem flatS_succ {ts : List Tk} {k : Nat} (h : k < ts.length) : (ts.take (k + 1)).flatMap showT = (ts.take k).flatMap showT ++ showT (ts.getD k Tk.none) := by
  rw [List.take_succ_eq_append_getElem h, List.flatMap_append]
  simp [List.getD, List.getElem?_eq_getElem h]

theorem showT_len (t : Tk) : (showT t).length ≤ t.s.size + 2 := by
  have : t.s.data.toList.length = t.s.size := rfl
  unfold showT
  split
  · split <;> simp <;> omega
  · split <;> simp
theorem flatS_len (ts : List Tk) : (ts.flatMap showT).length ≤ 2 * weight ts := by
  unfold weight
  induction ts with
  | nil => simp
  | cons t ts ih =>
    have := showT_len t
    simp only [List.flatMap_cons, List.length_append, List.length_cons, List.map_cons, List.sum_cons]
    omega
theorem flatS_take_len (ts : List Tk) (k : Nat) : ((ts.take k).flatMap showT).length ≤ 2 * weight ts := by
  refine Nat.le_trans (flatS_len _) ?_
  have h1 : (ts.take k).length ≤ ts.length := by simp; omega
  have h2 : ((ts.take k).map (fun t => t.s.size)).sum ≤ (ts.map (fun t => t.s.size)).sum := by
    have e : ts.map (fun t => t.s.size) = (ts.take k).map (fun t => t.s.size) ++ (ts.drop k).map (fun t => t.s.size) := by rw [← List.map_append, List.take_append_drop]
    rw [e, List.sum_append]
    omega
  unfold weight
  omega
theorem size_weight {ts : List Tk} {k : Nat} (h : k < ts.length) : (ts.getD k Tk.none).s.size ≤ weight ts := by
  have h2 : ((ts.take (k + 1)).map (fun t => t.s.size)).sum ≤ (ts.map (fun t => t.s.size)).sum := by
    have e : ts.map (fun t => t.s.size) = (ts.take (k + 1)).map (fun t => t.s.size) ++ (ts.drop (k + 1)).map (fun t => t.s.size) := by rw [← List.map_append, List.take_append_drop]
    rw [e, List.sum_append]
    omega
  rw [take_sum h] at h2
  unfold weight
  omega
theorem owns_below {w w' : World} {base e size n : Nat} {v : Value} {xs : List Value} (h : w.ownsRow base e size v n xs) (hb : Below w.heap.size w w') : w'.ownsRow base e size v n xs := by
  refine ⟨h.1, ?_⟩
  rcases h.2 with h' | ⟨g, cap, cur, hv, hg0, hg, hr⟩
  · exact .inl h'
  · exact .inr ⟨g, cap, cur, hv, hg0, (hb.block g (Array.getElem?_eq_some_iff.1 hg).1).trans hg, hr⟩
theorem owns_lt {w : World} {base e size n g : Nat} {v : Value} {xs : List Value} (h : w.ownsRow base e size v n xs) (hg : v.ownBlock = some g) : base ≤ g ∧ g < w.heap.size := by
  rcases h.2 with ⟨rfl, _⟩ | ⟨g', cap, cur, rfl, hg0, hg', hr⟩
  · cases hg
  · simp [Value.ownBlock] at hg
    subst hg
    exact ⟨hg0, (Array.getElem?_eq_some_iff.1 hg').1⟩

/-- A whole block that is not the row's own stands behind an append. -/
theorem grown_block {wr w1 : World} {v : Value} {T : Nat} {x : Obj} (hg : wr.grownBy w1 v.ownBlock) (hc : wr.heap[T]? = some x) (hne : ∀ g, v.ownBlock = some g → g ≠ T) : w1.heap[T]? = some x :=
  (hg.block T (Array.getElem?_eq_some_iff.1 hc).1 (fun he => hne T he.symm rfl)).trans hc
/-- A row of bytes is no token's block. -/
theorem apart33 {w : World} {base n T : Nat} {v : Value} {xs : List Value} {c : Array Value} {fr : Nat × Nat} (h : w.ownsRow base 5 1 v n xs) (hT : w.heap[T]? = some (.cells c 34 fr)) : ∀ g, v.ownBlock = some g → g ≠ T := by
  intro g hg he
  subst he
  rcases h.2 with ⟨rfl, _⟩ | ⟨g', cap, cur, rfl, _, hg', _⟩
  · cases hg
  · simp [Value.ownBlock] at hg
    subst hg
    rw [hg'] at hT
    simp at hT
theorem blockA {w : World} {T : Nat} {x : Obj} (h : w.heap[T]? = some x) (o : Obj) : (w.alloc o).heap[T]? = some x := (Below.heap_alloc w o T (Array.getElem?_eq_some_iff.1 h).1).trans h
theorem show_name {t : Tk} (hc : t.c = 0) (hl : lastB t.s = false) : showT t = [92] ++ t.s.data.toList := by simp [showT, hc, hl]
theorem show_name' {t : Tk} (hc : t.c = 0) (hl : lastB t.s = true) : showT t = ([92] ++ t.s.data.toList) ++ [32] := by simp [showT, hc, hl]
theorem last_none {s : ByteArray} (h : s.size = 0) : lastB s = false := by
  have : s.data.toList = [] := by apply List.eq_nil_of_length_eq_zero; exact h
  simp [lastB, this]
theorem last_some {s : ByteArray} (h : s.size - 1 < s.size) : lastB s = letB ((s[s.size - 1]'h).toNat : Int) := by
  have e : s.data.toList.getLast? = some (s[s.size - 1]'h) := by
    rw [List.getLast?_eq_getElem?]
    have hl : s.data.toList.length = s.size := rfl
    rw [hl]
    simp only [Array.getElem?_toList]
    exact Array.getElem?_eq_getElem h
  simp [lastB, e]

theorem slot_bounds {c h : Int} {s : ByteArray} (hk : true = tokB c h s) (hc : c = 16) : 1 ≤ h ∧ h ≤ 9 := by
  subst hc
  cases hs : s.toList.isEmpty
  · rw [tokB_full (by omega) hs] at hk; cases hk
  · rw [tokB_slot hs] at hk; exact of_decide_eq_true hk.symm
theorem char_bounds {c h : Int} {s : ByteArray} (hk : true = tokB c h s) (hc : ¬ c = 0) (hc' : ¬ c = 16) : 0 ≤ h ∧ h ≤ 255 := by
  cases hs : s.toList.isEmpty
  · rw [tokB_full hc hs] at hk; cases hk
  · by_cases hn : c = 6 ∨ c = 8 ∨ c = 9 ∨ c = 15
    · rw [tokB_none hn] at hk; cases hk
    · rw [tokB_else hs hc hc' hn] at hk
      have := of_decide_eq_true hk.symm
      exact ⟨this.2.2.1, this.2.2.2⟩
theorem name_bounds {c h : Int} {s : ByteArray} (hk : true = tokB c h s) (hc : c = 0) : s.size ≤ 40 := by
  rw [tokB_name hc] at hk
  exact (of_decide_eq_true hk.symm).2
theorem tok_step {ts : List Tk} {k j : Nat} {t : Tk} (HK : ∀ j, j < k → tokB (ts.getD j Tk.none).c (ts.getD j Tk.none).h (ts.getD j Tk.none).s = true) (ht : t = ts.getD k Tk.none) (hk : true = tokB t.c t.h t.s) (hj : j < k + 1) :
    tokB (ts.getD j Tk.none).c (ts.getD j Tk.none).h (ts.getD j Tk.none).s = true := by
  by_cases hjk : j = k
  · subst hjk; rw [← ht]; exact hk.symm
  · exact HK j (by omega)
end Go.Proofs.Ytkiiiahljlkjnaa
