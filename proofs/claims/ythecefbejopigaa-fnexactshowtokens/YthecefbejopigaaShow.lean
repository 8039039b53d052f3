/-
  Tokens back to text, as data.
-/
import Derived.Test.YthecefbejopigaaToksB
import Derived.Test.YthecefbejopigaaPlain
import Derived.Lib.AppendStr
import Derived.Lib.UnsafeStr
import Derived.Laws.IdiomStrings
namespace Go.Proofs.Ythecefbejopigaa
open Go.RowKit
set_option linter.unusedVariables false
set_option linter.unusedSimpArgs false

/-- Is the last byte of a name a letter? -/
def lastB (s : ByteArray) : Bool := match s.data.toList.getLast? with | some b => letB (b.toNat : Int) | none => false

/-- A token's text. -/
def showT (t : Tk) : List UInt8 :=
  if t.c = 0 then [92] ++ t.s.data.toList ++ (if lastB t.s then [32] else [])
  else if t.c = 16 then [35, UInt8.ofNat (48 + t.h).toNat]
  else [UInt8.ofNat t.h.toNat]

theorem u8_of {x : Int} (h0 : 0 ≤ x) (h1 : x ≤ 255) : Lib.byteCells [UInt8.ofNat x.toNat] = [.int .u8 x] := by
  have e : (((UInt8.ofNat x.toNat).toNat : Nat) : Int) = x := by
    have : (UInt8.ofNat x.toNat).toNat = x.toNat % 256 := by simp
    rw [this]
    omega
  simp only [Lib.byteCells, List.map_cons, List.map_nil]
  rw [e]

def okAll (ts : List Tk) : Bool := decide (ts.length ≤ 20000) && ts.all (fun t => tokB t.c t.h t.s)
def showAll (ts : List Tk) : List UInt8 := if okAll ts then ts.flatMap showT else []

theorem okAll_long {ts : List Tk} (h : 20000 < ts.length) : showAll ts = [] := by simp [showAll, okAll]; omega
theorem okAll_no {ts : List Tk} {k : Nat} (hk : k < ts.length) (h : tokB (ts.getD k Tk.none).c (ts.getD k Tk.none).h (ts.getD k Tk.none).s = false) : showAll ts = [] := by
  have : okAll ts = false := by
    cases hq : okAll ts with
    | false => rfl
    | true =>
      simp only [okAll, Bool.and_eq_true, List.all_eq_true, decide_eq_true_eq] at hq
      have hm := hq.2 _ (List.getElem_mem (l := ts) (n := k) hk)
      simp only [List.getD, List.getElem?_eq_getElem hk, Option.getD_some] at h
      rw [h] at hm
      cases hm
  simp [showAll, this]
theorem okAll_yes {ts : List Tk} (hl : ts.length ≤ 20000) (h : ∀ k, k < ts.length → tokB (ts.getD k Tk.none).c (ts.getD k Tk.none).h (ts.getD k Tk.none).s = true) : showAll ts = ts.flatMap showT := by
  have : okAll ts = true := by
    simp only [okAll, Bool.and_eq_true, List.all_eq_true, decide_eq_true_eq]
    refine ⟨hl, fun t hm => ?_⟩
    obtain ⟨i, hi, rfl⟩ := List.getElem_of_mem hm
    have := h i hi
    simpa [List.getD, List.getElem?_eq_getElem hi] using this
  simp [showAll, this]

theorem flat_succ {ts : List Tk} {k : Nat} (h : k < ts.length) : (ts.take (k + 1)).flatMap showT = (ts.take k).flatMap showT ++ showT (ts.getD k Tk.none) := by
  rw [List.take_succ_eq_append_getElem h, List.flatMap_append]
  simp [List.getD, List.getElem?_eq_getElem h]

theorem showT_len (t : Tk) : (showT t).length ≤ t.s.size + 2 := by
  have : t.s.data.toList.length = t.s.size := rfl
  unfold showT
  split
  · split <;> simp <;> omega
  · split <;> simp
theorem flat_len (ts : List Tk) : (ts.flatMap showT).length ≤ 2 * weight ts := by
  unfold weight
  induction ts with
  | nil => simp
  | cons t ts ih =>
    have := showT_len t
    simp only [List.flatMap_cons, List.length_append, List.length_cons, List.map_cons, List.sum_cons]
    omega
theorem flat_take_len (ts : List Tk) (k : Nat) : ((ts.take k).flatMap showT).length ≤ 2 * weight ts := by
  refine Nat.le_trans (flat_len _) ?_
  have h1 : (ts.take k).length ≤ ts.length := by simp; omega
  have h2 : ((ts.take k).map (fun t => t.s.size)).sum ≤ (ts.map (fun t => t.s.size)).sum := by
    have e : ts.map (fun t => t.s.size) = (ts.take k).map (fun t => t.s.size) ++ (ts.drop k).map (fun t => t.s.size) := by rw [← List.map_append, List.take_append_drop]
    rw [e, List.sum_append]
    omega
  unfold weight
  omega
theorem size_weight {ts : List Tk} {k : Nat} (h : k < ts.length) : (ts.getD k Tk.none).s.size ≤ weight ts := by
  have h2 : ((ts.take (k + 1)).map (fun t => t.s.size)).sum ≤ (ts.map (fun t => t.s.size)).sum := by
    have e : ts.map (fun t => t.s.size) = (ts.take (k + 1)).map (fun t => t.s.size) ++ (ts.drop (k + 1)).map (fun t => t.s.size) := by rw [← List.map_append, List.take_append_drop]
    rw [e, List.sum_append]
    omega
  rw [take_sum h] at h2
  unfold weight
  omega
end Go.Proofs.Ythecefbejopigaa
