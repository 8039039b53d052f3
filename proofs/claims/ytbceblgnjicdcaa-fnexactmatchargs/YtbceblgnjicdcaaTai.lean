/-
  The specification's end of a row, and a list without the group that it is, as walks.
-/
import Derived.Test.YtbceblgnjicdcaaRwE
import Derived.Deep.RegionWith
namespace Go.Proofs.Ytbceblgnjicdcaa
open Go.RowKit
set_option linter.unusedVariables false
set_option linter.unusedSimpArgs false

def tailB (ts row : List Tk) : Bool := decide (row.length ≤ ts.length) && rowB (ts.drop (ts.length - row.length)) row

set_option maxRecDepth 100000 in
set_option maxHeartbeats 4000000 in
theorem l4Tail_any {b off n cap : Nat} {vr : Value} {ts row : List Tk} {w : World} (ht : TOn 0 w (.slice (some ⟨b, off, none⟩) n cap) ts) (hr : TRow w vr row) (lt : n ≤ 1048576) (lc : cap ≤ 9223372036854775807) (lr : row.length ≤ 1048576) (hr0 : 0 < row.length) :
    Calls Try.prog 133 #[.slice (some ⟨b, off, none⟩) n cap, vr] w fun e w' => e = .returned (.bool (tailB ts row)) ∧ Below w.heap.size w w' := by
  have HR : Hid (TRow w vr row) := hr
  obtain ⟨ra, m, rcap, rfl, hrl, hrr⟩ := hr
  have HT : Hid (TOn 0 w (.slice (some ⟨b, off, none⟩) n cap) ts) := ht
  obtain ⟨b2, off2, cap2, e, hcap, hlo, hb2, hc⟩ := ht
  simp at e
  obtain ⟨⟨rfl, rfl⟩, hnl, rfl⟩ := e
  rw [hrl] at lr hr0
  obtain ⟨ans, hans⟩ : ∃ x, x = tailB ts row := ⟨_, rfl⟩
  rw [← hans]
  unfold tailB at hans
  rw [hrl, ← hnl] at hans
  have HA : Hid (ans = (decide (m ≤ n) && rowB (ts.drop (n - m)) row)) := hans
  have HN : Hid (n = ts.length ∧ row.length = m) := ⟨hnl, hrl⟩
  rw [← hnl] at hcap
  clear hrr hc hans hnl hrl
  go_enter Try.func133, Try.ntmps133
  by_cases hmn : m ≤ n
  · obtain ⟨d, rfl⟩ : ∃ d, n = m + d := ⟨n - m, by omega⟩
    have h1 : (m : Int) ≤ (m : Int) + (d : Int) := by omega
    have h2 : (m : Int) + (d : Int) - (m : Int) = (d : Int) := by omega
    have h3 : ¬ (d : Int) < 0 := by omega
    have h4 : (d : Int) ≤ (m : Int) + (d : Int) := by omega
    have h5 : ¬ cap = d := by omega
    have h6 : d < cap := by omega
    have h7 : ¬ cap - d = 0 := by omega
    have HT2 : Hid (TRow w (.slice (some ⟨b, off + d * 3, none⟩) m (cap - d)) (ts.drop d)) := by
      have := (TOn.drop HT (k := d) (by omega)).row
      rw [show m + d - d = m by omega] at this
      exact this
    go_wp2_with fail
    refine (l4Row_any HT2 HR (by rw [List.length_drop, ← HN.1]; omega) (by rw [HN.2]; omega)).mono ?_
    rintro e w1 ⟨rfl, hb1⟩
    have HB : Hid (Below w.heap.size w w1) := hb1
    have HE : Hid (ans = rowB (ts.drop d) row) := by show ans = _; rw [show ans = _ from HA, show m + d - m = d by omega]; simp
    clear hb1
    go_wp2
    go_ret
    exact ⟨by rw [show ans = _ from HE]; rfl, HB⟩
  · have h1 : ¬ (m : Int) ≤ (n : Int) := by omega
    have HE : Hid (ans = false) := by show ans = false; rw [show ans = _ from HA]; simp [hmn]
    go_wp2
    go_ret
    exact ⟨by rw [show ans = _ from HE]; rfl, Below.refl _ _⟩

def dep (ts : List Tk) : Int := (ts.map dl).sum
/-- Is all of it one group? -/
def stripB (ts : List Tk) : Bool := decide (2 ≤ ts.length ∧ (ts.getD 0 Tk.none).c = 1) && (List.range (ts.length - 1)).all (fun i => decide (dep (ts.take (i + 1)) ≠ 0))
def strip (ts : List Tk) : List Tk := if stripB ts then (ts.take (ts.length - 1)).drop 1 else ts
theorem dep_take {ts : List Tk} {k : Nat} (h : k < ts.length) : dep (ts.take (k + 1)) = dep (ts.take k) + dl (ts.getD k Tk.none) := by
  unfold dep
  rw [List.take_add_one, List.map_append, List.sum_append]
  simp [List.getD, List.getElem?_eq_getElem h]
theorem dl_le (t : Tk) : -1 ≤ dl t ∧ dl t ≤ 1 := by unfold dl; split <;> (try split) <;> omega
theorem dep_le : ∀ ts : List Tk, -(ts.length : Int) ≤ dep ts ∧ dep ts ≤ ts.length
  | [] => by simp [dep]
  | t :: ts => by
    have := dep_le ts
    have h2 := dl_le t
    unfold dep at this ⊢
    simp only [List.map_cons, List.sum_cons, List.length_cons]
    omega
theorem strip_no {ts : List Tk} {k : Nat} (hk : k + 1 < ts.length) (h : dep (ts.take (k + 1)) = 0) : strip ts = ts := by
  unfold strip stripB
  have : (List.range (ts.length - 1)).all (fun i => decide (dep (ts.take (i + 1)) ≠ 0)) = false := by
    rw [List.all_eq_false]
    exact ⟨k, List.mem_range.2 (by omega), by rw [h]; simp⟩
  rw [this]
  simp
theorem strip_short {ts : List Tk} (h : ¬ (2 ≤ ts.length ∧ (ts.getD 0 Tk.none).c = 1)) : strip ts = ts := by
  unfold strip stripB
  rw [decide_eq_false h]
  simp
theorem strip_yes {ts : List Tk} (h : 2 ≤ ts.length ∧ (ts.getD 0 Tk.none).c = 1) (ha : ∀ j, j + 1 < ts.length → dep (ts.take (j + 1)) ≠ 0) : strip ts = (ts.take (ts.length - 1)).drop 1 := by
  unfold strip stripB
  have : (List.range (ts.length - 1)).all (fun i => decide (dep (ts.take (i + 1)) ≠ 0)) = true := by
    rw [List.all_eq_true]
    intro x hx
    have := List.mem_range.1 hx
    exact decide_eq_true (ha x (by omega))
  rw [this, decide_eq_true h]
  rfl
end Go.Proofs.Ytbceblgnjicdcaa
