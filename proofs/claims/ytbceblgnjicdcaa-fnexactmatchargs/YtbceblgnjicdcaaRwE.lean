/-
  The specification's comparison of rows of tokens, as a walk.
-/
import Derived.Test.YtbceblgnjicdcaaPla
namespace Go.Proofs.Ytbceblgnjicdcaa
open Go.RowKit
set_option linter.unusedVariables false
set_option linter.unusedSimpArgs false

def tkEq (t u : Tk) : Bool := decide (t.c = u.c) && decide (t.h = u.h) && decide (t.s.toList = u.s.toList)
def rowB (a b : List Tk) : Bool := (a.length == b.length) && (List.range a.length).all (fun i => tkEq (a.getD i Tk.none) (b.getD i Tk.none))

theorem rowB_no {a b : List Tk} {k : Nat} (hk : k < a.length) (h : tkEq (a.getD k Tk.none) (b.getD k Tk.none) = false) : rowB a b = false := by
  unfold rowB
  have : (List.range a.length).all (fun i => tkEq (a.getD i Tk.none) (b.getD i Tk.none)) = false := by
    rw [List.all_eq_false]
    exact ⟨k, List.mem_range.2 hk, by rw [h]; simp⟩
  rw [this]
  simp
theorem rowB_yes {a b : List Tk} (hn : a.length = b.length) (h : ∀ j, j < a.length → tkEq (a.getD j Tk.none) (b.getD j Tk.none) = true) : rowB a b = true := by
  unfold rowB
  have : (List.range a.length).all (fun i => tkEq (a.getD i Tk.none) (b.getD i Tk.none)) = true := by
    rw [List.all_eq_true]
    intro x hx
    exact h x (List.mem_range.1 hx)
  rw [this, hn]
  simp

set_option maxRecDepth 100000 in
set_option maxHeartbeats 4000000 in
theorem l4Row_any {va vb : Value} {a b : List Tk} {w : World} (ha : TRow w va a) (hb : TRow w vb b) (la : a.length ≤ 1048576) (lb : b.length ≤ 1048576) :
    Calls Try.prog 152 #[va, vb] w fun e w' => e = .returned (.bool (rowB a b)) ∧ Below w.heap.size w w' := by
  obtain ⟨aa, an, acap, rfl, hal, har⟩ := ha
  obtain ⟨ba, bn, bcap, rfl, hbl, hbr⟩ := hb
  obtain ⟨ans, hans⟩ : ∃ x, x = rowB a b := ⟨_, rfl⟩
  rw [← hans]
  have HANS : Hid (ans = rowB a b) := hans
  rw [hal] at la
  rw [hbl] at lb
  clear hans
  go_enter Try.func152, Try.ntmps152
  by_cases hne : an = bn
  · subst hne
    go_wp2
    go_loopw [5] (fun i wr => ∃ k : Nat, k ≤ an ∧ i = .int .i64 k ∧ Below w.heap.size w wr ∧ Hid (∀ j, j < k → tkEq (a.getD j Tk.none) (b.getD j Tk.none) = true)) (fun i _ => an - (intOf i).toNat)
    case atStart => exact ⟨0, by omega, rfl, Below.refl _ _, fun j hj => by omega⟩
    case round =>
      obtain ⟨k, hk, rfl, hbel, HALL⟩ := hrel
      have HB : Hid (Below w.heap.size w wr) := hbel
      by_cases hkn : k < an
      · obtain ⟨ab, aoff, rfl, hab, hcell⟩ := har (by omega)
        obtain ⟨bb, boff, rfl, hbb, hcellb⟩ := hbr (by omega)
        obtain ⟨g0, g1, g2⟩ := hcell k hkn
        obtain ⟨f0, f1, f2⟩ := hcellb k (by omega)
        have x0 := (hbel.cell (p := ⟨ab, aoff + k * 3, none⟩) hab).trans g0
        have x1 := (hbel.cell (p := ⟨ab, aoff + k * 3 + 1, none⟩) hab).trans g1
        have x2 := (hbel.cell (p := ⟨ab, aoff + k * 3 + 2, none⟩) hab).trans g2
        have y0 := (hbel.cell (p := ⟨bb, boff + k * 3, none⟩) hbb).trans f0
        have y1 := (hbel.cell (p := ⟨bb, boff + k * 3 + 1, none⟩) hbb).trans f1
        have y2 := (hbel.cell (p := ⟨bb, boff + k * 3 + 2, none⟩) hbb).trans f2
        have habw : ab < wr.heap.size := Nat.lt_of_lt_of_le hab hbel.size
        have hbbw : bb < wr.heap.size := Nat.lt_of_lt_of_le hbb hbel.size
        clear har hbr hcell hcellb g0 g1 g2 f0 f1 f2 hbel
        obtain ⟨t, ht⟩ : ∃ t, t = a.getD k Tk.none := ⟨_, rfl⟩
        obtain ⟨u, hu⟩ : ∃ u, u = b.getD k Tk.none := ⟨_, rfl⟩
        rw [← ht] at x0 x1 x2
        rw [← hu] at y0 y1 y2
        have HT : Hid (t = a.getD k Tk.none ∧ u = b.getD k Tk.none) := ⟨ht, hu⟩
        clear ht hu
        obtain ⟨tc, th, ts⟩ := t
        obtain ⟨uc, uh, us⟩ := u
        dsimp only at x0 x1 x2 y0 y1 y2
        have hki : (k : Int) < (an : Int) := by omega
        by_cases e0 : tc = uc
        · by_cases e1 : th = uh
          · by_cases e2 : ts.toList = us.toList
            · have HN : Hid (∀ j, j < k + 1 → tkEq (a.getD j Tk.none) (b.getD j Tk.none) = true) := by
                intro j hj
                by_cases hjk : j < k
                · exact HALL j hjk
                · obtain rfl : j = k := by omega
                  rw [← HT.1, ← HT.2]; simp [tkEq, e0, e1, e2]
              clear HT HALL HANS
              go_wp2
              go_region
              all_goals
                go_wp2
                go_roundw
                case rel => exact ⟨k + 1, by omega, by go_num, Below.drew HB, HN⟩
                case measure => simp [intOf]; omega
            · have HN : Hid (ans = false) := by rw [show ans = _ from HANS]; refine rowB_no (k := k) (by rw [hal]; exact hkn) ?_; rw [← HT.1, ← HT.2]; simp [tkEq, e2]
              clear HT HALL HANS
              go_wp2
              go_region
              all_goals
                go_wp2
                go_ret
                exact ⟨by rw [show ans = false from HN]; rfl, Below.drew HB⟩
          · have HN : Hid (ans = false) := by rw [show ans = _ from HANS]; refine rowB_no (k := k) (by rw [hal]; exact hkn) ?_; rw [← HT.1, ← HT.2]; simp [tkEq, e1]
            clear HT HALL HANS
            go_wp2
            go_region
            all_goals
              go_wp2
              go_ret
              exact ⟨by rw [show ans = false from HN]; rfl, Below.drew HB⟩
        · have HN : Hid (ans = false) := by rw [show ans = _ from HANS]; refine rowB_no (k := k) (by rw [hal]; exact hkn) ?_; rw [← HT.1, ← HT.2]; simp [tkEq, e0]
          clear HT HALL HANS
          go_wp2
          go_region
          all_goals
            go_wp2
            go_ret
            exact ⟨by rw [show ans = false from HN]; rfl, Below.drew HB⟩
      · have hki : ¬ (k : Int) < (an : Int) := by omega
        obtain rfl : k = an := by omega
        have HN : Hid (ans = true) := by rw [show ans = _ from HANS]; exact rowB_yes (by omega) (fun j hj => HALL j (by omega))
        clear HANS HALL hbel
        go_wp2
        go_ret
        exact ⟨by rw [show ans = true from HN]; rfl, HB⟩
  · have hni : ¬ (an : Int) = (bn : Int) := by omega
    have hn2 : ((an : Int) == (bn : Int)) = false := beq_eq_false_iff_ne.2 hni
    go_wp2
    go_ret
    refine ⟨?_, Below.refl _ _⟩
    rw [show ans = _ from HANS]
    unfold rowB
    rw [hal, hbl, beq_eq_false_iff_ne.2 hne]
    rfl
end Go.Proofs.Ytbceblgnjicdcaa
