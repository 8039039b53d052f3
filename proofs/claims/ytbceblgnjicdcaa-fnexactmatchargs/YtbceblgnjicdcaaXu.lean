/-
  The program's list without the group that all of it is.
-/
import Derived.Test.YtbceblgnjicdcaaUnw
import Derived.Test.YtbceblgnjicdcaaOkI
import Derived.Test.YtbceblgnjicdcaaCut
namespace Go.Proofs.Ytbceblgnjicdcaa
open Go.RowKit
set_option linter.unusedVariables false
set_option linter.unusedSimpArgs false

/-- What is left of a list without the group that it is. -/
def unw (ts : List Tk) : List Tk := if unwB ts then (ts.take (ts.length - 1)).drop 1 else ts

set_option maxRecDepth 100000 in
set_option maxHeartbeats 4000000 in
theorem unwrapped_any {b off n cap : Nat} {ts : List Tk} {w : World} (h : TOn 0 w (.slice (some ⟨b, off, none⟩) n cap) ts) (hn : n ≤ 20000) (lc : cap ≤ 9223372036854775807) :
    Calls Try.prog 142 #[.slice (some ⟨b, off, none⟩) n cap] w fun e w' => ∃ off' n' cap', e = .returned (.slice (some ⟨b, off', none⟩) n' cap') ∧ TOn 0 w (.slice (some ⟨b, off', none⟩) n' cap') (unw ts) ∧ Below w.heap.size w w' := by
  have H : Hid (TOn 0 w (.slice (some ⟨b, off, none⟩) n cap) ts) := h
  obtain ⟨b2, off2, cap2, e, hcap, hlo, hb2, hc⟩ := h
  simp at e
  obtain ⟨⟨rfl, rfl⟩, hnl, rfl⟩ := e
  have HNL : Hid (n = ts.length) := hnl
  rw [← hnl] at hcap
  have HC : Hid (∀ j u, (flat ts)[j]? = some u → w.cell? ⟨b, off + j, none⟩ = some u) := hc
  have KEEP : Hid (unwB ts = false → TOn 0 w (.slice (some ⟨b, off, none⟩) n cap) (unw ts)) := fun h => by unfold unw; rw [h, if_neg (by decide)]; exact H
  clear hc hnl
  by_cases h2 : 2 ≤ n
  · obtain ⟨t0, ht0⟩ : ∃ t, t = ts.getD 0 Tk.none := ⟨_, rfl⟩
    obtain ⟨t1, ht1⟩ : ∃ t, t = ts.getD (n - 1) Tk.none := ⟨_, rfl⟩
    have hnl := show n = ts.length from HNL
    have f0 := flat_get ts 0 (by omega)
    have f1 := flat_get ts (n - 1) (by omega)
    rw [← ht0] at f0
    rw [← ht1] at f1
    obtain ⟨m, rfl⟩ : ∃ m, n = m + 2 := ⟨n - 2, by omega⟩
    have x0 := HC _ _ f0.1
    have x1 := HC _ _ f0.2.1
    have x2 := HC _ _ f0.2.2
    have y0 := HC _ _ f1.1
    have y1 := HC _ _ f1.2.1
    have y2 := HC _ _ f1.2.2
    rw [show m + 2 - 1 = m + 1 by omega] at y0 y1 y2 ht1
    simp only [Nat.zero_mul, Nat.zero_add, Nat.add_zero] at x0 x1 x2
    have MID : Hid (TOn 0 w (.slice (some ⟨b, off + 3, none⟩) m (cap - 1)) ((ts.take (ts.length - 1)).drop 1)) := by
      have h1 := TOn.take H (k := m + 1) (by omega)
      have h2 := TOn.drop h1 (k := 1) (by omega)
      rw [show ts.length - 1 = m + 1 by omega]
      show TOn _ _ _ _
      simpa using h2
    have HU : Hid (unwB ts = (decide (t0.c = 1 ∧ t1.c = 2) && decide (((ts.take (ts.length - 1)).drop 1).foldl balStep (some 0) = some 0))) := by
      show unwB ts = _
      unfold unwB
      rw [← ht0, show ts.length - 1 = m + 1 by omega, ← ht1]
      congr 1
      simp only [decide_eq_decide]
      constructor
      · rintro ⟨_, h⟩; exact h
      · rintro h; exact ⟨by omega, h⟩
    clear hnl f0 f1 ht0 ht1
    obtain ⟨c0, h0, s0⟩ := t0
    obtain ⟨c1, h1, s1⟩ := t1
    dsimp only at x0 x1 x2 y0 y1 y2
    have i1 : (m : Int) + 2 - 1 = (m : Int) + 1 := by omega
    have i2 : (0 : Int) < (m : Int) + 1 := by omega
    have i3 : (0 : Int) < (m : Int) + 2 := by omega
    have i4 : (m : Int) + 1 < (m : Int) + 2 := by omega
    have i5 : (m : Int) + 1 ≤ (cap : Int) := by omega
    have i6 : (1 : Int) ≤ (m : Int) + 1 := by omega
    have i7 : ¬ cap - 1 = 0 := by omega
    by_cases e0 : c0 = 1
    · subst e0
      by_cases e1 : c1 = 2
      · subst e1
        obtain ⟨bb, hbb⟩ : ∃ bb, bb = decide (((ts.take (ts.length - 1)).drop 1).foldl balStep (some 0) = some 0) := ⟨_, rfl⟩
        have HBB : Hid (unwB ts = bb) := by show unwB ts = bb; rw [show unwB ts = _ from HU, ← hbb]; simp
        have HBAL : Hid (∀ W, Below w.heap.size w W → Calls Try.prog 115 #[.slice (some ⟨b, off + 3, none⟩) m (cap - 1)] W fun e w' => e = .returned (.bool bb) ∧ Below W.heap.size W w') := by
          intro W hW
          rw [hbb]
          exact balanced_any (TRow.below (TOn.row MID) hW) (by have := show _ = ts.length from HNL; rw [List.length_drop, List.length_take]; omega)
        clear hbb HU
        go_enter Try.func142, Try.ntmps142
        go_wp2_with fail
        refine (HBAL _ (Below.refl _ _)).mono ?_
        rintro e w1 ⟨rfl, hb1⟩
        have B1 : Hid (Below w.heap.size w w1) := hb1
        clear hb1 HBAL
        cases bb
        · have FIN := KEEP HBB
          go_wp2
          go_ret
          exact ⟨_, _, _, rfl, FIN, B1⟩
        · have FIN : Hid (TOn 0 w (.slice (some ⟨b, off + 3, none⟩) m (cap - 1)) (unw ts)) := by unfold unw; rw [show unwB ts = _ from HBB, if_pos rfl]; exact MID
          go_wp2
          go_ret
          exact ⟨_, _, _, rfl, FIN, B1⟩
      · have FIN : Hid (TOn 0 w (.slice (some ⟨b, off, none⟩) (m + 2) cap) (unw ts)) := KEEP (by rw [show unwB ts = _ from HU]; simp [e1])
        have e1b : (c1 == 2) = false := beq_eq_false_iff_ne.2 e1
        clear KEEP HU
        go_enter Try.func142, Try.ntmps142
        go_wp2
        go_ret
        exact ⟨_, _, _, rfl, FIN, Below.refl _ _⟩
    · have FIN : Hid (TOn 0 w (.slice (some ⟨b, off, none⟩) (m + 2) cap) (unw ts)) := KEEP (by rw [show unwB ts = _ from HU]; simp [e0])
      have e0b : (c0 == 1) = false := beq_eq_false_iff_ne.2 e0
      clear KEEP HU
      go_enter Try.func142, Try.ntmps142
      go_wp2
      go_ret
      exact ⟨_, _, _, rfl, FIN, Below.refl _ _⟩
  · have FIN : Hid (TOn 0 w (.slice (some ⟨b, off, none⟩) n cap) (unw ts)) := KEEP (by have := show n = ts.length from HNL; unfold unwB; rw [decide_eq_false (by omega)]; rfl)
    have i1 : ¬ (0 : Int) < (n : Int) - 1 := by omega
    clear KEEP
    go_enter Try.func142, Try.ntmps142
    go_wp2
    go_ret
    exact ⟨_, _, _, rfl, FIN, Below.refl _ _⟩
end Go.Proofs.Ytbceblgnjicdcaa
