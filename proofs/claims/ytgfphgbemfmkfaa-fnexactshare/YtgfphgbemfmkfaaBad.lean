/-
  The walks of the program's Badness.
-/
import Derived.Test.YtgfphgbemfmkfaaWide
namespace Go.Proofs.Ytgfphgbemfmkfaa
open Go.RowKit
set_option linter.unusedVariables false
set_option linter.unusedSimpArgs false

theorem balW {w w' : World} (h : Below w.heap.size w w') (o : Obj) : Below w.heap.size w (w'.alloc o) := h.alloc h.size o

/-- Four words against four words, the highest first. -/
theorem wide_le (a b c d a' b' c' d' : Nat) (ha : a < 18446744073709551616) (hb : b < 18446744073709551616) (hc : c < 18446744073709551616) (ha' : a' < 18446744073709551616) (hb' : b' < 18446744073709551616) (hc' : c' < 18446744073709551616) :
    decide (wideN a b c d ≤ wideN a' b' c' d') = (if d ≠ d' then decide (d < d') else if c ≠ c' then decide (c < c') else if b ≠ b' then decide (b < b') else if a ≠ a' then decide (a < a') else true) := by
  unfold wideN
  split
  · exact decide_eq_decide.2 (by omega)
  · split
    · exact decide_eq_decide.2 (by omega)
    · split
      · exact decide_eq_decide.2 (by omega)
      · split
        · exact decide_eq_decide.2 (by omega)
        · simp; omega

set_option maxHeartbeats 4000000 in
theorem atMost_any (a b c d a' b' c' d' : Nat) (w : World) (ha : a < 18446744073709551616) (hb : b < 18446744073709551616) (hc : c < 18446744073709551616) (ha' : a' < 18446744073709551616) (hb' : b' < 18446744073709551616) (hc' : c' < 18446744073709551616) :
    Calls Try.prog 68 #[wideV a b c d, wideV a' b' c' d'] w fun e w' => e = .returned (.bool (decide (wideN a b c d ≤ wideN a' b' c' d'))) ∧ Below w.heap.size w w' := by
  rw [wide_le a b c d a' b' c' d' ha hb hc ha' hb' hc']
  have hn : ∀ x y : Nat, x = y → ((x : Int) != (y : Int)) = false := by intro x y h; simp [h]
  have hy : ∀ x y : Nat, x ≠ y → ((x : Int) != (y : Int)) = true := by intro x y h; simp; omega
  have Hn := hideW hn
  have Hy := hideW hy
  clear hn hy
  by_cases hdd : d = d'
  · have nd := Hn.out d d' hdd
    rw [if_neg (by simp [hdd])]
    by_cases hcc : c = c'
    · have nc := Hn.out c c' hcc
      rw [if_neg (by simp [hcc])]
      by_cases hbb : b = b'
      · have nb := Hn.out b b' hbb
        rw [if_neg (by simp [hbb])]
        by_cases haa : a = a'
        · have na := Hn.out a a' haa
          rw [if_neg (by simp [haa])]
          clear hdd hcc hbb haa
          go_enter Try.func68, Try.ntmps68
          go_wp2_with fail
          refine wp_loop_rounds 5 ?_
          rw [rounds_succ]
          go_wp2
          go_quiet (fail)
          go_wp2
          rw [rounds_succ]
          go_wp2
          go_quiet (fail)
          go_wp2
          rw [rounds_succ]
          go_wp2
          go_quiet (fail)
          go_wp2
          rw [rounds_succ]
          go_wp2
          go_quiet (fail)
          go_wp2
          rw [rounds_succ]
          go_wp2
          go_ret
          exact ⟨rfl, by repeat (first | exact Below.refl _ _ | apply below_drewN | apply balW)⟩
        · have na := Hy.out a a' haa
          rw [if_pos haa]
          clear hdd hcc hbb haa
          go_enter Try.func68, Try.ntmps68
          go_wp2_with fail
          refine wp_loop_rounds 5 ?_
          rw [rounds_succ]
          go_wp2
          go_quiet (fail)
          go_wp2
          rw [rounds_succ]
          go_wp2
          go_quiet (fail)
          go_wp2
          rw [rounds_succ]
          go_wp2
          go_quiet (fail)
          go_wp2
          rw [rounds_succ]
          go_wp2
          go_quiet (fail)
          go_wp2
          go_quiet (fail)
          go_wp2
          go_ret
          exact ⟨rfl, by repeat (first | exact Below.refl _ _ | apply below_drewN | apply balW)⟩
      · have nb := Hy.out b b' hbb
        rw [if_pos hbb]
        clear hdd hcc hbb
        go_enter Try.func68, Try.ntmps68
        go_wp2_with fail
        refine wp_loop_rounds 5 ?_
        rw [rounds_succ]
        go_wp2
        go_quiet (fail)
        go_wp2
        rw [rounds_succ]
        go_wp2
        go_quiet (fail)
        go_wp2
        rw [rounds_succ]
        go_wp2
        go_quiet (fail)
        go_wp2
        go_quiet (fail)
        go_wp2
        go_ret
        exact ⟨rfl, by repeat (first | exact Below.refl _ _ | apply below_drewN | apply balW)⟩
    · have nc := Hy.out c c' hcc
      rw [if_pos hcc]
      clear hdd hcc
      go_enter Try.func68, Try.ntmps68
      go_wp2_with fail
      refine wp_loop_rounds 5 ?_
      rw [rounds_succ]
      go_wp2
      go_quiet (fail)
      go_wp2
      rw [rounds_succ]
      go_wp2
      go_quiet (fail)
      go_wp2
      go_quiet (fail)
      go_wp2
      go_ret
      exact ⟨rfl, by repeat (first | exact Below.refl _ _ | apply below_drewN | apply balW)⟩
  · have nd := Hy.out d d' hdd
    rw [if_pos hdd]
    clear hdd
    go_enter Try.func68, Try.ntmps68
    go_wp2_with fail
    refine wp_loop_rounds 5 ?_
    rw [rounds_succ]
    go_wp2
    go_quiet (fail)
    go_wp2
    go_quiet (fail)
    go_wp2
    go_ret
    exact ⟨rfl, by repeat (first | exact Below.refl _ _ | apply below_drewN | apply balW)⟩
end Go.Proofs.Ytgfphgbemfmkfaa
