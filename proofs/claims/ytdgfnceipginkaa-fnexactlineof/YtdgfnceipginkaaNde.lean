/-
  The plain node of a thing: the walks of the program, a kind each.
-/
import Derived.Test.YtdgfnceipginkaaFit
import Derived.Deep.RegionWith
import Derived.Deep.RegionHeld3
namespace Go.Proofs.Ytdgfnceipginkaa
open Go.RowKit
set_option linter.unusedVariables false
set_option linter.unusedSimpArgs false

set_option maxHeartbeats 2000000 in
theorem can_letter (fo ch wd ht dp : Int) (w : World) : Calls Try.prog 89 #[.agg #[.int .i64 fo, .int .i64 ch, .int .i64 wd, .int .i64 ht, .int .i64 dp]] w fun r w' => r = .returned (.bool (uptoB fo 15 && uptoB ch 255 && (fitsB wd && fitsB ht && fitsB dp))) ∧ Below w.heap.size w w' := by
  cases h1 : uptoB fo 15 <;> cases h2 : uptoB ch 255 <;> cases h3 : (fitsB wd && fitsB ht && fitsB dp)
  all_goals
    go_enter Try.func89, Try.ntmps89
    go_wp2_with (first | (go_at_call 48; refine (upTo_any _ _ _).mono ?_; rintro e w' ⟨rfl, rfl⟩) | (go_at_call 91; refine (sizeFits_any _ _ _ _).mono ?_; rintro e w1 ⟨rfl, hb1⟩; have B1 : Hid (Below w.heap.size w w1) := below_more (below1 _ _) hb1 (by simp); have hs1 : w.heap.size < w1.heap.size := (by have := hb1.size; simp at this; omega); obtain ⟨hc1, hf1⟩ := bcell hb1; simp only [World.size_alloc] at hc1 hf1; clear hb1))
    go_ret
    first | exact ⟨rfl, below1 _ _⟩ | exact ⟨rfl, ‹Hid (Below w.heap.size w _)›⟩

set_option maxHeartbeats 2000000 in
theorem can_hyphen (fo ch wd ht dp : Int) (w : World) : Calls Try.prog 93 #[.agg #[.int .i64 fo, .int .i64 ch, .int .i64 wd, .int .i64 ht, .int .i64 dp]] w fun r w' => r = .returned (.bool (uptoB fo 15 && uptoB ch 255 && (fitsB wd && fitsB ht && fitsB dp))) ∧ Below w.heap.size w w' := by
  generalize hr : (uptoB fo 15 && uptoB ch 255 && (fitsB wd && fitsB ht && fitsB dp)) = r
  have HC : Hid (∀ W, Calls Try.prog 89 #[.agg #[.int .i64 fo, .int .i64 ch, .int .i64 wd, .int .i64 ht, .int .i64 dp]] W fun e w' => e = .returned (.bool r) ∧ Below W.heap.size W w') := hideP (fun W => by rw [← hr]; exact can_letter fo ch wd ht dp W)
  clear hr
  go_enter Try.func93, Try.ntmps93
  go_wp2_with fail
  refine (HC.out _).mono ?_
  rintro e w1 ⟨rfl, hb1⟩
  have B1 : Hid (Below w.heap.size w w1) := below_more (below1 _ _) hb1 (by simp)
  clear hb1
  go_wp2
  go_ret
  exact ⟨rfl, B1⟩

set_option maxHeartbeats 2000000 in
theorem can_kern (wd : Int) (w : World) : Calls Try.prog 96 #[.agg #[.int .i64 wd]] w fun r w' => r = .returned (.bool (fitsB wd)) ∧ Below w.heap.size w w' := by
  cases h1 : fitsB wd
  all_goals
    go_enter Try.func96, Try.ntmps96
    go_wp2_with (first | (go_at_call 63; refine (implFits_any _ _).mono ?_; rintro e w' ⟨rfl, rfl⟩))
    go_ret
    first | exact ⟨rfl, below1 _ _⟩ | exact ⟨rfl, ‹Hid (Below w.heap.size w _)›⟩

set_option maxHeartbeats 2000000 in
theorem can_space (gs gp gpo gm gmo wd : Int) (w : World) : Calls Try.prog 86 #[.agg #[.int .i64 gs, .int .i64 gp, .int .i64 gpo, .int .i64 gm, .int .i64 gmo, .int .i64 wd]] w fun r w' => r = .returned (.bool (glB gs gp gpo gm gmo && fitsB wd)) ∧ Below w.heap.size w w' := by
  cases h1 : glB gs gp gpo gm gmo <;> cases h2 : fitsB wd
  all_goals
    go_enter Try.func86, Try.ntmps86
    go_wp2_with (first | (go_at_call 49; refine (implGlueOk_any _ _ _ _ _ _).mono ?_; rintro e w1 ⟨rfl, hb1⟩; have B1 : Hid (Below w.heap.size w w1) := below_more (below1 _ _) hb1 (by simp); have hs1 : w.heap.size < w1.heap.size := (by have := hb1.size; simp at this; omega); obtain ⟨hc1, hf1⟩ := bcell hb1; simp only [World.size_alloc] at hc1 hf1; clear hb1) | (go_at_call 63; refine (implFits_any _ _).mono ?_; rintro e w' ⟨rfl, rfl⟩))
    go_ret
    first | exact ⟨rfl, below1 _ _⟩ | exact ⟨rfl, ‹Hid (Below w.heap.size w _)›⟩

set_option maxHeartbeats 2000000 in
theorem can_penalty (nn : Int) (w : World) : Calls Try.prog 87 #[.agg #[.int .i64 nn]] w fun r w' => r = .returned (.bool (decide (-10000 ≤ nn) && decide (nn ≤ 10000))) ∧ Below w.heap.size w w' := by
  cases h1 : decide (-10000 ≤ nn) <;> cases h2 : decide (nn ≤ 10000)
  all_goals
    go_enter Try.func87, Try.ntmps87
    go_wp2
    go_ret
    first | exact ⟨rfl, below1 _ _⟩ | exact ⟨rfl, ‹Hid (Below w.heap.size w _)›⟩

set_option maxHeartbeats 2000000 in
theorem can_rule (wd ht dp : Int) (w : World) : Calls Try.prog 99 #[.agg #[.int .i64 wd, .int .i64 ht, .int .i64 dp]] w fun r w' => r = .returned (.bool (fitsB wd && fitsB ht && fitsB dp)) ∧ Below w.heap.size w w' := by
  cases h3 : (fitsB wd && fitsB ht && fitsB dp)
  all_goals
    go_enter Try.func99, Try.ntmps99
    go_wp2_with (first | (go_at_call 91; refine (sizeFits_any _ _ _ _).mono ?_; rintro e w1 ⟨rfl, hb1⟩; have B1 : Hid (Below w.heap.size w w1) := below_more (below1 _ _) hb1 (by simp); have hs1 : w.heap.size < w1.heap.size := (by have := hb1.size; simp at this; omega); obtain ⟨hc1, hf1⟩ := bcell hb1; simp only [World.size_alloc] at hc1 hf1; clear hb1))
    go_ret
    first | exact ⟨rfl, below1 _ _⟩ | exact ⟨rfl, ‹Hid (Below w.heap.size w _)›⟩

set_option maxHeartbeats 2000000 in
theorem can_box (k wd ht dp sh kids : Int) (w : World) : Calls Try.prog 102 #[.agg #[.int .i64 k, .int .i64 wd, .int .i64 ht, .int .i64 dp, .int .i64 sh, .int .i64 kids]] w fun r w' => r = .returned (.bool ((fitsB wd && fitsB ht && fitsB dp) && fitsB sh && decide (0 ≤ kids))) ∧ Below w.heap.size w w' := by
  cases h3 : (fitsB wd && fitsB ht && fitsB dp) <;> cases h1 : fitsB sh <;> cases h2 : decide (0 ≤ kids)
  all_goals
    go_enter Try.func102, Try.ntmps102
    go_wp2_with (first | (go_at_call 91; refine (sizeFits_any _ _ _ _).mono ?_; rintro e w1 ⟨rfl, hb1⟩; have B1 : Hid (Below w.heap.size w w1) := below_more (below1 _ _) hb1 (by simp); have hs1 : w.heap.size < w1.heap.size := (by have := hb1.size; simp at this; omega); obtain ⟨hc1, hf1⟩ := bcell hb1; simp only [World.size_alloc] at hc1 hf1; clear hb1) | (go_at_call 63; refine (implFits_any _ _).mono ?_; rintro e w' ⟨rfl, rfl⟩))
    go_ret
    first | exact ⟨rfl, below1 _ _⟩ | exact ⟨rfl, ‹Hid (Below w.heap.size w _)›⟩

set_option maxHeartbeats 2000000 in
theorem can_message (k : Int) (tx : ByteArray) (w : World) : Calls Try.prog 106 #[.agg #[.int .i64 k, .string tx]] w fun r w' => r = .returned (.bool (decide ((tx.size : Int) ≤ 1000))) ∧ Below w.heap.size w w' := by
  cases h1 : decide ((tx.size : Int) ≤ 1000)
  all_goals
    go_enter Try.func106, Try.ntmps106
    go_wp2
    go_ret
    first | exact ⟨rfl, below1 _ _⟩ | exact ⟨rfl, ‹Hid (Below w.heap.size w _)›⟩

set_option maxHeartbeats 2000000 in
theorem can_note (nn ht kids : Int) (w : World) : Calls Try.prog 108 #[.agg #[.int .i64 nn, .int .i64 ht, .int .i64 kids]] w fun r w' => r = .returned (.bool (uptoB nn 15 && fitsB ht && decide (0 ≤ kids))) ∧ Below w.heap.size w w' := by
  cases h3 : uptoB nn 15 <;> cases h1 : fitsB ht <;> cases h2 : decide (0 ≤ kids)
  all_goals
    go_enter Try.func108, Try.ntmps108
    go_wp2_with (first | (go_at_call 48; refine (upTo_any _ _ _).mono ?_; rintro e w' ⟨rfl, rfl⟩) | (go_at_call 63; refine (implFits_any _ _).mono ?_; rintro e w' ⟨rfl, rfl⟩))
    go_ret
    first | exact ⟨rfl, below1 _ _⟩ | exact ⟨rfl, ‹Hid (Below w.heap.size w _)›⟩

theorem holds_box (k wd ht dp sh kids : Int) (w : World) : Calls Try.prog 103 #[.agg #[.int .i64 k, .int .i64 wd, .int .i64 ht, .int .i64 dp, .int .i64 sh, .int .i64 kids]] w fun r w' => r = .returned (.int .i64 kids) ∧ Below w.heap.size w w' := by
  go_enter Try.func103, Try.ntmps103
  go_wp2
  go_ret
  exact ⟨rfl, below1 _ _⟩
theorem holds_note (nn ht kids : Int) (w : World) : Calls Try.prog 109 #[.agg #[.int .i64 nn, .int .i64 ht, .int .i64 kids]] w fun r w' => r = .returned (.int .i64 kids) ∧ Below w.heap.size w w' := by
  go_enter Try.func109, Try.ntmps109
  go_wp2
  go_ret
  exact ⟨rfl, below1 _ _⟩

set_option maxHeartbeats 2000000 in
theorem node_letter (fo ch wd ht dp : Int) (w : World) : Calls Try.prog 42 #[.agg #[.int .i64 fo, .int .i64 ch, .int .i64 wd, .int .i64 ht, .int .i64 dp]] w fun r w' => r = .returned (ndV ⟨1, wd, ht, dp, 0, fo, ch, 0, 0, 0, 0, 0, 0, ⟨#[]⟩, 0⟩) ∧ Below w.heap.size w w' := by
  simp only [ndV]
  go_enter Try.func42, Try.ntmps42
  go_wp2
  refine bodyPost_ret (v := ndV ⟨1, wd, ht, dp, 0, fo, ch, 0, 0, 0, 0, 0, 0, ⟨#[]⟩, 0⟩) (by simp [results, Try.results42, go_sem]) rfl ⟨rfl, ?_⟩
  repeat (first | with_reducible exact below1 _ _ | with_reducible exact below2 _ _ _ | with_reducible exact below3 _ _ _ _ | (with_reducible refine Below.setCell ?_ ?_ _; rotate_left; focus (first | (simp; done) | (simp; omega))))

set_option maxHeartbeats 2000000 in
theorem node_kern (wd : Int) (w : World) : Calls Try.prog 97 #[.agg #[.int .i64 wd]] w fun r w' => r = .returned (ndV ⟨2, wd, 0, 0, 0, 0, 0, 0, 0, 0, 0, 0, 0, ⟨#[]⟩, 0⟩) ∧ Below w.heap.size w w' := by
  simp only [ndV]
  go_enter Try.func97, Try.ntmps97
  go_wp2
  refine bodyPost_ret (v := ndV ⟨2, wd, 0, 0, 0, 0, 0, 0, 0, 0, 0, 0, 0, ⟨#[]⟩, 0⟩) (by simp [results, Try.results97, go_sem]) rfl ⟨rfl, ?_⟩
  repeat (first | with_reducible exact below1 _ _ | with_reducible exact below2 _ _ _ | with_reducible exact below3 _ _ _ _ | (with_reducible refine Below.setCell ?_ ?_ _; rotate_left; focus (first | (simp; done) | (simp; omega))))

set_option maxHeartbeats 2000000 in
theorem node_space (gs gp gpo gm gmo wd : Int) (w : World) : Calls Try.prog 39 #[.agg #[.int .i64 gs, .int .i64 gp, .int .i64 gpo, .int .i64 gm, .int .i64 gmo, .int .i64 wd]] w fun r w' => r = .returned (ndV ⟨3, wd, 0, 0, 0, 0, 0, 0, gs, gp, gpo, gm, gmo, ⟨#[]⟩, 0⟩) ∧ Below w.heap.size w w' := by
  simp only [ndV]
  go_enter Try.func39, Try.ntmps39
  go_wp2
  refine bodyPost_ret (v := ndV ⟨3, wd, 0, 0, 0, 0, 0, 0, gs, gp, gpo, gm, gmo, ⟨#[]⟩, 0⟩) (by simp [results, Try.results39, go_sem]) rfl ⟨rfl, ?_⟩
  repeat (first | with_reducible exact below1 _ _ | with_reducible exact below2 _ _ _ | with_reducible exact below3 _ _ _ _ | (with_reducible refine Below.setCell ?_ ?_ _; rotate_left; focus (first | (simp; done) | (simp; omega))))

set_option maxHeartbeats 2000000 in
theorem node_penalty (nn : Int) (w : World) : Calls Try.prog 88 #[.agg #[.int .i64 nn]] w fun r w' => r = .returned (ndV ⟨4, 0, 0, 0, 0, 0, 0, nn, 0, 0, 0, 0, 0, ⟨#[]⟩, 0⟩) ∧ Below w.heap.size w w' := by
  simp only [ndV]
  go_enter Try.func88, Try.ntmps88
  go_wp2
  refine bodyPost_ret (v := ndV ⟨4, 0, 0, 0, 0, 0, 0, nn, 0, 0, 0, 0, 0, ⟨#[]⟩, 0⟩) (by simp [results, Try.results88, go_sem]) rfl ⟨rfl, ?_⟩
  repeat (first | with_reducible exact below1 _ _ | with_reducible exact below2 _ _ _ | with_reducible exact below3 _ _ _ _ | (with_reducible refine Below.setCell ?_ ?_ _; rotate_left; focus (first | (simp; done) | (simp; omega))))
end Go.Proofs.Ytdgfnceipginkaa
