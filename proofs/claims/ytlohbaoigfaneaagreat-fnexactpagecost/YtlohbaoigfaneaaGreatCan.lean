import Derived.Test.YtlohbaoigfaneaaGreatTh6
import Derived.Deep.RegionWith
import Derived.Deep.RegionHeld3
import Derived.Test.YtlohbaoigfaneaaGreatPur
namespace Go.Proofs.YtlohbaoigfaneaaGreat
open Go.RowKit
set_option linter.unusedVariables false
set_option linter.unusedSimpArgs false
set_option maxHeartbeats 4000000 in
theorem thing_7 (wd ht dp sh fo ch nn gs gp gpo gm gmo kids : Int) (tx : ByteArray) (w : World) : Calls Tryz.prog 107 #[ndV ⟨7, wd, ht, dp, sh, fo, ch, nn, gs, gp, gpo, gm, gmo, tx, kids⟩] w fun r w' => r = .returned (.iface 239 (.agg #[.int .i64 7, .int .i64 wd, .int .i64 ht, .int .i64 dp, .int .i64 sh, .int .i64 kids])) ∧ Below w.heap.size w w' := by
 simp only [ndV]
 have HC : Hid (∀ W, Calls Tryz.prog 127 #[ndV ⟨7, wd, ht, dp, sh, fo, ch, nn, gs, gp, gpo, gm, gmo, tx, kids⟩] W fun e w' => e = .returned (sizeV wd ht dp) ∧ Below W.heap.size W w') := hideP (fun W => sizeOf_any ⟨7, wd, ht, dp, sh, fo, ch, nn, gs, gp, gpo, gm, gmo, tx, kids⟩ W)
 go_enter Tryz.func107, Tryz.ntmps107
 go_wp2_with fail
 go_region_held3 (fun x => x.cell? ⟨w.heap.size, 0, none⟩ = some (.int .i64 7) ∧ x.cell? ⟨w.heap.size, 1, none⟩ = some (.int .i64 wd) ∧ x.cell? ⟨w.heap.size, 2, none⟩ = some (.int .i64 ht) ∧ x.cell? ⟨w.heap.size, 3, none⟩ = some (.int .i64 dp) ∧ x.cell? ⟨w.heap.size, 4, none⟩ = some (.int .i64 sh) ∧ x.cell? ⟨w.heap.size, 5, none⟩ = some (.int .i64 fo) ∧ x.cell? ⟨w.heap.size, 6, none⟩ = some (.int .i64 ch) ∧ x.cell? ⟨w.heap.size, 7, none⟩ = some (.int .i64 nn) ∧ x.cell? ⟨w.heap.size, 8, none⟩ = some (.int .i64 gs) ∧ x.cell? ⟨w.heap.size, 9, none⟩ = some (.int .i64 gp) ∧ x.cell? ⟨w.heap.size, 10, none⟩ = some (.int .i64 gpo) ∧ x.cell? ⟨w.heap.size, 11, none⟩ = some (.int .i64 gm) ∧ x.cell? ⟨w.heap.size, 12, none⟩ = some (.int .i64 gmo) ∧ x.cell? ⟨w.heap.size, 13, none⟩ = some (.string tx) ∧ x.cell? ⟨w.heap.size, 14, none⟩ = some (.int .i64 kids)) (first | (refine ⟨?_, ?_, ?_, ?_, ?_, ?_, ?_, ?_, ?_, ?_, ?_, ?_, ?_, ?_, ?_⟩ <;> (simp [go_sem]; done)) | exact ‹Hid (w1.cell? ⟨w.heap.size, 0, none⟩ = some (.int .i64 7) ∧ w1.cell? ⟨w.heap.size, 1, none⟩ = some (.int .i64 wd) ∧ w1.cell? ⟨w.heap.size, 2, none⟩ = some (.int .i64 ht) ∧ w1.cell? ⟨w.heap.size, 3, none⟩ = some (.int .i64 dp) ∧ w1.cell? ⟨w.heap.size, 4, none⟩ = some (.int .i64 sh) ∧ w1.cell? ⟨w.heap.size, 5, none⟩ = some (.int .i64 fo) ∧ w1.cell? ⟨w.heap.size, 6, none⟩ = some (.int .i64 ch) ∧ w1.cell? ⟨w.heap.size, 7, none⟩ = some (.int .i64 nn) ∧ w1.cell? ⟨w.heap.size, 8, none⟩ = some (.int .i64 gs) ∧ w1.cell? ⟨w.heap.size, 9, none⟩ = some (.int .i64 gp) ∧ w1.cell? ⟨w.heap.size, 10, none⟩ = some (.int .i64 gpo) ∧ w1.cell? ⟨w.heap.size, 11, none⟩ = some (.int .i64 gm) ∧ w1.cell? ⟨w.heap.size, 12, none⟩ = some (.int .i64 gmo) ∧ w1.cell? ⟨w.heap.size, 13, none⟩ = some (.string tx) ∧ w1.cell? ⟨w.heap.size, 14, none⟩ = some (.int .i64 kids))›) ((go_at_call 127; refine (HC.out _).mono ?_; rintro e w1 ⟨rfl, hb1⟩; obtain ⟨hq, hs1⟩ := after_drew hb1; have QS : Hid (w1.cell? ⟨w.heap.size, 0, none⟩ = some (.int .i64 7) ∧ w1.cell? ⟨w.heap.size, 1, none⟩ = some (.int .i64 wd) ∧ w1.cell? ⟨w.heap.size, 2, none⟩ = some (.int .i64 ht) ∧ w1.cell? ⟨w.heap.size, 3, none⟩ = some (.int .i64 dp) ∧ w1.cell? ⟨w.heap.size, 4, none⟩ = some (.int .i64 sh) ∧ w1.cell? ⟨w.heap.size, 5, none⟩ = some (.int .i64 fo) ∧ w1.cell? ⟨w.heap.size, 6, none⟩ = some (.int .i64 ch) ∧ w1.cell? ⟨w.heap.size, 7, none⟩ = some (.int .i64 nn) ∧ w1.cell? ⟨w.heap.size, 8, none⟩ = some (.int .i64 gs) ∧ w1.cell? ⟨w.heap.size, 9, none⟩ = some (.int .i64 gp) ∧ w1.cell? ⟨w.heap.size, 10, none⟩ = some (.int .i64 gpo) ∧ w1.cell? ⟨w.heap.size, 11, none⟩ = some (.int .i64 gm) ∧ w1.cell? ⟨w.heap.size, 12, none⟩ = some (.int .i64 gmo) ∧ w1.cell? ⟨w.heap.size, 13, none⟩ = some (.string tx) ∧ w1.cell? ⟨w.heap.size, 14, none⟩ = some (.int .i64 kids)) := hideP ⟨hq 0, hq 1, hq 2, hq 3, hq 4, hq 5, hq 6, hq 7, hq 8, hq 9, hq 10, hq 11, hq 12, hq 13, hq 14⟩; have hb2 : Hid (Below w.heap.size w w1) := Below.trans (Below.drew (below1 _ _)) (hb1.mono (by simp)); clear hb1 hq))
 all_goals
  go_wp2
  go_ret
  exact ⟨rfl, ‹Hid (Below w.heap.size w w1)›⟩
set_option maxHeartbeats 4000000 in
theorem thing_8 (wd ht dp sh fo ch nn gs gp gpo gm gmo kids : Int) (tx : ByteArray) (w : World) : Calls Tryz.prog 107 #[ndV ⟨8, wd, ht, dp, sh, fo, ch, nn, gs, gp, gpo, gm, gmo, tx, kids⟩] w fun r w' => r = .returned (.iface 241 (.agg #[.int .i64 fo, .int .i64 ch, .int .i64 wd, .int .i64 ht, .int .i64 dp])) ∧ Below w.heap.size w w' := by
 simp only [ndV]
 have HC : Hid (∀ W, Calls Tryz.prog 127 #[ndV ⟨8, wd, ht, dp, sh, fo, ch, nn, gs, gp, gpo, gm, gmo, tx, kids⟩] W fun e w' => e = .returned (sizeV wd ht dp) ∧ Below W.heap.size W w') := hideP (fun W => sizeOf_any ⟨8, wd, ht, dp, sh, fo, ch, nn, gs, gp, gpo, gm, gmo, tx, kids⟩ W)
 go_enter Tryz.func107, Tryz.ntmps107
 go_wp2_with fail
 go_region_held3 (fun x => x.cell? ⟨w.heap.size, 0, none⟩ = some (.int .i64 8) ∧ x.cell? ⟨w.heap.size, 1, none⟩ = some (.int .i64 wd) ∧ x.cell? ⟨w.heap.size, 2, none⟩ = some (.int .i64 ht) ∧ x.cell? ⟨w.heap.size, 3, none⟩ = some (.int .i64 dp) ∧ x.cell? ⟨w.heap.size, 4, none⟩ = some (.int .i64 sh) ∧ x.cell? ⟨w.heap.size, 5, none⟩ = some (.int .i64 fo) ∧ x.cell? ⟨w.heap.size, 6, none⟩ = some (.int .i64 ch) ∧ x.cell? ⟨w.heap.size, 7, none⟩ = some (.int .i64 nn) ∧ x.cell? ⟨w.heap.size, 8, none⟩ = some (.int .i64 gs) ∧ x.cell? ⟨w.heap.size, 9, none⟩ = some (.int .i64 gp) ∧ x.cell? ⟨w.heap.size, 10, none⟩ = some (.int .i64 gpo) ∧ x.cell? ⟨w.heap.size, 11, none⟩ = some (.int .i64 gm) ∧ x.cell? ⟨w.heap.size, 12, none⟩ = some (.int .i64 gmo) ∧ x.cell? ⟨w.heap.size, 13, none⟩ = some (.string tx) ∧ x.cell? ⟨w.heap.size, 14, none⟩ = some (.int .i64 kids)) (first | (refine ⟨?_, ?_, ?_, ?_, ?_, ?_, ?_, ?_, ?_, ?_, ?_, ?_, ?_, ?_, ?_⟩ <;> (simp [go_sem]; done)) | exact ‹Hid (w1.cell? ⟨w.heap.size, 0, none⟩ = some (.int .i64 8) ∧ w1.cell? ⟨w.heap.size, 1, none⟩ = some (.int .i64 wd) ∧ w1.cell? ⟨w.heap.size, 2, none⟩ = some (.int .i64 ht) ∧ w1.cell? ⟨w.heap.size, 3, none⟩ = some (.int .i64 dp) ∧ w1.cell? ⟨w.heap.size, 4, none⟩ = some (.int .i64 sh) ∧ w1.cell? ⟨w.heap.size, 5, none⟩ = some (.int .i64 fo) ∧ w1.cell? ⟨w.heap.size, 6, none⟩ = some (.int .i64 ch) ∧ w1.cell? ⟨w.heap.size, 7, none⟩ = some (.int .i64 nn) ∧ w1.cell? ⟨w.heap.size, 8, none⟩ = some (.int .i64 gs) ∧ w1.cell? ⟨w.heap.size, 9, none⟩ = some (.int .i64 gp) ∧ w1.cell? ⟨w.heap.size, 10, none⟩ = some (.int .i64 gpo) ∧ w1.cell? ⟨w.heap.size, 11, none⟩ = some (.int .i64 gm) ∧ w1.cell? ⟨w.heap.size, 12, none⟩ = some (.int .i64 gmo) ∧ w1.cell? ⟨w.heap.size, 13, none⟩ = some (.string tx) ∧ w1.cell? ⟨w.heap.size, 14, none⟩ = some (.int .i64 kids))›) ((go_at_call 127; refine (HC.out _).mono ?_; rintro e w1 ⟨rfl, hb1⟩; obtain ⟨hq, hs1⟩ := after_drew hb1; have QS : Hid (w1.cell? ⟨w.heap.size, 0, none⟩ = some (.int .i64 8) ∧ w1.cell? ⟨w.heap.size, 1, none⟩ = some (.int .i64 wd) ∧ w1.cell? ⟨w.heap.size, 2, none⟩ = some (.int .i64 ht) ∧ w1.cell? ⟨w.heap.size, 3, none⟩ = some (.int .i64 dp) ∧ w1.cell? ⟨w.heap.size, 4, none⟩ = some (.int .i64 sh) ∧ w1.cell? ⟨w.heap.size, 5, none⟩ = some (.int .i64 fo) ∧ w1.cell? ⟨w.heap.size, 6, none⟩ = some (.int .i64 ch) ∧ w1.cell? ⟨w.heap.size, 7, none⟩ = some (.int .i64 nn) ∧ w1.cell? ⟨w.heap.size, 8, none⟩ = some (.int .i64 gs) ∧ w1.cell? ⟨w.heap.size, 9, none⟩ = some (.int .i64 gp) ∧ w1.cell? ⟨w.heap.size, 10, none⟩ = some (.int .i64 gpo) ∧ w1.cell? ⟨w.heap.size, 11, none⟩ = some (.int .i64 gm) ∧ w1.cell? ⟨w.heap.size, 12, none⟩ = some (.int .i64 gmo) ∧ w1.cell? ⟨w.heap.size, 13, none⟩ = some (.string tx) ∧ w1.cell? ⟨w.heap.size, 14, none⟩ = some (.int .i64 kids)) := hideP ⟨hq 0, hq 1, hq 2, hq 3, hq 4, hq 5, hq 6, hq 7, hq 8, hq 9, hq 10, hq 11, hq 12, hq 13, hq 14⟩; have hb2 : Hid (Below w.heap.size w w1) := Below.trans (Below.drew (below1 _ _)) (hb1.mono (by simp)); clear hb1 hq))
 all_goals
  go_wp2
  go_ret
  exact ⟨rfl, ‹Hid (Below w.heap.size w w1)›⟩
set_option maxHeartbeats 2000000 in
theorem can_letter (fo ch wd ht dp : Int) (w : World) : Calls Tryz.prog 180 #[.agg #[.int .i64 fo, .int .i64 ch, .int .i64 wd, .int .i64 ht, .int .i64 dp]] w fun r w' => r = .returned (.bool (uptoB fo 15 && uptoB ch 255 && (fitsB wd && fitsB ht && fitsB dp))) ∧ Below w.heap.size w w' := by
 cases h1 : uptoB fo 15 <;> cases h2 : uptoB ch 255 <;> cases h3 : (fitsB wd && fitsB ht && fitsB dp)
 all_goals
  go_enter Tryz.func180, Tryz.ntmps180
  go_wp2_with (first | (go_at_call 50; refine (upTo_any _ _ _).mono ?_; rintro e w' ⟨rfl, rfl⟩) | (go_at_call 183; refine (sizeFits_any _ _ _ _).mono ?_; rintro e w1 ⟨rfl, hb1⟩; have B1 : Hid (Below w.heap.size w w1) := below_more (below1 _ _) hb1 (by simp); have hs1 : w.heap.size < w1.heap.size := (by have := hb1.size; simp at this; omega); obtain ⟨hc1, hf1⟩ := bcell hb1; simp only [World.size_alloc] at hc1 hf1; clear hb1))
  go_ret
  first | exact ⟨rfl, below1 _ _⟩ | exact ⟨rfl, ‹Hid (Below w.heap.size w _)›⟩
set_option maxHeartbeats 2000000 in
theorem can_hyphen (fo ch wd ht dp : Int) (w : World) : Calls Tryz.prog 204 #[.agg #[.int .i64 fo, .int .i64 ch, .int .i64 wd, .int .i64 ht, .int .i64 dp]] w fun r w' => r = .returned (.bool (uptoB fo 15 && uptoB ch 255 && (fitsB wd && fitsB ht && fitsB dp))) ∧ Below w.heap.size w w' := by
 generalize hr : (uptoB fo 15 && uptoB ch 255 && (fitsB wd && fitsB ht && fitsB dp)) = r
 have HC : Hid (∀ W, Calls Tryz.prog 180 #[.agg #[.int .i64 fo, .int .i64 ch, .int .i64 wd, .int .i64 ht, .int .i64 dp]] W fun e w' => e = .returned (.bool r) ∧ Below W.heap.size W w') := hideP (fun W => by rw [← hr]; exact can_letter fo ch wd ht dp W)
 clear hr
 go_enter Tryz.func204, Tryz.ntmps204
 go_wp2_with fail
 refine (HC.out _).mono ?_
 rintro e w1 ⟨rfl, hb1⟩
 have B1 : Hid (Below w.heap.size w w1) := below_more (below1 _ _) hb1 (by simp)
 clear hb1
 go_wp2
 go_ret
 exact ⟨rfl, B1⟩
set_option maxHeartbeats 2000000 in
theorem can_kern (wd : Int) (w : World) : Calls Tryz.prog 191 #[.agg #[.int .i64 wd]] w fun r w' => r = .returned (.bool (fitsB wd)) ∧ Below w.heap.size w w' := by
 cases h1 : fitsB wd
 all_goals
  go_enter Tryz.func191, Tryz.ntmps191
  go_wp2_with (first | (go_at_call 125; refine (implFits_any _ _).mono ?_; rintro e w' ⟨rfl, rfl⟩))
  go_ret
  first | exact ⟨rfl, below1 _ _⟩ | exact ⟨rfl, ‹Hid (Below w.heap.size w _)›⟩
set_option maxHeartbeats 2000000 in
theorem can_space (gs gp gpo gm gmo wd : Int) (w : World) : Calls Tryz.prog 184 #[.agg #[.int .i64 gs, .int .i64 gp, .int .i64 gpo, .int .i64 gm, .int .i64 gmo, .int .i64 wd]] w fun r w' => r = .returned (.bool (glB gs gp gpo gm gmo && fitsB wd)) ∧ Below w.heap.size w w' := by
 cases h1 : glB gs gp gpo gm gmo <;> cases h2 : fitsB wd
 all_goals
  go_enter Tryz.func184, Tryz.ntmps184
  go_wp2_with (first | (go_at_call 106; refine (implGlueOk_any _ _ _ _ _ _).mono ?_; rintro e w1 ⟨rfl, hb1⟩; have B1 : Hid (Below w.heap.size w w1) := below_more (below1 _ _) hb1 (by simp); have hs1 : w.heap.size < w1.heap.size := (by have := hb1.size; simp at this; omega); obtain ⟨hc1, hf1⟩ := bcell hb1; simp only [World.size_alloc] at hc1 hf1; clear hb1) | (go_at_call 125; refine (implFits_any _ _).mono ?_; rintro e w' ⟨rfl, rfl⟩))
  go_ret
  first | exact ⟨rfl, below1 _ _⟩ | exact ⟨rfl, ‹Hid (Below w.heap.size w _)›⟩
set_option maxHeartbeats 2000000 in
theorem can_penalty (nn : Int) (w : World) : Calls Tryz.prog 186 #[.agg #[.int .i64 nn]] w fun r w' => r = .returned (.bool (decide (-10000 ≤ nn) && decide (nn ≤ 10000))) ∧ Below w.heap.size w w' := by
 cases h1 : decide (-10000 ≤ nn) <;> cases h2 : decide (nn ≤ 10000)
 all_goals
  go_enter Tryz.func186, Tryz.ntmps186
  go_wp2
  go_ret
  first | exact ⟨rfl, below1 _ _⟩ | exact ⟨rfl, ‹Hid (Below w.heap.size w _)›⟩
set_option maxHeartbeats 2000000 in
theorem can_rule (wd ht dp : Int) (w : World) : Calls Tryz.prog 195 #[.agg #[.int .i64 wd, .int .i64 ht, .int .i64 dp]] w fun r w' => r = .returned (.bool (fitsB wd && fitsB ht && fitsB dp)) ∧ Below w.heap.size w w' := by
 cases h3 : (fitsB wd && fitsB ht && fitsB dp)
 all_goals
  go_enter Tryz.func195, Tryz.ntmps195
  go_wp2_with (first | (go_at_call 183; refine (sizeFits_any _ _ _ _).mono ?_; rintro e w1 ⟨rfl, hb1⟩; have B1 : Hid (Below w.heap.size w w1) := below_more (below1 _ _) hb1 (by simp); have hs1 : w.heap.size < w1.heap.size := (by have := hb1.size; simp at this; omega); obtain ⟨hc1, hf1⟩ := bcell hb1; simp only [World.size_alloc] at hc1 hf1; clear hb1))
  go_ret
  first | exact ⟨rfl, below1 _ _⟩ | exact ⟨rfl, ‹Hid (Below w.heap.size w _)›⟩
set_option maxHeartbeats 2000000 in
theorem can_box (k wd ht dp sh kids : Int) (w : World) : Calls Tryz.prog 199 #[.agg #[.int .i64 k, .int .i64 wd, .int .i64 ht, .int .i64 dp, .int .i64 sh, .int .i64 kids]] w fun r w' => r = .returned (.bool ((fitsB wd && fitsB ht && fitsB dp) && fitsB sh && decide (0 ≤ kids))) ∧ Below w.heap.size w w' := by
 cases h3 : (fitsB wd && fitsB ht && fitsB dp) <;> cases h1 : fitsB sh <;> cases h2 : decide (0 ≤ kids)
 all_goals
  go_enter Tryz.func199, Tryz.ntmps199
  go_wp2_with (first | (go_at_call 183; refine (sizeFits_any _ _ _ _).mono ?_; rintro e w1 ⟨rfl, hb1⟩; have B1 : Hid (Below w.heap.size w w1) := below_more (below1 _ _) hb1 (by simp); have hs1 : w.heap.size < w1.heap.size := (by have := hb1.size; simp at this; omega); obtain ⟨hc1, hf1⟩ := bcell hb1; simp only [World.size_alloc] at hc1 hf1; clear hb1) | (go_at_call 125; refine (implFits_any _ _).mono ?_; rintro e w' ⟨rfl, rfl⟩))
  go_ret
  first | exact ⟨rfl, below1 _ _⟩ | exact ⟨rfl, ‹Hid (Below w.heap.size w _)›⟩
set_option maxHeartbeats 2000000 in
theorem can_message (k : Int) (tx : ByteArray) (w : World) : Calls Tryz.prog 206 #[.agg #[.int .i64 k, .string tx]] w fun r w' => r = .returned (.bool (decide ((tx.size : Int) ≤ 1000))) ∧ Below w.heap.size w w' := by
 cases h1 : decide ((tx.size : Int) ≤ 1000)
 all_goals
  go_enter Tryz.func206, Tryz.ntmps206
  go_wp2
  go_ret
  first | exact ⟨rfl, below1 _ _⟩ | exact ⟨rfl, ‹Hid (Below w.heap.size w _)›⟩
set_option maxHeartbeats 2000000 in
theorem can_note (nn ht kids : Int) (w : World) : Calls Tryz.prog 188 #[.agg #[.int .i64 nn, .int .i64 ht, .int .i64 kids]] w fun r w' => r = .returned (.bool (uptoB nn 15 && fitsB ht && decide (0 ≤ kids))) ∧ Below w.heap.size w w' := by
 cases h3 : uptoB nn 15 <;> cases h1 : fitsB ht <;> cases h2 : decide (0 ≤ kids)
 all_goals
  go_enter Tryz.func188, Tryz.ntmps188
  go_wp2_with (first | (go_at_call 50; refine (upTo_any _ _ _).mono ?_; rintro e w' ⟨rfl, rfl⟩) | (go_at_call 125; refine (implFits_any _ _).mono ?_; rintro e w' ⟨rfl, rfl⟩))
  go_ret
  first | exact ⟨rfl, below1 _ _⟩ | exact ⟨rfl, ‹Hid (Below w.heap.size w _)›⟩
theorem holds_box (k wd ht dp sh kids : Int) (w : World) : Calls Tryz.prog 200 #[.agg #[.int .i64 k, .int .i64 wd, .int .i64 ht, .int .i64 dp, .int .i64 sh, .int .i64 kids]] w fun r w' => r = .returned (.int .i64 kids) ∧ Below w.heap.size w w' := by
 go_enter Tryz.func200, Tryz.ntmps200
 go_wp2
 go_ret
 exact ⟨rfl, below1 _ _⟩
theorem holds_note (nn ht kids : Int) (w : World) : Calls Tryz.prog 189 #[.agg #[.int .i64 nn, .int .i64 ht, .int .i64 kids]] w fun r w' => r = .returned (.int .i64 kids) ∧ Below w.heap.size w w' := by
 go_enter Tryz.func189, Tryz.ntmps189
 go_wp2
 go_ret
 exact ⟨rfl, below1 _ _⟩
end Go.Proofs.YtlohbaoigfaneaaGreat
