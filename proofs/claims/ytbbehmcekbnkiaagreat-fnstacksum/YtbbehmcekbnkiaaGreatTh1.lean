import Derived.Test.YtbbehmcekbnkiaaGreatTha
import Derived.Deep.RegionWith
import Derived.Deep.RegionHeld3
namespace Go.Proofs.YtbbehmcekbnkiaaGreat
open Go.RowKit
set_option linter.unusedVariables false
set_option linter.unusedSimpArgs false
set_option maxHeartbeats 4000000 in
theorem thing_5 (wd ht dp sh fo ch nn gs gp gpo gm gmo kids : Int) (tx : ByteArray) (w : World) : Calls Tryz.prog 62 #[ndV ⟨5, wd, ht, dp, sh, fo, ch, nn, gs, gp, gpo, gm, gmo, tx, kids⟩] w fun r w' => r = .returned (.iface 135 (.agg #[.int .i64 wd, .int .i64 ht, .int .i64 dp])) ∧ Below w.heap.size w w' := by
 simp only [ndV]
 have HC : Hid (∀ W, Calls Tryz.prog 51 #[ndV ⟨5, wd, ht, dp, sh, fo, ch, nn, gs, gp, gpo, gm, gmo, tx, kids⟩] W fun e w' => e = .returned (sizeV wd ht dp) ∧ Below W.heap.size W w') := hideP (fun W => sizeOf_any ⟨5, wd, ht, dp, sh, fo, ch, nn, gs, gp, gpo, gm, gmo, tx, kids⟩ W)
 go_enter Tryz.func62, Tryz.ntmps62
 go_wp2_with fail
 refine (HC.out _).mono ?_
 rintro e w1 ⟨rfl, hb1⟩
 have B1 : Hid (Below w.heap.size w w1) := below_more (below1 _ _) hb1 (by simp)
 clear hb1
 go_wp2
 go_ret
 exact ⟨rfl, B1⟩
set_option maxHeartbeats 4000000 in
theorem thing_9 (wd ht dp sh fo ch nn gs gp gpo gm gmo kids : Int) (tx : ByteArray) (w : World) : Calls Tryz.prog 62 #[ndV ⟨9, wd, ht, dp, sh, fo, ch, nn, gs, gp, gpo, gm, gmo, tx, kids⟩] w fun r w' => r = .returned (.iface 181 (.agg #[.int .i64 9, .string tx])) ∧ Below w.heap.size w w' := by
 simp only [ndV]
 go_enter Tryz.func62, Tryz.ntmps62
 go_wp2
 go_ret
 exact ⟨rfl, below1 _ _⟩
set_option maxHeartbeats 4000000 in
theorem thing_10 (wd ht dp sh fo ch nn gs gp gpo gm gmo kids : Int) (tx : ByteArray) (w : World) : Calls Tryz.prog 62 #[ndV ⟨10, wd, ht, dp, sh, fo, ch, nn, gs, gp, gpo, gm, gmo, tx, kids⟩] w fun r w' => r = .returned (.iface 181 (.agg #[.int .i64 10, .string tx])) ∧ Below w.heap.size w w' := by
 simp only [ndV]
 go_enter Tryz.func62, Tryz.ntmps62
 go_wp2
 go_ret
 exact ⟨rfl, below1 _ _⟩
set_option maxHeartbeats 4000000 in
theorem thing_11 (wd ht dp sh fo ch nn gs gp gpo gm gmo kids : Int) (tx : ByteArray) (w : World) : Calls Tryz.prog 62 #[ndV ⟨11, wd, ht, dp, sh, fo, ch, nn, gs, gp, gpo, gm, gmo, tx, kids⟩] w fun r w' => r = .returned (.iface 158 (.agg #[.int .i64 nn, .int .i64 ht, .int .i64 kids])) ∧ Below w.heap.size w w' := by
 simp only [ndV]
 go_enter Tryz.func62, Tryz.ntmps62
 go_wp2
 go_ret
 exact ⟨rfl, below1 _ _⟩
set_option maxHeartbeats 4000000 in
theorem thing_1 (wd ht dp sh fo ch nn gs gp gpo gm gmo kids : Int) (tx : ByteArray) (w : World) : Calls Tryz.prog 62 #[ndV ⟨1, wd, ht, dp, sh, fo, ch, nn, gs, gp, gpo, gm, gmo, tx, kids⟩] w fun r w' => r = .returned (.iface 132 (.agg #[.int .i64 fo, .int .i64 ch, .int .i64 wd, .int .i64 ht, .int .i64 dp])) ∧ Below w.heap.size w w' := by
 simp only [ndV]
 have HC : Hid (∀ W, Calls Tryz.prog 51 #[ndV ⟨1, wd, ht, dp, sh, fo, ch, nn, gs, gp, gpo, gm, gmo, tx, kids⟩] W fun e w' => e = .returned (sizeV wd ht dp) ∧ Below W.heap.size W w') := hideP (fun W => sizeOf_any ⟨1, wd, ht, dp, sh, fo, ch, nn, gs, gp, gpo, gm, gmo, tx, kids⟩ W)
 go_enter Tryz.func62, Tryz.ntmps62
 go_wp2_with fail
 go_region_held3 (fun x => x.cell? ⟨w.heap.size, 0, none⟩ = some (.int .i64 1) ∧ x.cell? ⟨w.heap.size, 1, none⟩ = some (.int .i64 wd) ∧ x.cell? ⟨w.heap.size, 2, none⟩ = some (.int .i64 ht) ∧ x.cell? ⟨w.heap.size, 3, none⟩ = some (.int .i64 dp) ∧ x.cell? ⟨w.heap.size, 4, none⟩ = some (.int .i64 sh) ∧ x.cell? ⟨w.heap.size, 5, none⟩ = some (.int .i64 fo) ∧ x.cell? ⟨w.heap.size, 6, none⟩ = some (.int .i64 ch) ∧ x.cell? ⟨w.heap.size, 7, none⟩ = some (.int .i64 nn) ∧ x.cell? ⟨w.heap.size, 8, none⟩ = some (.int .i64 gs) ∧ x.cell? ⟨w.heap.size, 9, none⟩ = some (.int .i64 gp) ∧ x.cell? ⟨w.heap.size, 10, none⟩ = some (.int .i64 gpo) ∧ x.cell? ⟨w.heap.size, 11, none⟩ = some (.int .i64 gm) ∧ x.cell? ⟨w.heap.size, 12, none⟩ = some (.int .i64 gmo) ∧ x.cell? ⟨w.heap.size, 13, none⟩ = some (.string tx) ∧ x.cell? ⟨w.heap.size, 14, none⟩ = some (.int .i64 kids)) (first | (refine ⟨?_, ?_, ?_, ?_, ?_, ?_, ?_, ?_, ?_, ?_, ?_, ?_, ?_, ?_, ?_⟩ <;> (simp [go_sem]; done)) | exact ‹Hid (w1.cell? ⟨w.heap.size, 0, none⟩ = some (.int .i64 1) ∧ w1.cell? ⟨w.heap.size, 1, none⟩ = some (.int .i64 wd) ∧ w1.cell? ⟨w.heap.size, 2, none⟩ = some (.int .i64 ht) ∧ w1.cell? ⟨w.heap.size, 3, none⟩ = some (.int .i64 dp) ∧ w1.cell? ⟨w.heap.size, 4, none⟩ = some (.int .i64 sh) ∧ w1.cell? ⟨w.heap.size, 5, none⟩ = some (.int .i64 fo) ∧ w1.cell? ⟨w.heap.size, 6, none⟩ = some (.int .i64 ch) ∧ w1.cell? ⟨w.heap.size, 7, none⟩ = some (.int .i64 nn) ∧ w1.cell? ⟨w.heap.size, 8, none⟩ = some (.int .i64 gs) ∧ w1.cell? ⟨w.heap.size, 9, none⟩ = some (.int .i64 gp) ∧ w1.cell? ⟨w.heap.size, 10, none⟩ = some (.int .i64 gpo) ∧ w1.cell? ⟨w.heap.size, 11, none⟩ = some (.int .i64 gm) ∧ w1.cell? ⟨w.heap.size, 12, none⟩ = some (.int .i64 gmo) ∧ w1.cell? ⟨w.heap.size, 13, none⟩ = some (.string tx) ∧ w1.cell? ⟨w.heap.size, 14, none⟩ = some (.int .i64 kids))›) ((go_at_call 51; refine (HC.out _).mono ?_; rintro e w1 ⟨rfl, hb1⟩; obtain ⟨hq, hs1⟩ := after_drew hb1; have QS : Hid (w1.cell? ⟨w.heap.size, 0, none⟩ = some (.int .i64 1) ∧ w1.cell? ⟨w.heap.size, 1, none⟩ = some (.int .i64 wd) ∧ w1.cell? ⟨w.heap.size, 2, none⟩ = some (.int .i64 ht) ∧ w1.cell? ⟨w.heap.size, 3, none⟩ = some (.int .i64 dp) ∧ w1.cell? ⟨w.heap.size, 4, none⟩ = some (.int .i64 sh) ∧ w1.cell? ⟨w.heap.size, 5, none⟩ = some (.int .i64 fo) ∧ w1.cell? ⟨w.heap.size, 6, none⟩ = some (.int .i64 ch) ∧ w1.cell? ⟨w.heap.size, 7, none⟩ = some (.int .i64 nn) ∧ w1.cell? ⟨w.heap.size, 8, none⟩ = some (.int .i64 gs) ∧ w1.cell? ⟨w.heap.size, 9, none⟩ = some (.int .i64 gp) ∧ w1.cell? ⟨w.heap.size, 10, none⟩ = some (.int .i64 gpo) ∧ w1.cell? ⟨w.heap.size, 11, none⟩ = some (.int .i64 gm) ∧ w1.cell? ⟨w.heap.size, 12, none⟩ = some (.int .i64 gmo) ∧ w1.cell? ⟨w.heap.size, 13, none⟩ = some (.string tx) ∧ w1.cell? ⟨w.heap.size, 14, none⟩ = some (.int .i64 kids)) := hideP ⟨hq 0, hq 1, hq 2, hq 3, hq 4, hq 5, hq 6, hq 7, hq 8, hq 9, hq 10, hq 11, hq 12, hq 13, hq 14⟩; have hb2 : Hid (Below w.heap.size w w1) := Below.trans (Below.drew (below1 _ _)) (hb1.mono (by simp)); clear hb1 hq))
 all_goals
  go_wp2
  go_ret
  exact ⟨rfl, ‹Hid (Below w.heap.size w w1)›⟩
end Go.Proofs.YtbbehmcekbnkiaaGreat
