/-
  What a node is, as a thing of its own: a kind.
-/
import Derived.Test.YtbbehmcekbnkiaaTha
import Derived.Deep.RegionWith
import Derived.Deep.RegionHeld3
namespace Go.Proofs.Ytbbehmcekbnkiaa
open Go.RowKit
set_option linter.unusedVariables false
set_option linter.unusedSimpArgs false

set_option maxHeartbeats 4000000 in
theorem thing_8 (wd ht dp sh fo ch nn gs gp gpo gm gmo kids : Int) (tx : ByteArray) (w : World) : Calls Try.prog 13 #[ndV ⟨8, wd, ht, dp, sh, fo, ch, nn, gs, gp, gpo, gm, gmo, tx, kids⟩] w fun r w' => r = .returned (.iface 76 (.agg #[.int .i64 fo, .int .i64 ch, .int .i64 wd, .int .i64 ht, .int .i64 dp])) ∧ Below w.heap.size w w' := by
  simp only [ndV]
  have HC : Hid (∀ W, Calls Try.prog 21 #[ndV ⟨8, wd, ht, dp, sh, fo, ch, nn, gs, gp, gpo, gm, gmo, tx, kids⟩] W fun e w' => e = .returned (sizeV wd ht dp) ∧ Below W.heap.size W w') := hideP (fun W => sizeOf_any ⟨8, wd, ht, dp, sh, fo, ch, nn, gs, gp, gpo, gm, gmo, tx, kids⟩ W)
  go_enter Try.func13, Try.ntmps13
  go_wp2_with fail
  go_region_held3 (fun x => x.cell? ⟨w.heap.size, 0, none⟩ = some (.int .i64 8) ∧ x.cell? ⟨w.heap.size, 1, none⟩ = some (.int .i64 wd) ∧ x.cell? ⟨w.heap.size, 2, none⟩ = some (.int .i64 ht) ∧ x.cell? ⟨w.heap.size, 3, none⟩ = some (.int .i64 dp) ∧ x.cell? ⟨w.heap.size, 4, none⟩ = some (.int .i64 sh) ∧ x.cell? ⟨w.heap.size, 5, none⟩ = some (.int .i64 fo) ∧ x.cell? ⟨w.heap.size, 6, none⟩ = some (.int .i64 ch) ∧ x.cell? ⟨w.heap.size, 7, none⟩ = some (.int .i64 nn) ∧ x.cell? ⟨w.heap.size, 8, none⟩ = some (.int .i64 gs) ∧ x.cell? ⟨w.heap.size, 9, none⟩ = some (.int .i64 gp) ∧ x.cell? ⟨w.heap.size, 10, none⟩ = some (.int .i64 gpo) ∧ x.cell? ⟨w.heap.size, 11, none⟩ = some (.int .i64 gm) ∧ x.cell? ⟨w.heap.size, 12, none⟩ = some (.int .i64 gmo) ∧ x.cell? ⟨w.heap.size, 13, none⟩ = some (.string tx) ∧ x.cell? ⟨w.heap.size, 14, none⟩ = some (.int .i64 kids)) (first | (refine ⟨?_, ?_, ?_, ?_, ?_, ?_, ?_, ?_, ?_, ?_, ?_, ?_, ?_, ?_, ?_⟩ <;> (simp [go_sem]; done)) | exact ‹Hid (w1.cell? ⟨w.heap.size, 0, none⟩ = some (.int .i64 8) ∧ w1.cell? ⟨w.heap.size, 1, none⟩ = some (.int .i64 wd) ∧ w1.cell? ⟨w.heap.size, 2, none⟩ = some (.int .i64 ht) ∧ w1.cell? ⟨w.heap.size, 3, none⟩ = some (.int .i64 dp) ∧ w1.cell? ⟨w.heap.size, 4, none⟩ = some (.int .i64 sh) ∧ w1.cell? ⟨w.heap.size, 5, none⟩ = some (.int .i64 fo) ∧ w1.cell? ⟨w.heap.size, 6, none⟩ = some (.int .i64 ch) ∧ w1.cell? ⟨w.heap.size, 7, none⟩ = some (.int .i64 nn) ∧ w1.cell? ⟨w.heap.size, 8, none⟩ = some (.int .i64 gs) ∧ w1.cell? ⟨w.heap.size, 9, none⟩ = some (.int .i64 gp) ∧ w1.cell? ⟨w.heap.size, 10, none⟩ = some (.int .i64 gpo) ∧ w1.cell? ⟨w.heap.size, 11, none⟩ = some (.int .i64 gm) ∧ w1.cell? ⟨w.heap.size, 12, none⟩ = some (.int .i64 gmo) ∧ w1.cell? ⟨w.heap.size, 13, none⟩ = some (.string tx) ∧ w1.cell? ⟨w.heap.size, 14, none⟩ = some (.int .i64 kids))›) ((go_at_call 21; refine (HC.out _).mono ?_; rintro e w1 ⟨rfl, hb1⟩; obtain ⟨hq, hs1⟩ := after_drew hb1; have QS : Hid (w1.cell? ⟨w.heap.size, 0, none⟩ = some (.int .i64 8) ∧ w1.cell? ⟨w.heap.size, 1, none⟩ = some (.int .i64 wd) ∧ w1.cell? ⟨w.heap.size, 2, none⟩ = some (.int .i64 ht) ∧ w1.cell? ⟨w.heap.size, 3, none⟩ = some (.int .i64 dp) ∧ w1.cell? ⟨w.heap.size, 4, none⟩ = some (.int .i64 sh) ∧ w1.cell? ⟨w.heap.size, 5, none⟩ = some (.int .i64 fo) ∧ w1.cell? ⟨w.heap.size, 6, none⟩ = some (.int .i64 ch) ∧ w1.cell? ⟨w.heap.size, 7, none⟩ = some (.int .i64 nn) ∧ w1.cell? ⟨w.heap.size, 8, none⟩ = some (.int .i64 gs) ∧ w1.cell? ⟨w.heap.size, 9, none⟩ = some (.int .i64 gp) ∧ w1.cell? ⟨w.heap.size, 10, none⟩ = some (.int .i64 gpo) ∧ w1.cell? ⟨w.heap.size, 11, none⟩ = some (.int .i64 gm) ∧ w1.cell? ⟨w.heap.size, 12, none⟩ = some (.int .i64 gmo) ∧ w1.cell? ⟨w.heap.size, 13, none⟩ = some (.string tx) ∧ w1.cell? ⟨w.heap.size, 14, none⟩ = some (.int .i64 kids)) := hideP ⟨hq 0, hq 1, hq 2, hq 3, hq 4, hq 5, hq 6, hq 7, hq 8, hq 9, hq 10, hq 11, hq 12, hq 13, hq 14⟩; have hb2 : Hid (Below w.heap.size w w1) := Below.trans (Below.drew (below1 _ _)) (hb1.mono (by simp)); clear hb1 hq))
  all_goals
    go_wp2
    go_ret
    exact ⟨rfl, ‹Hid (Below w.heap.size w w1)›⟩
end Go.Proofs.Ytbbehmcekbnkiaa
