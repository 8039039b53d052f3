import Derived.Test.YtlohbaoigfaneaaGreatPur
import Derived.Deep.RegionWith
import Derived.Deep.RegionHeld3
namespace Go.Proofs.YtlohbaoigfaneaaGreat
open Go.RowKit
set_option linter.unusedVariables false
set_option linter.unusedSimpArgs false
theorem after_drew {w w1 : World} {c : Array Value} {ty : Nat} (hb : Below (w.alloc (.cells c ty)).drew.heap.size (w.alloc (.cells c ty)).drew w1) : (∀ i, w1.cell? ⟨w.heap.size, i, none⟩ = c[i]?) ∧ w.heap.size < w1.heap.size := by
 have hs : w.heap.size < (w.alloc (.cells c ty)).drew.heap.size := by simp
 refine ⟨fun i => ?_, Nat.lt_of_lt_of_le hs hb.size⟩
 rw [hb.cell (p := ⟨w.heap.size, i, none⟩) hs]
 simp [go_sem]
set_option maxHeartbeats 4000000 in
theorem thing_2 (wd ht dp sh fo ch nn gs gp gpo gm gmo kids : Int) (tx : ByteArray) (w : World) : Calls Tryz.prog 107 #[ndV ⟨2, wd, ht, dp, sh, fo, ch, nn, gs, gp, gpo, gm, gmo, tx, kids⟩] w fun r w' => r = .returned (.iface 224 (.agg #[.int .i64 wd])) ∧ Below w.heap.size w w' := by
 simp only [ndV]
 go_enter Tryz.func107, Tryz.ntmps107
 go_wp2
 go_ret
 exact ⟨rfl, below1 _ _⟩
set_option maxHeartbeats 4000000 in
theorem thing_3 (wd ht dp sh fo ch nn gs gp gpo gm gmo kids : Int) (tx : ByteArray) (w : World) : Calls Tryz.prog 107 #[ndV ⟨3, wd, ht, dp, sh, fo, ch, nn, gs, gp, gpo, gm, gmo, tx, kids⟩] w fun r w' => r = .returned (.iface 152 (.agg #[.int .i64 gs, .int .i64 gp, .int .i64 gpo, .int .i64 gm, .int .i64 gmo, .int .i64 wd])) ∧ Below w.heap.size w w' := by
 simp only [ndV]
 go_enter Tryz.func107, Tryz.ntmps107
 go_wp2
 go_ret
 exact ⟨rfl, below1 _ _⟩
set_option maxHeartbeats 4000000 in
theorem thing_4 (wd ht dp sh fo ch nn gs gp gpo gm gmo kids : Int) (tx : ByteArray) (w : World) : Calls Tryz.prog 107 #[ndV ⟨4, wd, ht, dp, sh, fo, ch, nn, gs, gp, gpo, gm, gmo, tx, kids⟩] w fun r w' => r = .returned (.iface 155 (.agg #[.int .i64 nn])) ∧ Below w.heap.size w w' := by
 simp only [ndV]
 go_enter Tryz.func107, Tryz.ntmps107
 go_wp2
 go_ret
 exact ⟨rfl, below1 _ _⟩
set_option maxHeartbeats 4000000 in
theorem thing_0 (k : Int) (wd ht dp sh fo ch nn gs gp gpo gm gmo kids : Int) (tx : ByteArray) (w : World) (hk : ¬ (1 ≤ k ∧ k ≤ 11)) : Calls Tryz.prog 107 #[ndV ⟨k, wd, ht, dp, sh, fo, ch, nn, gs, gp, gpo, gm, gmo, tx, kids⟩] w fun r w' => r = .returned .nilIface ∧ Below w.heap.size w w' := by
 simp only [ndV]
 have e1 : (k == 1) = false := by simp; omega
 have e2 : (k == 2) = false := by simp; omega
 have e3 : (k == 3) = false := by simp; omega
 have e4 : (k == 4) = false := by simp; omega
 have e5 : (k == 5) = false := by simp; omega
 have e6 : (k == 6) = false := by simp; omega
 have e7 : (k == 7) = false := by simp; omega
 have e8 : (k == 8) = false := by simp; omega
 have e9 : (k == 9) = false := by simp; omega
 have e10 : (k == 10) = false := by simp; omega
 have e11 : (k == 11) = false := by simp; omega
 clear hk
 go_enter Tryz.func107, Tryz.ntmps107
 go_wp2
 go_ret
 exact ⟨rfl, below1 _ _⟩
set_option maxHeartbeats 4000000 in
theorem thing_5 (wd ht dp sh fo ch nn gs gp gpo gm gmo kids : Int) (tx : ByteArray) (w : World) : Calls Tryz.prog 107 #[ndV ⟨5, wd, ht, dp, sh, fo, ch, nn, gs, gp, gpo, gm, gmo, tx, kids⟩] w fun r w' => r = .returned (.iface 237 (.agg #[.int .i64 wd, .int .i64 ht, .int .i64 dp])) ∧ Below w.heap.size w w' := by
 simp only [ndV]
 have HC : Hid (∀ W, Calls Tryz.prog 127 #[ndV ⟨5, wd, ht, dp, sh, fo, ch, nn, gs, gp, gpo, gm, gmo, tx, kids⟩] W fun e w' => e = .returned (sizeV wd ht dp) ∧ Below W.heap.size W w') := hideP (fun W => sizeOf_any ⟨5, wd, ht, dp, sh, fo, ch, nn, gs, gp, gpo, gm, gmo, tx, kids⟩ W)
 go_enter Tryz.func107, Tryz.ntmps107
 go_wp2_with fail
 refine (HC.out _).mono ?_
 rintro e w1 ⟨rfl, hb1⟩
 have B1 : Hid (Below w.heap.size w w1) := below_more (below1 _ _) hb1 (by simp)
 clear hb1
 go_wp2
 go_ret
 exact ⟨rfl, B1⟩
set_option maxHeartbeats 4000000 in
theorem thing_9 (wd ht dp sh fo ch nn gs gp gpo gm gmo kids : Int) (tx : ByteArray) (w : World) : Calls Tryz.prog 107 #[ndV ⟨9, wd, ht, dp, sh, fo, ch, nn, gs, gp, gpo, gm, gmo, tx, kids⟩] w fun r w' => r = .returned (.iface 243 (.agg #[.int .i64 9, .string tx])) ∧ Below w.heap.size w w' := by
 simp only [ndV]
 go_enter Tryz.func107, Tryz.ntmps107
 go_wp2
 go_ret
 exact ⟨rfl, below1 _ _⟩
set_option maxHeartbeats 4000000 in
theorem thing_10 (wd ht dp sh fo ch nn gs gp gpo gm gmo kids : Int) (tx : ByteArray) (w : World) : Calls Tryz.prog 107 #[ndV ⟨10, wd, ht, dp, sh, fo, ch, nn, gs, gp, gpo, gm, gmo, tx, kids⟩] w fun r w' => r = .returned (.iface 243 (.agg #[.int .i64 10, .string tx])) ∧ Below w.heap.size w w' := by
 simp only [ndV]
 go_enter Tryz.func107, Tryz.ntmps107
 go_wp2
 go_ret
 exact ⟨rfl, below1 _ _⟩
set_option maxHeartbeats 4000000 in
theorem thing_11 (wd ht dp sh fo ch nn gs gp gpo gm gmo kids : Int) (tx : ByteArray) (w : World) : Calls Tryz.prog 107 #[ndV ⟨11, wd, ht, dp, sh, fo, ch, nn, gs, gp, gpo, gm, gmo, tx, kids⟩] w fun r w' => r = .returned (.iface 188 (.agg #[.int .i64 nn, .int .i64 ht, .int .i64 kids])) ∧ Below w.heap.size w w' := by
 simp only [ndV]
 go_enter Tryz.func107, Tryz.ntmps107
 go_wp2
 go_ret
 exact ⟨rfl, below1 _ _⟩
set_option maxHeartbeats 4000000 in
theorem thing_1 (wd ht dp sh fo ch nn gs gp gpo gm gmo kids : Int) (tx : ByteArray) (w : World) : Calls Tryz.prog 107 #[ndV ⟨1, wd, ht, dp, sh, fo, ch, nn, gs, gp, gpo, gm, gmo, tx, kids⟩] w fun r w' => r = .returned (.iface 171 (.agg #[.int .i64 fo, .int .i64 ch, .int .i64 wd, .int .i64 ht, .int .i64 dp])) ∧ Below w.heap.size w w' := by
 simp only [ndV]
 have HC : Hid (∀ W, Calls Tryz.prog 127 #[ndV ⟨1, wd, ht, dp, sh, fo, ch, nn, gs, gp, gpo, gm, gmo, tx, kids⟩] W fun e w' => e = .returned (sizeV wd ht dp) ∧ Below W.heap.size W w') := hideP (fun W => sizeOf_any ⟨1, wd, ht, dp, sh, fo, ch, nn, gs, gp, gpo, gm, gmo, tx, kids⟩ W)
 go_enter Tryz.func107, Tryz.ntmps107
 go_wp2_with fail
 go_region_held3 (fun x => x.cell? ⟨w.heap.size, 0, none⟩ = some (.int .i64 1) ∧ x.cell? ⟨w.heap.size, 1, none⟩ = some (.int .i64 wd) ∧ x.cell? ⟨w.heap.size, 2, none⟩ = some (.int .i64 ht) ∧ x.cell? ⟨w.heap.size, 3, none⟩ = some (.int .i64 dp) ∧ x.cell? ⟨w.heap.size, 4, none⟩ = some (.int .i64 sh) ∧ x.cell? ⟨w.heap.size, 5, none⟩ = some (.int .i64 fo) ∧ x.cell? ⟨w.heap.size, 6, none⟩ = some (.int .i64 ch) ∧ x.cell? ⟨w.heap.size, 7, none⟩ = some (.int .i64 nn) ∧ x.cell? ⟨w.heap.size, 8, none⟩ = some (.int .i64 gs) ∧ x.cell? ⟨w.heap.size, 9, none⟩ = some (.int .i64 gp) ∧ x.cell? ⟨w.heap.size, 10, none⟩ = some (.int .i64 gpo) ∧ x.cell? ⟨w.heap.size, 11, none⟩ = some (.int .i64 gm) ∧ x.cell? ⟨w.heap.size, 12, none⟩ = some (.int .i64 gmo) ∧ x.cell? ⟨w.heap.size, 13, none⟩ = some (.string tx) ∧ x.cell? ⟨w.heap.size, 14, none⟩ = some (.int .i64 kids)) (first | (refine ⟨?_, ?_, ?_, ?_, ?_, ?_, ?_, ?_, ?_, ?_, ?_, ?_, ?_, ?_, ?_⟩ <;> (simp [go_sem]; done)) | exact ‹Hid (w1.cell? ⟨w.heap.size, 0, none⟩ = some (.int .i64 1) ∧ w1.cell? ⟨w.heap.size, 1, none⟩ = some (.int .i64 wd) ∧ w1.cell? ⟨w.heap.size, 2, none⟩ = some (.int .i64 ht) ∧ w1.cell? ⟨w.heap.size, 3, none⟩ = some (.int .i64 dp) ∧ w1.cell? ⟨w.heap.size, 4, none⟩ = some (.int .i64 sh) ∧ w1.cell? ⟨w.heap.size, 5, none⟩ = some (.int .i64 fo) ∧ w1.cell? ⟨w.heap.size, 6, none⟩ = some (.int .i64 ch) ∧ w1.cell? ⟨w.heap.size, 7, none⟩ = some (.int .i64 nn) ∧ w1.cell? ⟨w.heap.size, 8, none⟩ = some (.int .i64 gs) ∧ w1.cell? ⟨w.heap.size, 9, none⟩ = some (.int .i64 gp) ∧ w1.cell? ⟨w.heap.size, 10, none⟩ = some (.int .i64 gpo) ∧ w1.cell? ⟨w.heap.size, 11, none⟩ = some (.int .i64 gm) ∧ w1.cell? ⟨w.heap.size, 12, none⟩ = some (.int .i64 gmo) ∧ w1.cell? ⟨w.heap.size, 13, none⟩ = some (.string tx) ∧ w1.cell? ⟨w.heap.size, 14, none⟩ = some (.int .i64 kids))›) ((go_at_call 127; refine (HC.out _).mono ?_; rintro e w1 ⟨rfl, hb1⟩; obtain ⟨hq, hs1⟩ := after_drew hb1; have QS : Hid (w1.cell? ⟨w.heap.size, 0, none⟩ = some (.int .i64 1) ∧ w1.cell? ⟨w.heap.size, 1, none⟩ = some (.int .i64 wd) ∧ w1.cell? ⟨w.heap.size, 2, none⟩ = some (.int .i64 ht) ∧ w1.cell? ⟨w.heap.size, 3, none⟩ = some (.int .i64 dp) ∧ w1.cell? ⟨w.heap.size, 4, none⟩ = some (.int .i64 sh) ∧ w1.cell? ⟨w.heap.size, 5, none⟩ = some (.int .i64 fo) ∧ w1.cell? ⟨w.heap.size, 6, none⟩ = some (.int .i64 ch) ∧ w1.cell? ⟨w.heap.size, 7, none⟩ = some (.int .i64 nn) ∧ w1.cell? ⟨w.heap.size, 8, none⟩ = some (.int .i64 gs) ∧ w1.cell? ⟨w.heap.size, 9, none⟩ = some (.int .i64 gp) ∧ w1.cell? ⟨w.heap.size, 10, none⟩ = some (.int .i64 gpo) ∧ w1.cell? ⟨w.heap.size, 11, none⟩ = some (.int .i64 gm) ∧ w1.cell? ⟨w.heap.size, 12, none⟩ = some (.int .i64 gmo) ∧ w1.cell? ⟨w.heap.size, 13, none⟩ = some (.string tx) ∧ w1.cell? ⟨w.heap.size, 14, none⟩ = some (.int .i64 kids)) := hideP ⟨hq 0, hq 1, hq 2, hq 3, hq 4, hq 5, hq 6, hq 7, hq 8, hq 9, hq 10, hq 11, hq 12, hq 13, hq 14⟩; have hb2 : Hid (Below w.heap.size w w1) := Below.trans (Below.drew (below1 _ _)) (hb1.mono (by simp)); clear hb1 hq))
 all_goals
  go_wp2
  go_ret
  exact ⟨rfl, ‹Hid (Below w.heap.size w w1)›⟩
set_option maxHeartbeats 4000000 in
theorem thing_6 (wd ht dp sh fo ch nn gs gp gpo gm gmo kids : Int) (tx : ByteArray) (w : World) : Calls Tryz.prog 107 #[ndV ⟨6, wd, ht, dp, sh, fo, ch, nn, gs, gp, gpo, gm, gmo, tx, kids⟩] w fun r w' => r = .returned (.iface 239 (.agg #[.int .i64 6, .int .i64 wd, .int .i64 ht, .int .i64 dp, .int .i64 sh, .int .i64 kids])) ∧ Below w.heap.size w w' := by
 simp only [ndV]
 have HC : Hid (∀ W, Calls Tryz.prog 127 #[ndV ⟨6, wd, ht, dp, sh, fo, ch, nn, gs, gp, gpo, gm, gmo, tx, kids⟩] W fun e w' => e = .returned (sizeV wd ht dp) ∧ Below W.heap.size W w') := hideP (fun W => sizeOf_any ⟨6, wd, ht, dp, sh, fo, ch, nn, gs, gp, gpo, gm, gmo, tx, kids⟩ W)
 go_enter Tryz.func107, Tryz.ntmps107
 go_wp2_with fail
 go_region_held3 (fun x => x.cell? ⟨w.heap.size, 0, none⟩ = some (.int .i64 6) ∧ x.cell? ⟨w.heap.size, 1, none⟩ = some (.int .i64 wd) ∧ x.cell? ⟨w.heap.size, 2, none⟩ = some (.int .i64 ht) ∧ x.cell? ⟨w.heap.size, 3, none⟩ = some (.int .i64 dp) ∧ x.cell? ⟨w.heap.size, 4, none⟩ = some (.int .i64 sh) ∧ x.cell? ⟨w.heap.size, 5, none⟩ = some (.int .i64 fo) ∧ x.cell? ⟨w.heap.size, 6, none⟩ = some (.int .i64 ch) ∧ x.cell? ⟨w.heap.size, 7, none⟩ = some (.int .i64 nn) ∧ x.cell? ⟨w.heap.size, 8, none⟩ = some (.int .i64 gs) ∧ x.cell? ⟨w.heap.size, 9, none⟩ = some (.int .i64 gp) ∧ x.cell? ⟨w.heap.size, 10, none⟩ = some (.int .i64 gpo) ∧ x.cell? ⟨w.heap.size, 11, none⟩ = some (.int .i64 gm) ∧ x.cell? ⟨w.heap.size, 12, none⟩ = some (.int .i64 gmo) ∧ x.cell? ⟨w.heap.size, 13, none⟩ = some (.string tx) ∧ x.cell? ⟨w.heap.size, 14, none⟩ = some (.int .i64 kids)) (first | (refine ⟨?_, ?_, ?_, ?_, ?_, ?_, ?_, ?_, ?_, ?_, ?_, ?_, ?_, ?_, ?_⟩ <;> (simp [go_sem]; done)) | exact ‹Hid (w1.cell? ⟨w.heap.size, 0, none⟩ = some (.int .i64 6) ∧ w1.cell? ⟨w.heap.size, 1, none⟩ = some (.int .i64 wd) ∧ w1.cell? ⟨w.heap.size, 2, none⟩ = some (.int .i64 ht) ∧ w1.cell? ⟨w.heap.size, 3, none⟩ = some (.int .i64 dp) ∧ w1.cell? ⟨w.heap.size, 4, none⟩ = some (.int .i64 sh) ∧ w1.cell? ⟨w.heap.size, 5, none⟩ = some (.int .i64 fo) ∧ w1.cell? ⟨w.heap.size, 6, none⟩ = some (.int .i64 ch) ∧ w1.cell? ⟨w.heap.size, 7, none⟩ = some (.int .i64 nn) ∧ w1.cell? ⟨w.heap.size, 8, none⟩ = some (.int .i64 gs) ∧ w1.cell? ⟨w.heap.size, 9, none⟩ = some (.int .i64 gp) ∧ w1.cell? ⟨w.heap.size, 10, none⟩ = some (.int .i64 gpo) ∧ w1.cell? ⟨w.heap.size, 11, none⟩ = some (.int .i64 gm) ∧ w1.cell? ⟨w.heap.size, 12, none⟩ = some (.int .i64 gmo) ∧ w1.cell? ⟨w.heap.size, 13, none⟩ = some (.string tx) ∧ w1.cell? ⟨w.heap.size, 14, none⟩ = some (.int .i64 kids))›) ((go_at_call 127; refine (HC.out _).mono ?_; rintro e w1 ⟨rfl, hb1⟩; obtain ⟨hq, hs1⟩ := after_drew hb1; have QS : Hid (w1.cell? ⟨w.heap.size, 0, none⟩ = some (.int .i64 6) ∧ w1.cell? ⟨w.heap.size, 1, none⟩ = some (.int .i64 wd) ∧ w1.cell? ⟨w.heap.size, 2, none⟩ = some (.int .i64 ht) ∧ w1.cell? ⟨w.heap.size, 3, none⟩ = some (.int .i64 dp) ∧ w1.cell? ⟨w.heap.size, 4, none⟩ = some (.int .i64 sh) ∧ w1.cell? ⟨w.heap.size, 5, none⟩ = some (.int .i64 fo) ∧ w1.cell? ⟨w.heap.size, 6, none⟩ = some (.int .i64 ch) ∧ w1.cell? ⟨w.heap.size, 7, none⟩ = some (.int .i64 nn) ∧ w1.cell? ⟨w.heap.size, 8, none⟩ = some (.int .i64 gs) ∧ w1.cell? ⟨w.heap.size, 9, none⟩ = some (.int .i64 gp) ∧ w1.cell? ⟨w.heap.size, 10, none⟩ = some (.int .i64 gpo) ∧ w1.cell? ⟨w.heap.size, 11, none⟩ = some (.int .i64 gm) ∧ w1.cell? ⟨w.heap.size, 12, none⟩ = some (.int .i64 gmo) ∧ w1.cell? ⟨w.heap.size, 13, none⟩ = some (.string tx) ∧ w1.cell? ⟨w.heap.size, 14, none⟩ = some (.int .i64 kids)) := hideP ⟨hq 0, hq 1, hq 2, hq 3, hq 4, hq 5, hq 6, hq 7, hq 8, hq 9, hq 10, hq 11, hq 12, hq 13, hq 14⟩; have hb2 : Hid (Below w.heap.size w w1) := Below.trans (Below.drew (below1 _ _)) (hb1.mono (by simp)); clear hb1 hq))
 all_goals
  go_wp2
  go_ret
  exact ⟨rfl, ‹Hid (Below w.heap.size w w1)›⟩
end Go.Proofs.YtlohbaoigfaneaaGreat
