/-
  What a node is, as a thing of its own: the other kinds.
-/
import Derived.Test.YtdgfnceipginkaaFit
import Derived.Deep.RegionWith
import Derived.Deep.RegionHeld3
namespace Go.Proofs.Ytdgfnceipginkaa
open Go.RowKit
set_option linter.unusedVariables false
set_option linter.unusedSimpArgs false

theorem after_drew {w w1 : World} {c : Array Value} {ty : Nat} (hb : Below (w.alloc (.cells c ty)).drew.heap.size (w.alloc (.cells c ty)).drew w1) : (∀ i, w1.cell? ⟨w.heap.size, i, none⟩ = c[i]?) ∧ w.heap.size < w1.heap.size := by
  have hs : w.heap.size < (w.alloc (.cells c ty)).drew.heap.size := by simp
  refine ⟨fun i => ?_, Nat.lt_of_lt_of_le hs hb.size⟩
  rw [hb.cell (p := ⟨w.heap.size, i, none⟩) hs]
  simp [go_sem]

set_option maxHeartbeats 4000000 in
theorem thing_2 (wd ht dp sh fo ch nn gs gp gpo gm gmo kids : Int) (tx : ByteArray) (w : World) : Calls Try.prog 50 #[ndV ⟨2, wd, ht, dp, sh, fo, ch, nn, gs, gp, gpo, gm, gmo, tx, kids⟩] w fun r w' => r = .returned (.iface 128 (.agg #[.int .i64 wd])) ∧ Below w.heap.size w w' := by
  simp only [ndV]
  go_enter Try.func50, Try.ntmps50
  go_wp2
  go_ret
  exact ⟨rfl, below1 _ _⟩

set_option maxHeartbeats 4000000 in
theorem thing_3 (wd ht dp sh fo ch nn gs gp gpo gm gmo kids : Int) (tx : ByteArray) (w : World) : Calls Try.prog 50 #[ndV ⟨3, wd, ht, dp, sh, fo, ch, nn, gs, gp, gpo, gm, gmo, tx, kids⟩] w fun r w' => r = .returned (.iface 72 (.agg #[.int .i64 gs, .int .i64 gp, .int .i64 gpo, .int .i64 gm, .int .i64 gmo, .int .i64 wd])) ∧ Below w.heap.size w w' := by
  simp only [ndV]
  go_enter Try.func50, Try.ntmps50
  go_wp2
  go_ret
  exact ⟨rfl, below1 _ _⟩

set_option maxHeartbeats 4000000 in
theorem thing_4 (wd ht dp sh fo ch nn gs gp gpo gm gmo kids : Int) (tx : ByteArray) (w : World) : Calls Try.prog 50 #[ndV ⟨4, wd, ht, dp, sh, fo, ch, nn, gs, gp, gpo, gm, gmo, tx, kids⟩] w fun r w' => r = .returned (.iface 75 (.agg #[.int .i64 nn])) ∧ Below w.heap.size w w' := by
  simp only [ndV]
  go_enter Try.func50, Try.ntmps50
  go_wp2
  go_ret
  exact ⟨rfl, below1 _ _⟩

set_option maxHeartbeats 4000000 in
theorem thing_0 (k : Int) (wd ht dp sh fo ch nn gs gp gpo gm gmo kids : Int) (tx : ByteArray) (w : World) (hk : ¬ (1 ≤ k ∧ k ≤ 11)) : Calls Try.prog 50 #[ndV ⟨k, wd, ht, dp, sh, fo, ch, nn, gs, gp, gpo, gm, gmo, tx, kids⟩] w fun r w' => r = .returned .nilIface ∧ Below w.heap.size w w' := by
  simp only [ndV]
  have e1 : (k == 1) = false := by simp; omega
  have e2 : (k == 2) = false := by simp; omega
  have e3 : (k == 3) = false := by simp; omega
  have e4 : (k == 4) = false := by simp; omega
  have e5 : (k == 5) = false := by simp; omega
  have e6 : (k == 6) = false := by simp; omega
  have e7 : (k == 7) = false := by simp; omega
  have e8 : (k == 8) = false := by simp; omega
  have e9 : (k == 9) = false := by simp; omega
  have e10 : (k == 10) = false := by simp; omega
  have e11 : (k == 11) = false := by simp; omega
  clear hk
  go_enter Try.func50, Try.ntmps50
  go_wp2
  go_ret
  exact ⟨rfl, below1 _ _⟩

set_option maxHeartbeats 4000000 in
theorem thing_5 (wd ht dp sh fo ch nn gs gp gpo gm gmo kids : Int) (tx : ByteArray) (w : World) : Calls Try.prog 50 #[ndV ⟨5, wd, ht, dp, sh, fo, ch, nn, gs, gp, gpo, gm, gmo, tx, kids⟩] w fun r w' => r = .returned (.iface 130 (.agg #[.int .i64 wd, .int .i64 ht, .int .i64 dp])) ∧ Below w.heap.size w w' := by
  simp only [ndV]
  have HC : Hid (∀ W, Calls Try.prog 65 #[ndV ⟨5, wd, ht, dp, sh, fo, ch, nn, gs, gp, gpo, gm, gmo, tx, kids⟩] W fun e w' => e = .returned (sizeV wd ht dp) ∧ Below W.heap.size W w') := hideP (fun W => sizeOf_any ⟨5, wd, ht, dp, sh, fo, ch, nn, gs, gp, gpo, gm, gmo, tx, kids⟩ W)
  go_enter Try.func50, Try.ntmps50
  go_wp2_with fail
  refine (HC.out _).mono ?_
  rintro e w1 ⟨rfl, hb1⟩
  have B1 : Hid (Below w.heap.size w w1) := below_more (below1 _ _) hb1 (by simp)
  clear hb1
  go_wp2
  go_ret
  exact ⟨rfl, B1⟩

set_option maxHeartbeats 4000000 in
theorem thing_9 (wd ht dp sh fo ch nn gs gp gpo gm gmo kids : Int) (tx : ByteArray) (w : World) : Calls Try.prog 50 #[ndV ⟨9, wd, ht, dp, sh, fo, ch, nn, gs, gp, gpo, gm, gmo, tx, kids⟩] w fun r w' => r = .returned (.iface 134 (.agg #[.int .i64 9, .string tx])) ∧ Below w.heap.size w w' := by
  simp only [ndV]
  go_enter Try.func50, Try.ntmps50
  go_wp2
  go_ret
  exact ⟨rfl, below1 _ _⟩

set_option maxHeartbeats 4000000 in
theorem thing_10 (wd ht dp sh fo ch nn gs gp gpo gm gmo kids : Int) (tx : ByteArray) (w : World) : Calls Try.prog 50 #[ndV ⟨10, wd, ht, dp, sh, fo, ch, nn, gs, gp, gpo, gm, gmo, tx, kids⟩] w fun r w' => r = .returned (.iface 134 (.agg #[.int .i64 10, .string tx])) ∧ Below w.heap.size w w' := by
  simp only [ndV]
  go_enter Try.func50, Try.ntmps50
  go_wp2
  go_ret
  exact ⟨rfl, below1 _ _⟩

set_option maxHeartbeats 4000000 in
theorem thing_11 (wd ht dp sh fo ch nn gs gp gpo gm gmo kids : Int) (tx : ByteArray) (w : World) : Calls Try.prog 50 #[ndV ⟨11, wd, ht, dp, sh, fo, ch, nn, gs, gp, gpo, gm, gmo, tx, kids⟩] w fun r w' => r = .returned (.iface 136 (.agg #[.int .i64 nn, .int .i64 ht, .int .i64 kids])) ∧ Below w.heap.size w w' := by
  simp only [ndV]
  go_enter Try.func50, Try.ntmps50
  go_wp2
  go_ret
  exact ⟨rfl, below1 _ _⟩
end Go.Proofs.Ytdgfnceipginkaa
