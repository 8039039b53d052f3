import Derived.Test.YtlohbaoigfaneaaGreatPur
import Derived.Test.YtlohbaoigfaneaaGreatUa
import Derived.Test.YtlohbaoigfaneaaGreatUb
import Derived.Test.YtlohbaoigfaneaaGreatUc
import Derived.Test.YtlohbaoigfaneaaGreatUd
import Derived.Deep.RegionWith
import Derived.Deep.RegionHeld3
namespace Go.Proofs.YtlohbaoigfaneaaGreat
open Go.RowKit
set_option linter.unusedVariables false
set_option linter.unusedSimpArgs false
theorem used_any (x : Nd) (w : World) (h1 : 1 ≤ x.k) (h2 : x.k ≤ 11) : Calls Tryz.prog 144 #[ndV x] w fun r w' => r = .returned (ndV x.used) ∧ Below w.heap.size w w' := by
 obtain ⟨k, wd, ht, dp, sh, fo, ch, nn, gs, gp, gpo, gm, gmo, tx, kids⟩ := x
 dsimp only at h1 h2
 rcases kinds h1 h2 with rfl | rfl | rfl | rfl | rfl | rfl | rfl | rfl | rfl | rfl | rfl
 ·rw [show Nd.used ⟨1, wd, ht, dp, sh, fo, ch, nn, gs, gp, gpo, gm, gmo, tx, kids⟩ = ⟨1, wd, ht, dp, 0, fo, ch, 0, 0, 0, 0, 0, 0, ⟨#[]⟩, 0⟩ by simp [Nd.used]]
  exact used_1 wd ht dp sh fo ch nn gs gp gpo gm gmo kids tx w
 ·rw [show Nd.used ⟨2, wd, ht, dp, sh, fo, ch, nn, gs, gp, gpo, gm, gmo, tx, kids⟩ = ⟨2, wd, 0, 0, 0, 0, 0, 0, 0, 0, 0, 0, 0, ⟨#[]⟩, 0⟩ by simp [Nd.used]]
  exact used_2 wd ht dp sh fo ch nn gs gp gpo gm gmo kids tx w
 ·rw [show Nd.used ⟨3, wd, ht, dp, sh, fo, ch, nn, gs, gp, gpo, gm, gmo, tx, kids⟩ = ⟨3, wd, 0, 0, 0, 0, 0, 0, gs, gp, gpo, gm, gmo, ⟨#[]⟩, 0⟩ by simp [Nd.used]]
  exact used_3 wd ht dp sh fo ch nn gs gp gpo gm gmo kids tx w
 ·rw [show Nd.used ⟨4, wd, ht, dp, sh, fo, ch, nn, gs, gp, gpo, gm, gmo, tx, kids⟩ = ⟨4, 0, 0, 0, 0, 0, 0, nn, 0, 0, 0, 0, 0, ⟨#[]⟩, 0⟩ by simp [Nd.used]]
  exact used_4 wd ht dp sh fo ch nn gs gp gpo gm gmo kids tx w
 ·rw [show Nd.used ⟨5, wd, ht, dp, sh, fo, ch, nn, gs, gp, gpo, gm, gmo, tx, kids⟩ = ⟨5, wd, ht, dp, 0, 0, 0, 0, 0, 0, 0, 0, 0, ⟨#[]⟩, 0⟩ by simp [Nd.used]]
  exact used_5 wd ht dp sh fo ch nn gs gp gpo gm gmo kids tx w
 ·rw [show Nd.used ⟨6, wd, ht, dp, sh, fo, ch, nn, gs, gp, gpo, gm, gmo, tx, kids⟩ = ⟨6, wd, ht, dp, sh, 0, 0, 0, 0, 0, 0, 0, 0, ⟨#[]⟩, kids⟩ by simp [Nd.used]]
  exact used_6 wd ht dp sh fo ch nn gs gp gpo gm gmo kids tx w
 ·rw [show Nd.used ⟨7, wd, ht, dp, sh, fo, ch, nn, gs, gp, gpo, gm, gmo, tx, kids⟩ = ⟨7, wd, ht, dp, sh, 0, 0, 0, 0, 0, 0, 0, 0, ⟨#[]⟩, kids⟩ by simp [Nd.used]]
  exact used_7 wd ht dp sh fo ch nn gs gp gpo gm gmo kids tx w
 ·rw [show Nd.used ⟨8, wd, ht, dp, sh, fo, ch, nn, gs, gp, gpo, gm, gmo, tx, kids⟩ = ⟨8, wd, ht, dp, 0, fo, ch, 0, 0, 0, 0, 0, 0, ⟨#[]⟩, 0⟩ by simp [Nd.used]]
  exact used_8 wd ht dp sh fo ch nn gs gp gpo gm gmo kids tx w
 ·rw [show Nd.used ⟨9, wd, ht, dp, sh, fo, ch, nn, gs, gp, gpo, gm, gmo, tx, kids⟩ = ⟨9, 0, 0, 0, 0, 0, 0, 0, 0, 0, 0, 0, 0, tx, 0⟩ by simp [Nd.used]]
  exact used_9 wd ht dp sh fo ch nn gs gp gpo gm gmo kids tx w
 ·rw [show Nd.used ⟨10, wd, ht, dp, sh, fo, ch, nn, gs, gp, gpo, gm, gmo, tx, kids⟩ = ⟨10, 0, 0, 0, 0, 0, 0, 0, 0, 0, 0, 0, 0, tx, 0⟩ by simp [Nd.used]]
  exact used_10 wd ht dp sh fo ch nn gs gp gpo gm gmo kids tx w
 ·rw [show Nd.used ⟨11, wd, ht, dp, sh, fo, ch, nn, gs, gp, gpo, gm, gmo, tx, kids⟩ = ⟨11, 0, ht, 0, 0, 0, 0, nn, 0, 0, 0, 0, 0, ⟨#[]⟩, kids⟩ by simp [Nd.used]]
  exact used_11 wd ht dp sh fo ch nn gs gp gpo gm gmo kids tx w
theorem fontOk_any (x : Nd) (w : World) : Calls Tryz.prog 145 #[ndV x] w fun r w' => r = .returned (.bool (uptoB x.fo 15 && uptoB x.ch 255)) ∧ Below w.heap.size w w' := by
 obtain ⟨k, wd, ht, dp, sh, fo, ch, nn, gs, gp, gpo, gm, gmo, tx, kids⟩ := x
 simp only [ndV]
 rw [show uptoB fo 15 = (decide (0 ≤ fo) && decide (fo ≤ 15)) by simp [uptoB], show uptoB ch 255 = (decide (0 ≤ ch) && decide (ch ≤ 255)) by simp [uptoB]]
 cases h1 : decide (0 ≤ fo) <;> cases h2 : decide (fo ≤ 15) <;> cases h3 : decide (0 ≤ ch) <;> cases h4 : decide (ch ≤ 255)
 all_goals
  go_enter Tryz.func145, Tryz.ntmps145
  go_wp2
  go_ret
  exact ⟨rfl, below1 _ _⟩
theorem deep_any (x : Nd) (w : World) : Calls Tryz.prog 122 #[ndV x] w fun r w' => r = .returned (.bool (deepB x)) ∧ Below w.heap.size w w' := by
 obtain ⟨k, wd, ht, dp, sh, fo, ch, nn, gs, gp, gpo, gm, gmo, tx, kids⟩ := x
 simp only [ndV, deepB]
 cases h1 : (k == 6) <;> cases h2 : (k == 7) <;> cases h3 : (k == 11)
 all_goals
  go_enter Tryz.func122, Tryz.ntmps122
  go_wp2
  go_ret
  exact ⟨rfl, below1 _ _⟩
theorem after_drew8 {w w1 : World} {c : Array Value} {ty : Nat} (hb : Below (w.alloc (.cells c ty)).drew.heap.size (w.alloc (.cells c ty)).drew w1) : (∀ i, w1.cell? ⟨w.heap.size, i, none⟩ = c[i]?) ∧ w.heap.size < w1.heap.size := by
 have hs : w.heap.size < (w.alloc (.cells c ty)).drew.heap.size := by simp
 refine ⟨fun i => ?_, Nat.lt_of_lt_of_le hs hb.size⟩
 rw [hb.cell (p := ⟨w.heap.size, i, none⟩) hs]
 simp [go_sem]
set_option maxRecDepth 20000 in
set_option maxHeartbeats 8000000 in
theorem nodeOk_any (x : Nd) (w : World) : Calls Tryz.prog 121 #[ndV x] w fun r w' => r = .returned (.bool (specB x)) ∧ Below w.heap.size w w' := by
 have HF : Hid (∀ W, Calls Tryz.prog 145 #[ndV x] W fun r w' => r = .returned (.bool (uptoB x.fo 15 && uptoB x.ch 255)) ∧ Below W.heap.size W w') := hideP (fontOk_any x)
 have HU : Hid (1 ≤ x.k → x.k ≤ 11 → ∀ W, Calls Tryz.prog 144 #[ndV x] W fun r w' => r = .returned (ndV x.used) ∧ Below W.heap.size W w') := hideP (fun h1 h2 W => used_any x W h1 h2)
 have hneq := fun W => neqNode x x.used W
 have hgd : Tryz.prog.eqGuardType Tryz.prog.depth 61 = false := by kernel_rfl
 obtain ⟨eb, heb⟩ : ∃ eb, eb = eqNd x x.used := ⟨_, rfl⟩
 obtain ⟨R, hR⟩ : ∃ R, R = specB x := ⟨_, rfl⟩
 have HR := hideP hR
 rw [← hR]
 unfold specB at hR
 rw [← heb] at hR hneq
 obtain ⟨y, hy⟩ : ∃ y, y = x.used := ⟨_, rfl⟩
 rw [← hy] at HU hneq
 obtain ⟨k, wd, ht, dp, sh, fo, ch, nn, gs, gp, gpo, gm, gmo, tx, kids⟩ := x
 dsimp only at hR HF HU
 have HRR := hideP hR
 clear heb hR HR hy
 by_cases h1 : 1 ≤ k
 ·by_cases h2 : k ≤ 11
  ·have hk1 : decide (k < 1) = false := by simp; omega
   have hk2 : decide (11 < k) = false := by simp; omega
   have CU := hideP (HU.out h1 h2)
   have hk12 : Hid (1 ≤ k ∧ k ≤ 11) := hideP ⟨h1, h2⟩
   clear HU h1 h2
   simp only [ndV]
   go_enter Tryz.func121, Tryz.ntmps121
   cases eb with
   | false =>
    have HBAD : Hid (R = false) := hideP (by rw [HRR.out]; simp)
    go_wp2_with fail
    go_region_held3 (fun x => x.cell? ⟨w.heap.size, 0, none⟩ = some (.int .i64 k) ∧ x.cell? ⟨w.heap.size, 1, none⟩ = some (.int .i64 wd) ∧ x.cell? ⟨w.heap.size, 2, none⟩ = some (.int .i64 ht) ∧ x.cell? ⟨w.heap.size, 3, none⟩ = some (.int .i64 dp) ∧ x.cell? ⟨w.heap.size, 4, none⟩ = some (.int .i64 sh) ∧ x.cell? ⟨w.heap.size, 5, none⟩ = some (.int .i64 fo) ∧ x.cell? ⟨w.heap.size, 6, none⟩ = some (.int .i64 ch) ∧ x.cell? ⟨w.heap.size, 7, none⟩ = some (.int .i64 nn) ∧ x.cell? ⟨w.heap.size, 8, none⟩ = some (.int .i64 gs) ∧ x.cell? ⟨w.heap.size, 9, none⟩ = some (.int .i64 gp) ∧ x.cell? ⟨w.heap.size, 10, none⟩ = some (.int .i64 gpo) ∧ x.cell? ⟨w.heap.size, 11, none⟩ = some (.int .i64 gm) ∧ x.cell? ⟨w.heap.size, 12, none⟩ = some (.int .i64 gmo) ∧ x.cell? ⟨w.heap.size, 13, none⟩ = some (.string tx) ∧ x.cell? ⟨w.heap.size, 14, none⟩ = some (.int .i64 kids)) (first | (refine ⟨?_, ?_, ?_, ?_, ?_, ?_, ?_, ?_, ?_, ?_, ?_, ?_, ?_, ?_, ?_⟩ <;> (simp [go_sem]; done)) | exact ‹Hid (w1.cell? ⟨w.heap.size, 0, none⟩ = some (.int .i64 k) ∧ w1.cell? ⟨w.heap.size, 1, none⟩ = some (.int .i64 wd) ∧ w1.cell? ⟨w.heap.size, 2, none⟩ = some (.int .i64 ht) ∧ w1.cell? ⟨w.heap.size, 3, none⟩ = some (.int .i64 dp) ∧ w1.cell? ⟨w.heap.size, 4, none⟩ = some (.int .i64 sh) ∧ w1.cell? ⟨w.heap.size, 5, none⟩ = some (.int .i64 fo) ∧ w1.cell? ⟨w.heap.size, 6, none⟩ = some (.int .i64 ch) ∧ w1.cell? ⟨w.heap.size, 7, none⟩ = some (.int .i64 nn) ∧ w1.cell? ⟨w.heap.size, 8, none⟩ = some (.int .i64 gs) ∧ w1.cell? ⟨w.heap.size, 9, none⟩ = some (.int .i64 gp) ∧ w1.cell? ⟨w.heap.size, 10, none⟩ = some (.int .i64 gpo) ∧ w1.cell? ⟨w.heap.size, 11, none⟩ = some (.int .i64 gm) ∧ w1.cell? ⟨w.heap.size, 12, none⟩ = some (.int .i64 gmo) ∧ w1.cell? ⟨w.heap.size, 13, none⟩ = some (.string tx) ∧ w1.cell? ⟨w.heap.size, 14, none⟩ = some (.int .i64 kids))›) ((go_at_call 144; refine (CU.out _).mono ?_; rintro e w1 ⟨rfl, hb1⟩; obtain ⟨hq, hs1⟩ := after_drew8 hb1; have QS : Hid (w1.cell? ⟨w.heap.size, 0, none⟩ = some (.int .i64 k) ∧ w1.cell? ⟨w.heap.size, 1, none⟩ = some (.int .i64 wd) ∧ w1.cell? ⟨w.heap.size, 2, none⟩ = some (.int .i64 ht) ∧ w1.cell? ⟨w.heap.size, 3, none⟩ = some (.int .i64 dp) ∧ w1.cell? ⟨w.heap.size, 4, none⟩ = some (.int .i64 sh) ∧ w1.cell? ⟨w.heap.size, 5, none⟩ = some (.int .i64 fo) ∧ w1.cell? ⟨w.heap.size, 6, none⟩ = some (.int .i64 ch) ∧ w1.cell? ⟨w.heap.size, 7, none⟩ = some (.int .i64 nn) ∧ w1.cell? ⟨w.heap.size, 8, none⟩ = some (.int .i64 gs) ∧ w1.cell? ⟨w.heap.size, 9, none⟩ = some (.int .i64 gp) ∧ w1.cell? ⟨w.heap.size, 10, none⟩ = some (.int .i64 gpo) ∧ w1.cell? ⟨w.heap.size, 11, none⟩ = some (.int .i64 gm) ∧ w1.cell? ⟨w.heap.size, 12, none⟩ = some (.int .i64 gmo) ∧ w1.cell? ⟨w.heap.size, 13, none⟩ = some (.string tx) ∧ w1.cell? ⟨w.heap.size, 14, none⟩ = some (.int .i64 kids)) := hideP ⟨hq 0, hq 1, hq 2, hq 3, hq 4, hq 5, hq 6, hq 7, hq 8, hq 9, hq 10, hq 11, hq 12, hq 13, hq 14⟩; have hb2 : Hid (Below w.heap.size w w1) := Below.trans (Below.drew (below1 _ _)) (hb1.mono (by simp)); clear hb1 hq))
    all_goals
     go_wp2
     go_ret
     exact ⟨retB HBAD.out.symm, ‹Hid (Below w.heap.size w w1)›⟩
   | true =>
    go_wp2_with fail
    go_region_held3 (fun x => x.cell? ⟨w.heap.size, 0, none⟩ = some (.int .i64 k) ∧ x.cell? ⟨w.heap.size, 1, none⟩ = some (.int .i64 wd) ∧ x.cell? ⟨w.heap.size, 2, none⟩ = some (.int .i64 ht) ∧ x.cell? ⟨w.heap.size, 3, none⟩ = some (.int .i64 dp) ∧ x.cell? ⟨w.heap.size, 4, none⟩ = some (.int .i64 sh) ∧ x.cell? ⟨w.heap.size, 5, none⟩ = some (.int .i64 fo) ∧ x.cell? ⟨w.heap.size, 6, none⟩ = some (.int .i64 ch) ∧ x.cell? ⟨w.heap.size, 7, none⟩ = some (.int .i64 nn) ∧ x.cell? ⟨w.heap.size, 8, none⟩ = some (.int .i64 gs) ∧ x.cell? ⟨w.heap.size, 9, none⟩ = some (.int .i64 gp) ∧ x.cell? ⟨w.heap.size, 10, none⟩ = some (.int .i64 gpo) ∧ x.cell? ⟨w.heap.size, 11, none⟩ = some (.int .i64 gm) ∧ x.cell? ⟨w.heap.size, 12, none⟩ = some (.int .i64 gmo) ∧ x.cell? ⟨w.heap.size, 13, none⟩ = some (.string tx) ∧ x.cell? ⟨w.heap.size, 14, none⟩ = some (.int .i64 kids)) (first | (refine ⟨?_, ?_, ?_, ?_, ?_, ?_, ?_, ?_, ?_, ?_, ?_, ?_, ?_, ?_, ?_⟩ <;> (simp [go_sem]; done)) | exact ‹Hid (w1.cell? ⟨w.heap.size, 0, none⟩ = some (.int .i64 k) ∧ w1.cell? ⟨w.heap.size, 1, none⟩ = some (.int .i64 wd) ∧ w1.cell? ⟨w.heap.size, 2, none⟩ = some (.int .i64 ht) ∧ w1.cell? ⟨w.heap.size, 3, none⟩ = some (.int .i64 dp) ∧ w1.cell? ⟨w.heap.size, 4, none⟩ = some (.int .i64 sh) ∧ w1.cell? ⟨w.heap.size, 5, none⟩ = some (.int .i64 fo) ∧ w1.cell? ⟨w.heap.size, 6, none⟩ = some (.int .i64 ch) ∧ w1.cell? ⟨w.heap.size, 7, none⟩ = some (.int .i64 nn) ∧ w1.cell? ⟨w.heap.size, 8, none⟩ = some (.int .i64 gs) ∧ w1.cell? ⟨w.heap.size, 9, none⟩ = some (.int .i64 gp) ∧ w1.cell? ⟨w.heap.size, 10, none⟩ = some (.int .i64 gpo) ∧ w1.cell? ⟨w.heap.size, 11, none⟩ = some (.int .i64 gm) ∧ w1.cell? ⟨w.heap.size, 12, none⟩ = some (.int .i64 gmo) ∧ w1.cell? ⟨w.heap.size, 13, none⟩ = some (.string tx) ∧ w1.cell? ⟨w.heap.size, 14, none⟩ = some (.int .i64 kids))›) ((go_at_call 144; refine (CU.out _).mono ?_; rintro e w1 ⟨rfl, hb1⟩; obtain ⟨hq, hs1⟩ := after_drew8 hb1; have QS : Hid (w1.cell? ⟨w.heap.size, 0, none⟩ = some (.int .i64 k) ∧ w1.cell? ⟨w.heap.size, 1, none⟩ = some (.int .i64 wd) ∧ w1.cell? ⟨w.heap.size, 2, none⟩ = some (.int .i64 ht) ∧ w1.cell? ⟨w.heap.size, 3, none⟩ = some (.int .i64 dp) ∧ w1.cell? ⟨w.heap.size, 4, none⟩ = some (.int .i64 sh) ∧ w1.cell? ⟨w.heap.size, 5, none⟩ = some (.int .i64 fo) ∧ w1.cell? ⟨w.heap.size, 6, none⟩ = some (.int .i64 ch) ∧ w1.cell? ⟨w.heap.size, 7, none⟩ = some (.int .i64 nn) ∧ w1.cell? ⟨w.heap.size, 8, none⟩ = some (.int .i64 gs) ∧ w1.cell? ⟨w.heap.size, 9, none⟩ = some (.int .i64 gp) ∧ w1.cell? ⟨w.heap.size, 10, none⟩ = some (.int .i64 gpo) ∧ w1.cell? ⟨w.heap.size, 11, none⟩ = some (.int .i64 gm) ∧ w1.cell? ⟨w.heap.size, 12, none⟩ = some (.int .i64 gmo) ∧ w1.cell? ⟨w.heap.size, 13, none⟩ = some (.string tx) ∧ w1.cell? ⟨w.heap.size, 14, none⟩ = some (.int .i64 kids)) := hideP ⟨hq 0, hq 1, hq 2, hq 3, hq 4, hq 5, hq 6, hq 7, hq 8, hq 9, hq 10, hq 11, hq 12, hq 13, hq 14⟩; have hb2 : Hid (Below w.heap.size w w1) := Below.trans (Below.drew (below1 _ _)) (hb1.mono (by simp)); clear hb1 hq))
    have hb2' := ‹Hid (Below w.heap.size w w1)›
    have QS' := ‹Hid (w1.cell? ⟨w.heap.size, 0, none⟩ = some (.int .i64 k) ∧ w1.cell? ⟨w.heap.size, 1, none⟩ = some (.int .i64 wd) ∧ w1.cell? ⟨w.heap.size, 2, none⟩ = some (.int .i64 ht) ∧ w1.cell? ⟨w.heap.size, 3, none⟩ = some (.int .i64 dp) ∧ w1.cell? ⟨w.heap.size, 4, none⟩ = some (.int .i64 sh) ∧ w1.cell? ⟨w.heap.size, 5, none⟩ = some (.int .i64 fo) ∧ w1.cell? ⟨w.heap.size, 6, none⟩ = some (.int .i64 ch) ∧ w1.cell? ⟨w.heap.size, 7, none⟩ = some (.int .i64 nn) ∧ w1.cell? ⟨w.heap.size, 8, none⟩ = some (.int .i64 gs) ∧ w1.cell? ⟨w.heap.size, 9, none⟩ = some (.int .i64 gp) ∧ w1.cell? ⟨w.heap.size, 10, none⟩ = some (.int .i64 gpo) ∧ w1.cell? ⟨w.heap.size, 11, none⟩ = some (.int .i64 gm) ∧ w1.cell? ⟨w.heap.size, 12, none⟩ = some (.int .i64 gmo) ∧ w1.cell? ⟨w.heap.size, 13, none⟩ = some (.string tx) ∧ w1.cell? ⟨w.heap.size, 14, none⟩ = some (.int .i64 kids))›
    have hs1' := ‹w.heap.size < w1.heap.size›
    clear CU hneq
    obtain ⟨n0, n1, n2, n3, n4, n5, n6, n7, n8, n9, n10, n11, n12, n13, n14⟩ := QS'.out
    have hs1x := hs1'
    clear QS'
    cases f0 : fitsB wd
    ·have HBAD : Hid (R = false) := hideP (by rw [HRR.out]; simp [*])
     go_wp2_with (first | (go_at_call 116; refine (specFits_any _ _).mono ?_; rintro e w' ⟨rfl, rfl⟩) | (go_at_call 96; refine (specGlueOk_any _ _ _ _ _ _).mono ?_; rintro e w2 ⟨rfl, hb3⟩; have B2 : Hid (Below w.heap.size w w2) := hideP (below_more hb2'.out hb3 hb2'.out.size); have hs2 : w.heap.size < w2.heap.size := Nat.lt_of_lt_of_le hs1' hb3.size; have Q2 : Hid (w2.cell? ⟨w.heap.size, 0, none⟩ = some (.int .i64 k) ∧ w2.cell? ⟨w.heap.size, 1, none⟩ = some (.int .i64 wd) ∧ w2.cell? ⟨w.heap.size, 2, none⟩ = some (.int .i64 ht) ∧ w2.cell? ⟨w.heap.size, 3, none⟩ = some (.int .i64 dp) ∧ w2.cell? ⟨w.heap.size, 4, none⟩ = some (.int .i64 sh) ∧ w2.cell? ⟨w.heap.size, 5, none⟩ = some (.int .i64 fo) ∧ w2.cell? ⟨w.heap.size, 6, none⟩ = some (.int .i64 ch) ∧ w2.cell? ⟨w.heap.size, 7, none⟩ = some (.int .i64 nn) ∧ w2.cell? ⟨w.heap.size, 8, none⟩ = some (.int .i64 gs) ∧ w2.cell? ⟨w.heap.size, 9, none⟩ = some (.int .i64 gp) ∧ w2.cell? ⟨w.heap.size, 10, none⟩ = some (.int .i64 gpo) ∧ w2.cell? ⟨w.heap.size, 11, none⟩ = some (.int .i64 gm) ∧ w2.cell? ⟨w.heap.size, 12, none⟩ = some (.int .i64 gmo) ∧ w2.cell? ⟨w.heap.size, 13, none⟩ = some (.string tx) ∧ w2.cell? ⟨w.heap.size, 14, none⟩ = some (.int .i64 kids)) := hideP ⟨(Below.cell hb3 (p := ⟨w.heap.size, 0, none⟩) hs1x).trans n0, (Below.cell hb3 (p := ⟨w.heap.size, 1, none⟩) hs1x).trans n1, (Below.cell hb3 (p := ⟨w.heap.size, 2, none⟩) hs1x).trans n2, (Below.cell hb3 (p := ⟨w.heap.size, 3, none⟩) hs1x).trans n3, (Below.cell hb3 (p := ⟨w.heap.size, 4, none⟩) hs1x).trans n4, (Below.cell hb3 (p := ⟨w.heap.size, 5, none⟩) hs1x).trans n5, (Below.cell hb3 (p := ⟨w.heap.size, 6, none⟩) hs1x).trans n6, (Below.cell hb3 (p := ⟨w.heap.size, 7, none⟩) hs1x).trans n7, (Below.cell hb3 (p := ⟨w.heap.size, 8, none⟩) hs1x).trans n8, (Below.cell hb3 (p := ⟨w.heap.size, 9, none⟩) hs1x).trans n9, (Below.cell hb3 (p := ⟨w.heap.size, 10, none⟩) hs1x).trans n10, (Below.cell hb3 (p := ⟨w.heap.size, 11, none⟩) hs1x).trans n11, (Below.cell hb3 (p := ⟨w.heap.size, 12, none⟩) hs1x).trans n12, (Below.cell hb3 (p := ⟨w.heap.size, 13, none⟩) hs1x).trans n13, (Below.cell hb3 (p := ⟨w.heap.size, 14, none⟩) hs1x).trans n14⟩; clear hb3))
     go_ret
     (first | exact ⟨retB HBAD.out.symm, hb2'.out⟩ | exact ⟨retB HBAD.out.symm, B2.out⟩)
    ·skip
     cases f1 : fitsB ht
     ·have HBAD : Hid (R = false) := hideP (by rw [HRR.out]; simp [*])
      go_wp2_with (first | (go_at_call 116; refine (specFits_any _ _).mono ?_; rintro e w' ⟨rfl, rfl⟩) | (go_at_call 96; refine (specGlueOk_any _ _ _ _ _ _).mono ?_; rintro e w2 ⟨rfl, hb3⟩; have B2 : Hid (Below w.heap.size w w2) := hideP (below_more hb2'.out hb3 hb2'.out.size); have hs2 : w.heap.size < w2.heap.size := Nat.lt_of_lt_of_le hs1' hb3.size; have Q2 : Hid (w2.cell? ⟨w.heap.size, 0, none⟩ = some (.int .i64 k) ∧ w2.cell? ⟨w.heap.size, 1, none⟩ = some (.int .i64 wd) ∧ w2.cell? ⟨w.heap.size, 2, none⟩ = some (.int .i64 ht) ∧ w2.cell? ⟨w.heap.size, 3, none⟩ = some (.int .i64 dp) ∧ w2.cell? ⟨w.heap.size, 4, none⟩ = some (.int .i64 sh) ∧ w2.cell? ⟨w.heap.size, 5, none⟩ = some (.int .i64 fo) ∧ w2.cell? ⟨w.heap.size, 6, none⟩ = some (.int .i64 ch) ∧ w2.cell? ⟨w.heap.size, 7, none⟩ = some (.int .i64 nn) ∧ w2.cell? ⟨w.heap.size, 8, none⟩ = some (.int .i64 gs) ∧ w2.cell? ⟨w.heap.size, 9, none⟩ = some (.int .i64 gp) ∧ w2.cell? ⟨w.heap.size, 10, none⟩ = some (.int .i64 gpo) ∧ w2.cell? ⟨w.heap.size, 11, none⟩ = some (.int .i64 gm) ∧ w2.cell? ⟨w.heap.size, 12, none⟩ = some (.int .i64 gmo) ∧ w2.cell? ⟨w.heap.size, 13, none⟩ = some (.string tx) ∧ w2.cell? ⟨w.heap.size, 14, none⟩ = some (.int .i64 kids)) := hideP ⟨(Below.cell hb3 (p := ⟨w.heap.size, 0, none⟩) hs1x).trans n0, (Below.cell hb3 (p := ⟨w.heap.size, 1, none⟩) hs1x).trans n1, (Below.cell hb3 (p := ⟨w.heap.size, 2, none⟩) hs1x).trans n2, (Below.cell hb3 (p := ⟨w.heap.size, 3, none⟩) hs1x).trans n3, (Below.cell hb3 (p := ⟨w.heap.size, 4, none⟩) hs1x).trans n4, (Below.cell hb3 (p := ⟨w.heap.size, 5, none⟩) hs1x).trans n5, (Below.cell hb3 (p := ⟨w.heap.size, 6, none⟩) hs1x).trans n6, (Below.cell hb3 (p := ⟨w.heap.size, 7, none⟩) hs1x).trans n7, (Below.cell hb3 (p := ⟨w.heap.size, 8, none⟩) hs1x).trans n8, (Below.cell hb3 (p := ⟨w.heap.size, 9, none⟩) hs1x).trans n9, (Below.cell hb3 (p := ⟨w.heap.size, 10, none⟩) hs1x).trans n10, (Below.cell hb3 (p := ⟨w.heap.size, 11, none⟩) hs1x).trans n11, (Below.cell hb3 (p := ⟨w.heap.size, 12, none⟩) hs1x).trans n12, (Below.cell hb3 (p := ⟨w.heap.size, 13, none⟩) hs1x).trans n13, (Below.cell hb3 (p := ⟨w.heap.size, 14, none⟩) hs1x).trans n14⟩; clear hb3))
      go_ret
      (first | exact ⟨retB HBAD.out.symm, hb2'.out⟩ | exact ⟨retB HBAD.out.symm, B2.out⟩)
     ·skip
      cases f2 : fitsB dp
      ·have HBAD : Hid (R = false) := hideP (by rw [HRR.out]; simp [*])
       go_wp2_with (first | (go_at_call 116; refine (specFits_any _ _).mono ?_; rintro e w' ⟨rfl, rfl⟩) | (go_at_call 96; refine (specGlueOk_any _ _ _ _ _ _).mono ?_; rintro e w2 ⟨rfl, hb3⟩; have B2 : Hid (Below w.heap.size w w2) := hideP (below_more hb2'.out hb3 hb2'.out.size); have hs2 : w.heap.size < w2.heap.size := Nat.lt_of_lt_of_le hs1' hb3.size; have Q2 : Hid (w2.cell? ⟨w.heap.size, 0, none⟩ = some (.int .i64 k) ∧ w2.cell? ⟨w.heap.size, 1, none⟩ = some (.int .i64 wd) ∧ w2.cell? ⟨w.heap.size, 2, none⟩ = some (.int .i64 ht) ∧ w2.cell? ⟨w.heap.size, 3, none⟩ = some (.int .i64 dp) ∧ w2.cell? ⟨w.heap.size, 4, none⟩ = some (.int .i64 sh) ∧ w2.cell? ⟨w.heap.size, 5, none⟩ = some (.int .i64 fo) ∧ w2.cell? ⟨w.heap.size, 6, none⟩ = some (.int .i64 ch) ∧ w2.cell? ⟨w.heap.size, 7, none⟩ = some (.int .i64 nn) ∧ w2.cell? ⟨w.heap.size, 8, none⟩ = some (.int .i64 gs) ∧ w2.cell? ⟨w.heap.size, 9, none⟩ = some (.int .i64 gp) ∧ w2.cell? ⟨w.heap.size, 10, none⟩ = some (.int .i64 gpo) ∧ w2.cell? ⟨w.heap.size, 11, none⟩ = some (.int .i64 gm) ∧ w2.cell? ⟨w.heap.size, 12, none⟩ = some (.int .i64 gmo) ∧ w2.cell? ⟨w.heap.size, 13, none⟩ = some (.string tx) ∧ w2.cell? ⟨w.heap.size, 14, none⟩ = some (.int .i64 kids)) := hideP ⟨(Below.cell hb3 (p := ⟨w.heap.size, 0, none⟩) hs1x).trans n0, (Below.cell hb3 (p := ⟨w.heap.size, 1, none⟩) hs1x).trans n1, (Below.cell hb3 (p := ⟨w.heap.size, 2, none⟩) hs1x).trans n2, (Below.cell hb3 (p := ⟨w.heap.size, 3, none⟩) hs1x).trans n3, (Below.cell hb3 (p := ⟨w.heap.size, 4, none⟩) hs1x).trans n4, (Below.cell hb3 (p := ⟨w.heap.size, 5, none⟩) hs1x).trans n5, (Below.cell hb3 (p := ⟨w.heap.size, 6, none⟩) hs1x).trans n6, (Below.cell hb3 (p := ⟨w.heap.size, 7, none⟩) hs1x).trans n7, (Below.cell hb3 (p := ⟨w.heap.size, 8, none⟩) hs1x).trans n8, (Below.cell hb3 (p := ⟨w.heap.size, 9, none⟩) hs1x).trans n9, (Below.cell hb3 (p := ⟨w.heap.size, 10, none⟩) hs1x).trans n10, (Below.cell hb3 (p := ⟨w.heap.size, 11, none⟩) hs1x).trans n11, (Below.cell hb3 (p := ⟨w.heap.size, 12, none⟩) hs1x).trans n12, (Below.cell hb3 (p := ⟨w.heap.size, 13, none⟩) hs1x).trans n13, (Below.cell hb3 (p := ⟨w.heap.size, 14, none⟩) hs1x).trans n14⟩; clear hb3))
       go_ret
       (first | exact ⟨retB HBAD.out.symm, hb2'.out⟩ | exact ⟨retB HBAD.out.symm, B2.out⟩)
      ·skip
       cases f3 : fitsB sh
       ·have HBAD : Hid (R = false) := hideP (by rw [HRR.out]; simp [*])
        go_wp2_with (first | (go_at_call 116; refine (specFits_any _ _).mono ?_; rintro e w' ⟨rfl, rfl⟩) | (go_at_call 96; refine (specGlueOk_any _ _ _ _ _ _).mono ?_; rintro e w2 ⟨rfl, hb3⟩; have B2 : Hid (Below w.heap.size w w2) := hideP (below_more hb2'.out hb3 hb2'.out.size); have hs2 : w.heap.size < w2.heap.size := Nat.lt_of_lt_of_le hs1' hb3.size; have Q2 : Hid (w2.cell? ⟨w.heap.size, 0, none⟩ = some (.int .i64 k) ∧ w2.cell? ⟨w.heap.size, 1, none⟩ = some (.int .i64 wd) ∧ w2.cell? ⟨w.heap.size, 2, none⟩ = some (.int .i64 ht) ∧ w2.cell? ⟨w.heap.size, 3, none⟩ = some (.int .i64 dp) ∧ w2.cell? ⟨w.heap.size, 4, none⟩ = some (.int .i64 sh) ∧ w2.cell? ⟨w.heap.size, 5, none⟩ = some (.int .i64 fo) ∧ w2.cell? ⟨w.heap.size, 6, none⟩ = some (.int .i64 ch) ∧ w2.cell? ⟨w.heap.size, 7, none⟩ = some (.int .i64 nn) ∧ w2.cell? ⟨w.heap.size, 8, none⟩ = some (.int .i64 gs) ∧ w2.cell? ⟨w.heap.size, 9, none⟩ = some (.int .i64 gp) ∧ w2.cell? ⟨w.heap.size, 10, none⟩ = some (.int .i64 gpo) ∧ w2.cell? ⟨w.heap.size, 11, none⟩ = some (.int .i64 gm) ∧ w2.cell? ⟨w.heap.size, 12, none⟩ = some (.int .i64 gmo) ∧ w2.cell? ⟨w.heap.size, 13, none⟩ = some (.string tx) ∧ w2.cell? ⟨w.heap.size, 14, none⟩ = some (.int .i64 kids)) := hideP ⟨(Below.cell hb3 (p := ⟨w.heap.size, 0, none⟩) hs1x).trans n0, (Below.cell hb3 (p := ⟨w.heap.size, 1, none⟩) hs1x).trans n1, (Below.cell hb3 (p := ⟨w.heap.size, 2, none⟩) hs1x).trans n2, (Below.cell hb3 (p := ⟨w.heap.size, 3, none⟩) hs1x).trans n3, (Below.cell hb3 (p := ⟨w.heap.size, 4, none⟩) hs1x).trans n4, (Below.cell hb3 (p := ⟨w.heap.size, 5, none⟩) hs1x).trans n5, (Below.cell hb3 (p := ⟨w.heap.size, 6, none⟩) hs1x).trans n6, (Below.cell hb3 (p := ⟨w.heap.size, 7, none⟩) hs1x).trans n7, (Below.cell hb3 (p := ⟨w.heap.size, 8, none⟩) hs1x).trans n8, (Below.cell hb3 (p := ⟨w.heap.size, 9, none⟩) hs1x).trans n9, (Below.cell hb3 (p := ⟨w.heap.size, 10, none⟩) hs1x).trans n10, (Below.cell hb3 (p := ⟨w.heap.size, 11, none⟩) hs1x).trans n11, (Below.cell hb3 (p := ⟨w.heap.size, 12, none⟩) hs1x).trans n12, (Below.cell hb3 (p := ⟨w.heap.size, 13, none⟩) hs1x).trans n13, (Below.cell hb3 (p := ⟨w.heap.size, 14, none⟩) hs1x).trans n14⟩; clear hb3))
        go_ret
        (first | exact ⟨retB HBAD.out.symm, hb2'.out⟩ | exact ⟨retB HBAD.out.symm, B2.out⟩)
       ·skip
        cases f4 : glB gs gp gpo gm gmo
        ·have HBAD : Hid (R = false) := hideP (by rw [HRR.out]; simp [*])
         go_wp2_with (first | (go_at_call 116; refine (specFits_any _ _).mono ?_; rintro e w' ⟨rfl, rfl⟩) | (go_at_call 96; refine (specGlueOk_any _ _ _ _ _ _).mono ?_; rintro e w2 ⟨rfl, hb3⟩; have B2 : Hid (Below w.heap.size w w2) := hideP (below_more hb2'.out hb3 hb2'.out.size); have hs2 : w.heap.size < w2.heap.size := Nat.lt_of_lt_of_le hs1' hb3.size; have Q2 : Hid (w2.cell? ⟨w.heap.size, 0, none⟩ = some (.int .i64 k) ∧ w2.cell? ⟨w.heap.size, 1, none⟩ = some (.int .i64 wd) ∧ w2.cell? ⟨w.heap.size, 2, none⟩ = some (.int .i64 ht) ∧ w2.cell? ⟨w.heap.size, 3, none⟩ = some (.int .i64 dp) ∧ w2.cell? ⟨w.heap.size, 4, none⟩ = some (.int .i64 sh) ∧ w2.cell? ⟨w.heap.size, 5, none⟩ = some (.int .i64 fo) ∧ w2.cell? ⟨w.heap.size, 6, none⟩ = some (.int .i64 ch) ∧ w2.cell? ⟨w.heap.size, 7, none⟩ = some (.int .i64 nn) ∧ w2.cell? ⟨w.heap.size, 8, none⟩ = some (.int .i64 gs) ∧ w2.cell? ⟨w.heap.size, 9, none⟩ = some (.int .i64 gp) ∧ w2.cell? ⟨w.heap.size, 10, none⟩ = some (.int .i64 gpo) ∧ w2.cell? ⟨w.heap.size, 11, none⟩ = some (.int .i64 gm) ∧ w2.cell? ⟨w.heap.size, 12, none⟩ = some (.int .i64 gmo) ∧ w2.cell? ⟨w.heap.size, 13, none⟩ = some (.string tx) ∧ w2.cell? ⟨w.heap.size, 14, none⟩ = some (.int .i64 kids)) := hideP ⟨(Below.cell hb3 (p := ⟨w.heap.size, 0, none⟩) hs1x).trans n0, (Below.cell hb3 (p := ⟨w.heap.size, 1, none⟩) hs1x).trans n1, (Below.cell hb3 (p := ⟨w.heap.size, 2, none⟩) hs1x).trans n2, (Below.cell hb3 (p := ⟨w.heap.size, 3, none⟩) hs1x).trans n3, (Below.cell hb3 (p := ⟨w.heap.size, 4, none⟩) hs1x).trans n4, (Below.cell hb3 (p := ⟨w.heap.size, 5, none⟩) hs1x).trans n5, (Below.cell hb3 (p := ⟨w.heap.size, 6, none⟩) hs1x).trans n6, (Below.cell hb3 (p := ⟨w.heap.size, 7, none⟩) hs1x).trans n7, (Below.cell hb3 (p := ⟨w.heap.size, 8, none⟩) hs1x).trans n8, (Below.cell hb3 (p := ⟨w.heap.size, 9, none⟩) hs1x).trans n9, (Below.cell hb3 (p := ⟨w.heap.size, 10, none⟩) hs1x).trans n10, (Below.cell hb3 (p := ⟨w.heap.size, 11, none⟩) hs1x).trans n11, (Below.cell hb3 (p := ⟨w.heap.size, 12, none⟩) hs1x).trans n12, (Below.cell hb3 (p := ⟨w.heap.size, 13, none⟩) hs1x).trans n13, (Below.cell hb3 (p := ⟨w.heap.size, 14, none⟩) hs1x).trans n14⟩; clear hb3))
         go_ret
         (first | exact ⟨retB HBAD.out.symm, hb2'.out⟩ | exact ⟨retB HBAD.out.symm, B2.out⟩)
        ·skip
         go_wp2_with (go_at_call 116; refine (specFits_any _ _).mono ?_; rintro e w' ⟨rfl, rfl⟩)
         refine (specGlueOk_any _ _ _ _ _ _).mono ?_
         rintro e w2 ⟨rfl, hb3⟩
         have B2 : Hid (Below w.heap.size w w2) := hideP (below_more hb2'.out hb3 hb2'.out.size)
         have hs2 : w.heap.size < w2.heap.size := Nat.lt_of_lt_of_le hs1' hb3.size
         have Q2 : Hid (w2.cell? ⟨w.heap.size, 0, none⟩ = some (.int .i64 k) ∧ w2.cell? ⟨w.heap.size, 1, none⟩ = some (.int .i64 wd) ∧ w2.cell? ⟨w.heap.size, 2, none⟩ = some (.int .i64 ht) ∧ w2.cell? ⟨w.heap.size, 3, none⟩ = some (.int .i64 dp) ∧ w2.cell? ⟨w.heap.size, 4, none⟩ = some (.int .i64 sh) ∧ w2.cell? ⟨w.heap.size, 5, none⟩ = some (.int .i64 fo) ∧ w2.cell? ⟨w.heap.size, 6, none⟩ = some (.int .i64 ch) ∧ w2.cell? ⟨w.heap.size, 7, none⟩ = some (.int .i64 nn) ∧ w2.cell? ⟨w.heap.size, 8, none⟩ = some (.int .i64 gs) ∧ w2.cell? ⟨w.heap.size, 9, none⟩ = some (.int .i64 gp) ∧ w2.cell? ⟨w.heap.size, 10, none⟩ = some (.int .i64 gpo) ∧ w2.cell? ⟨w.heap.size, 11, none⟩ = some (.int .i64 gm) ∧ w2.cell? ⟨w.heap.size, 12, none⟩ = some (.int .i64 gmo) ∧ w2.cell? ⟨w.heap.size, 13, none⟩ = some (.string tx) ∧ w2.cell? ⟨w.heap.size, 14, none⟩ = some (.int .i64 kids)) := hideP ⟨(Below.cell hb3 (p := ⟨w.heap.size, 0, none⟩) hs1x).trans n0, (Below.cell hb3 (p := ⟨w.heap.size, 1, none⟩) hs1x).trans n1, (Below.cell hb3 (p := ⟨w.heap.size, 2, none⟩) hs1x).trans n2, (Below.cell hb3 (p := ⟨w.heap.size, 3, none⟩) hs1x).trans n3, (Below.cell hb3 (p := ⟨w.heap.size, 4, none⟩) hs1x).trans n4, (Below.cell hb3 (p := ⟨w.heap.size, 5, none⟩) hs1x).trans n5, (Below.cell hb3 (p := ⟨w.heap.size, 6, none⟩) hs1x).trans n6, (Below.cell hb3 (p := ⟨w.heap.size, 7, none⟩) hs1x).trans n7, (Below.cell hb3 (p := ⟨w.heap.size, 8, none⟩) hs1x).trans n8, (Below.cell hb3 (p := ⟨w.heap.size, 9, none⟩) hs1x).trans n9, (Below.cell hb3 (p := ⟨w.heap.size, 10, none⟩) hs1x).trans n10, (Below.cell hb3 (p := ⟨w.heap.size, 11, none⟩) hs1x).trans n11, (Below.cell hb3 (p := ⟨w.heap.size, 12, none⟩) hs1x).trans n12, (Below.cell hb3 (p := ⟨w.heap.size, 13, none⟩) hs1x).trans n13, (Below.cell hb3 (p := ⟨w.heap.size, 14, none⟩) hs1x).trans n14⟩
         clear hb3
         obtain ⟨m0, m1, m2, m3, m4, m5, m6, m7, m8, m9, m10, m11, m12, m13, m14⟩ := Q2.out
         clear Q2 n0 n1 n2 n3 n4 n5 n6 n7 n8 n9 n10 n11 n12 n13 n14
         cases e4 : (k == 4)
         ·cases e11 : (k == 11)
          ·have HF2 := hideP (HF.out w2)
           go_wp2_with fail
           refine HF2.out.mono ?_
           rintro e w3 ⟨rfl, hb4⟩
           have B3 : Hid (Below w.heap.size w w3) := hideP (below_more B2.out hb4 B2.out.size)
           have t13 : w3.cell? ⟨w.heap.size, 13, none⟩ = some (.string tx) := (Below.cell hb4 (p := ⟨w.heap.size, 13, none⟩) hs2).trans m13
           clear hb4 m0 m1 m2 m3 m4 m5 m6 m7 m8 m9 m10 m11 m12 m13 m14
           cases ff : (uptoB fo 15 && uptoB ch 255)
           ·have HBAD : Hid (R = false) := hideP (by rw [HRR.out, ff]; simp)
            go_wp2
            go_ret
            exact ⟨retB HBAD.out.symm, B3.out⟩
           ·cases ft : decide ((tx.size : Int) ≤ 1000)
            ·have HBAD : Hid (R = false) := hideP (by rw [HRR.out, ft]; simp)
             go_wp2
             go_ret
             exact ⟨retB HBAD.out.symm, B3.out⟩
            ·have HGOOD : Hid (R = true) := hideP (by rw [HRR.out, ft, ff, f0, f1, f2, f3, f4, show penB ⟨k, wd, ht, dp, sh, fo, ch, nn, gs, gp, gpo, gm, gmo, tx, kids⟩ = true by simp only [penB, e4, e11]; rfl, decide_eq_true hk12.out]; rfl)
             go_wp2
             go_ret
             exact ⟨retB HGOOD.out.symm, B3.out⟩
          ·cases l1 : decide (0 ≤ nn)
           ·have l1' : decide (nn < 0) = true := by simp at l1 ⊢; omega
            have HBAD : Hid (R = false) := hideP (by rw [HRR.out]; simp [penB, e4, e11, l1])
            go_wp2
            go_ret
            exact ⟨retB HBAD.out.symm, B2.out⟩
           ·have l1' : decide (nn < 0) = false := by simp at l1 ⊢; omega
            cases l2 : decide (nn ≤ 15)
            ·have l2' : decide (15 < nn) = true := by simp at l2 ⊢; omega
             have HBAD : Hid (R = false) := hideP (by rw [HRR.out]; simp [penB, e4, e11, l1, l2])
             go_wp2
             go_ret
             exact ⟨retB HBAD.out.symm, B2.out⟩
            ·have l2' : decide (15 < nn) = false := by simp at l2 ⊢; omega
             have HF2 := hideP (HF.out w2)
             go_wp2_with fail
             refine HF2.out.mono ?_
             rintro e w3 ⟨rfl, hb4⟩
             have B3 : Hid (Below w.heap.size w w3) := hideP (below_more B2.out hb4 B2.out.size)
             have t13 : w3.cell? ⟨w.heap.size, 13, none⟩ = some (.string tx) := (Below.cell hb4 (p := ⟨w.heap.size, 13, none⟩) hs2).trans m13
             clear hb4 m0 m1 m2 m3 m4 m5 m6 m7 m8 m9 m10 m11 m12 m13 m14
             cases ff : (uptoB fo 15 && uptoB ch 255)
             ·have HBAD : Hid (R = false) := hideP (by rw [HRR.out, ff]; simp)
              go_wp2
              go_ret
              exact ⟨retB HBAD.out.symm, B3.out⟩
             ·cases ft : decide ((tx.size : Int) ≤ 1000)
              ·have HBAD : Hid (R = false) := hideP (by rw [HRR.out, ft]; simp)
               go_wp2
               go_ret
               exact ⟨retB HBAD.out.symm, B3.out⟩
              ·have HGOOD : Hid (R = true) := hideP (by rw [HRR.out, ft, ff, f0, f1, f2, f3, f4, show penB ⟨k, wd, ht, dp, sh, fo, ch, nn, gs, gp, gpo, gm, gmo, tx, kids⟩ = true by simp only [penB, e4, e11, l1, l2]; rfl, decide_eq_true hk12.out]; rfl)
               go_wp2
               go_ret
               exact ⟨retB HGOOD.out.symm, B3.out⟩
         ·have e11 : (k == 11) = false := by simp at e4 ⊢; omega
          cases l1 : decide (-10000 ≤ nn)
          ·have l1' : decide (nn < -10000) = true := by simp at l1 ⊢; omega
           have HBAD : Hid (R = false) := hideP (by rw [HRR.out]; simp [penB, e4, e11, l1])
           go_wp2
           go_ret
           exact ⟨retB HBAD.out.symm, B2.out⟩
          ·have l1' : decide (nn < -10000) = false := by simp at l1 ⊢; omega
           cases l2 : decide (nn ≤ 10000)
           ·have l2' : decide (10000 < nn) = true := by simp at l2 ⊢; omega
            have HBAD : Hid (R = false) := hideP (by rw [HRR.out]; simp [penB, e4, e11, l1, l2])
            go_wp2
            go_ret
            exact ⟨retB HBAD.out.symm, B2.out⟩
           ·have l2' : decide (10000 < nn) = false := by simp at l2 ⊢; omega
            have HF2 := hideP (HF.out w2)
            go_wp2_with fail
            refine HF2.out.mono ?_
            rintro e w3 ⟨rfl, hb4⟩
            have B3 : Hid (Below w.heap.size w w3) := hideP (below_more B2.out hb4 B2.out.size)
            have t13 : w3.cell? ⟨w.heap.size, 13, none⟩ = some (.string tx) := (Below.cell hb4 (p := ⟨w.heap.size, 13, none⟩) hs2).trans m13
            clear hb4 m0 m1 m2 m3 m4 m5 m6 m7 m8 m9 m10 m11 m12 m13 m14
            cases ff : (uptoB fo 15 && uptoB ch 255)
            ·have HBAD : Hid (R = false) := hideP (by rw [HRR.out, ff]; simp)
             go_wp2
             go_ret
             exact ⟨retB HBAD.out.symm, B3.out⟩
            ·cases ft : decide ((tx.size : Int) ≤ 1000)
             ·have HBAD : Hid (R = false) := hideP (by rw [HRR.out, ft]; simp)
              go_wp2
              go_ret
              exact ⟨retB HBAD.out.symm, B3.out⟩
             ·have HGOOD : Hid (R = true) := hideP (by rw [HRR.out, ft, ff, f0, f1, f2, f3, f4, show penB ⟨k, wd, ht, dp, sh, fo, ch, nn, gs, gp, gpo, gm, gmo, tx, kids⟩ = true by simp only [penB, e4, e11, l1, l2]; rfl, decide_eq_true hk12.out]; rfl)
              go_wp2
              go_ret
              exact ⟨retB HGOOD.out.symm, B3.out⟩
  ·have hk1 : ¬ k < 1 := by omega
   have hk2 : 11 < k := by omega
   have HBAD : Hid (R = false) := hideP (by rw [HRR.out, decide_eq_false (by omega)]; simp)
   clear HU hneq HF HRR
   simp only [ndV]
   go_enter Tryz.func121, Tryz.ntmps121
   go_wp2_with fail
   refine wp_region_held_drew (S := fun x => x.cell? ⟨w.heap.size, 0, none⟩ = some (.int .i64 k)) (by kernel_rfl) (by simp [go_sem]) (fun hS => ?_)
   refine wpAnyH_take (i := 0) (v := .pointer (some ⟨w.heap.size, 0, none⟩)) rfl (by kernel_rfl) (by kernel_rfl) (by kernel_rfl) (fun _ _ _ h => h) (Or.inl ⟨by first | rfl | go_simp, fun wx hx => by go_simp⟩) hS ?_
   try simp only [Act.put, List.getElem_toArray, List.getElem_cons_zero, List.getElem_cons_succ, List.setIfInBounds_toArray, List.set_cons_zero, List.set_cons_succ]
   refine wpAnyH_take (i := 1) (v := .int .i64 k) rfl (by kernel_rfl) (by kernel_rfl) (by kernel_rfl) (fun _ _ _ h => h) (Or.inl ⟨by first | rfl | go_simp, fun wx hx => by go_simp⟩) hS ?_
   try simp only [Act.put, List.getElem_toArray, List.getElem_cons_zero, List.getElem_cons_succ, List.setIfInBounds_toArray, List.set_cons_zero, List.set_cons_succ]
   refine wpAnyH_take (i := 2) (v := .bool false) rfl (by kernel_rfl) (by kernel_rfl) (by kernel_rfl) (fun _ _ _ h => h) (Or.inl ⟨by first | rfl | go_simp, fun wx hx => by go_simp⟩) hS ?_
   try simp only [Act.put, List.getElem_toArray, List.getElem_cons_zero, List.getElem_cons_succ, List.setIfInBounds_toArray, List.set_cons_zero, List.set_cons_succ]
   refine wpAnyH_take (i := 3) (v := .bool false) rfl (by kernel_rfl) (by kernel_rfl) (by kernel_rfl) (fun _ _ _ h => h) (Or.inl ⟨by first | rfl | go_simp, fun wx hx => by go_simp⟩) hS ?_
   try simp only [Act.put, List.getElem_toArray, List.getElem_cons_zero, List.getElem_cons_succ, List.setIfInBounds_toArray, List.set_cons_zero, List.set_cons_succ]
   refine wpAnyH_take (i := 4) (v := .pointer (some ⟨w.heap.size, 0, none⟩)) rfl (by kernel_rfl) (by kernel_rfl) (by kernel_rfl) (fun _ _ _ h => h) (Or.inl ⟨by first | rfl | go_simp, fun wx hx => by go_simp⟩) hS ?_
   try simp only [Act.put, List.getElem_toArray, List.getElem_cons_zero, List.getElem_cons_succ, List.setIfInBounds_toArray, List.set_cons_zero, List.set_cons_succ]
   refine wpAnyH_take (i := 5) (v := .int .i64 k) rfl (by kernel_rfl) (by kernel_rfl) (by kernel_rfl) (fun _ _ _ h => h) (Or.inl ⟨by first | rfl | go_simp, fun wx hx => by go_simp⟩) hS ?_
   try simp only [Act.put, List.getElem_toArray, List.getElem_cons_zero, List.getElem_cons_succ, List.setIfInBounds_toArray, List.set_cons_zero, List.set_cons_succ]
   refine wpAnyH_take (i := 6) (v := .bool true) rfl (by kernel_rfl) (by kernel_rfl) (by kernel_rfl) (fun _ _ _ h => h) (Or.inl ⟨by first | rfl | go_simp, fun wx hx => by go_simp⟩) hS ?_
   try simp only [Act.put, List.getElem_toArray, List.getElem_cons_zero, List.getElem_cons_succ, List.setIfInBounds_toArray, List.set_cons_zero, List.set_cons_succ]
   refine wpAnyH_take (i := 7) (v := .bool true) rfl (by kernel_rfl) (by kernel_rfl) (by kernel_rfl) (fun _ _ _ h => h) (Or.inl ⟨by first | rfl | go_simp, fun wx hx => by go_simp⟩) hS ?_
   try simp only [Act.put, List.getElem_toArray, List.getElem_cons_zero, List.getElem_cons_succ, List.setIfInBounds_toArray, List.set_cons_zero, List.set_cons_succ]
   refine wpAnyH_take (i := 8) (v := .bool true) rfl (by kernel_rfl) (by kernel_rfl) (by kernel_rfl) (fun _ _ _ h => h) (Or.inl ⟨by first | rfl | go_simp, fun wx hx => by go_simp⟩) hS ?_
   try simp only [Act.put, List.getElem_toArray, List.getElem_cons_zero, List.getElem_cons_succ, List.setIfInBounds_toArray, List.set_cons_zero, List.set_cons_succ]
   refine wpAnyH_take (i := 9) (v := undef) rfl (by kernel_rfl) (by kernel_rfl) (by kernel_rfl) (fun _ _ _ h => h) (Or.inr ⟨by first | (go_simp; done) | (go_simp; intro h; cases h; done) | (go_simp; simp [undef]; done), rfl⟩) hS ?_
   try simp only [Act.put, List.getElem_toArray, List.getElem_cons_zero, List.getElem_cons_succ, List.setIfInBounds_toArray, List.set_cons_zero, List.set_cons_succ]
   refine wpAnyH_take (i := 10) (v := undef) rfl (by kernel_rfl) (by kernel_rfl) (by kernel_rfl) (fun _ _ _ h => h) (Or.inr ⟨by first | (go_simp; done) | (go_simp; intro h; cases h; done) | (go_simp; simp [undef]; done), rfl⟩) hS ?_
   try simp only [Act.put, List.getElem_toArray, List.getElem_cons_zero, List.getElem_cons_succ, List.setIfInBounds_toArray, List.set_cons_zero, List.set_cons_succ]
   refine wpAnyH_take (i := 11) (v := undef) rfl (by kernel_rfl) (by kernel_rfl) (by kernel_rfl) (fun _ _ _ h => h) (Or.inr ⟨by first | (go_simp; done) | (go_simp; intro h; cases h; done) | (go_simp; simp [undef]; done), rfl⟩) hS ?_
   try simp only [Act.put, List.getElem_toArray, List.getElem_cons_zero, List.getElem_cons_succ, List.setIfInBounds_toArray, List.set_cons_zero, List.set_cons_succ]
   refine wpAnyH_take (i := 12) (v := undef) rfl (by kernel_rfl) (by kernel_rfl) (by kernel_rfl) (fun _ _ _ h => h) (Or.inr ⟨by first | (go_simp; done) | (go_simp; intro h; cases h; done) | (go_simp; simp [undef]; done), rfl⟩) hS ?_
   try simp only [Act.put, List.getElem_toArray, List.getElem_cons_zero, List.getElem_cons_succ, List.setIfInBounds_toArray, List.set_cons_zero, List.set_cons_succ]
   refine wpAnyH_take (i := 13) (v := .bool true) rfl (by kernel_rfl) (by kernel_rfl) (by kernel_rfl) (fun _ _ _ h => h) (Or.inl ⟨by first | rfl | go_simp, fun wx hx => by go_simp⟩) hS ?_
   try simp only [Act.put, List.getElem_toArray, List.getElem_cons_zero, List.getElem_cons_succ, List.setIfInBounds_toArray, List.set_cons_zero, List.set_cons_succ]
   refine wpAnyH_done (by kernel_rfl) ?_ _
   clear hS
   go_wp2
   go_ret
   exact ⟨retB HBAD.out.symm, below_drewN (below1 _ _) 1⟩
 ·have hk1 : k < 1 := by omega
  have HBAD : Hid (R = false) := hideP (by rw [HRR.out, decide_eq_false (by omega)]; simp)
  clear HU hneq HF HRR
  simp only [ndV]
  go_enter Tryz.func121, Tryz.ntmps121
  go_wp2_with fail
  refine wp_region_held_drew (S := fun x => x.cell? ⟨w.heap.size, 0, none⟩ = some (.int .i64 k)) (by kernel_rfl) (by simp [go_sem]) (fun hS => ?_)
  refine wpAnyH_take (i := 0) (v := .pointer (some ⟨w.heap.size, 0, none⟩)) rfl (by kernel_rfl) (by kernel_rfl) (by kernel_rfl) (fun _ _ _ h => h) (Or.inl ⟨by first | rfl | go_simp, fun wx hx => by go_simp⟩) hS ?_
  try simp only [Act.put, List.getElem_toArray, List.getElem_cons_zero, List.getElem_cons_succ, List.setIfInBounds_toArray, List.set_cons_zero, List.set_cons_succ]
  refine wpAnyH_take (i := 1) (v := .int .i64 k) rfl (by kernel_rfl) (by kernel_rfl) (by kernel_rfl) (fun _ _ _ h => h) (Or.inl ⟨by first | rfl | go_simp, fun wx hx => by go_simp⟩) hS ?_
  try simp only [Act.put, List.getElem_toArray, List.getElem_cons_zero, List.getElem_cons_succ, List.setIfInBounds_toArray, List.set_cons_zero, List.set_cons_succ]
  refine wpAnyH_take (i := 2) (v := .bool true) rfl (by kernel_rfl) (by kernel_rfl) (by kernel_rfl) (fun _ _ _ h => h) (Or.inl ⟨by first | rfl | go_simp, fun wx hx => by go_simp⟩) hS ?_
  try simp only [Act.put, List.getElem_toArray, List.getElem_cons_zero, List.getElem_cons_succ, List.setIfInBounds_toArray, List.set_cons_zero, List.set_cons_succ]
  refine wpAnyH_take (i := 3) (v := .bool true) rfl (by kernel_rfl) (by kernel_rfl) (by kernel_rfl) (fun _ _ _ h => h) (Or.inl ⟨by first | rfl | go_simp, fun wx hx => by go_simp⟩) hS ?_
  try simp only [Act.put, List.getElem_toArray, List.getElem_cons_zero, List.getElem_cons_succ, List.setIfInBounds_toArray, List.set_cons_zero, List.set_cons_succ]
  refine wpAnyH_take (i := 4) (v := undef) rfl (by kernel_rfl) (by kernel_rfl) (by kernel_rfl) (fun _ _ _ h => h) (Or.inr ⟨by first | (go_simp; done) | (go_simp; intro h; cases h; done) | (go_simp; simp [undef]; done), rfl⟩) hS ?_
  try simp only [Act.put, List.getElem_toArray, List.getElem_cons_zero, List.getElem_cons_succ, List.setIfInBounds_toArray, List.set_cons_zero, List.set_cons_succ]
  refine wpAnyH_take (i := 5) (v := undef) rfl (by kernel_rfl) (by kernel_rfl) (by kernel_rfl) (fun _ _ _ h => h) (Or.inr ⟨by first | (go_simp; done) | (go_simp; intro h; cases h; done) | (go_simp; simp [undef]; done), rfl⟩) hS ?_
  try simp only [Act.put, List.getElem_toArray, List.getElem_cons_zero, List.getElem_cons_succ, List.setIfInBounds_toArray, List.set_cons_zero, List.set_cons_succ]
  refine wpAnyH_take (i := 6) (v := undef) rfl (by kernel_rfl) (by kernel_rfl) (by kernel_rfl) (fun _ _ _ h => h) (Or.inr ⟨by first | (go_simp; done) | (go_simp; intro h; cases h; done) | (go_simp; simp [undef]; done), rfl⟩) hS ?_
  try simp only [Act.put, List.getElem_toArray, List.getElem_cons_zero, List.getElem_cons_succ, List.setIfInBounds_toArray, List.set_cons_zero, List.set_cons_succ]
  refine wpAnyH_take (i := 7) (v := .bool true) rfl (by kernel_rfl) (by kernel_rfl) (by kernel_rfl) (fun _ _ _ h => h) (Or.inl ⟨by first | rfl | go_simp, fun wx hx => by go_simp⟩) hS ?_
  try simp only [Act.put, List.getElem_toArray, List.getElem_cons_zero, List.getElem_cons_succ, List.setIfInBounds_toArray, List.set_cons_zero, List.set_cons_succ]
  refine wpAnyH_take (i := 8) (v := .bool true) rfl (by kernel_rfl) (by kernel_rfl) (by kernel_rfl) (fun _ _ _ h => h) (Or.inl ⟨by first | rfl | go_simp, fun wx hx => by go_simp⟩) hS ?_
  try simp only [Act.put, List.getElem_toArray, List.getElem_cons_zero, List.getElem_cons_succ, List.setIfInBounds_toArray, List.set_cons_zero, List.set_cons_succ]
  refine wpAnyH_take (i := 9) (v := undef) rfl (by kernel_rfl) (by kernel_rfl) (by kernel_rfl) (fun _ _ _ h => h) (Or.inr ⟨by first | (go_simp; done) | (go_simp; intro h; cases h; done) | (go_simp; simp [undef]; done), rfl⟩) hS ?_
  try simp only [Act.put, List.getElem_toArray, List.getElem_cons_zero, List.getElem_cons_succ, List.setIfInBounds_toArray, List.set_cons_zero, List.set_cons_succ]
  refine wpAnyH_take (i := 10) (v := undef) rfl (by kernel_rfl) (by kernel_rfl) (by kernel_rfl) (fun _ _ _ h => h) (Or.inr ⟨by first | (go_simp; done) | (go_simp; intro h; cases h; done) | (go_simp; simp [undef]; done), rfl⟩) hS ?_
  try simp only [Act.put, List.getElem_toArray, List.getElem_cons_zero, List.getElem_cons_succ, List.setIfInBounds_toArray, List.set_cons_zero, List.set_cons_succ]
  refine wpAnyH_take (i := 11) (v := undef) rfl (by kernel_rfl) (by kernel_rfl) (by kernel_rfl) (fun _ _ _ h => h) (Or.inr ⟨by first | (go_simp; done) | (go_simp; intro h; cases h; done) | (go_simp; simp [undef]; done), rfl⟩) hS ?_
  try simp only [Act.put, List.getElem_toArray, List.getElem_cons_zero, List.getElem_cons_succ, List.setIfInBounds_toArray, List.set_cons_zero, List.set_cons_succ]
  refine wpAnyH_take (i := 12) (v := undef) rfl (by kernel_rfl) (by kernel_rfl) (by kernel_rfl) (fun _ _ _ h => h) (Or.inr ⟨by first | (go_simp; done) | (go_simp; intro h; cases h; done) | (go_simp; simp [undef]; done), rfl⟩) hS ?_
  try simp only [Act.put, List.getElem_toArray, List.getElem_cons_zero, List.getElem_cons_succ, List.setIfInBounds_toArray, List.set_cons_zero, List.set_cons_succ]
  refine wpAnyH_take (i := 13) (v := .bool true) rfl (by kernel_rfl) (by kernel_rfl) (by kernel_rfl) (fun _ _ _ h => h) (Or.inl ⟨by first | rfl | go_simp, fun wx hx => by go_simp⟩) hS ?_
  try simp only [Act.put, List.getElem_toArray, List.getElem_cons_zero, List.getElem_cons_succ, List.setIfInBounds_toArray, List.set_cons_zero, List.set_cons_succ]
  refine wpAnyH_done (by kernel_rfl) ?_ _
  clear hS
  go_wp2
  go_ret
  exact ⟨retB HBAD.out.symm, below_drewN (below1 _ _) 1⟩
end Go.Proofs.YtlohbaoigfaneaaGreat
