import Derived.Test.YtojoehdmjkgnnaaGreatTks
import Derived.Deep.RegionWith
import Derived.Deep.RegionHeld3
import Derived.Test.YtojoehdmjkgnnaaGreatNdt
import Derived.Test.YtojoehdmjkgnnaaGreatTh1
import Derived.WalkSmall
namespace Go.Proofs.YtojoehdmjkgnnaaGreat
open Go.RowKit
set_option linter.unusedVariables false
set_option linter.unusedSimpArgs false
theorem after_drew8 {w w1 : World} {c : Array Value} {ty : Nat} (hb : Below (w.alloc (.cells c ty)).drew.heap.size (w.alloc (.cells c ty)).drew w1) : (∀ i, w1.cell? ⟨w.heap.size, i, none⟩ = c[i]?) ∧ w.heap.size < w1.heap.size := by
 have hs : w.heap.size < (w.alloc (.cells c ty)).drew.heap.size := by simp
 refine ⟨fun i => ?_, Nat.lt_of_lt_of_le hs hb.size⟩
 rw [hb.cell (p := ⟨w.heap.size, i, none⟩) hs]
 simp [go_sem]
set_option maxRecDepth 20000 in
set_option maxHeartbeats 8000000 in
theorem nodeOk_any (x : Nd) (w : World) : Calls Tryz.prog 135 #[ndV x] w fun r w' => r = .returned (.bool (specB x)) ∧ Below w.heap.size w w' := by
 have HF : Hid (∀ W, Calls Tryz.prog 156 #[ndV x] W fun r w' => r = .returned (.bool (uptoB x.fo 15 && uptoB x.ch 255)) ∧ Below W.heap.size W w') := hideP (fontOk_any x)
 have HU : Hid (1 ≤ x.k → x.k ≤ 11 → ∀ W, Calls Tryz.prog 155 #[ndV x] W fun r w' => r = .returned (ndV x.used) ∧ Below W.heap.size W w') := hideP (fun h1 h2 W => used_any x W h1 h2)
 have hneq := fun W => neqNode x x.used W
 have hgd : Tryz.prog.eqGuardType Tryz.prog.depth 36 = false := by kernel_rfl
 obtain ⟨eb, heb⟩ : ∃ eb, eb = eqNd x x.used := ⟨_, rfl⟩
 obtain ⟨R, hR⟩ : ∃ R, R = specB x := ⟨_, rfl⟩
 have HR := hideP hR
 rw [← hR]
 unfold specB at hR
 rw [← heb] at hR hneq
 obtain ⟨y, hy⟩ : ∃ y, y = x.used := ⟨_, rfl⟩
 rw [← hy] at HU hneq
 obtain ⟨k, wd, ht, dp, sh, fo, ch, nn, gs, gp, gpo, gm, gmo, tx, kids⟩ := x
 dsimp only at hR HF HU
 have HRR := hideP hR
 clear heb hR HR hy
 by_cases h1 : 1 ≤ k
 ·by_cases h2 : k ≤ 11
  ·have hk1 : decide (k < 1) = false := by simp; omega
   have hk2 : decide (11 < k) = false := by simp; omega
   have CU := hideP (HU.out h1 h2)
   have hk12 : Hid (1 ≤ k ∧ k ≤ 11) := hideP ⟨h1, h2⟩
   clear HU h1 h2
   simp only [ndV]
   go_enter Tryz.func135, Tryz.ntmps135
   cases eb with
   | false =>
    have HBAD : Hid (R = false) := hideP (by rw [HRR.out]; simp)
    go_wp2_with fail
    go_region_held3 (fun x => x.cell? ⟨w.heap.size, 0, none⟩ = some (.int .i64 k) ∧ x.cell? ⟨w.heap.size, 1, none⟩ = some (.int .i64 wd) ∧ x.cell? ⟨w.heap.size, 2, none⟩ = some (.int .i64 ht) ∧ x.cell? ⟨w.heap.size, 3, none⟩ = some (.int .i64 dp) ∧ x.cell? ⟨w.heap.size, 4, none⟩ = some (.int .i64 sh) ∧ x.cell? ⟨w.heap.size, 5, none⟩ = some (.int .i64 fo) ∧ x.cell? ⟨w.heap.size, 6, none⟩ = some (.int .i64 ch) ∧ x.cell? ⟨w.heap.size, 7, none⟩ = some (.int .i64 nn) ∧ x.cell? ⟨w.heap.size, 8, none⟩ = some (.int .i64 gs) ∧ x.cell? ⟨w.heap.size, 9, none⟩ = some (.int .i64 gp) ∧ x.cell? ⟨w.heap.size, 10, none⟩ = some (.int .i64 gpo) ∧ x.cell? ⟨w.heap.size, 11, none⟩ = some (.int .i64 gm) ∧ x.cell? ⟨w.heap.size, 12, none⟩ = some (.int .i64 gmo) ∧ x.cell? ⟨w.heap.size, 13, none⟩ = some (.string tx) ∧ x.cell? ⟨w.heap.size, 14, none⟩ = some (.int .i64 kids)) (first | (refine ⟨?_, ?_, ?_, ?_, ?_, ?_, ?_, ?_, ?_, ?_, ?_, ?_, ?_, ?_, ?_⟩ <;> (simp [go_sem]; done)) | exact ‹Hid (w1.cell? ⟨w.heap.size, 0, none⟩ = some (.int .i64 k) ∧ w1.cell? ⟨w.heap.size, 1, none⟩ = some (.int .i64 wd) ∧ w1.cell? ⟨w.heap.size, 2, none⟩ = some (.int .i64 ht) ∧ w1.cell? ⟨w.heap.size, 3, none⟩ = some (.int .i64 dp) ∧ w1.cell? ⟨w.heap.size, 4, none⟩ = some (.int .i64 sh) ∧ w1.cell? ⟨w.heap.size, 5, none⟩ = some (.int .i64 fo) ∧ w1.cell? ⟨w.heap.size, 6, none⟩ = some (.int .i64 ch) ∧ w1.cell? ⟨w.heap.size, 7, none⟩ = some (.int .i64 nn) ∧ w1.cell? ⟨w.heap.size, 8, none⟩ = some (.int .i64 gs) ∧ w1.cell? ⟨w.heap.size, 9, none⟩ = some (.int .i64 gp) ∧ w1.cell? ⟨w.heap.size, 10, none⟩ = some (.int .i64 gpo) ∧ w1.cell? ⟨w.heap.size, 11, none⟩ = some (.int .i64 gm) ∧ w1.cell? ⟨w.heap.size, 12, none⟩ = some (.int .i64 gmo) ∧ w1.cell? ⟨w.heap.size, 13, none⟩ = some (.string tx) ∧ w1.cell? ⟨w.heap.size, 14, none⟩ = some (.int .i64 kids))›) ((go_at_call 155; refine (CU.out _).mono ?_; rintro e w1 ⟨rfl, hb1⟩; obtain ⟨hq, hs1⟩ := after_drew8 hb1; have QS : Hid (w1.cell? ⟨w.heap.size, 0, none⟩ = some (.int .i64 k) ∧ w1.cell? ⟨w.heap.size, 1, none⟩ = some (.int .i64 wd) ∧ w1.cell? ⟨w.heap.size, 2, none⟩ = some (.int .i64 ht) ∧ w1.cell? ⟨w.heap.size, 3, none⟩ = some (.int .i64 dp) ∧ w1.cell? ⟨w.heap.size, 4, none⟩ = some (.int .i64 sh) ∧ w1.cell? ⟨w.heap.size, 5, none⟩ = some (.int .i64 fo) ∧ w1.cell? ⟨w.heap.size, 6, none⟩ = some (.int .i64 ch) ∧ w1.cell? ⟨w.heap.size, 7, none⟩ = some (.int .i64 nn) ∧ w1.cell? ⟨w.heap.size, 8, none⟩ = some (.int .i64 gs) ∧ w1.cell? ⟨w.heap.size, 9, none⟩ = some (.int .i64 gp) ∧ w1.cell? ⟨w.heap.size, 10, none⟩ = some (.int .i64 gpo) ∧ w1.cell? ⟨w.heap.size, 11, none⟩ = some (.int .i64 gm) ∧ w1.cell? ⟨w.heap.size, 12, none⟩ = some (.int .i64 gmo) ∧ w1.cell? ⟨w.heap.size, 13, none⟩ = some (.string tx) ∧ w1.cell? ⟨w.heap.size, 14, none⟩ = some (.int .i64 kids)) := hideP ⟨hq 0, hq 1, hq 2, hq 3, hq 4, hq 5, hq 6, hq 7, hq 8, hq 9, hq 10, hq 11, hq 12, hq 13, hq 14⟩; have hb2 : Hid (Below w.heap.size w w1) := Below.trans (Below.drew (below1 _ _)) (hb1.mono (by simp)); clear hb1 hq))
    all_goals
     go_wp2
     go_ret
     exact ⟨retB HBAD.out.symm, ‹Hid (Below w.heap.size w w1)›⟩
   | true =>
    go_wp2_with fail
    go_region_held3 (fun x => x.cell? ⟨w.heap.size, 0, none⟩ = some (.int .i64 k) ∧ x.cell? ⟨w.heap.size, 1, none⟩ = some (.int .i64 wd) ∧ x.cell? ⟨w.heap.size, 2, none⟩ = some (.int .i64 ht) ∧ x.cell? ⟨w.heap.size, 3, none⟩ = some (.int .i64 dp) ∧ x.cell? ⟨w.heap.size, 4, none⟩ = some (.int .i64 sh) ∧ x.cell? ⟨w.heap.size, 5, none⟩ = some (.int .i64 fo) ∧ x.cell? ⟨w.heap.size, 6, none⟩ = some (.int .i64 ch) ∧ x.cell? ⟨w.heap.size, 7, none⟩ = some (.int .i64 nn) ∧ x.cell? ⟨w.heap.size, 8, none⟩ = some (.int .i64 gs) ∧ x.cell? ⟨w.heap.size, 9, none⟩ = some (.int .i64 gp) ∧ x.cell? ⟨w.heap.size, 10, none⟩ = some (.int .i64 gpo) ∧ x.cell? ⟨w.heap.size, 11, none⟩ = some (.int .i64 gm) ∧ x.cell? ⟨w.heap.size, 12, none⟩ = some (.int .i64 gmo) ∧ x.cell? ⟨w.heap.size, 13, none⟩ = some (.string tx) ∧ x.cell? ⟨w.heap.size, 14, none⟩ = some (.int .i64 kids)) (first | (refine ⟨?_, ?_, ?_, ?_, ?_, ?_, ?_, ?_, ?_, ?_, ?_, ?_, ?_, ?_, ?_⟩ <;> (simp [go_sem]; done)) | exact ‹Hid (w1.cell? ⟨w.heap.size, 0, none⟩ = some (.int .i64 k) ∧ w1.cell? ⟨w.heap.size, 1, none⟩ = some (.int .i64 wd) ∧ w1.cell? ⟨w.heap.size, 2, none⟩ = some (.int .i64 ht) ∧ w1.cell? ⟨w.heap.size, 3, none⟩ = some (.int .i64 dp) ∧ w1.cell? ⟨w.heap.size, 4, none⟩ = some (.int .i64 sh) ∧ w1.cell? ⟨w.heap.size, 5, none⟩ = some (.int .i64 fo) ∧ w1.cell? ⟨w.heap.size, 6, none⟩ = some (.int .i64 ch) ∧ w1.cell? ⟨w.heap.size, 7, none⟩ = some (.int .i64 nn) ∧ w1.cell? ⟨w.heap.size, 8, none⟩ = some (.int .i64 gs) ∧ w1.cell? ⟨w.heap.size, 9, none⟩ = some (.int .i64 gp) ∧ w1.cell? ⟨w.heap.size, 10, none⟩ = some (.int .i64 gpo) ∧ w1.cell? ⟨w.heap.size, 11, none⟩ = some (.int .i64 gm) ∧ w1.cell? ⟨w.heap.size, 12, none⟩ = some (.int .i64 gmo) ∧ w1.cell? ⟨w.heap.size, 13, none⟩ = some (.string tx) ∧ w1.cell? ⟨w.heap.size, 14, none⟩ = some (.int .i64 kids))›) ((go_at_call 155; refine (CU.out _).mono ?_; rintro e w1 ⟨rfl, hb1⟩; obtain ⟨hq, hs1⟩ := after_drew8 hb1; have QS : Hid (w1.cell? ⟨w.heap.size, 0, none⟩ = some (.int .i64 k) ∧ w1.cell? ⟨w.heap.size, 1, none⟩ = some (.int .i64 wd) ∧ w1.cell? ⟨w.heap.size, 2, none⟩ = some (.int .i64 ht) ∧ w1.cell? ⟨w.heap.size, 3, none⟩ = some (.int .i64 dp) ∧ w1.cell? ⟨w.heap.size, 4, none⟩ = some (.int .i64 sh) ∧ w1.cell? ⟨w.heap.size, 5, none⟩ = some (.int .i64 fo) ∧ w1.cell? ⟨w.heap.size, 6, none⟩ = some (.int .i64 ch) ∧ w1.cell? ⟨w.heap.size, 7, none⟩ = some (.int .i64 nn) ∧ w1.cell? ⟨w.heap.size, 8, none⟩ = some (.int .i64 gs) ∧ w1.cell? ⟨w.heap.size, 9, none⟩ = some (.int .i64 gp) ∧ w1.cell? ⟨w.heap.size, 10, none⟩ = some (.int .i64 gpo) ∧ w1.cell? ⟨w.heap.size, 11, none⟩ = some (.int .i64 gm) ∧ w1.cell? ⟨w.heap.size, 12, none⟩ = some (.int .i64 gmo) ∧ w1.cell? ⟨w.heap.size, 13, none⟩ = some (.string tx) ∧ w1.cell? ⟨w.heap.size, 14, none⟩ = some (.int .i64 kids)) := hideP ⟨hq 0, hq 1, hq 2, hq 3, hq 4, hq 5, hq 6, hq 7, hq 8, hq 9, hq 10, hq 11, hq 12, hq 13, hq 14⟩; have hb2 : Hid (Below w.heap.size w w1) := Below.trans (Below.drew (below1 _ _)) (hb1.mono (by simp)); clear hb1 hq))
    have hb2' := ‹Hid (Below w.heap.size w w1)›
    have QS' := ‹Hid (w1.cell? ⟨w.heap.size, 0, none⟩ = some (.int .i64 k) ∧ w1.cell? ⟨w.heap.size, 1, none⟩ = some (.int .i64 wd) ∧ w1.cell? ⟨w.heap.size, 2, none⟩ = some (.int .i64 ht) ∧ w1.cell? ⟨w.heap.size, 3, none⟩ = some (.int .i64 dp) ∧ w1.cell? ⟨w.heap.size, 4, none⟩ = some (.int .i64 sh) ∧ w1.cell? ⟨w.heap.size, 5, none⟩ = some (.int .i64 fo) ∧ w1.cell? ⟨w.heap.size, 6, none⟩ = some (.int .i64 ch) ∧ w1.cell? ⟨w.heap.size, 7, none⟩ = some (.int .i64 nn) ∧ w1.cell? ⟨w.heap.size, 8, none⟩ = some (.int .i64 gs) ∧ w1.cell? ⟨w.heap.size, 9, none⟩ = some (.int .i64 gp) ∧ w1.cell? ⟨w.heap.size, 10, none⟩ = some (.int .i64 gpo) ∧ w1.cell? ⟨w.heap.size, 11, none⟩ = some (.int .i64 gm) ∧ w1.cell? ⟨w.heap.size, 12, none⟩ = some (.int .i64 gmo) ∧ w1.cell? ⟨w.heap.size, 13, none⟩ = some (.string tx) ∧ w1.cell? ⟨w.heap.size, 14, none⟩ = some (.int .i64 kids))›
    have hs1' := ‹w.heap.size < w1.heap.size›
    clear CU hneq
    obtain ⟨n0, n1, n2, n3, n4, n5, n6, n7, n8, n9, n10, n11, n12, n13, n14⟩ := QS'.out
    have hs1x := hs1'
    clear QS'
    cases f0 : fitsB wd
    ·have HBAD : Hid (R = false) := hideP (by rw [HRR.out]; simp [*])
     go_wp2_with (go_at_call 103; refine (specFits_any _ _).mono ?_; rintro e w' ⟨rfl, rfl⟩)
     go_ret
     (first | exact ⟨retB HBAD.out.symm, hb2'.out⟩ | exact ⟨retB HBAD.out.symm, B2.out⟩)
    ·skip
     cases f1 : fitsB ht
     ·have HBAD : Hid (R = false) := hideP (by rw [HRR.out]; simp [*])
      go_wp2_with (go_at_call 103; refine (specFits_any _ _).mono ?_; rintro e w' ⟨rfl, rfl⟩)
      go_ret
      (first | exact ⟨retB HBAD.out.symm, hb2'.out⟩ | exact ⟨retB HBAD.out.symm, B2.out⟩)
     ·skip
      cases f2 : fitsB dp
      ·have HBAD : Hid (R = false) := hideP (by rw [HRR.out]; simp [*])
       go_wp2_with (go_at_call 103; refine (specFits_any _ _).mono ?_; rintro e w' ⟨rfl, rfl⟩)
       go_ret
       (first | exact ⟨retB HBAD.out.symm, hb2'.out⟩ | exact ⟨retB HBAD.out.symm, B2.out⟩)
      ·skip
       cases f3 : fitsB sh
       ·have HBAD : Hid (R = false) := hideP (by rw [HRR.out]; simp [*])
        go_wp2_with (go_at_call 103; refine (specFits_any _ _).mono ?_; rintro e w' ⟨rfl, rfl⟩)
        go_ret
        (first | exact ⟨retB HBAD.out.symm, hb2'.out⟩ | exact ⟨retB HBAD.out.symm, B2.out⟩)
       ·skip
        cases f4 : glB gs gp gpo gm gmo
        ·have HBAD : Hid (R = false) := hideP (by rw [HRR.out]; simp [*])
         go_wp2_with (first | (go_at_call 103; refine (specFits_any _ _).mono ?_; rintro e w' ⟨rfl, rfl⟩) | (go_at_call 100; refine (specGlueOk_any _ _ _ _ _ _).mono ?_; rintro e w2 ⟨rfl, hb3⟩; have B2 : Hid (Below w.heap.size w w2) := hideP (below_more hb2'.out hb3 hb2'.out.size); clear hb3))
         go_ret
         (first | exact ⟨retB HBAD.out.symm, hb2'.out⟩ | exact ⟨retB HBAD.out.symm, B2.out⟩)
        ·skip
         go_wp2_with (go_at_call 103; refine (specFits_any _ _).mono ?_; rintro e w' ⟨rfl, rfl⟩)
         refine (specGlueOk_any _ _ _ _ _ _).mono ?_
         rintro e w2 ⟨rfl, hb3⟩
         have B2 : Hid (Below w.heap.size w w2) := hideP (below_more hb2'.out hb3 hb2'.out.size)
         have hs2 : w.heap.size < w2.heap.size := Nat.lt_of_lt_of_le hs1' hb3.size
         have Q2 : Hid (w2.cell? ⟨w.heap.size, 0, none⟩ = some (.int .i64 k) ∧ w2.cell? ⟨w.heap.size, 1, none⟩ = some (.int .i64 wd) ∧ w2.cell? ⟨w.heap.size, 2, none⟩ = some (.int .i64 ht) ∧ w2.cell? ⟨w.heap.size, 3, none⟩ = some (.int .i64 dp) ∧ w2.cell? ⟨w.heap.size, 4, none⟩ = some (.int .i64 sh) ∧ w2.cell? ⟨w.heap.size, 5, none⟩ = some (.int .i64 fo) ∧ w2.cell? ⟨w.heap.size, 6, none⟩ = some (.int .i64 ch) ∧ w2.cell? ⟨w.heap.size, 7, none⟩ = some (.int .i64 nn) ∧ w2.cell? ⟨w.heap.size, 8, none⟩ = some (.int .i64 gs) ∧ w2.cell? ⟨w.heap.size, 9, none⟩ = some (.int .i64 gp) ∧ w2.cell? ⟨w.heap.size, 10, none⟩ = some (.int .i64 gpo) ∧ w2.cell? ⟨w.heap.size, 11, none⟩ = some (.int .i64 gm) ∧ w2.cell? ⟨w.heap.size, 12, none⟩ = some (.int .i64 gmo) ∧ w2.cell? ⟨w.heap.size, 13, none⟩ = some (.string tx) ∧ w2.cell? ⟨w.heap.size, 14, none⟩ = some (.int .i64 kids)) := hideP ⟨(Below.cell hb3 (p := ⟨w.heap.size, 0, none⟩) hs1x).trans n0, (Below.cell hb3 (p := ⟨w.heap.size, 1, none⟩) hs1x).trans n1, (Below.cell hb3 (p := ⟨w.heap.size, 2, none⟩) hs1x).trans n2, (Below.cell hb3 (p := ⟨w.heap.size, 3, none⟩) hs1x).trans n3, (Below.cell hb3 (p := ⟨w.heap.size, 4, none⟩) hs1x).trans n4, (Below.cell hb3 (p := ⟨w.heap.size, 5, none⟩) hs1x).trans n5, (Below.cell hb3 (p := ⟨w.heap.size, 6, none⟩) hs1x).trans n6, (Below.cell hb3 (p := ⟨w.heap.size, 7, none⟩) hs1x).trans n7, (Below.cell hb3 (p := ⟨w.heap.size, 8, none⟩) hs1x).trans n8, (Below.cell hb3 (p := ⟨w.heap.size, 9, none⟩) hs1x).trans n9, (Below.cell hb3 (p := ⟨w.heap.size, 10, none⟩) hs1x).trans n10, (Below.cell hb3 (p := ⟨w.heap.size, 11, none⟩) hs1x).trans n11, (Below.cell hb3 (p := ⟨w.heap.size, 12, none⟩) hs1x).trans n12, (Below.cell hb3 (p := ⟨w.heap.size, 13, none⟩) hs1x).trans n13, (Below.cell hb3 (p := ⟨w.heap.size, 14, none⟩) hs1x).trans n14⟩
         clear hb3
         obtain ⟨m0, m1, m2, m3, m4, m5, m6, m7, m8, m9, m10, m11, m12, m13, m14⟩ := Q2.out
         clear Q2 n0 n1 n2 n3 n4 n5 n6 n7 n8 n9 n10 n11 n12 n13 n14
         cases e4 : (k == 4)
         ·cases e11 : (k == 11)
          ·have HF2 := hideP (HF.out w2)
           go_wp2_with fail
           refine HF2.out.mono ?_
           rintro e w3 ⟨rfl, hb4⟩
           have B3 : Hid (Below w.heap.size w w3) := hideP (below_more B2.out hb4 B2.out.size)
           have t13 : w3.cell? ⟨w.heap.size, 13, none⟩ = some (.string tx) := (Below.cell hb4 (p := ⟨w.heap.size, 13, none⟩) hs2).trans m13
           clear hb4 m0 m1 m2 m3 m4 m5 m6 m7 m8 m9 m10 m11 m12 m13 m14
           cases ff : (uptoB fo 15 && uptoB ch 255)
           ·have HBAD : Hid (R = false) := hideP (by rw [HRR.out, ff]; simp)
            go_wp2
            go_ret
            exact ⟨retB HBAD.out.symm, B3.out⟩
           ·cases ft : decide ((tx.size : Int) ≤ 1000)
            ·have HBAD : Hid (R = false) := hideP (by rw [HRR.out, ft]; simp)
             go_wp2
             go_ret
             exact ⟨retB HBAD.out.symm, B3.out⟩
            ·have HGOOD : Hid (R = true) := hideP (by rw [HRR.out, ft, ff, f0, f1, f2, f3, f4, show penB ⟨k, wd, ht, dp, sh, fo, ch, nn, gs, gp, gpo, gm, gmo, tx, kids⟩ = true by simp only [penB, e4, e11]; rfl, decide_eq_true hk12.out]; rfl)
             go_wp2
             go_ret
             exact ⟨retB HGOOD.out.symm, B3.out⟩
          ·cases l1 : decide (0 ≤ nn)
           ·have l1' : decide (nn < 0) = true := by simp at l1 ⊢; omega
            have HBAD : Hid (R = false) := hideP (by rw [HRR.out]; simp [penB, e4, e11, l1])
            go_wp2
            go_ret
            exact ⟨retB HBAD.out.symm, B2.out⟩
           ·have l1' : decide (nn < 0) = false := by simp at l1 ⊢; omega
            cases l2 : decide (nn ≤ 15)
            ·have l2' : decide (15 < nn) = true := by simp at l2 ⊢; omega
             have HBAD : Hid (R = false) := hideP (by rw [HRR.out]; simp [penB, e4, e11, l1, l2])
             go_wp2
             go_ret
             exact ⟨retB HBAD.out.symm, B2.out⟩
            ·have l2' : decide (15 < nn) = false := by simp at l2 ⊢; omega
             have HF2 := hideP (HF.out w2)
             go_wp2_with fail
             refine HF2.out.mono ?_
             rintro e w3 ⟨rfl, hb4⟩
             have B3 : Hid (Below w.heap.size w w3) := hideP (below_more B2.out hb4 B2.out.size)
             have t13 : w3.cell? ⟨w.heap.size, 13, none⟩ = some (.string tx) := (Below.cell hb4 (p := ⟨w.heap.size, 13, none⟩) hs2).trans m13
             clear hb4 m0 m1 m2 m3 m4 m5 m6 m7 m8 m9 m10 m11 m12 m13 m14
             cases ff : (uptoB fo 15 && uptoB ch 255)
             ·have HBAD : Hid (R = false) := hideP (by rw [HRR.out, ff]; simp)
              go_wp2
              go_ret
              exact ⟨retB HBAD.out.symm, B3.out⟩
             ·cases ft : decide ((tx.size : Int) ≤ 1000)
              ·have HBAD : Hid (R = false) := hideP (by rw [HRR.out, ft]; simp)
               go_wp2
               go_ret
               exact ⟨retB HBAD.out.symm, B3.out⟩
              ·have HGOOD : Hid (R = true) := hideP (by rw [HRR.out, ft, ff, f0, f1, f2, f3, f4, show penB ⟨k, wd, ht, dp, sh, fo, ch, nn, gs, gp, gpo, gm, gmo, tx, kids⟩ = true by simp only [penB, e4, e11, l1, l2]; rfl, decide_eq_true hk12.out]; rfl)
               go_wp2
               go_ret
               exact ⟨retB HGOOD.out.symm, B3.out⟩
         ·have e11 : (k == 11) = false := by simp at e4 ⊢; omega
          cases l1 : decide (-10000 ≤ nn)
          ·have l1' : decide (nn < -10000) = true := by simp at l1 ⊢; omega
           have HBAD : Hid (R = false) := hideP (by rw [HRR.out]; simp [penB, e4, e11, l1])
           go_wp2
           go_ret
           exact ⟨retB HBAD.out.symm, B2.out⟩
          ·have l1' : decide (nn < -10000) = false := by simp at l1 ⊢; omega
           cases l2 : decide (nn ≤ 10000)
           ·have l2' : decide (10000 < nn) = true := by simp at l2 ⊢; omega
            have HBAD : Hid (R = false) := hideP (by rw [HRR.out]; simp [penB, e4, e11, l1, l2])
            go_wp2
            go_ret
            exact ⟨retB HBAD.out.symm, B2.out⟩
           ·have l2' : decide (10000 < nn) = false := by simp at l2 ⊢; omega
            have HF2 := hideP (HF.out w2)
            go_wp2_with fail
            refine HF2.out.mono ?_
            rintro e w3 ⟨rfl, hb4⟩
            have B3 : Hid (Below w.heap.size w w3) := hideP (below_more B2.out hb4 B2.out.size)
            have t13 : w3.cell? ⟨w.heap.size, 13, none⟩ = some (.string tx) := (Below.cell hb4 (p := ⟨w.heap.size, 13, none⟩) hs2).trans m13
            clear hb4 m0 m1 m2 m3 m4 m5 m6 m7 m8 m9 m10 m11 m12 m13 m14
            cases ff : (uptoB fo 15 && uptoB ch 255)
            ·have HBAD : Hid (R = false) := hideP (by rw [HRR.out, ff]; simp)
             go_wp2
             go_ret
             exact ⟨retB HBAD.out.symm, B3.out⟩
            ·cases ft : decide ((tx.size : Int) ≤ 1000)
             ·have HBAD : Hid (R = false) := hideP (by rw [HRR.out, ft]; simp)
              go_wp2
              go_ret
              exact ⟨retB HBAD.out.symm, B3.out⟩
             ·have HGOOD : Hid (R = true) := hideP (by rw [HRR.out, ft, ff, f0, f1, f2, f3, f4, show penB ⟨k, wd, ht, dp, sh, fo, ch, nn, gs, gp, gpo, gm, gmo, tx, kids⟩ = true by simp only [penB, e4, e11, l1, l2]; rfl, decide_eq_true hk12.out]; rfl)
              go_wp2
              go_ret
              exact ⟨retB HGOOD.out.symm, B3.out⟩
  ·have hk1 : ¬ k < 1 := by omega
   have hk2 : 11 < k := by omega
   have HBAD : Hid (R = false) := hideP (by rw [HRR.out, decide_eq_false (by omega)]; simp)
   clear HU hneq HF HRR
   simp only [ndV]
   go_enter Tryz.func135, Tryz.ntmps135
   go_wp2_with fail
   refine wp_region_held_drew (S := fun x => x.cell? ⟨w.heap.size, 0, none⟩ = some (.int .i64 k)) (by kernel_rfl) (by simp [go_sem]) (fun hS => ?_)
   refine tkS (i := 0) (v := .pointer (some ⟨w.heap.size, 0, none⟩)) rfl (by kernel_rfl) (by first | rfl | go_simp) (fun wx hx => by go_simp) hS ?_
   try simp only [sput]
   refine tkS (i := 1) (v := .int .i64 k) rfl (by kernel_rfl) (by first | rfl | go_simp) (fun wx hx => by go_simp) hS ?_
   try simp only [sput]
   refine tkS (i := 2) (v := .bool false) rfl (by kernel_rfl) (by first | rfl | go_simp) (fun wx hx => by go_simp) hS ?_
   try simp only [sput]
   refine tkS (i := 3) (v := .bool false) rfl (by kernel_rfl) (by first | rfl | go_simp) (fun wx hx => by go_simp) hS ?_
   try simp only [sput]
   refine tkS (i := 4) (v := .pointer (some ⟨w.heap.size, 0, none⟩)) rfl (by kernel_rfl) (by first | rfl | go_simp) (fun wx hx => by go_simp) hS ?_
   try simp only [sput]
   refine tkS (i := 5) (v := .int .i64 k) rfl (by kernel_rfl) (by first | rfl | go_simp) (fun wx hx => by go_simp) hS ?_
   try simp only [sput]
   refine tkS (i := 6) (v := .bool true) rfl (by kernel_rfl) (by first | rfl | go_simp) (fun wx hx => by go_simp) hS ?_
   try simp only [sput]
   refine tkS (i := 7) (v := .bool true) rfl (by kernel_rfl) (by first | rfl | go_simp) (fun wx hx => by go_simp) hS ?_
   try simp only [sput]
   refine tkS (i := 8) (v := .bool true) rfl (by kernel_rfl) (by first | rfl | go_simp) (fun wx hx => by go_simp) hS ?_
   try simp only [sput]
   refine wpAnyH_take (i := 9) (v := undef) rfl (by kernel_rfl) (by kernel_rfl) (by kernel_rfl) (fun _ _ _ h => h) (Or.inr ⟨by first | (go_simp; done) | (go_simp; intro h; cases h; done) | (go_simp; simp [undef]; done), rfl⟩) hS ?_
   try simp only [sput]
   refine wpAnyH_take (i := 10) (v := undef) rfl (by kernel_rfl) (by kernel_rfl) (by kernel_rfl) (fun _ _ _ h => h) (Or.inr ⟨by first | (go_simp; done) | (go_simp; intro h; cases h; done) | (go_simp; simp [undef]; done), rfl⟩) hS ?_
   try simp only [sput]
   refine wpAnyH_take (i := 11) (v := undef) rfl (by kernel_rfl) (by kernel_rfl) (by kernel_rfl) (fun _ _ _ h => h) (Or.inr ⟨by first | (go_simp; done) | (go_simp; intro h; cases h; done) | (go_simp; simp [undef]; done), rfl⟩) hS ?_
   try simp only [sput]
   refine wpAnyH_take (i := 12) (v := undef) rfl (by kernel_rfl) (by kernel_rfl) (by kernel_rfl) (fun _ _ _ h => h) (Or.inr ⟨by first | (go_simp; done) | (go_simp; intro h; cases h; done) | (go_simp; simp [undef]; done), rfl⟩) hS ?_
   try simp only [sput]
   refine tkS (i := 13) (v := .bool true) rfl (by kernel_rfl) (by first | rfl | go_simp) (fun wx hx => by go_simp) hS ?_
   try simp only [sput]
   refine wpAnyH_done (by kernel_rfl) ?_ _
   clear hS
   go_wp2
   go_ret
   exact ⟨retB HBAD.out.symm, below_drewN (below1 _ _) 1⟩
 ·have hk1 : k < 1 := by omega
  have HBAD : Hid (R = false) := hideP (by rw [HRR.out, decide_eq_false (by omega)]; simp)
  clear HU hneq HF HRR
  simp only [ndV]
  go_enter Tryz.func135, Tryz.ntmps135
  go_wp2_with fail
  refine wp_region_held_drew (S := fun x => x.cell? ⟨w.heap.size, 0, none⟩ = some (.int .i64 k)) (by kernel_rfl) (by simp [go_sem]) (fun hS => ?_)
  refine tkS (i := 0) (v := .pointer (some ⟨w.heap.size, 0, none⟩)) rfl (by kernel_rfl) (by first | rfl | go_simp) (fun wx hx => by go_simp) hS ?_
  try simp only [sput]
  refine tkS (i := 1) (v := .int .i64 k) rfl (by kernel_rfl) (by first | rfl | go_simp) (fun wx hx => by go_simp) hS ?_
  try simp only [sput]
  refine tkS (i := 2) (v := .bool true) rfl (by kernel_rfl) (by first | rfl | go_simp) (fun wx hx => by go_simp) hS ?_
  try simp only [sput]
  refine tkS (i := 3) (v := .bool true) rfl (by kernel_rfl) (by first | rfl | go_simp) (fun wx hx => by go_simp) hS ?_
  try simp only [sput]
  refine wpAnyH_take (i := 4) (v := undef) rfl (by kernel_rfl) (by kernel_rfl) (by kernel_rfl) (fun _ _ _ h => h) (Or.inr ⟨by first | (go_simp; done) | (go_simp; intro h; cases h; done) | (go_simp; simp [undef]; done), rfl⟩) hS ?_
  try simp only [sput]
  refine wpAnyH_take (i := 5) (v := undef) rfl (by kernel_rfl) (by kernel_rfl) (by kernel_rfl) (fun _ _ _ h => h) (Or.inr ⟨by first | (go_simp; done) | (go_simp; intro h; cases h; done) | (go_simp; simp [undef]; done), rfl⟩) hS ?_
  try simp only [sput]
  refine wpAnyH_take (i := 6) (v := undef) rfl (by kernel_rfl) (by kernel_rfl) (by kernel_rfl) (fun _ _ _ h => h) (Or.inr ⟨by first | (go_simp; done) | (go_simp; intro h; cases h; done) | (go_simp; simp [undef]; done), rfl⟩) hS ?_
  try simp only [sput]
  refine tkS (i := 7) (v := .bool true) rfl (by kernel_rfl) (by first | rfl | go_simp) (fun wx hx => by go_simp) hS ?_
  try simp only [sput]
  refine tkS (i := 8) (v := .bool true) rfl (by kernel_rfl) (by first | rfl | go_simp) (fun wx hx => by go_simp) hS ?_
  try simp only [sput]
  refine wpAnyH_take (i := 9) (v := undef) rfl (by kernel_rfl) (by kernel_rfl) (by kernel_rfl) (fun _ _ _ h => h) (Or.inr ⟨by first | (go_simp; done) | (go_simp; intro h; cases h; done) | (go_simp; simp [undef]; done), rfl⟩) hS ?_
  try simp only [sput]
  refine wpAnyH_take (i := 10) (v := undef) rfl (by kernel_rfl) (by kernel_rfl) (by kernel_rfl) (fun _ _ _ h => h) (Or.inr ⟨by first | (go_simp; done) | (go_simp; intro h; cases h; done) | (go_simp; simp [undef]; done), rfl⟩) hS ?_
  try simp only [sput]
  refine wpAnyH_take (i := 11) (v := undef) rfl (by kernel_rfl) (by kernel_rfl) (by kernel_rfl) (fun _ _ _ h => h) (Or.inr ⟨by first | (go_simp; done) | (go_simp; intro h; cases h; done) | (go_simp; simp [undef]; done), rfl⟩) hS ?_
  try simp only [sput]
  refine wpAnyH_take (i := 12) (v := undef) rfl (by kernel_rfl) (by kernel_rfl) (by kernel_rfl) (fun _ _ _ h => h) (Or.inr ⟨by first | (go_simp; done) | (go_simp; intro h; cases h; done) | (go_simp; simp [undef]; done), rfl⟩) hS ?_
  try simp only [sput]
  refine tkS (i := 13) (v := .bool true) rfl (by kernel_rfl) (by first | rfl | go_simp) (fun wx hx => by go_simp) hS ?_
  try simp only [sput]
  refine wpAnyH_done (by kernel_rfl) ?_ _
  clear hS
  go_wp2
  go_ret
  exact ⟨retB HBAD.out.symm, below_drewN (below1 _ _) 1⟩
def listB (xs : List Nd) : Bool := decide (xs.length ≤ 20000) && okFrom xs.length 0 [] xs
def stk (T : List Int) (N : Int) : List Int := (T ++ [N]).reverse
theorem stk_len (T : List Int) (N : Int) : (stk T N).length = T.length + 1 := by simp [stk]
theorem stk_cons (e : Int) (T : List Int) (N : Int) : stk (e :: T) N = stk T N ++ [e] := by simp [stk]
abbrev IR (w : World) (base : Nat) (v : Value) (m : Nat) (S : List Int) : Prop := w.ownsRow base 3 1 v m (S.map (Value.int .i64))
theorem stk_top {w : World} {base g q c : Nat} {U : List Int} {N : Int} (h : IR w base (.slice (some ⟨g, 0, none⟩) (q + 1) c) (q + 1) (stk U N)) (hU : U.length = q) : w.cell? ⟨g, q, none⟩ = some (.int .i64 (U.headD N)) := by
 rw [World.ownsRow.cellAt h q (by omega)]
 rw [List.getElem?_map]
 have : (stk U N)[q]? = some (U.headD N) := by
  subst hU
  unfold stk
  rw [List.getElem?_reverse (by simp)]
  cases U <;> simp
 rw [this]
 rfl
theorem stk_pop {w : World} {base g q c : Nat} {e : Int} {U : List Int} {N : Int} (h : IR w base (.slice (some ⟨g, 0, none⟩) (q + 1 + 1) c) (q + 1 + 1) (stk (e :: U) N)) (hU : U.length = q) : IR w base (.slice (some ⟨g, 0, none⟩) (q + 1) c) (q + 1) (stk U N) := by
 rw [stk_cons, IR, List.map_append] at h
 exact ownsRow_pop (by simp [stk_len, hU]) h
theorem stk_cap {w : World} {base g m c : Nat} {S : List Int} (h : IR w base (.slice (some ⟨g, 0, none⟩) m c) m S) : m ≤ c ∧ c ≤ 9223372036854775807 ∧ base ≤ g ∧ g < w.heap.size := by
 rcases h.2 with ⟨h0, _⟩ | ⟨g', cap', cur, h0, hb, hg, hm, hc, _⟩
 ·simp at h0
 ·simp at h0
  obtain ⟨rfl, rfl⟩ := h0
  unfold maxLen at hc
  exact ⟨hm, hc, hb, (Array.getElem?_eq_some_iff.1 hg).1⟩
theorem IR.below {w w' : World} {base : Nat} {v : Value} {m : Nat} {S : List Int} (h : IR w base v m S) (hb : Below w.heap.size w w') : IR w' base v m S := by
 obtain ⟨h1, h2⟩ := h
 refine ⟨h1, ?_⟩
 rcases h2 with h2 | ⟨g, cap, cur, hv, hg, hh, hr⟩
 ·exact .inl h2
 ·exact .inr ⟨g, cap, cur, hv, hg, (hb.block g (Array.getElem?_eq_some_iff.1 hh).1).trans hh, hr⟩
structure Left (xs : List Nd) (k : Nat) (T : List Int) : Prop where
 opn : Open k T
 most : ∀ y ∈ T, y ≤ xs.length
 same : okFrom xs.length 0 [] xs = okFrom xs.length k T (xs.drop k)
theorem Left.start (xs : List Nd) : Left xs 0 [] := ⟨⟨by simp, by simp⟩, by simp, rfl⟩
theorem Left.done {xs : List Nd} {T : List Int} (h : Left xs xs.length T) : okFrom xs.length 0 [] xs = true := by
 rw [h.same]
 simp [okFrom]
theorem drop_at {xs : List Nd} {k : Nat} (hk : k < xs.length) : xs.drop k = xs.getD k Nd.none :: xs.drop (k + 1) := by
 rw [List.drop_eq_getElem_cons hk]
 simp [List.getD, List.getElem?_eq_getElem hk]
theorem Left.step {xs : List Nd} {k : Nat} {T : List Int} (h : Left xs k T) (hk : k < xs.length) : okFrom xs.length 0 [] xs =
 (goodB (xs.getD k Nd.none) && decide ((xs.getD k Nd.none).kids ≤ (T.dropWhile (· == (k : Int))).headD xs.length - k - 1) && (!deepB (xs.getD k Nd.none) || decide ((T.dropWhile (· == (k : Int))).length ≤ 40)) &&
  okFrom xs.length (k + 1) (if deepB (xs.getD k Nd.none) then ((k : Int) + 1 + (xs.getD k Nd.none).kids) :: T.dropWhile (· == (k : Int)) else T.dropWhile (· == (k : Int))) (xs.drop (k + 1))) := by
 rw [h.same, drop_at hk]
 rfl
theorem drop_mem {p : Int → Bool} {T : List Int} {y : Int} (h : y ∈ T.dropWhile p) : y ∈ T := (List.dropWhile_sublist p).subset h
theorem Left.top {xs : List Nd} {k : Nat} {T : List Int} (h : Left xs k T) (hk : k < xs.length) : (k : Int) + 1 ≤ (T.dropWhile (· == (k : Int))).headD xs.length ∧ (T.dropWhile (· == (k : Int))).headD xs.length ≤ xs.length := by
 refine ⟨h.opn.pop.head (by omega), ?_⟩
 cases he : T.dropWhile (· == (k : Int)) with
 | nil => simp
 | cons a U =>
  have := h.most a (drop_mem (by rw [he]; exact List.mem_cons_self ..))
  simpa using this
theorem Left.bad {xs : List Nd} {k : Nat} {T : List Int} (h : Left xs k T) (hk : k < xs.length) (hg : goodB (xs.getD k Nd.none) = false) : okFrom xs.length 0 [] xs = false := by
 rw [h.step hk, hg]
 rfl
theorem Left.over {xs : List Nd} {k : Nat} {T : List Int} (h : Left xs k T) (hk : k < xs.length) (hg : ¬ (xs.getD k Nd.none).kids ≤ (T.dropWhile (· == (k : Int))).headD xs.length - k - 1) : okFrom xs.length 0 [] xs = false := by
 rw [h.step hk, decide_eq_false hg]
 simp
theorem Left.nest {xs : List Nd} {k : Nat} {T : List Int} (h : Left xs k T) (hk : k < xs.length) (hd : deepB (xs.getD k Nd.none) = true) (hg : ¬ (T.dropWhile (· == (k : Int))).length ≤ 40) : okFrom xs.length 0 [] xs = false := by
 rw [h.step hk, hd, decide_eq_false hg]
 simp
theorem Left.flat {xs : List Nd} {k : Nat} {T : List Int} (h : Left xs k T) (hk : k < xs.length) (hg : goodB (xs.getD k Nd.none) = true) (hd : deepB (xs.getD k Nd.none) = false) : Left xs (k + 1) (T.dropWhile (· == (k : Int))) := by
 refine ⟨by simpa using h.opn.pop, fun y hy => h.most y (drop_mem hy), ?_⟩
 have h0 := flat_kids hg hd
 have ht := h.top hk
 rw [h.step hk, hg, hd, h0, decide_eq_true (by omega)]
 simp
theorem Left.deep {xs : List Nd} {k : Nat} {T : List Int} (h : Left xs k T) (hk : k < xs.length) (hg : goodB (xs.getD k Nd.none) = true) (hd : deepB (xs.getD k Nd.none) = true) (hle : (xs.getD k Nd.none).kids ≤ (T.dropWhile (· == (k : Int))).headD xs.length - k - 1) (hn : (T.dropWhile (· == (k : Int))).length ≤ 40) :
 Left xs (k + 1) (((k : Int) + 1 + (xs.getD k Nd.none).kids) :: T.dropWhile (· == (k : Int))) := by
 have hk0 : 0 ≤ (xs.getD k Nd.none).kids := by
  unfold goodB at hg
  simp at hg
  exact hg.2
 have ht := h.top hk
 refine ⟨Open.push (by simpa using h.opn.pop) (by push_cast; omega) fun len => ?_, fun y hy => ?_, ?_⟩
 ·cases he : T.dropWhile (· == (k : Int)) with
  | nil => exact .inr rfl
  | cons a U =>
   rw [he] at hle
   simp at hle ⊢
   omega
 ·rcases List.mem_cons.1 hy with rfl | hy
  ·omega
  ·exact h.most y (drop_mem hy)
 ·rw [h.step hk, hg, hd, decide_eq_true hle, decide_eq_true hn]
  simp
theorem popped {k : Int} {n : Int} {U T : List Int} (h : U.dropWhile (· == k) = T.dropWhile (· == k)) (hne : U.headD n ≠ k) : U = T.dropWhile (· == k) := by
 rw [← h]
 cases U with
 | nil => rfl
 | cons a U =>
  have : (a == k) = false := by simpa using hne
  simp [List.dropWhile, this]
theorem rev_top {w : World} {base g q c : Nat} {a : Int} {U : List Int} (h : IR w base (.slice (some ⟨g, 0, none⟩) (q + 1) c) (q + 1) (a :: U).reverse) (hU : U.length = q) : w.cell? ⟨g, q, none⟩ = some (.int .i64 a) := by
 rw [World.ownsRow.cellAt h q (by omega), List.getElem?_map]
 have : ((a :: U).reverse)[q]? = some a := by
  subst hU
  rw [List.getElem?_reverse (by simp)]
  simp
 rw [this]
 rfl
theorem rev_pop {w : World} {base g q c : Nat} {a : Int} {U : List Int} (h : IR w base (.slice (some ⟨g, 0, none⟩) (q + 1) c) (q + 1) (a :: U).reverse) (hU : U.length = q) : IR w base (.slice (some ⟨g, 0, none⟩) q c) q U.reverse := by
 rw [List.reverse_cons, IR, List.map_append] at h
 exact ownsRow_pop (by simp [hU]) h
structure LeftS (xs : List Nd) (k : Nat) (T : List Int) (m : Int) : Prop where
 opn : Open k T
 most : ∀ y ∈ T, y ≤ xs.length
 len : T.length ≤ k
 pos : 0 ≤ m
 small : m ≤ k + 1
 same : okFrom xs.length 0 [] xs = (decide (m ≤ 41) && okFrom xs.length k T (xs.drop k))
theorem LeftS.start (xs : List Nd) : LeftS xs 0 [] 0 := ⟨⟨by simp, by simp⟩, by simp, by simp, by omega, by omega, by simp⟩
theorem LeftS.done {xs : List Nd} {T : List Int} {m : Int} (h : LeftS xs xs.length T m) : okFrom xs.length 0 [] xs = decide (m ≤ 41) := by
 rw [h.same]
 simp [okFrom]
theorem LeftS.step {xs : List Nd} {k : Nat} {T : List Int} {m : Int} (h : LeftS xs k T m) (hk : k < xs.length) : okFrom xs.length 0 [] xs = (decide (m ≤ 41) &&
 (goodB (xs.getD k Nd.none) && decide ((xs.getD k Nd.none).kids ≤ (T.dropWhile (· == (k : Int))).headD xs.length - k - 1) && (!deepB (xs.getD k Nd.none) || decide ((T.dropWhile (· == (k : Int))).length ≤ 40)) &&
  okFrom xs.length (k + 1) (if deepB (xs.getD k Nd.none) then ((k : Int) + 1 + (xs.getD k Nd.none).kids) :: T.dropWhile (· == (k : Int)) else T.dropWhile (· == (k : Int))) (xs.drop (k + 1)))) := by
 rw [h.same, drop_at hk]
 rfl
theorem LeftS.top {xs : List Nd} {k : Nat} {T : List Int} {m : Int} (h : LeftS xs k T m) (hk : k < xs.length) : (k : Int) + 1 ≤ (T.dropWhile (· == (k : Int))).headD xs.length ∧ (T.dropWhile (· == (k : Int))).headD xs.length ≤ xs.length := by
 refine ⟨h.opn.pop.head (by omega), ?_⟩
 cases he : T.dropWhile (· == (k : Int)) with
 | nil => simp
 | cons a U =>
  have := h.most a (drop_mem (by rw [he]; exact List.mem_cons_self ..))
  simpa using this
theorem LeftS.bad {xs : List Nd} {k : Nat} {T : List Int} {m : Int} (h : LeftS xs k T m) (hk : k < xs.length) (hg : goodB (xs.getD k Nd.none) = false) : okFrom xs.length 0 [] xs = false := by
 rw [h.step hk, hg]
 simp
theorem LeftS.over {xs : List Nd} {k : Nat} {T : List Int} {m : Int} (h : LeftS xs k T m) (hk : k < xs.length) (hg : ¬ (xs.getD k Nd.none).kids ≤ (T.dropWhile (· == (k : Int))).headD xs.length - k - 1) : okFrom xs.length 0 [] xs = false := by
 rw [h.step hk, decide_eq_false hg]
 simp
theorem drop_len {p : Int → Bool} (T : List Int) : (T.dropWhile p).length ≤ T.length := (List.dropWhile_sublist p).length_le
theorem LeftS.flat {xs : List Nd} {k : Nat} {T : List Int} {m : Int} (h : LeftS xs k T m) (hk : k < xs.length) (hg : goodB (xs.getD k Nd.none) = true) (hd : deepB (xs.getD k Nd.none) = false) : LeftS xs (k + 1) (T.dropWhile (· == (k : Int))) m := by
 have h0 := flat_kids hg hd
 have ht := h.top hk
 refine ⟨by simpa using h.opn.pop, fun y hy => h.most y (drop_mem hy), Nat.le_trans (drop_len T) (Nat.le_succ_of_le h.len), h.pos, by have := h.small; push_cast; omega, ?_⟩
 rw [h.step hk, hg, hd, h0, decide_eq_true (p := (0 : Int) ≤ (T.dropWhile (· == (k : Int))).headD xs.length - k - 1) (by omega)]
 simp
def mostOf (m : Int) (q : Nat) : Int := if m < (q : Int) + 1 then (q : Int) + 1 else m
theorem mostOf_le (m : Int) (q : Nat) (r : Bool) : (decide (m ≤ 41) && (decide (q ≤ 40) && r)) = (decide (mostOf m q ≤ 41) && r) := by
 unfold mostOf
 cases r <;> simp
 split
 ·rw [Bool.eq_iff_iff]; simp; omega
 ·rw [Bool.eq_iff_iff]; simp; omega
theorem LeftS.deep {xs : List Nd} {k : Nat} {T : List Int} {m : Int} (h : LeftS xs k T m) (hk : k < xs.length) (hg : goodB (xs.getD k Nd.none) = true) (hd : deepB (xs.getD k Nd.none) = true) (hle : (xs.getD k Nd.none).kids ≤ (T.dropWhile (· == (k : Int))).headD xs.length - k - 1) :
 LeftS xs (k + 1) (((k : Int) + 1 + (xs.getD k Nd.none).kids) :: T.dropWhile (· == (k : Int))) (mostOf m (T.dropWhile (· == (k : Int))).length) := by
 have hk0 : 0 ≤ (xs.getD k Nd.none).kids := by
  unfold goodB at hg
  simp at hg
  exact hg.2
 have ht := h.top hk
 have hl := drop_len (p := (· == (k : Int))) T
 have hl2 := h.len
 have hs := h.small
 have hp := h.pos
 refine ⟨Open.push (by simpa using h.opn.pop) (by push_cast; omega) fun len => ?_, fun y hy => ?_, by simp; omega, by unfold mostOf; split <;> omega, by unfold mostOf; push_cast; split <;> omega, ?_⟩
 ·cases he : T.dropWhile (· == (k : Int)) with
  | nil => exact .inr rfl
  | cons a U =>
   rw [he] at hle
   simp at hle ⊢
   omega
 ·rcases List.mem_cons.1 hy with rfl | hy
  ·omega
  ·exact h.most y (drop_mem hy)
 ·rw [h.step hk, hg, hd, decide_eq_true hle]
  simp only [Bool.true_and, Bool.not_true, Bool.false_or, if_true]
  rw [mostOf_le]
  push_cast
  rfl
theorem LeftS.empty {xs : List Nd} {k : Nat} {U : List Int} {m : Int} (h : LeftS xs (k + 1) (((k : Int) + 1) :: U) m) : LeftS xs (k + 1) U m := by
 refine ⟨⟨fun y hy => h.opn.1 y (List.mem_cons_of_mem _ hy), (List.pairwise_cons.1 h.opn.2).2⟩, fun y hy => h.most y (List.mem_cons_of_mem _ hy), by have := h.len; simp at this; omega, h.pos, h.small, ?_⟩
 rw [h.same]
 have := okFrom_pad xs.length ((k : Int) + 1) U (xs.drop (k + 1))
 push_cast
 rw [this]
end Go.Proofs.YtojoehdmjkgnnaaGreat
