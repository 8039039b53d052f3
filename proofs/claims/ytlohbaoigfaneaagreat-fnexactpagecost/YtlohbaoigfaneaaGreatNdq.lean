import Derived.Test.YtlohbaoigfaneaaGreatSts
import Derived.Deep.RegionWith
import Derived.Deep.RegionHeld3
namespace Go.Proofs.YtlohbaoigfaneaaGreat
open Go.RowKit
set_option linter.unusedVariables false
set_option linter.unusedSimpArgs false
theorem Tryz.info61 : (Tryz.prog.info? 61).map (fun i => (i.zero, i.size, i.bytes)) = some (some (ndV Nd.none), 15, 128) := by kernel_rfl
set_option maxHeartbeats 4000000 in
theorem eqNodeS_same {v1 v2 : Value} {xs : List Nd} {w : World} (h1 : NRow 0 w v1 xs) (h2 : NRow 0 w v2 xs) (hs : xs.length ≤ 1048576) :
 Calls Tryz.prog 12 #[v1, v2] w fun e w' => e = .returned (.bool true) ∧ Below w.heap.size w w' := by
 obtain ⟨ao1, n1, cap1, rfl, hn1, hr1⟩ := h1
 obtain ⟨ao2, n2, cap2, rfl, hn2, hr2⟩ := h2
 obtain rfl : n1 = n2 := by omega
 have hx : n1 ≤ 1048576 := by rw [← hn1]; exact hs
 have HL : Hid (xs.length = n1) := hn1
 have HR1 : Hid (0 < n1 → ∃ b off, ao1 = some ⟨b, off, none⟩ ∧ 0 ≤ b ∧ b < w.heap.size ∧ ∀ i, i < n1 → ∃ cs : List Value, cs.length = 15 ∧ NdR 0 w cs (xs.getD i Nd.none) ∧ ∀ j, j < 15 → w.cell? ⟨b, off + i * 15 + j, none⟩ = cs[j]?) := hr1
 have HR2 : Hid (0 < n1 → ∃ b off, ao2 = some ⟨b, off, none⟩ ∧ 0 ≤ b ∧ b < w.heap.size ∧ ∀ i, i < n1 → ∃ cs : List Value, cs.length = 15 ∧ NdR 0 w cs (xs.getD i Nd.none) ∧ ∀ j, j < 15 → w.cell? ⟨b, off + i * 15 + j, none⟩ = cs[j]?) := hr2
 clear hn1 hn2 hr1 hr2 hs
 go_enter Tryz.func12, Tryz.ntmps12
 go_wp2
 go_loopw [5] (fun i wr => ∃ k : Nat, k ≤ n1 ∧ i = .int .i64 k ∧ Below w.heap.size w wr) (fun i _ => n1 - (intOf i).toNat)
 case atStart => exact ⟨0, by omega, rfl, Below.refl _ _⟩
 case round =>
  obtain ⟨k, hk, rfl, hbel⟩ := hrel
  by_cases hkn : k < n1
  ·have hki : (k : Int) < (n1 : Int) := by omega
   obtain ⟨b, off, rfl, hlo, hb, hc⟩ := HR1 (by omega)
   obtain ⟨b', off', rfl, hlo', hb', hc'⟩ := HR2 (by omega)
   obtain ⟨cs, hcl, hRel, hcj⟩ := hc k hkn
   obtain ⟨cs', hcl', hRel', hcj'⟩ := hc' k hkn
   obtain ⟨t, ht⟩ : ∃ t, t = xs.getD k Nd.none := ⟨_, rfl⟩
   rw [← ht] at hRel hRel'
   have HC : Hid (∀ W : World, Calls Tryz.prog 38 #[ndV t, ndV t] W fun r w' => r = .returned (.bool true) ∧ Below W.heap.size W w') := hideP (fun W => eqNode_same t W)
   obtain ⟨kd, wd, hh, dp, sh, fo, ch, nn, gs, gp, gpo, gm, gmo, tx, kids⟩ := t
   rw [show cs = _ from hRel] at hcj
   rw [show cs' = _ from hRel'] at hcj'
   simp only [Nd.cells] at hcj hcj'
   have BD : Below w.heap.size w wr.drew := Below.drew hbel
   have QA : Hid (∀ x, Below w.heap.size w x → x.cell? ⟨b, off + k * 15, none⟩ = some (.int .i64 kd) ∧ x.cell? ⟨b, off + k * 15 + 1, none⟩ = some (.int .i64 wd) ∧ x.cell? ⟨b, off + k * 15 + 2, none⟩ = some (.int .i64 hh) ∧ x.cell? ⟨b, off + k * 15 + 3, none⟩ = some (.int .i64 dp) ∧ x.cell? ⟨b, off + k * 15 + 4, none⟩ = some (.int .i64 sh) ∧ x.cell? ⟨b, off + k * 15 + 5, none⟩ = some (.int .i64 fo) ∧ x.cell? ⟨b, off + k * 15 + 6, none⟩ = some (.int .i64 ch) ∧ x.cell? ⟨b, off + k * 15 + 7, none⟩ = some (.int .i64 nn) ∧ x.cell? ⟨b, off + k * 15 + 8, none⟩ = some (.int .i64 gs) ∧ x.cell? ⟨b, off + k * 15 + 9, none⟩ = some (.int .i64 gp) ∧ x.cell? ⟨b, off + k * 15 + 10, none⟩ = some (.int .i64 gpo) ∧ x.cell? ⟨b, off + k * 15 + 11, none⟩ = some (.int .i64 gm) ∧ x.cell? ⟨b, off + k * 15 + 12, none⟩ = some (.int .i64 gmo) ∧ x.cell? ⟨b, off + k * 15 + 13, none⟩ = some (.string tx) ∧ x.cell? ⟨b, off + k * 15 + 14, none⟩ = some (.int .i64 kids)) := hideP (fun x hx => ⟨(Below.cell hx (p := ⟨b, off + k * 15 + 0, none⟩) hb).trans (hcj 0 (by omega)), (Below.cell hx (p := ⟨b, off + k * 15 + 1, none⟩) hb).trans (hcj 1 (by omega)), (Below.cell hx (p := ⟨b, off + k * 15 + 2, none⟩) hb).trans (hcj 2 (by omega)), (Below.cell hx (p := ⟨b, off + k * 15 + 3, none⟩) hb).trans (hcj 3 (by omega)), (Below.cell hx (p := ⟨b, off + k * 15 + 4, none⟩) hb).trans (hcj 4 (by omega)), (Below.cell hx (p := ⟨b, off + k * 15 + 5, none⟩) hb).trans (hcj 5 (by omega)), (Below.cell hx (p := ⟨b, off + k * 15 + 6, none⟩) hb).trans (hcj 6 (by omega)), (Below.cell hx (p := ⟨b, off + k * 15 + 7, none⟩) hb).trans (hcj 7 (by omega)), (Below.cell hx (p := ⟨b, off + k * 15 + 8, none⟩) hb).trans (hcj 8 (by omega)), (Below.cell hx (p := ⟨b, off + k * 15 + 9, none⟩) hb).trans (hcj 9 (by omega)), (Below.cell hx (p := ⟨b, off + k * 15 + 10, none⟩) hb).trans (hcj 10 (by omega)), (Below.cell hx (p := ⟨b, off + k * 15 + 11, none⟩) hb).trans (hcj 11 (by omega)), (Below.cell hx (p := ⟨b, off + k * 15 + 12, none⟩) hb).trans (hcj 12 (by omega)), (Below.cell hx (p := ⟨b, off + k * 15 + 13, none⟩) hb).trans (hcj 13 (by omega)), (Below.cell hx (p := ⟨b, off + k * 15 + 14, none⟩) hb).trans (hcj 14 (by omega))⟩)
   have QB : Hid (∀ x, Below w.heap.size w x → x.cell? ⟨b', off' + k * 15, none⟩ = some (.int .i64 kd) ∧ x.cell? ⟨b', off' + k * 15 + 1, none⟩ = some (.int .i64 wd) ∧ x.cell? ⟨b', off' + k * 15 + 2, none⟩ = some (.int .i64 hh) ∧ x.cell? ⟨b', off' + k * 15 + 3, none⟩ = some (.int .i64 dp) ∧ x.cell? ⟨b', off' + k * 15 + 4, none⟩ = some (.int .i64 sh) ∧ x.cell? ⟨b', off' + k * 15 + 5, none⟩ = some (.int .i64 fo) ∧ x.cell? ⟨b', off' + k * 15 + 6, none⟩ = some (.int .i64 ch) ∧ x.cell? ⟨b', off' + k * 15 + 7, none⟩ = some (.int .i64 nn) ∧ x.cell? ⟨b', off' + k * 15 + 8, none⟩ = some (.int .i64 gs) ∧ x.cell? ⟨b', off' + k * 15 + 9, none⟩ = some (.int .i64 gp) ∧ x.cell? ⟨b', off' + k * 15 + 10, none⟩ = some (.int .i64 gpo) ∧ x.cell? ⟨b', off' + k * 15 + 11, none⟩ = some (.int .i64 gm) ∧ x.cell? ⟨b', off' + k * 15 + 12, none⟩ = some (.int .i64 gmo) ∧ x.cell? ⟨b', off' + k * 15 + 13, none⟩ = some (.string tx) ∧ x.cell? ⟨b', off' + k * 15 + 14, none⟩ = some (.int .i64 kids)) := hideP (fun x hx => ⟨(Below.cell hx (p := ⟨b', off' + k * 15 + 0, none⟩) hb').trans (hcj' 0 (by omega)), (Below.cell hx (p := ⟨b', off' + k * 15 + 1, none⟩) hb').trans (hcj' 1 (by omega)), (Below.cell hx (p := ⟨b', off' + k * 15 + 2, none⟩) hb').trans (hcj' 2 (by omega)), (Below.cell hx (p := ⟨b', off' + k * 15 + 3, none⟩) hb').trans (hcj' 3 (by omega)), (Below.cell hx (p := ⟨b', off' + k * 15 + 4, none⟩) hb').trans (hcj' 4 (by omega)), (Below.cell hx (p := ⟨b', off' + k * 15 + 5, none⟩) hb').trans (hcj' 5 (by omega)), (Below.cell hx (p := ⟨b', off' + k * 15 + 6, none⟩) hb').trans (hcj' 6 (by omega)), (Below.cell hx (p := ⟨b', off' + k * 15 + 7, none⟩) hb').trans (hcj' 7 (by omega)), (Below.cell hx (p := ⟨b', off' + k * 15 + 8, none⟩) hb').trans (hcj' 8 (by omega)), (Below.cell hx (p := ⟨b', off' + k * 15 + 9, none⟩) hb').trans (hcj' 9 (by omega)), (Below.cell hx (p := ⟨b', off' + k * 15 + 10, none⟩) hb').trans (hcj' 10 (by omega)), (Below.cell hx (p := ⟨b', off' + k * 15 + 11, none⟩) hb').trans (hcj' 11 (by omega)), (Below.cell hx (p := ⟨b', off' + k * 15 + 12, none⟩) hb').trans (hcj' 12 (by omega)), (Below.cell hx (p := ⟨b', off' + k * 15 + 13, none⟩) hb').trans (hcj' 13 (by omega)), (Below.cell hx (p := ⟨b', off' + k * 15 + 14, none⟩) hb').trans (hcj' 14 (by omega))⟩)
   have HB : Hid (Below w.heap.size w wr) := hbel
   have HBD : Hid (Below w.heap.size w wr.drew) := BD
   clear hc hc' hcl hcl' hcj hcj' hbel ht BD hRel hRel'
   go_wp2_with fail
   go_region_held3 (fun x => (x.cell? ⟨b, off + k * 15, none⟩ = some (.int .i64 kd) ∧ x.cell? ⟨b, off + k * 15 + 1, none⟩ = some (.int .i64 wd) ∧ x.cell? ⟨b, off + k * 15 + 2, none⟩ = some (.int .i64 hh) ∧ x.cell? ⟨b, off + k * 15 + 3, none⟩ = some (.int .i64 dp) ∧ x.cell? ⟨b, off + k * 15 + 4, none⟩ = some (.int .i64 sh) ∧ x.cell? ⟨b, off + k * 15 + 5, none⟩ = some (.int .i64 fo) ∧ x.cell? ⟨b, off + k * 15 + 6, none⟩ = some (.int .i64 ch) ∧ x.cell? ⟨b, off + k * 15 + 7, none⟩ = some (.int .i64 nn) ∧ x.cell? ⟨b, off + k * 15 + 8, none⟩ = some (.int .i64 gs) ∧ x.cell? ⟨b, off + k * 15 + 9, none⟩ = some (.int .i64 gp) ∧ x.cell? ⟨b, off + k * 15 + 10, none⟩ = some (.int .i64 gpo) ∧ x.cell? ⟨b, off + k * 15 + 11, none⟩ = some (.int .i64 gm) ∧ x.cell? ⟨b, off + k * 15 + 12, none⟩ = some (.int .i64 gmo) ∧ x.cell? ⟨b, off + k * 15 + 13, none⟩ = some (.string tx) ∧ x.cell? ⟨b, off + k * 15 + 14, none⟩ = some (.int .i64 kids)) ∧ (x.cell? ⟨b', off' + k * 15, none⟩ = some (.int .i64 kd) ∧ x.cell? ⟨b', off' + k * 15 + 1, none⟩ = some (.int .i64 wd) ∧ x.cell? ⟨b', off' + k * 15 + 2, none⟩ = some (.int .i64 hh) ∧ x.cell? ⟨b', off' + k * 15 + 3, none⟩ = some (.int .i64 dp) ∧ x.cell? ⟨b', off' + k * 15 + 4, none⟩ = some (.int .i64 sh) ∧ x.cell? ⟨b', off' + k * 15 + 5, none⟩ = some (.int .i64 fo) ∧ x.cell? ⟨b', off' + k * 15 + 6, none⟩ = some (.int .i64 ch) ∧ x.cell? ⟨b', off' + k * 15 + 7, none⟩ = some (.int .i64 nn) ∧ x.cell? ⟨b', off' + k * 15 + 8, none⟩ = some (.int .i64 gs) ∧ x.cell? ⟨b', off' + k * 15 + 9, none⟩ = some (.int .i64 gp) ∧ x.cell? ⟨b', off' + k * 15 + 10, none⟩ = some (.int .i64 gpo) ∧ x.cell? ⟨b', off' + k * 15 + 11, none⟩ = some (.int .i64 gm) ∧ x.cell? ⟨b', off' + k * 15 + 12, none⟩ = some (.int .i64 gmo) ∧ x.cell? ⟨b', off' + k * 15 + 13, none⟩ = some (.string tx) ∧ x.cell? ⟨b', off' + k * 15 + 14, none⟩ = some (.int .i64 kids))) (first | exact ⟨QA.out _ HBD.out, QB.out _ HBD.out⟩ | exact ⟨QA.out _ ‹Hid (Below w.heap.size w _)›, QB.out _ ‹Hid (Below w.heap.size w _)›⟩) ((go_at_call 38; refine (HC.out _).mono ?_; rintro e w2 ⟨rfl, hb1⟩; have hb2 : Hid (Below w.heap.size w w2) := below_more HBD.out hb1 HBD.out.size; clear hb1))
   all_goals
    go_wp2
    go_roundw
    case rel => exact ⟨k + 1, by omega, by go_num, ‹Hid (Below w.heap.size w w2)›⟩
    case measure => simp [intOf]; omega
  ·have hki : ¬ (k : Int) < (n1 : Int) := by omega
   have HB : Hid (Below w.heap.size w wr) := hbel
   clear hbel
   go_wp2
   go_ret
   exact ⟨rfl, HB⟩
end Go.Proofs.YtlohbaoigfaneaaGreat
