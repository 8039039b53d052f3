/-
  Two rows that read as the same nodes are the same.
-/
import Derived.Test.YtbbehmcekbnkiaaTha
import Derived.Test.YtbbehmcekbnkiaaFng
namespace Go.Proofs.Ytbbehmcekbnkiaa
open Go.RowKit
set_option linter.unusedVariables false
set_option linter.unusedSimpArgs false

set_option maxRecDepth 20000 in
set_option maxHeartbeats 8000000 in
theorem sameNodes_any {v1 v2 : Value} {xs : List Nd} {w : World} (h1 : NRow 0 w v1 xs) (h2 : NRow 0 w v2 xs) (hs : xs.length ≤ 1048576) :
    Calls Try.prog 8 #[v1, v2] w fun e w' => e = .returned (.bool true) ∧ Below w.heap.size w w' := by
  obtain ⟨ao1, n1, cap1, rfl, hn1, hr1⟩ := h1
  obtain ⟨ao2, n2, cap2, rfl, hn2, hr2⟩ := h2
  obtain rfl : n1 = n2 := by omega
  have hx : n1 ≤ 1048576 := by rw [← hn1]; exact hs
  have HL : Hid (xs.length = n1) := hn1
  have HR1 : Hid (0 < n1 → ∃ b off, ao1 = some ⟨b, off, none⟩ ∧ 0 ≤ b ∧ b < w.heap.size ∧ ∀ i, i < n1 → ∃ cs : List Value, cs.length = 15 ∧ NdR 0 w cs (xs.getD i Nd.none) ∧ ∀ j, j < 15 → w.cell? ⟨b, off + i * 15 + j, none⟩ = cs[j]?) := hr1
  have HR2 : Hid (0 < n1 → ∃ b off, ao2 = some ⟨b, off, none⟩ ∧ 0 ≤ b ∧ b < w.heap.size ∧ ∀ i, i < n1 → ∃ cs : List Value, cs.length = 15 ∧ NdR 0 w cs (xs.getD i Nd.none) ∧ ∀ j, j < 15 → w.cell? ⟨b, off + i * 15 + j, none⟩ = cs[j]?) := hr2
  clear hn1 hn2 hr1 hr2 hs
  go_enter Try.func8, Try.ntmps8
  go_wp2
  go_loopw [5] (fun i wr => ∃ k : Nat, k ≤ n1 ∧ i = .int .i64 k ∧ Below w.heap.size w wr) (fun i _ => n1 - (intOf i).toNat)
  case atStart => exact ⟨0, by omega, rfl, Below.refl _ _⟩
  case round =>
    obtain ⟨k, hk, rfl, hbel⟩ := hrel
    by_cases hkn : k < n1
    · have hki : (k : Int) < (n1 : Int) := by omega
      obtain ⟨b, off, rfl, hlo, hb, hc⟩ := HR1 (by omega)
      obtain ⟨b', off', rfl, hlo', hb', hc'⟩ := HR2 (by omega)
      obtain ⟨cs, hcl, hRel, hcj⟩ := hc k hkn
      obtain ⟨cs', hcl', hRel', hcj'⟩ := hc' k hkn
      obtain ⟨t, ht⟩ : ∃ t, t = xs.getD k Nd.none := ⟨_, rfl⟩
      rw [← ht] at hRel hRel'
      have hneq : ∀ W : World, (binOp .neq 32 (ndV t) (ndV t)).run Try.prog W = .ok (.bool false) W := fun W => by
        rw [neqNode, show eqNd t t = true from (eqNd_iff t t).2 rfl]; rfl
      obtain ⟨kd, wd, hh, dp, sh, fo, ch, nn, gs, gp, gpo, gm, gmo, tx, kids⟩ := t
      rw [show cs = _ from hRel] at hcj
      rw [show cs' = _ from hRel'] at hcj'
      simp only [Nd.cells] at hcj hcj'
      have BD : Below w.heap.size w wr.drew := Below.drew hbel
      have HBD := hideP BD
      have hS : (fun x : World => (x.cell? ⟨b, off + k * 15, none⟩ = some (.int .i64 kd) ∧ x.cell? ⟨b, off + k * 15 + 1, none⟩ = some (.int .i64 wd) ∧ x.cell? ⟨b, off + k * 15 + 2, none⟩ = some (.int .i64 hh) ∧ x.cell? ⟨b, off + k * 15 + 3, none⟩ = some (.int .i64 dp) ∧ x.cell? ⟨b, off + k * 15 + 4, none⟩ = some (.int .i64 sh) ∧ x.cell? ⟨b, off + k * 15 + 5, none⟩ = some (.int .i64 fo) ∧ x.cell? ⟨b, off + k * 15 + 6, none⟩ = some (.int .i64 ch) ∧ x.cell? ⟨b, off + k * 15 + 7, none⟩ = some (.int .i64 nn) ∧ x.cell? ⟨b, off + k * 15 + 8, none⟩ = some (.int .i64 gs) ∧ x.cell? ⟨b, off + k * 15 + 9, none⟩ = some (.int .i64 gp) ∧ x.cell? ⟨b, off + k * 15 + 10, none⟩ = some (.int .i64 gpo) ∧ x.cell? ⟨b, off + k * 15 + 11, none⟩ = some (.int .i64 gm) ∧ x.cell? ⟨b, off + k * 15 + 12, none⟩ = some (.int .i64 gmo) ∧ x.cell? ⟨b, off + k * 15 + 13, none⟩ = some (.string tx) ∧ x.cell? ⟨b, off + k * 15 + 14, none⟩ = some (.int .i64 kids)) ∧ (x.cell? ⟨b', off' + k * 15, none⟩ = some (.int .i64 kd) ∧ x.cell? ⟨b', off' + k * 15 + 1, none⟩ = some (.int .i64 wd) ∧ x.cell? ⟨b', off' + k * 15 + 2, none⟩ = some (.int .i64 hh) ∧ x.cell? ⟨b', off' + k * 15 + 3, none⟩ = some (.int .i64 dp) ∧ x.cell? ⟨b', off' + k * 15 + 4, none⟩ = some (.int .i64 sh) ∧ x.cell? ⟨b', off' + k * 15 + 5, none⟩ = some (.int .i64 fo) ∧ x.cell? ⟨b', off' + k * 15 + 6, none⟩ = some (.int .i64 ch) ∧ x.cell? ⟨b', off' + k * 15 + 7, none⟩ = some (.int .i64 nn) ∧ x.cell? ⟨b', off' + k * 15 + 8, none⟩ = some (.int .i64 gs) ∧ x.cell? ⟨b', off' + k * 15 + 9, none⟩ = some (.int .i64 gp) ∧ x.cell? ⟨b', off' + k * 15 + 10, none⟩ = some (.int .i64 gpo) ∧ x.cell? ⟨b', off' + k * 15 + 11, none⟩ = some (.int .i64 gm) ∧ x.cell? ⟨b', off' + k * 15 + 12, none⟩ = some (.int .i64 gmo) ∧ x.cell? ⟨b', off' + k * 15 + 13, none⟩ = some (.string tx) ∧ x.cell? ⟨b', off' + k * 15 + 14, none⟩ = some (.int .i64 kids))) wr.drew := ⟨⟨(BD.cell (p := ⟨b, off + k * 15, none⟩) hb).trans (hcj 0 (by omega)), (BD.cell (p := ⟨b, off + k * 15 + 1, none⟩) hb).trans (hcj 1 (by omega)), (BD.cell (p := ⟨b, off + k * 15 + 2, none⟩) hb).trans (hcj 2 (by omega)), (BD.cell (p := ⟨b, off + k * 15 + 3, none⟩) hb).trans (hcj 3 (by omega)), (BD.cell (p := ⟨b, off + k * 15 + 4, none⟩) hb).trans (hcj 4 (by omega)), (BD.cell (p := ⟨b, off + k * 15 + 5, none⟩) hb).trans (hcj 5 (by omega)), (BD.cell (p := ⟨b, off + k * 15 + 6, none⟩) hb).trans (hcj 6 (by omega)), (BD.cell (p := ⟨b, off + k * 15 + 7, none⟩) hb).trans (hcj 7 (by omega)), (BD.cell (p := ⟨b, off + k * 15 + 8, none⟩) hb).trans (hcj 8 (by omega)), (BD.cell (p := ⟨b, off + k * 15 + 9, none⟩) hb).trans (hcj 9 (by omega)), (BD.cell (p := ⟨b, off + k * 15 + 10, none⟩) hb).trans (hcj 10 (by omega)), (BD.cell (p := ⟨b, off + k * 15 + 11, none⟩) hb).trans (hcj 11 (by omega)), (BD.cell (p := ⟨b, off + k * 15 + 12, none⟩) hb).trans (hcj 12 (by omega)), (BD.cell (p := ⟨b, off + k * 15 + 13, none⟩) hb).trans (hcj 13 (by omega)), (BD.cell (p := ⟨b, off + k * 15 + 14, none⟩) hb).trans (hcj 14 (by omega))⟩, ⟨(BD.cell (p := ⟨b', off' + k * 15, none⟩) hb').trans (hcj' 0 (by omega)), (BD.cell (p := ⟨b', off' + k * 15 + 1, none⟩) hb').trans (hcj' 1 (by omega)), (BD.cell (p := ⟨b', off' + k * 15 + 2, none⟩) hb').trans (hcj' 2 (by omega)), (BD.cell (p := ⟨b', off' + k * 15 + 3, none⟩) hb').trans (hcj' 3 (by omega)), (BD.cell (p := ⟨b', off' + k * 15 + 4, none⟩) hb').trans (hcj' 4 (by omega)), (BD.cell (p := ⟨b', off' + k * 15 + 5, none⟩) hb').trans (hcj' 5 (by omega)), (BD.cell (p := ⟨b', off' + k * 15 + 6, none⟩) hb').trans (hcj' 6 (by omega)), (BD.cell (p := ⟨b', off' + k * 15 + 7, none⟩) hb').trans (hcj' 7 (by omega)), (BD.cell (p := ⟨b', off' + k * 15 + 8, none⟩) hb').trans (hcj' 8 (by omega)), (BD.cell (p := ⟨b', off' + k * 15 + 9, none⟩) hb').trans (hcj' 9 (by omega)), (BD.cell (p := ⟨b', off' + k * 15 + 10, none⟩) hb').trans (hcj' 10 (by omega)), (BD.cell (p := ⟨b', off' + k * 15 + 11, none⟩) hb').trans (hcj' 11 (by omega)), (BD.cell (p := ⟨b', off' + k * 15 + 12, none⟩) hb').trans (hcj' 12 (by omega)), (BD.cell (p := ⟨b', off' + k * 15 + 13, none⟩) hb').trans (hcj' 13 (by omega)), (BD.cell (p := ⟨b', off' + k * 15 + 14, none⟩) hb').trans (hcj' 14 (by omega))⟩⟩
      clear hc hc' hcl hcl' hcj hcj' hbel ht BD hRel hRel'
      go_upto_region 6 with fail
      refine wp_region_held_drew (S := fun x => (x.cell? ⟨b, off + k * 15, none⟩ = some (.int .i64 kd) ∧ x.cell? ⟨b, off + k * 15 + 1, none⟩ = some (.int .i64 wd) ∧ x.cell? ⟨b, off + k * 15 + 2, none⟩ = some (.int .i64 hh) ∧ x.cell? ⟨b, off + k * 15 + 3, none⟩ = some (.int .i64 dp) ∧ x.cell? ⟨b, off + k * 15 + 4, none⟩ = some (.int .i64 sh) ∧ x.cell? ⟨b, off + k * 15 + 5, none⟩ = some (.int .i64 fo) ∧ x.cell? ⟨b, off + k * 15 + 6, none⟩ = some (.int .i64 ch) ∧ x.cell? ⟨b, off + k * 15 + 7, none⟩ = some (.int .i64 nn) ∧ x.cell? ⟨b, off + k * 15 + 8, none⟩ = some (.int .i64 gs) ∧ x.cell? ⟨b, off + k * 15 + 9, none⟩ = some (.int .i64 gp) ∧ x.cell? ⟨b, off + k * 15 + 10, none⟩ = some (.int .i64 gpo) ∧ x.cell? ⟨b, off + k * 15 + 11, none⟩ = some (.int .i64 gm) ∧ x.cell? ⟨b, off + k * 15 + 12, none⟩ = some (.int .i64 gmo) ∧ x.cell? ⟨b, off + k * 15 + 13, none⟩ = some (.string tx) ∧ x.cell? ⟨b, off + k * 15 + 14, none⟩ = some (.int .i64 kids)) ∧ (x.cell? ⟨b', off' + k * 15, none⟩ = some (.int .i64 kd) ∧ x.cell? ⟨b', off' + k * 15 + 1, none⟩ = some (.int .i64 wd) ∧ x.cell? ⟨b', off' + k * 15 + 2, none⟩ = some (.int .i64 hh) ∧ x.cell? ⟨b', off' + k * 15 + 3, none⟩ = some (.int .i64 dp) ∧ x.cell? ⟨b', off' + k * 15 + 4, none⟩ = some (.int .i64 sh) ∧ x.cell? ⟨b', off' + k * 15 + 5, none⟩ = some (.int .i64 fo) ∧ x.cell? ⟨b', off' + k * 15 + 6, none⟩ = some (.int .i64 ch) ∧ x.cell? ⟨b', off' + k * 15 + 7, none⟩ = some (.int .i64 nn) ∧ x.cell? ⟨b', off' + k * 15 + 8, none⟩ = some (.int .i64 gs) ∧ x.cell? ⟨b', off' + k * 15 + 9, none⟩ = some (.int .i64 gp) ∧ x.cell? ⟨b', off' + k * 15 + 10, none⟩ = some (.int .i64 gpo) ∧ x.cell? ⟨b', off' + k * 15 + 11, none⟩ = some (.int .i64 gm) ∧ x.cell? ⟨b', off' + k * 15 + 12, none⟩ = some (.int .i64 gmo) ∧ x.cell? ⟨b', off' + k * 15 + 13, none⟩ = some (.string tx) ∧ x.cell? ⟨b', off' + k * 15 + 14, none⟩ = some (.int .i64 kids))) (by kernel_rfl) hS (fun hS => ?_)
      refine tkS (i := 0) (v := .slice (some ⟨b, off, none⟩) n1 cap1) rfl hS ?_
      try simp only [Act.put, List.getElem_toArray, List.getElem_cons_zero, List.getElem_cons_succ, List.setIfInBounds_toArray, List.set_cons_zero, List.set_cons_succ]
      refine tkS (i := 1) (v := .int .i64 (k : Int)) rfl hS ?_
      try simp only [Act.put, List.getElem_toArray, List.getElem_cons_zero, List.getElem_cons_succ, List.setIfInBounds_toArray, List.set_cons_zero, List.set_cons_succ]
      refine tkS (i := 2) (v := .pointer (some ⟨b, off + k * 15, none⟩)) rfl hS ?_
      try simp only [Act.put, List.getElem_toArray, List.getElem_cons_zero, List.getElem_cons_succ, List.setIfInBounds_toArray, List.set_cons_zero, List.set_cons_succ]
      refine tkS (i := 3) (v := ndV ⟨kd, wd, hh, dp, sh, fo, ch, nn, gs, gp, gpo, gm, gmo, tx, kids⟩) rfl hS ?_
      try simp only [Act.put, List.getElem_toArray, List.getElem_cons_zero, List.getElem_cons_succ, List.setIfInBounds_toArray, List.set_cons_zero, List.set_cons_succ]
      refine tkS (i := 4) (v := .slice (some ⟨b', off', none⟩) n1 cap2) rfl hS ?_
      try simp only [Act.put, List.getElem_toArray, List.getElem_cons_zero, List.getElem_cons_succ, List.setIfInBounds_toArray, List.set_cons_zero, List.set_cons_succ]
      refine tkS (i := 5) (v := .int .i64 (k : Int)) rfl hS ?_
      try simp only [Act.put, List.getElem_toArray, List.getElem_cons_zero, List.getElem_cons_succ, List.setIfInBounds_toArray, List.set_cons_zero, List.set_cons_succ]
      refine tkS (i := 6) (v := .pointer (some ⟨b', off' + k * 15, none⟩)) rfl hS ?_
      try simp only [Act.put, List.getElem_toArray, List.getElem_cons_zero, List.getElem_cons_succ, List.setIfInBounds_toArray, List.set_cons_zero, List.set_cons_succ]
      refine tkS (i := 7) (v := ndV ⟨kd, wd, hh, dp, sh, fo, ch, nn, gs, gp, gpo, gm, gmo, tx, kids⟩) rfl hS ?_
      try simp only [Act.put, List.getElem_toArray, List.getElem_cons_zero, List.getElem_cons_succ, List.setIfInBounds_toArray, List.set_cons_zero, List.set_cons_succ]
      refine tkS (i := 8) (v := .bool false) rfl hS ?_
      try simp only [Act.put, List.getElem_toArray, List.getElem_cons_zero, List.getElem_cons_succ, List.setIfInBounds_toArray, List.set_cons_zero, List.set_cons_succ]
      refine wpAnyH_done (by kernel_rfl) ?_ _
      go_wp2
      go_roundw
      case rel => exact ⟨k + 1, by omega, by go_num, HBD.out⟩
      case measure => simp [intOf]; omega
    · have hki : ¬ (k : Int) < (n1 : Int) := by omega
      have HB : Hid (Below w.heap.size w wr) := hbel
      clear hbel
      go_wp2
      go_ret
      exact ⟨rfl, HB⟩
end Go.Proofs.Ytbbehmcekbnkiaa
