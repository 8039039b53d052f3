/-
  The law of Widths.
-/
import Derived.Test.YticalmdhbgkbbaaGreatOpt
import Derived.Test.YticalmdhbgkbbaaGreatOpn
import Derived.Test.YticalmdhbgkbbaaGreatTow
import Derived.Test.YticalmdhbgkbbaaGreatTzw
import Derived.Deep.RegionHeld3
namespace Go.Proofs.YticalmdhbgkbbaaGreat
open Go.RowKit
set_option linter.unusedVariables false
set_option linter.unusedSimpArgs false

set_option maxHeartbeats 2000000 in
theorem eqCell_same (x : Cl) {v v' : Value} {w : World} (h : NRow 0 w v x.ns) (h' : NRow 0 w v' x.ns) (hs : SmC x) :
    Calls Tryz.prog 129 #[clV x v, clV x v'] w fun e w' => e = .returned (.bool true) ∧ Below w.heap.size w w' := by
  obtain ⟨ua, un, uc, rfl⟩ : ∃ a n c, v = .slice a n c := by obtain ⟨a, c, rfl⟩ := h.shape; exact ⟨_, _, _, rfl⟩
  obtain ⟨va, vn, vc, rfl⟩ : ∃ a n c, v' = .slice a n c := by obtain ⟨a, c, rfl⟩ := h'.shape; exact ⟨_, _, _, rfl⟩
  have HC : Hid (∀ (W : World), Below w.heap.size w W → Calls Tryz.prog 14 #[.slice ua un uc, .slice va vn vc] W fun e w' => e = .returned (.bool true) ∧ Below W.heap.size W w') := hideP (fun W hW => eqNodeS_same (h.below ndStable hW) (h'.below ndStable hW) hs.1)
  clear h h' hs
  obtain ⟨sp, al, ns⟩ := x
  simp only [clV, rwV, tbV]
  go_enter Tryz.func129, Tryz.ntmps129
  go_wp2_with fail
  refine (HC.out _ (below2 _ _ _)).mono ?_
  rintro e w1 ⟨rfl, hb1⟩
  have hy1 : w.heap.size + 1 < w1.heap.size := by have := hb1.size; simp at this; omega
  have hx1 : w.heap.size < w1.heap.size := by omega
  have B1 : Hid (Below w.heap.size w w1) := hideP (below_more (below2 _ _ _) hb1 (by simp; omega))
  obtain ⟨hc1, hf1⟩ := bcell hb1
  simp only [World.size_alloc, World.size_setCell] at hc1 hf1
  clear hb1
  go_wp2
  go_ret
  exact ⟨rfl, B1⟩

set_option maxHeartbeats 4000000 in
theorem eqCellS_same {v1 v2 : Value} {xs : List Cl} {w : World} (h1 : CRowN 0 w v1 xs) (h2 : CRowN 0 w v2 xs) (hs : xs.length ≤ 1048576 ∧ ∀ i, i < xs.length → SmC (xs.getD i Cl.none)) :
    Calls Tryz.prog 116 #[v1, v2] w fun e w' => e = .returned (.bool true) ∧ Below w.heap.size w w' := by
  obtain ⟨ao1, n1, cap1, rfl, hn1, hr1⟩ := h1
  obtain ⟨ao2, n2, cap2, rfl, hn2, hr2⟩ := h2
  obtain rfl : n1 = n2 := by omega
  have hx : n1 ≤ 1048576 := by rw [← hn1]; exact hs.1
  have HL : Hid (xs.length = n1) := hn1
  have HS : Hid (∀ i, i < xs.length → SmC (xs.getD i Cl.none)) := hs.2
  have HR1 : Hid (0 < n1 → ∃ b off, ao1 = some ⟨b, off, none⟩ ∧ 0 ≤ b ∧ b < w.heap.size ∧ ∀ i, i < n1 → ∃ cs : List Value, cs.length = 3 ∧ ClN 0 w cs (xs.getD i Cl.none) ∧ ∀ j, j < 3 → w.cell? ⟨b, off + i * 3 + j, none⟩ = cs[j]?) := hr1
  have HR2 : Hid (0 < n1 → ∃ b off, ao2 = some ⟨b, off, none⟩ ∧ 0 ≤ b ∧ b < w.heap.size ∧ ∀ i, i < n1 → ∃ cs : List Value, cs.length = 3 ∧ ClN 0 w cs (xs.getD i Cl.none) ∧ ∀ j, j < 3 → w.cell? ⟨b, off + i * 3 + j, none⟩ = cs[j]?) := hr2
  clear hn1 hn2 hr1 hr2 hs
  go_enter Tryz.func116, Tryz.ntmps116
  go_wp2
  go_loopw [5] (fun i wr => ∃ k : Nat, k ≤ n1 ∧ i = .int .i64 k ∧ Below w.heap.size w wr) (fun i _ => n1 - (intOf i).toNat)
  case atStart => exact ⟨0, by omega, rfl, Below.refl _ _⟩
  case round =>
    obtain ⟨k, hk, rfl, hbel⟩ := hrel
    by_cases hkn : k < n1
    · have hki : (k : Int) < (n1 : Int) := by omega
      obtain ⟨b, off, rfl, hlo, hb, hc⟩ := HR1 (by omega)
      obtain ⟨b', off', rfl, hlo', hb', hc'⟩ := HR2 (by omega)
      have hsk : SmC (xs.getD k Cl.none) := HS k (by rw [show xs.length = n1 from HL]; exact hkn)
      obtain ⟨cs, hcl, hRel, hcj⟩ := hc k hkn
      obtain ⟨cs', hcl', hRel', hcj'⟩ := hc' k hkn
      obtain ⟨t, ht⟩ : ∃ t, t = xs.getD k Cl.none := ⟨_, rfl⟩
      rw [← ht] at hRel hRel' hsk
      obtain ⟨u, hcs, hu⟩ := hRel
      obtain ⟨u', hcs', hu'⟩ := hRel'
      obtain ⟨ua, un, uc, rfl⟩ : ∃ a n c, u = .slice a n c := by obtain ⟨a, c, rfl⟩ := hu.1.shape; exact ⟨_, _, _, rfl⟩
      obtain ⟨va, vn, vc, rfl⟩ : ∃ a n c, u' = .slice a n c := by obtain ⟨a, c, rfl⟩ := hu'.1.shape; exact ⟨_, _, _, rfl⟩
      have HC : Hid (∀ W : World, Below w.heap.size w W → Calls Tryz.prog 129 #[clV t (.slice ua un uc), clV t (.slice va vn vc)] W fun r w' => r = .returned (.bool true) ∧ Below W.heap.size W w') := hideP (fun W hW => eqCell_same t (hu.1.below ndStable hW) (hu'.1.below ndStable hW) hsk)
      clear hu hu' hsk
      obtain ⟨sp, al, ns⟩ := t
      rw [show cs = _ from hcs] at hcj
      rw [show cs' = _ from hcs'] at hcj'
      dsimp only at hcj hcj'
      simp only [clV, rwV, tbV] at HC
      have BD : Below w.heap.size w wr.drew := Below.drew hbel
      have QA : Hid (∀ x, Below w.heap.size w x → x.cell? ⟨b, off + k * 3, none⟩ = some (.int .i64 sp) ∧ x.cell? ⟨b, off + k * 3 + 1, none⟩ = some (.int .i64 al) ∧ x.cell? ⟨b, off + k * 3 + 2, none⟩ = some (.slice ua un uc)) := hideP (fun x hx => ⟨(Below.cell hx (p := ⟨b, off + k * 3 + 0, none⟩) hb).trans (hcj 0 (by omega)), (Below.cell hx (p := ⟨b, off + k * 3 + 1, none⟩) hb).trans (hcj 1 (by omega)), (Below.cell hx (p := ⟨b, off + k * 3 + 2, none⟩) hb).trans (hcj 2 (by omega))⟩)
      have QB : Hid (∀ x, Below w.heap.size w x → x.cell? ⟨b', off' + k * 3, none⟩ = some (.int .i64 sp) ∧ x.cell? ⟨b', off' + k * 3 + 1, none⟩ = some (.int .i64 al) ∧ x.cell? ⟨b', off' + k * 3 + 2, none⟩ = some (.slice va vn vc)) := hideP (fun x hx => ⟨(Below.cell hx (p := ⟨b', off' + k * 3 + 0, none⟩) hb').trans (hcj' 0 (by omega)), (Below.cell hx (p := ⟨b', off' + k * 3 + 1, none⟩) hb').trans (hcj' 1 (by omega)), (Below.cell hx (p := ⟨b', off' + k * 3 + 2, none⟩) hb').trans (hcj' 2 (by omega))⟩)
      have HB : Hid (Below w.heap.size w wr) := hbel
      have HBD : Hid (Below w.heap.size w wr.drew) := BD
      clear hc hc' hcl hcl' hcj hcj' hbel ht BD hcs hcs'
      go_wp2_with fail
      go_region_held3 (fun x => (x.cell? ⟨b, off + k * 3, none⟩ = some (.int .i64 sp) ∧ x.cell? ⟨b, off + k * 3 + 1, none⟩ = some (.int .i64 al) ∧ x.cell? ⟨b, off + k * 3 + 2, none⟩ = some (.slice ua un uc)) ∧ (x.cell? ⟨b', off' + k * 3, none⟩ = some (.int .i64 sp) ∧ x.cell? ⟨b', off' + k * 3 + 1, none⟩ = some (.int .i64 al) ∧ x.cell? ⟨b', off' + k * 3 + 2, none⟩ = some (.slice va vn vc))) (first | exact ⟨QA.out _ HBD.out, QB.out _ HBD.out⟩ | exact ⟨QA.out _ ‹Hid (Below w.heap.size w _)›, QB.out _ ‹Hid (Below w.heap.size w _)›⟩) ((go_at_call 129; refine (HC.out _ HBD.out).mono ?_; rintro e w2 ⟨rfl, hb1⟩; have hb2 : Hid (Below w.heap.size w w2) := below_more HBD.out hb1 HBD.out.size; clear hb1))
      all_goals
        go_wp2
        go_roundw
        case rel => exact ⟨k + 1, by omega, by go_num, ‹Hid (Below w.heap.size w w2)›⟩
        case measure => simp [intOf]; omega
    · have hki : ¬ (k : Int) < (n1 : Int) := by omega
      have HB : Hid (Below w.heap.size w wr) := hbel
      clear hbel
      go_wp2
      go_ret
      exact ⟨rfl, HB⟩

set_option maxHeartbeats 2000000 in
theorem eqRow_same (x : Rw) {v v' : Value} {w : World} (h : CRowN 0 w v x.cs) (h' : CRowN 0 w v' x.cs) (hs : SmW x) :
    Calls Tryz.prog 93 #[rwV x v, rwV x v'] w fun e w' => e = .returned (.bool true) ∧ Below w.heap.size w w' := by
  obtain ⟨ua, un, uc, rfl⟩ : ∃ a n c, v = .slice a n c := by obtain ⟨a, c, rfl⟩ := h.shape; exact ⟨_, _, _, rfl⟩
  obtain ⟨va, vn, vc, rfl⟩ : ∃ a n c, v' = .slice a n c := by obtain ⟨a, c, rfl⟩ := h'.shape; exact ⟨_, _, _, rfl⟩
  have HC : Hid (∀ (W : World), Below w.heap.size w W → Calls Tryz.prog 116 #[.slice ua un uc, .slice va vn vc] W fun e w' => e = .returned (.bool true) ∧ Below W.heap.size W w') := hideP (fun W hW => eqCellS_same (h.below clNStable hW) (h'.below clNStable hW) hs)
  clear h h' hs
  obtain ⟨rcs, ru⟩ := x
  simp only [clV, rwV, tbV]
  go_enter Tryz.func93, Tryz.ntmps93
  go_wp2_with fail
  refine (HC.out _ (below2 _ _ _)).mono ?_
  rintro e w1 ⟨rfl, hb1⟩
  have hy1 : w.heap.size + 1 < w1.heap.size := by have := hb1.size; simp at this; omega
  have hx1 : w.heap.size < w1.heap.size := by omega
  have B1 : Hid (Below w.heap.size w w1) := hideP (below_more (below2 _ _ _) hb1 (by simp; omega))
  obtain ⟨hc1, hf1⟩ := bcell hb1
  simp only [World.size_alloc, World.size_setCell] at hc1 hf1
  clear hb1
  go_wp2
  go_ret
  exact ⟨rfl, B1⟩

set_option maxHeartbeats 4000000 in
theorem eqRowS_same {v1 v2 : Value} {xs : List Rw} {w : World} (h1 : RRowN 0 w v1 xs) (h2 : RRowN 0 w v2 xs) (hs : xs.length ≤ 1048576 ∧ ∀ i, i < xs.length → SmW (xs.getD i Rw.none)) :
    Calls Tryz.prog 63 #[v1, v2] w fun e w' => e = .returned (.bool true) ∧ Below w.heap.size w w' := by
  obtain ⟨ao1, n1, cap1, rfl, hn1, hr1⟩ := h1
  obtain ⟨ao2, n2, cap2, rfl, hn2, hr2⟩ := h2
  obtain rfl : n1 = n2 := by omega
  have hx : n1 ≤ 1048576 := by rw [← hn1]; exact hs.1
  have HL : Hid (xs.length = n1) := hn1
  have HS : Hid (∀ i, i < xs.length → SmW (xs.getD i Rw.none)) := hs.2
  have HR1 : Hid (0 < n1 → ∃ b off, ao1 = some ⟨b, off, none⟩ ∧ 0 ≤ b ∧ b < w.heap.size ∧ ∀ i, i < n1 → ∃ cs : List Value, cs.length = 2 ∧ RwN 0 w cs (xs.getD i Rw.none) ∧ ∀ j, j < 2 → w.cell? ⟨b, off + i * 2 + j, none⟩ = cs[j]?) := hr1
  have HR2 : Hid (0 < n1 → ∃ b off, ao2 = some ⟨b, off, none⟩ ∧ 0 ≤ b ∧ b < w.heap.size ∧ ∀ i, i < n1 → ∃ cs : List Value, cs.length = 2 ∧ RwN 0 w cs (xs.getD i Rw.none) ∧ ∀ j, j < 2 → w.cell? ⟨b, off + i * 2 + j, none⟩ = cs[j]?) := hr2
  clear hn1 hn2 hr1 hr2 hs
  go_enter Tryz.func63, Tryz.ntmps63
  go_wp2
  go_loopw [5] (fun i wr => ∃ k : Nat, k ≤ n1 ∧ i = .int .i64 k ∧ Below w.heap.size w wr) (fun i _ => n1 - (intOf i).toNat)
  case atStart => exact ⟨0, by omega, rfl, Below.refl _ _⟩
  case round =>
    obtain ⟨k, hk, rfl, hbel⟩ := hrel
    by_cases hkn : k < n1
    · have hki : (k : Int) < (n1 : Int) := by omega
      obtain ⟨b, off, rfl, hlo, hb, hc⟩ := HR1 (by omega)
      obtain ⟨b', off', rfl, hlo', hb', hc'⟩ := HR2 (by omega)
      have hsk : SmW (xs.getD k Rw.none) := HS k (by rw [show xs.length = n1 from HL]; exact hkn)
      obtain ⟨cs, hcl, hRel, hcj⟩ := hc k hkn
      obtain ⟨cs', hcl', hRel', hcj'⟩ := hc' k hkn
      obtain ⟨t, ht⟩ : ∃ t, t = xs.getD k Rw.none := ⟨_, rfl⟩
      rw [← ht] at hRel hRel' hsk
      obtain ⟨u, hcs, hu⟩ := hRel
      obtain ⟨u', hcs', hu'⟩ := hRel'
      obtain ⟨ua, un, uc, rfl⟩ : ∃ a n c, u = .slice a n c := by obtain ⟨a, c, rfl⟩ := hu.shape; exact ⟨_, _, _, rfl⟩
      obtain ⟨va, vn, vc, rfl⟩ : ∃ a n c, u' = .slice a n c := by obtain ⟨a, c, rfl⟩ := hu'.shape; exact ⟨_, _, _, rfl⟩
      have HC : Hid (∀ W : World, Below w.heap.size w W → Calls Tryz.prog 93 #[rwV t (.slice ua un uc), rwV t (.slice va vn vc)] W fun r w' => r = .returned (.bool true) ∧ Below W.heap.size W w') := hideP (fun W hW => eqRow_same t (hu.below clNStable hW) (hu'.below clNStable hW) hsk)
      clear hu hu' hsk
      obtain ⟨rcs, ru⟩ := t
      rw [show cs = _ from hcs] at hcj
      rw [show cs' = _ from hcs'] at hcj'
      dsimp only at hcj hcj'
      simp only [clV, rwV, tbV] at HC
      have BD : Below w.heap.size w wr.drew := Below.drew hbel
      have QA : Hid (∀ x, Below w.heap.size w x → x.cell? ⟨b, off + k * 2, none⟩ = some (.slice ua un uc) ∧ x.cell? ⟨b, off + k * 2 + 1, none⟩ = some (.int .i64 ru)) := hideP (fun x hx => ⟨(Below.cell hx (p := ⟨b, off + k * 2 + 0, none⟩) hb).trans (hcj 0 (by omega)), (Below.cell hx (p := ⟨b, off + k * 2 + 1, none⟩) hb).trans (hcj 1 (by omega))⟩)
      have QB : Hid (∀ x, Below w.heap.size w x → x.cell? ⟨b', off' + k * 2, none⟩ = some (.slice va vn vc) ∧ x.cell? ⟨b', off' + k * 2 + 1, none⟩ = some (.int .i64 ru)) := hideP (fun x hx => ⟨(Below.cell hx (p := ⟨b', off' + k * 2 + 0, none⟩) hb').trans (hcj' 0 (by omega)), (Below.cell hx (p := ⟨b', off' + k * 2 + 1, none⟩) hb').trans (hcj' 1 (by omega))⟩)
      have HB : Hid (Below w.heap.size w wr) := hbel
      have HBD : Hid (Below w.heap.size w wr.drew) := BD
      clear hc hc' hcl hcl' hcj hcj' hbel ht BD hcs hcs'
      go_wp2_with fail
      go_region_held3 (fun x => (x.cell? ⟨b, off + k * 2, none⟩ = some (.slice ua un uc) ∧ x.cell? ⟨b, off + k * 2 + 1, none⟩ = some (.int .i64 ru)) ∧ (x.cell? ⟨b', off' + k * 2, none⟩ = some (.slice va vn vc) ∧ x.cell? ⟨b', off' + k * 2 + 1, none⟩ = some (.int .i64 ru))) (first | exact ⟨QA.out _ HBD.out, QB.out _ HBD.out⟩ | exact ⟨QA.out _ ‹Hid (Below w.heap.size w _)›, QB.out _ ‹Hid (Below w.heap.size w _)›⟩) ((go_at_call 93; refine (HC.out _ HBD.out).mono ?_; rintro e w2 ⟨rfl, hb1⟩; have hb2 : Hid (Below w.heap.size w w2) := below_more HBD.out hb1 HBD.out.size; clear hb1))
      all_goals
        go_wp2
        go_roundw
        case rel => exact ⟨k + 1, by omega, by go_num, ‹Hid (Below w.heap.size w w2)›⟩
        case measure => simp [intOf]; omega
    · have hki : ¬ (k : Int) < (n1 : Int) := by omega
      have HB : Hid (Below w.heap.size w wr) := hbel
      clear hbel
      go_wp2
      go_ret
      exact ⟨rfl, HB⟩

set_option maxHeartbeats 2000000 in
theorem eqTable_same (x : Tb) {v v' : Value} {w : World} (h : RRowN 0 w v x.rs) (h' : RRowN 0 w v' x.rs) (hs : SmT x) :
    Calls Tryz.prog 27 #[tbV x v, tbV x v'] w fun e w' => e = .returned (.bool true) ∧ Below w.heap.size w w' := by
  obtain ⟨ua, un, uc, rfl⟩ : ∃ a n c, v = .slice a n c := by obtain ⟨a, c, rfl⟩ := h.shape; exact ⟨_, _, _, rfl⟩
  obtain ⟨va, vn, vc, rfl⟩ : ∃ a n c, v' = .slice a n c := by obtain ⟨a, c, rfl⟩ := h'.shape; exact ⟨_, _, _, rfl⟩
  have HC : Hid (∀ (W : World), Below w.heap.size w W → Calls Tryz.prog 63 #[.slice ua un uc, .slice va vn vc] W fun e w' => e = .returned (.bool true) ∧ Below W.heap.size W w') := hideP (fun W hW => eqRowS_same (h.below rwNStable hW) (h'.below rwNStable hW) hs)
  clear h h' hs
  obtain ⟨co, gs, gp, gpo, gm, gmo, rs⟩ := x
  simp only [clV, rwV, tbV]
  go_enter Tryz.func27, Tryz.ntmps27
  go_wp2_with fail
  refine (eqGlue_same _ _ _ _ _ _).mono ?_
  rintro e w0 ⟨rfl, hb0⟩
  have hy0 : w.heap.size + 1 < w0.heap.size := by have := hb0.size; simp at this; omega
  have hx0 : w.heap.size < w0.heap.size := by omega
  have B0 : Hid (Below w.heap.size w w0) := hideP (below_more (below2 _ _ _) hb0 (by simp; omega))
  obtain ⟨hc0, hf0⟩ := bcell hb0
  simp only [World.size_alloc, World.size_setCell] at hc0 hf0
  clear hb0
  go_wp2_with fail
  refine (HC.out _ B0.out).mono ?_
  rintro e w1 ⟨rfl, hb1⟩
  have hy1 : w.heap.size + 1 < w1.heap.size := by have := hb1.size; omega
  have hx1 : w.heap.size < w1.heap.size := by omega
  have B1 : Hid (Below w.heap.size w w1) := hideP (below_more B0.out hb1 B0.out.size)
  obtain ⟨hc1, hf1⟩ := bcell hb1
  clear hc0 hf0 hy0 hx0
  clear hb1
  go_wp2
  go_ret
  exact ⟨rfl, B1⟩
end Go.Proofs.YticalmdhbgkbbaaGreat

namespace Go.Proofs.YticalmdhbgkbbaaGreat
open Go.RowKit
set_option linter.unusedVariables false
set_option linter.unusedSimpArgs false

theorem IntsAt.row {w : World} {g c : Nat} {zs : List Int} (h : IntsAt w g zs.length (fun i => zs.getD i 0)) : Shr.Row w (.slice (some ⟨g, 0, none⟩) zs.length c) zs :=
  ⟨_, _, _, rfl, rfl, fun _ => ⟨g, 0, rfl, h.lt, fun i hi => by rw [Nat.zero_add]; exact h.cell hi⟩⟩
theorem IntsAt.mk {w w' : World} {lo g n : Nat} {f : Nat → Int} (h : IntsAt w g n f) (hm : Mk lo w w') : IntsAt w' g n f := by
  obtain ⟨arr, h1, h2⟩ := h
  obtain ⟨c, e1, _, _, _, e5⟩ := hm.blk _ _ _ h1
  rw [e5 (by decide) (by decide) (by decide)] at e1
  exact ⟨arr, e1, h2⟩
theorem Mk.same {lo b : Nat} {w w' : World} {cur : Array Value} {ty : TypeId} (hm : Mk lo w w') (h : w.heap[b]? = some (.cells cur ty (0, 0))) (h1 : ty ≠ 77) (h2 : ty ≠ 103) (h3 : ty ≠ 94) : w'.heap[b]? = some (.cells cur ty (0, 0)) := by
  obtain ⟨c, e1, _, _, _, e5⟩ := hm.blk _ _ _ h
  rw [e5 h1 h2 h3] at e1
  exact e1
theorem own_mk {w w' : World} {lo B g n c : Nat} {xs : List Value} (h : w.ownsRow B 2 1 (.slice (some ⟨g, 0, none⟩) n c) n xs) (hm : Mk lo w w') : w'.ownsRow B 2 1 (.slice (some ⟨g, 0, none⟩) n c) n xs := by
  refine ownG_same h (fun k hk => ?_)
  simp only [Value.ownBlock, Option.some.injEq] at hk
  subst hk
  rcases h.2 with ⟨e, _⟩ | ⟨g', cap, cur, e, _, hh, _⟩
  · simp at e
  · simp at e
    obtain ⟨rfl, rfl⟩ := e
    exact (hm.same hh (by decide) (by decide) (by decide)).trans hh.symm
theorem own_rowI {w : World} {B g c : Nat} {zs : List Int} (h : w.ownsRow B 2 1 (.slice (some ⟨g, 0, none⟩) zs.length c) zs.length (zs.map (Value.int .i64))) : Shr.Row w (.slice (some ⟨g, 0, none⟩) zs.length c) zs := Shr.Row.own h rfl (h.lt g rfl).2
theorem widL_len (x : Tb) : (widL x).length ≤ 1048576 := by
  unfold widL
  split
  · rename_i h
    rw [Bool.and_eq_true] at h
    have := tabB_parts h.1
    simp
    omega
  · simp
/-- What the specification's Widths gives, as a row. -/
theorem specWid (x : Tb) {v : Value} {w : World} (h : RRowN 0 w v x.rs) (hs : SmT x) :
    Calls Tryz.prog 28 #[tbV x v] w fun e w' => ∃ g, e = .returned (.slice (some ⟨g, 0, none⟩) (widL x).length (widL x).length) ∧ IntsAt w' g (widL x).length (fun i => (widL x).getD i 0) ∧ Below w.heap.size w w' := by
  refine (specWidths_any x h hs).mono ?_
  rintro e w' ⟨h1, h2⟩
  cases hb : (tabB x && colsOk x.gs x.rs x.co.toNat) with
  | false =>
    rw [hb] at h1
    have e1 : widL x = [] := by unfold widL; rw [hb]; rfl
    obtain ⟨g, rfl, _, hg⟩ := h1
    rw [e1]
    exact ⟨g, rfl, ⟨#[], hg, rfl, fun i hi => by simp at hi⟩, h2⟩
  | true =>
    rw [hb] at h1
    have e1 : widL x = (List.range x.co.toNat).map (colsStep x.gs x.rs x.co.toNat) := by unfold widL; rw [hb]; rfl
    obtain ⟨g, rfl, _, hg⟩ := h1
    have e2 : (widL x).length = x.co.toNat := by rw [e1]; simp
    rw [e2]
    refine ⟨g, rfl, hg.congr (fun i hi => ?_), h2⟩
    rw [e1]
    simp [List.getD, hi]

set_option maxRecDepth 20000 in
set_option maxHeartbeats 16000000 in
theorem lawWidths_any (x : Tb) {v : Value} {w : World} (h : RRow 0 w v x.rs) (hf : FnT x) :
    Calls Tryz.prog 7 #[tbV x v] w fun e w' => e = .returned (.bool true) ∧ Below w.heap.size w w' := by
  obtain ⟨va, vn, vc, rfl⟩ : ∃ a n c, v = .slice a n c := by obtain ⟨a, c, rfl⟩ := h.shape; exact ⟨_, _, _, rfl⟩
  obtain ⟨R, hR⟩ : ∃ R, R = widL x := ⟨_, rfl⟩
  have hRl : R.length ≤ 1048576 := by rw [hR]; exact widL_len x
  obtain ⟨n, hn⟩ : ∃ n, n = R.length := ⟨_, rfl⟩
  have CZ : Hid (∀ W, Below w.heap.size w W → Calls Tryz.prog 23 #[tbV x (.slice va vn vc), .int .i64 1048576] W fun r w' => (∃ m : Int, r = .returned (.int .i64 m) ∧ (0 ≤ m → 15 * m + mkK x.rs x.rs.length ≤ 15 * 1048576 ∧ SmT x)) ∧ Below W.heap.size W w') := hideP (fun W hW => szTable_w x (h.below rwStable hW) hf (by omega) (by omega))
  have CT : Hid (SmT x → ∀ W, Below w.heap.size w W → Calls Tryz.prog 25 #[tbV x (.slice va vn vc)] W fun e w' => ∃ a n c, e = .returned (tbV x (.slice a n c)) ∧ ROw W.heap.size w' (.slice a n c) x.rs ∧ Below W.heap.size W w') := hideP (fun hs W hW => (toTable_o x (h.below rwStable hW) hs).mono (fun e w' ⟨v', h1, h2, h3⟩ => by
    obtain ⟨a, c, rfl⟩ := h2.shape
    exact ⟨a, _, c, h1, h2, h3⟩))
  have CS : Hid (SmT x → ∀ u W, RRowN 0 W u x.rs → Calls Tryz.prog 28 #[tbV x u] W fun e w' => ∃ g, e = .returned (.slice (some ⟨g, 0, none⟩) n n) ∧ IntsAt w' g n (fun i => R.getD i 0) ∧ Below W.heap.size W w') := hideP (fun hs u W hu => by rw [hn, hR]; exact specWid x hu hs)
  have CI : Hid (SmT x → ∀ u W, RRowN 0 W u x.rs → Calls Tryz.prog 29 #[tbV x u] W fun e w' => ∃ g c, e = .returned (.slice (some ⟨g, 0, none⟩) n c) ∧ w'.ownsRow W.heap.size 2 1 (.slice (some ⟨g, 0, none⟩) n c) n (R.map (Value.int .i64)) ∧ Below W.heap.size W w') := hideP (fun hs u W hu => by rw [hn, hR]; exact implWidths_any x hu hs)
  have CE : Hid (SmT x → ∀ u u' W, RRowN 0 W u x.rs → RRowN 0 W u' x.rs → Calls Tryz.prog 27 #[tbV x u, tbV x u'] W fun e w' => e = .returned (.bool true) ∧ Below W.heap.size W w') := hideP (fun hs u u' W h1 h2 => eqTable_same x h1 h2 hs)
  have CM : Hid (SmT x → 1 + mkK x.rs x.rs.length ≤ 16777216 → ∀ lo u W, RSh lo W u x.rs → lo ≤ W.heap.size → Calls Tryz.prog 31 #[tbV x u, .int .i64 1] W fun e w' => e = .returned (.int .i64 ((1 + mkK x.rs x.rs.length : Nat) : Int)) ∧ Mk lo W w') := hideP (fun hs hk lo u W hu hl => markTable_any (k := 1) x hu hs hl (by omega) hk)
  have CQ : Hid (∀ (g g' c : Nat) (W : World), W.ownsRow 0 2 1 (.slice (some ⟨g, 0, none⟩) n c) n (R.map (Value.int .i64)) → IntsAt W g' n (fun i => R.getD i 0) → Calls Tryz.prog 30 #[.slice (some ⟨g, 0, none⟩) n c, .slice (some ⟨g', 0, none⟩) n n] W fun e w' => e = .returned (.bool true) ∧ Below W.heap.size W w') := hideP (fun g g' c W h1 h2 => by
    rw [hn] at h1 h2 ⊢
    have h3 := Shr.eqInts_any (own_rowI h1) (IntsAt.row (c := R.length) h2) hRl
    rw [decide_eq_true rfl] at h3
    exact h3)
  have CMI : Hid (∀ (B g c : Nat) (W : World), W.ownsRow B 2 1 (.slice (some ⟨g, 0, none⟩) n c) n (R.map (Value.int .i64)) → Calls Tryz.prog 32 #[.slice (some ⟨g, 0, none⟩) n c, .int .i64 1] W fun e w' => e = .returned (.int .i64 (1 + (n : Int))) ∧ w'.ownsRow B 2 1 (.slice (some ⟨g, 0, none⟩) n c) n ((Shr.ups 1 n).map (Value.int .i64)) ∧ Below g W w' ∧ w'.heap.size = W.heap.size ∧ (∀ b, b ≠ g → w'.heap[b]? = W.heap[b]?)) := hideP (fun B g c W h1 => Shr.markInts_any h1 (by rw [hn]; exact hRl) (by omega) (by omega))
  have CH : Hid (∀ (B g c : Nat) (W : World), W.ownsRow B 2 1 (.slice (some ⟨g, 0, none⟩) n c) n ((Shr.ups 1 n).map (Value.int .i64)) → Calls Tryz.prog 33 #[.slice (some ⟨g, 0, none⟩) n c, .int .i64 1] W fun e w' => e = .returned (.int .i64 (1 + (n : Int))) ∧ w' = W) := hideP (fun B g c W h1 => Shr.heldInts_any (Shr.Row.own h1 (Shr.ups_length _ _) (h1.lt g rfl).2) (by rw [hn]; exact hRl) (by omega) (by omega))
  have hn2 : n ≤ 1048576 := by rw [hn]; exact hRl
  obtain ⟨SM, hSM⟩ : ∃ SM : Prop, SM = SmT x := ⟨_, rfl⟩
  rw [← hSM] at CZ CT CS CI CE CM
  obtain ⟨RN, hRN⟩ : ∃ RN : World → Value → Prop, RN = fun W u => RRowN 0 W u x.rs := ⟨_, rfl⟩
  obtain ⟨RO, hRO⟩ : ∃ RO : Nat → World → Value → Prop, RO = fun lo W u => ROw lo W u x.rs := ⟨_, rfl⟩
  obtain ⟨mk, hmk⟩ : ∃ mk, mk = mkK x.rs x.rs.length := ⟨_, rfl⟩
  rw [← hmk] at CZ CM
  have CT2 : Hid (SM → ∀ W, Below w.heap.size w W → Calls Tryz.prog 25 #[tbV x (.slice va vn vc)] W fun e w' => ∃ a n c, e = .returned (tbV x (.slice a n c)) ∧ RO W.heap.size w' (.slice a n c) ∧ Below W.heap.size W w') := by rw [hRO]; exact CT
  have CS2 : Hid (SM → ∀ u W, RN W u → Calls Tryz.prog 28 #[tbV x u] W fun e w' => ∃ g, e = .returned (.slice (some ⟨g, 0, none⟩) n n) ∧ IntsAt w' g n (fun i => R.getD i 0) ∧ Below W.heap.size W w') := by rw [hRN]; exact CS
  have CI2 : Hid (SM → ∀ u W, RN W u → Calls Tryz.prog 29 #[tbV x u] W fun e w' => ∃ g c, e = .returned (.slice (some ⟨g, 0, none⟩) n c) ∧ w'.ownsRow W.heap.size 2 1 (.slice (some ⟨g, 0, none⟩) n c) n (R.map (Value.int .i64)) ∧ Below W.heap.size W w') := by rw [hRN]; exact CI
  have CE2 : Hid (SM → ∀ u u' W, RN W u → RN W u' → Calls Tryz.prog 27 #[tbV x u, tbV x u'] W fun e w' => e = .returned (.bool true) ∧ Below W.heap.size W w') := by rw [hRN]; exact CE
  have RB : Hid (∀ lo u W W', RO lo W u → Below W.heap.size W W' → RO lo W' u) := hideP (by rw [hRO]; exact fun lo u W W' h hb => ROw.abv h (Abv.below hb))
  have RR : Hid (∀ lo u W, RO lo W u → RN W u) := hideP (by rw [hRO, hRN]; exact fun lo u W h => (ROw.row h).mono rwNStable (Nat.zero_le _))
  have CM2 : Hid (SM → 1 + mk ≤ 16777216 → ∀ lo u W, RO lo W u → lo ≤ W.heap.size → Calls Tryz.prog 31 #[tbV x u, .int .i64 1] W fun e w' => e = .returned (.int .i64 ((1 + mk : Nat) : Int)) ∧ Mk lo W w') := hideP (by rw [hRO]; exact fun hs hk lo u W h1 h2 => CM.out hs hk lo u W (ROw.sh h1) h2)
  clear h hf hR CT CS CI CE CM hSM hRN hRO hRl hn hmk
  obtain ⟨co, gs, gp, gpo, gm, gmo, rs⟩ := x
  simp only [tbV] at CZ CT2 CS2 CI2 CE2 CM2 ⊢
  go_enter Tryz.func7, Tryz.ntmps7
  go_wp2_with fail
  refine (CZ.out _ (below1 _ _)).mono ?_
  rintro e w1 ⟨⟨m, rfl, hm⟩, hb1⟩
  have B1 : Hid (Below w.heap.size w w1) := hideP (below_more (below1 _ _) hb1 (by simp))
  have P1 : Hid (w1.heap[w.heap.size]? = some (.cells #[.int .i64 co, .int .i64 gs, .int .i64 gp, .int .i64 gpo, .int .i64 gm, .int .i64 gmo, .slice va vn vc] 47 (0, 0))) := hideP ((hb1.block _ (by simp)).trans (heap_alloc_new w _))
  have HM := hideP hm
  clear hb1 hm
  by_cases hneg : m < 0
  · go_wp2
    go_ret
    exact ⟨rfl, B1.out⟩
  · have HS : Hid SM := hideP (HM.out (by omega)).2
    have HMK : Hid (1 + mk ≤ 16777216) := hideP (by have := (HM.out (by omega)).1; omega)
    clear HM CZ
    have QX : Hid (∀ X : World, X.heap[w.heap.size]? = some (.cells #[.int .i64 co, .int .i64 gs, .int .i64 gp, .int .i64 gpo, .int .i64 gm, .int .i64 gmo, .slice va vn vc] 47 (0, 0)) → w.heap.size < X.heap.size ∧ X.cell? ⟨w.heap.size, 0, none⟩ = some (.int .i64 co) ∧ X.cell? ⟨w.heap.size, 1, none⟩ = some (.int .i64 gs) ∧ X.cell? ⟨w.heap.size, 2, none⟩ = some (.int .i64 gp) ∧ X.cell? ⟨w.heap.size, 3, none⟩ = some (.int .i64 gpo) ∧ X.cell? ⟨w.heap.size, 4, none⟩ = some (.int .i64 gm) ∧ X.cell? ⟨w.heap.size, 5, none⟩ = some (.int .i64 gmo) ∧ X.cell? ⟨w.heap.size, 6, none⟩ = some (.slice va vn vc)) := hideP (fun X hX => ⟨(Array.getElem?_eq_some_iff.1 hX).1, cell_of_row _ _ 0 _ 47 _ hX, cell_of_row _ _ 1 _ 47 _ hX, cell_of_row _ _ 2 _ 47 _ hX, cell_of_row _ _ 3 _ 47 _ hX, cell_of_row _ _ 4 _ 47 _ hX, cell_of_row _ _ 5 _ 47 _ hX, cell_of_row _ _ 6 _ 47 _ hX⟩)
    obtain ⟨l1, c0, c1, c2, c3, c4, c5, c6⟩ := QX.out _ P1.out
    go_wp2_with fail
    refine (CT2.out HS.out _ B1.out).mono ?_
    rintro e w2 ⟨a2, n2, d2, rfl, hr2, hb2⟩
    have B2 : Hid (Below w.heap.size w w2) := hideP (below_more B1.out hb2 B1.out.size)
    have P2 := hideP ((hb2.block _ (Array.getElem?_eq_some_iff.1 P1.out).1).trans P1.out)
    have R2 := hideP (RR.out _ _ _ hr2)
    clear hb2 hr2 l1 c0 c1 c2 c3 c4 c5 c6 P1
    go_wp2_with fail
    refine (CS2.out HS.out _ _ R2.out).mono ?_
    rintro e w3 ⟨g0, rfl, hi3, hb3⟩
    have B3 : Hid (Below w.heap.size w w3) := hideP (below_more B2.out hb3 B2.out.size)
    have P3 := hideP ((hb3.block _ (Array.getElem?_eq_some_iff.1 P2.out).1).trans P2.out)
    have I3 := hideP hi3
    clear hb3 R2 P2 hi3
    obtain ⟨l1, c0, c1, c2, c3, c4, c5, c6⟩ := QX.out _ P3.out
    go_wp2_with fail
    refine (CT2.out HS.out _ B3.out).mono ?_
    rintro e w4 ⟨a4, n4, d4, rfl, hr4, hb4⟩
    have B4 : Hid (Below w.heap.size w w4) := hideP (below_more B3.out hb4 B3.out.size)
    have P4 := hideP ((hb4.block _ (Array.getElem?_eq_some_iff.1 P3.out).1).trans P3.out)
    have I4 := hideP (I3.out.below hb4)
    have R4 := hideP hr4
    have hlo : w.heap.size ≤ w3.heap.size := B3.out.size
    have hlo4 : w3.heap.size ≤ w4.heap.size := hb4.size
    obtain ⟨lo, hlo2⟩ : ∃ lo, lo = w3.heap.size := ⟨_, rfl⟩
    rw [← hlo2] at R4 hlo hlo4
    clear hb4 hr4 l1 c0 c1 c2 c3 c4 c5 c6 P3 I3 hlo2
    go_wp2_with fail
    obtain ⟨W4, hW4⟩ : ∃ W4, W4 = w4.alloc (.cells #[.int .i64 co, .int .i64 gs, .int .i64 gp, .int .i64 gpo, .int .i64 gm, .int .i64 gmo, .slice a4 n4 d4] 53) := ⟨_, rfl⟩
    rw [← hW4]
    obtain ⟨p5, hp5⟩ : ∃ p5, p5 = w4.heap.size := ⟨_, rfl⟩
    rw [← hp5]
    have BW4 : Hid (Below w.heap.size w W4) := hideP (by rw [hW4]; exact B4.out.alloc B4.out.size _)
    have PW4 : Hid (W4.heap[w.heap.size]? = some (.cells #[.int .i64 co, .int .i64 gs, .int .i64 gp, .int .i64 gpo, .int .i64 gm, .int .i64 gmo, .slice va vn vc] 47 (0, 0))) := hideP (by rw [hW4]; exact (Below.heap_alloc _ _ _ (Array.getElem?_eq_some_iff.1 P4.out).1).trans P4.out)
    have XW4 : Hid (W4.heap[p5]? = some (.cells #[.int .i64 co, .int .i64 gs, .int .i64 gp, .int .i64 gpo, .int .i64 gm, .int .i64 gmo, .slice a4 n4 d4] 53 (0, 0))) := hideP (by rw [hW4, hp5]; exact heap_alloc_new w4 _)
    have RW4 : Hid (RO lo W4 (.slice a4 n4 d4)) := hideP (by rw [hW4]; exact RB.out _ _ _ _ R4.out (below1 _ _))
    have IW4 : Hid (IntsAt W4 g0 n (fun i => R.getD i 0)) := hideP (by rw [hW4]; exact I4.out.below (below1 _ _))
    have hloW : lo ≤ W4.heap.size := by rw [hW4]; simp; omega
    clear hW4 hp5 P4 R4 B4 I4
    refine (CI2.out HS.out _ _ (RR.out _ _ _ RW4.out)).mono ?_
    rintro e w5 ⟨g6, c6', rfl, ho5, hb5⟩
    have B5 : Hid (Below w.heap.size w w5) := hideP (below_more BW4.out hb5 BW4.out.size)
    have P5 := hideP ((hb5.block _ (Array.getElem?_eq_some_iff.1 PW4.out).1).trans PW4.out)
    have X5 := hideP ((hb5.block _ (Array.getElem?_eq_some_iff.1 XW4.out).1).trans XW4.out)
    have R5 := hideP (RB.out _ _ _ _ RW4.out hb5)
    have I5 := hideP (IW4.out.below hb5)
    have hg06 : g0 < g6 := Nat.lt_of_lt_of_le IW4.out.lt (ho5.lt g6 rfl).1
    have hw6 : w.heap.size ≤ g6 := Nat.le_trans BW4.out.size (ho5.lt g6 rfl).1
    have hp6 : p5 < g6 := Nat.lt_of_lt_of_le (Array.getElem?_eq_some_iff.1 XW4.out).1 (ho5.lt g6 rfl).1
    have hs6 : w.heap.size < g6 := Nat.lt_of_lt_of_le (Array.getElem?_eq_some_iff.1 PW4.out).1 (ho5.lt g6 rfl).1
    have O5 := hideP (ownG_base ho5 (Nat.zero_le _))
    have hl5 : lo ≤ w5.heap.size := Nat.le_trans hloW hb5.size
    clear hb5 BW4 PW4 XW4 RW4 IW4 ho5 hloW hlo4
    go_wp2_with fail
    refine (CQ.out _ _ _ _ O5.out I5.out).mono ?_
    rintro e w6 ⟨rfl, hb6⟩
    have B6 : Hid (Below w.heap.size w w6) := hideP (below_more B5.out hb6 B5.out.size)
    have P6 := hideP ((hb6.block _ (Array.getElem?_eq_some_iff.1 P5.out).1).trans P5.out)
    have X6 := hideP ((hb6.block _ (Array.getElem?_eq_some_iff.1 X5.out).1).trans X5.out)
    have R6 := hideP (RB.out _ _ _ _ R5.out hb6)
    have I6 := hideP (I5.out.below hb6)
    have O6 := hideP (ownG_below O5.out hb6)
    have hl6 : lo ≤ w6.heap.size := Nat.le_trans hl5 hb6.size
    clear hb6 B5 P5 X5 R5 I5 O5 hl5
    have Q : Hid (∀ x : World, Below w6.heap.size w6 x → (x.cell? ⟨w.heap.size, 0, none⟩ = some (.int .i64 co) ∧ x.cell? ⟨w.heap.size, 1, none⟩ = some (.int .i64 gs) ∧ x.cell? ⟨w.heap.size, 2, none⟩ = some (.int .i64 gp) ∧ x.cell? ⟨w.heap.size, 3, none⟩ = some (.int .i64 gpo) ∧ x.cell? ⟨w.heap.size, 4, none⟩ = some (.int .i64 gm) ∧ x.cell? ⟨w.heap.size, 5, none⟩ = some (.int .i64 gmo) ∧ x.cell? ⟨w.heap.size, 6, none⟩ = some (.slice va vn vc)) ∧ x.cell? ⟨p5, 0, none⟩ = some (.int .i64 co) ∧ x.cell? ⟨p5, 1, none⟩ = some (.int .i64 gs) ∧ x.cell? ⟨p5, 2, none⟩ = some (.int .i64 gp) ∧ x.cell? ⟨p5, 3, none⟩ = some (.int .i64 gpo) ∧ x.cell? ⟨p5, 4, none⟩ = some (.int .i64 gm) ∧ x.cell? ⟨p5, 5, none⟩ = some (.int .i64 gmo) ∧ x.cell? ⟨p5, 6, none⟩ = some (.slice a4 n4 d4)) := hideP (fun x hx => by
      have h1 := (hx.block _ (Array.getElem?_eq_some_iff.1 P6.out).1).trans P6.out
      have h2 := (hx.block _ (Array.getElem?_eq_some_iff.1 X6.out).1).trans X6.out
      exact ⟨(QX.out _ h1).2, cell_of_row _ _ 0 _ 53 _ h2, cell_of_row _ _ 1 _ 53 _ h2, cell_of_row _ _ 2 _ 53 _ h2, cell_of_row _ _ 3 _ 53 _ h2, cell_of_row _ _ 4 _ 53 _ h2, cell_of_row _ _ 5 _ 53 _ h2, cell_of_row _ _ 6 _ 53 _ h2⟩)
    have BD : Hid (Below w6.heap.size w6 w6.drew) := hideP ((Below.refl _ _).drew)
    go_wp2_with fail
    go_region_held3 (fun x => (x.cell? ⟨w.heap.size, 0, none⟩ = some (.int .i64 co) ∧ x.cell? ⟨w.heap.size, 1, none⟩ = some (.int .i64 gs) ∧ x.cell? ⟨w.heap.size, 2, none⟩ = some (.int .i64 gp) ∧ x.cell? ⟨w.heap.size, 3, none⟩ = some (.int .i64 gpo) ∧ x.cell? ⟨w.heap.size, 4, none⟩ = some (.int .i64 gm) ∧ x.cell? ⟨w.heap.size, 5, none⟩ = some (.int .i64 gmo) ∧ x.cell? ⟨w.heap.size, 6, none⟩ = some (.slice va vn vc)) ∧ x.cell? ⟨p5, 0, none⟩ = some (.int .i64 co) ∧ x.cell? ⟨p5, 1, none⟩ = some (.int .i64 gs) ∧ x.cell? ⟨p5, 2, none⟩ = some (.int .i64 gp) ∧ x.cell? ⟨p5, 3, none⟩ = some (.int .i64 gpo) ∧ x.cell? ⟨p5, 4, none⟩ = some (.int .i64 gm) ∧ x.cell? ⟨p5, 5, none⟩ = some (.int .i64 gmo) ∧ x.cell? ⟨p5, 6, none⟩ = some (.slice a4 n4 d4)) (first | exact Q.out _ BD.out | exact Q.out _ ‹Hid (Below w6.heap.size w6 _)›) (first | (go_at_call 25; refine (CT2.out HS.out _ (below_more B6.out BD.out B6.out.size)).mono ?_; rintro e w7 ⟨a7, n7, d7, rfl, hr7, hb7⟩; have B67 : Hid (Below w6.heap.size w6 w7) := hideP (below_more BD.out hb7 BD.out.size); have R7 := hideP (RR.out _ _ _ hr7); clear hb7 hr7) | (go_at_call 27; refine (CE2.out HS.out _ _ _ (RR.out _ _ _ (RB.out _ _ _ _ R6.out B67.out)) R7.out).mono ?_; rintro e w8 ⟨rfl, hb8⟩; have B8 : Hid (Below w6.heap.size w6 w8) := hideP (below_more B67.out hb8 B67.out.size); clear hb8))
    all_goals
      have B08 : Hid (Below w.heap.size w w8) := hideP (below_more B6.out B8.out B6.out.size)
      have P8 := hideP ((B8.out.block _ (Array.getElem?_eq_some_iff.1 P6.out).1).trans P6.out)
      have X8 := hideP ((B8.out.block _ (Array.getElem?_eq_some_iff.1 X6.out).1).trans X6.out)
      have R8 := hideP (RB.out _ _ _ _ R6.out B8.out)
      have I8 := hideP (I6.out.below B8.out)
      have O8 := hideP (ownG_below O6.out B8.out)
      have hl8 : lo ≤ w8.heap.size := Nat.le_trans hl6 B8.out.size
      have z0 : w8.cell? ⟨p5, 0, none⟩ = some (.int .i64 co) := cell_of_row _ _ 0 _ 53 _ X8.out
      have z1 : w8.cell? ⟨p5, 1, none⟩ = some (.int .i64 gs) := cell_of_row _ _ 1 _ 53 _ X8.out
      have z2 : w8.cell? ⟨p5, 2, none⟩ = some (.int .i64 gp) := cell_of_row _ _ 2 _ 53 _ X8.out
      have z3 : w8.cell? ⟨p5, 3, none⟩ = some (.int .i64 gpo) := cell_of_row _ _ 3 _ 53 _ X8.out
      have z4 : w8.cell? ⟨p5, 4, none⟩ = some (.int .i64 gm) := cell_of_row _ _ 4 _ 53 _ X8.out
      have z5 : w8.cell? ⟨p5, 5, none⟩ = some (.int .i64 gmo) := cell_of_row _ _ 5 _ 53 _ X8.out
      have z6 : w8.cell? ⟨p5, 6, none⟩ = some (.slice a4 n4 d4) := cell_of_row _ _ 6 _ 53 _ X8.out
      have hp8 : p5 < w8.heap.size := (Array.getElem?_eq_some_iff.1 X8.out).1
      clear B6 P6 X6 R6 I6 O6 Q BD B8
      go_wp2_with fail
      refine (CM2.out HS.out HMK.out _ _ _ R8.out hl8).mono ?_
      rintro e w9 ⟨rfl, hm9⟩
      have B9 : Hid (Below w.heap.size w w9) := hideP (B08.out.trans (hm9.bel.mono hlo))
      have P9 := hideP (hm9.same P8.out (by decide) (by decide) (by decide))
      have I9 := hideP (I8.out.mk hm9)
      have O9 := hideP (own_mk O8.out hm9)
      have hneg9 : ¬ ((1 + mk : Nat) : Int) < 0 := by omega
      have hdec9 : decide (((1 + mk : Nat) : Int) < 0) = false := decide_eq_false hneg9
      obtain ⟨s9, hs9⟩ : ∃ s9, s9 = 1 + mk := ⟨_, rfl⟩
      rw [← hs9] at hneg9 hdec9 ⊢
      clear hm9 z0 z1 z2 z3 z4 z5 z6 hp8 X8 R8 P8 I8 O8 B08 hs9 hl8
      go_wp2_with fail
      refine (CQ.out _ _ _ _ O9.out I9.out).mono ?_
      rintro e w10 ⟨rfl, hb10⟩
      have B10 : Hid (Below w.heap.size w w10) := hideP (below_more B9.out hb10 B9.out.size)
      have P10 := hideP ((hb10.block _ (Array.getElem?_eq_some_iff.1 P9.out).1).trans P9.out)
      have I10 := hideP (I9.out.below hb10)
      have O10 := hideP (ownG_below O9.out hb10)
      clear hb10 B9 P9 I9 O9
      go_wp2_with fail
      refine (CMI.out _ _ _ _ O10.out).mono ?_
      rintro e w11 ⟨rfl, ho11, hbg, hsz11, hoth⟩
      have B11 : Hid (Below w.heap.size w w11) := hideP (B10.out.trans (hbg.mono hw6))
      have P11 := hideP ((hoth _ (by omega)).trans P10.out)
      have I11 := hideP (I10.out.same (hoth _ (by omega)))
      have O11 := hideP ho11
      clear ho11 hbg hsz11 hoth B10 P10 I10 O10
      go_wp2_with fail
      refine (CH.out _ _ _ _ O11.out).mono ?_
      rintro e w12 ⟨rfl, h12⟩
      have h12' := h12.symm
      subst h12'
      clear h12
      have hng : ¬ 1 + (n : Int) < 0 := by omega
      obtain ⟨l1, c0, c1, c2, c3, c4, c5, c6⟩ := QX.out _ P11.out
      go_wp2_with fail
      refine (CT2.out HS.out _ B11.out).mono ?_
      rintro e w13 ⟨a13, n13, d13, rfl, hr13, hb13⟩
      have B13 : Hid (Below w.heap.size w w13) := hideP (below_more B11.out hb13 B11.out.size)
      have I13 := hideP (I11.out.below hb13)
      have O13 := hideP (ownG_below O11.out hb13)
      have R13 := hideP (RR.out _ _ _ hr13)
      clear hb13 hr13 l1 c0 c1 c2 c3 c4 c5 c6 P11 B11 I11 O11
      go_wp2_with fail
      refine (CI2.out HS.out _ _ R13.out).mono ?_
      rintro e w14 ⟨g14, c14, rfl, ho14, hb14⟩
      have B14 : Hid (Below w.heap.size w w14) := hideP (below_more B13.out hb14 B13.out.size)
      have I14 := hideP (I13.out.below hb14)
      have O14 := hideP (ownG_below O13.out hb14)
      have N14 := hideP (ownG_base ho14 (Nat.zero_le _))
      clear hb14 ho14 B13 I13 O13 R13
      go_wp2_with fail
      refine (CQ.out _ _ _ _ N14.out I14.out).mono ?_
      rintro e w15 ⟨rfl, hb15⟩
      have B15 : Hid (Below w.heap.size w w15) := hideP (below_more B14.out hb15 B14.out.size)
      have O15 := hideP (ownG_below O14.out hb15)
      clear hb15 B14 I14 O14 N14
      go_wp2_with fail
      refine (CH.out _ _ _ _ O15.out).mono ?_
      rintro e w16 ⟨rfl, rfl⟩
      go_wp2
      go_ret
      exact ⟨rfl, B15.out⟩
end Go.Proofs.YticalmdhbgkbbaaGreat

