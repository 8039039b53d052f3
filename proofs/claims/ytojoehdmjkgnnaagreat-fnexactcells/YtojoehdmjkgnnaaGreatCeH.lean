/-
  Proved: for every table, laws.FnExactCells returns true and its argument reads behind the call as before it; no condition.
-/
import Derived.Test.YtojoehdmjkgnnaaGreatOpt
import Derived.Test.YtojoehdmjkgnnaaGreatOpn
import Derived.Test.YtojoehdmjkgnnaaGreatTow
import Derived.Test.YtojoehdmjkgnnaaGreatTzw
import Derived.Deep.RegionHeld3
namespace Go.Proofs.YtojoehdmjkgnnaaGreat
open Go.RowKit
set_option linter.unusedVariables false
set_option linter.unusedSimpArgs false

set_option maxHeartbeats 2000000 in
theorem eqCell_same (x : Cl) {v v' : Value} {w : World} (h : NRow 0 w v x.ns) (h' : NRow 0 w v' x.ns) (hs : SmC x) :
    Calls Tryz.prog 154 #[clV x v, clV x v'] w fun e w' => e = .returned (.bool true) ∧ Below w.heap.size w w' := by
  obtain ⟨ua, un, uc, rfl⟩ : ∃ a n c, v = .slice a n c := by obtain ⟨a, c, rfl⟩ := h.shape; exact ⟨_, _, _, rfl⟩
  obtain ⟨va, vn, vc, rfl⟩ : ∃ a n c, v' = .slice a n c := by obtain ⟨a, c, rfl⟩ := h'.shape; exact ⟨_, _, _, rfl⟩
  have HC : Hid (∀ (W : World), Below w.heap.size w W → Calls Tryz.prog 28 #[.slice ua un uc, .slice va vn vc] W fun e w' => e = .returned (.bool true) ∧ Below W.heap.size W w') := hideP (fun W hW => eqNodeS_same (h.below ndStable hW) (h'.below ndStable hW) hs.1)
  clear h h' hs
  obtain ⟨sp, al, ns⟩ := x
  simp only [clV, rwV, tbV]
  go_enter Tryz.func154, Tryz.ntmps154
  go_wp2_with fail
  refine (HC.out _ (below2 _ _ _)).mono ?_
  rintro e w1 ⟨rfl, hb1⟩
  have hy1 : w.heap.size + 1 < w1.heap.size := by have := hb1.size; simp at this; omega
  have hx1 : w.heap.size < w1.heap.size := by omega
  have B1 : Hid (Below w.heap.size w w1) := hideP (below_more (below2 _ _ _) hb1 (by simp; omega))
  obtain ⟨hc1, hf1⟩ := bcell hb1
  simp only [World.size_alloc, World.size_setCell] at hc1 hf1
  clear hb1
  go_wp2
  go_ret
  exact ⟨rfl, B1⟩

set_option maxHeartbeats 4000000 in
theorem eqCellS_same {v1 v2 : Value} {xs : List Cl} {w : World} (h1 : CRowN 0 w v1 xs) (h2 : CRowN 0 w v2 xs) (hs : xs.length ≤ 1048576 ∧ ∀ i, i < xs.length → SmC (xs.getD i Cl.none)) :
    Calls Tryz.prog 134 #[v1, v2] w fun e w' => e = .returned (.bool true) ∧ Below w.heap.size w w' := by
  obtain ⟨ao1, n1, cap1, rfl, hn1, hr1⟩ := h1
  obtain ⟨ao2, n2, cap2, rfl, hn2, hr2⟩ := h2
  obtain rfl : n1 = n2 := by omega
  have hx : n1 ≤ 1048576 := by rw [← hn1]; exact hs.1
  have HL : Hid (xs.length = n1) := hn1
  have HS : Hid (∀ i, i < xs.length → SmC (xs.getD i Cl.none)) := hs.2
  have HR1 : Hid (0 < n1 → ∃ b off, ao1 = some ⟨b, off, none⟩ ∧ 0 ≤ b ∧ b < w.heap.size ∧ ∀ i, i < n1 → ∃ cs : List Value, cs.length = 3 ∧ ClN 0 w cs (xs.getD i Cl.none) ∧ ∀ j, j < 3 → w.cell? ⟨b, off + i * 3 + j, none⟩ = cs[j]?) := hr1
  have HR2 : Hid (0 < n1 → ∃ b off, ao2 = some ⟨b, off, none⟩ ∧ 0 ≤ b ∧ b < w.heap.size ∧ ∀ i, i < n1 → ∃ cs : List Value, cs.length = 3 ∧ ClN 0 w cs (xs.getD i Cl.none) ∧ ∀ j, j < 3 → w.cell? ⟨b, off + i * 3 + j, none⟩ = cs[j]?) := hr2
  clear hn1 hn2 hr1 hr2 hs
  go_enter Tryz.func134, Tryz.ntmps134
  go_wp2
  go_loopw [5] (fun i wr => ∃ k : Nat, k ≤ n1 ∧ i = .int .i64 k ∧ Below w.heap.size w wr) (fun i _ => n1 - (intOf i).toNat)
  case atStart => exact ⟨0, by omega, rfl, Below.refl _ _⟩
  case round =>
    obtain ⟨k, hk, rfl, hbel⟩ := hrel
    by_cases hkn : k < n1
    · have hki : (k : Int) < (n1 : Int) := by omega
      obtain ⟨b, off, rfl, hlo, hb, hc⟩ := HR1 (by omega)
      obtain ⟨b', off', rfl, hlo', hb', hc'⟩ := HR2 (by omega)
      have hsk : SmC (xs.getD k Cl.none) := HS k (by rw [show xs.length = n1 from HL]; exact hkn)
      obtain ⟨cs, hcl, hRel, hcj⟩ := hc k hkn
      obtain ⟨cs', hcl', hRel', hcj'⟩ := hc' k hkn
      obtain ⟨t, ht⟩ : ∃ t, t = xs.getD k Cl.none := ⟨_, rfl⟩
      rw [← ht] at hRel hRel' hsk
      obtain ⟨u, hcs, hu⟩ := hRel
      obtain ⟨u', hcs', hu'⟩ := hRel'
      obtain ⟨ua, un, uc, rfl⟩ : ∃ a n c, u = .slice a n c := by obtain ⟨a, c, rfl⟩ := hu.1.shape; exact ⟨_, _, _, rfl⟩
      obtain ⟨va, vn, vc, rfl⟩ : ∃ a n c, u' = .slice a n c := by obtain ⟨a, c, rfl⟩ := hu'.1.shape; exact ⟨_, _, _, rfl⟩
      have HC : Hid (∀ W : World, Below w.heap.size w W → Calls Tryz.prog 154 #[clV t (.slice ua un uc), clV t (.slice va vn vc)] W fun r w' => r = .returned (.bool true) ∧ Below W.heap.size W w') := hideP (fun W hW => eqCell_same t (hu.1.below ndStable hW) (hu'.1.below ndStable hW) hsk)
      clear hu hu' hsk
      obtain ⟨sp, al, ns⟩ := t
      rw [show cs = _ from hcs] at hcj
      rw [show cs' = _ from hcs'] at hcj'
      dsimp only at hcj hcj'
      simp only [clV, rwV, tbV] at HC
      have BD : Below w.heap.size w wr.drew := Below.drew hbel
      have QA : Hid (∀ x, Below w.heap.size w x → x.cell? ⟨b, off + k * 3, none⟩ = some (.int .i64 sp) ∧ x.cell? ⟨b, off + k * 3 + 1, none⟩ = some (.int .i64 al) ∧ x.cell? ⟨b, off + k * 3 + 2, none⟩ = some (.slice ua un uc)) := hideP (fun x hx => ⟨(Below.cell hx (p := ⟨b, off + k * 3 + 0, none⟩) hb).trans (hcj 0 (by omega)), (Below.cell hx (p := ⟨b, off + k * 3 + 1, none⟩) hb).trans (hcj 1 (by omega)), (Below.cell hx (p := ⟨b, off + k * 3 + 2, none⟩) hb).trans (hcj 2 (by omega))⟩)
      have QB : Hid (∀ x, Below w.heap.size w x → x.cell? ⟨b', off' + k * 3, none⟩ = some (.int .i64 sp) ∧ x.cell? ⟨b', off' + k * 3 + 1, none⟩ = some (.int .i64 al) ∧ x.cell? ⟨b', off' + k * 3 + 2, none⟩ = some (.slice va vn vc)) := hideP (fun x hx => ⟨(Below.cell hx (p := ⟨b', off' + k * 3 + 0, none⟩) hb').trans (hcj' 0 (by omega)), (Below.cell hx (p := ⟨b', off' + k * 3 + 1, none⟩) hb').trans (hcj' 1 (by omega)), (Below.cell hx (p := ⟨b', off' + k * 3 + 2, none⟩) hb').trans (hcj' 2 (by omega))⟩)
      have HB : Hid (Below w.heap.size w wr) := hbel
      have HBD : Hid (Below w.heap.size w wr.drew) := BD
      clear hc hc' hcl hcl' hcj hcj' hbel ht BD hcs hcs'
      go_wp2_with fail
      go_region_held3 (fun x => (x.cell? ⟨b, off + k * 3, none⟩ = some (.int .i64 sp) ∧ x.cell? ⟨b, off + k * 3 + 1, none⟩ = some (.int .i64 al) ∧ x.cell? ⟨b, off + k * 3 + 2, none⟩ = some (.slice ua un uc)) ∧ (x.cell? ⟨b', off' + k * 3, none⟩ = some (.int .i64 sp) ∧ x.cell? ⟨b', off' + k * 3 + 1, none⟩ = some (.int .i64 al) ∧ x.cell? ⟨b', off' + k * 3 + 2, none⟩ = some (.slice va vn vc))) (first | exact ⟨QA.out _ HBD.out, QB.out _ HBD.out⟩ | exact ⟨QA.out _ ‹Hid (Below w.heap.size w _)›, QB.out _ ‹Hid (Below w.heap.size w _)›⟩) ((go_at_call 154; refine (HC.out _ HBD.out).mono ?_; rintro e w2 ⟨rfl, hb1⟩; have hb2 : Hid (Below w.heap.size w w2) := below_more HBD.out hb1 HBD.out.size; clear hb1))
      all_goals
        go_wp2
        go_roundw
        case rel => exact ⟨k + 1, by omega, by go_num, ‹Hid (Below w.heap.size w w2)›⟩
        case measure => simp [intOf]; omega
    · have hki : ¬ (k : Int) < (n1 : Int) := by omega
      have HB : Hid (Below w.heap.size w wr) := hbel
      clear hbel
      go_wp2
      go_ret
      exact ⟨rfl, HB⟩

set_option maxHeartbeats 2000000 in
theorem eqRow_same (x : Rw) {v v' : Value} {w : World} (h : CRowN 0 w v x.cs) (h' : CRowN 0 w v' x.cs) (hs : SmW x) :
    Calls Tryz.prog 107 #[rwV x v, rwV x v'] w fun e w' => e = .returned (.bool true) ∧ Below w.heap.size w w' := by
  obtain ⟨ua, un, uc, rfl⟩ : ∃ a n c, v = .slice a n c := by obtain ⟨a, c, rfl⟩ := h.shape; exact ⟨_, _, _, rfl⟩
  obtain ⟨va, vn, vc, rfl⟩ : ∃ a n c, v' = .slice a n c := by obtain ⟨a, c, rfl⟩ := h'.shape; exact ⟨_, _, _, rfl⟩
  have HC : Hid (∀ (W : World), Below w.heap.size w W → Calls Tryz.prog 134 #[.slice ua un uc, .slice va vn vc] W fun e w' => e = .returned (.bool true) ∧ Below W.heap.size W w') := hideP (fun W hW => eqCellS_same (h.below clNStable hW) (h'.below clNStable hW) hs)
  clear h h' hs
  obtain ⟨rcs, ru⟩ := x
  simp only [clV, rwV, tbV]
  go_enter Tryz.func107, Tryz.ntmps107
  go_wp2_with fail
  refine (HC.out _ (below2 _ _ _)).mono ?_
  rintro e w1 ⟨rfl, hb1⟩
  have hy1 : w.heap.size + 1 < w1.heap.size := by have := hb1.size; simp at this; omega
  have hx1 : w.heap.size < w1.heap.size := by omega
  have B1 : Hid (Below w.heap.size w w1) := hideP (below_more (below2 _ _ _) hb1 (by simp; omega))
  obtain ⟨hc1, hf1⟩ := bcell hb1
  simp only [World.size_alloc, World.size_setCell] at hc1 hf1
  clear hb1
  go_wp2
  go_ret
  exact ⟨rfl, B1⟩

set_option maxHeartbeats 4000000 in
theorem eqRowS_same {v1 v2 : Value} {xs : List Rw} {w : World} (h1 : RRowN 0 w v1 xs) (h2 : RRowN 0 w v2 xs) (hs : xs.length ≤ 1048576 ∧ ∀ i, i < xs.length → SmW (xs.getD i Rw.none)) :
    Calls Tryz.prog 67 #[v1, v2] w fun e w' => e = .returned (.bool true) ∧ Below w.heap.size w w' := by
  obtain ⟨ao1, n1, cap1, rfl, hn1, hr1⟩ := h1
  obtain ⟨ao2, n2, cap2, rfl, hn2, hr2⟩ := h2
  obtain rfl : n1 = n2 := by omega
  have hx : n1 ≤ 1048576 := by rw [← hn1]; exact hs.1
  have HL : Hid (xs.length = n1) := hn1
  have HS : Hid (∀ i, i < xs.length → SmW (xs.getD i Rw.none)) := hs.2
  have HR1 : Hid (0 < n1 → ∃ b off, ao1 = some ⟨b, off, none⟩ ∧ 0 ≤ b ∧ b < w.heap.size ∧ ∀ i, i < n1 → ∃ cs : List Value, cs.length = 2 ∧ RwN 0 w cs (xs.getD i Rw.none) ∧ ∀ j, j < 2 → w.cell? ⟨b, off + i * 2 + j, none⟩ = cs[j]?) := hr1
  have HR2 : Hid (0 < n1 → ∃ b off, ao2 = some ⟨b, off, none⟩ ∧ 0 ≤ b ∧ b < w.heap.size ∧ ∀ i, i < n1 → ∃ cs : List Value, cs.length = 2 ∧ RwN 0 w cs (xs.getD i Rw.none) ∧ ∀ j, j < 2 → w.cell? ⟨b, off + i * 2 + j, none⟩ = cs[j]?) := hr2
  clear hn1 hn2 hr1 hr2 hs
  go_enter Tryz.func67, Tryz.ntmps67
  go_wp2
  go_loopw [5] (fun i wr => ∃ k : Nat, k ≤ n1 ∧ i = .int .i64 k ∧ Below w.heap.size w wr) (fun i _ => n1 - (intOf i).toNat)
  case atStart => exact ⟨0, by omega, rfl, Below.refl _ _⟩
  case round =>
    obtain ⟨k, hk, rfl, hbel⟩ := hrel
    by_cases hkn : k < n1
    · have hki : (k : Int) < (n1 : Int) := by omega
      obtain ⟨b, off, rfl, hlo, hb, hc⟩ := HR1 (by omega)
      obtain ⟨b', off', rfl, hlo', hb', hc'⟩ := HR2 (by omega)
      have hsk : SmW (xs.getD k Rw.none) := HS k (by rw [show xs.length = n1 from HL]; exact hkn)
      obtain ⟨cs, hcl, hRel, hcj⟩ := hc k hkn
      obtain ⟨cs', hcl', hRel', hcj'⟩ := hc' k hkn
      obtain ⟨t, ht⟩ : ∃ t, t = xs.getD k Rw.none := ⟨_, rfl⟩
      rw [← ht] at hRel hRel' hsk
      obtain ⟨u, hcs, hu⟩ := hRel
      obtain ⟨u', hcs', hu'⟩ := hRel'
      obtain ⟨ua, un, uc, rfl⟩ : ∃ a n c, u = .slice a n c := by obtain ⟨a, c, rfl⟩ := hu.shape; exact ⟨_, _, _, rfl⟩
      obtain ⟨va, vn, vc, rfl⟩ : ∃ a n c, u' = .slice a n c := by obtain ⟨a, c, rfl⟩ := hu'.shape; exact ⟨_, _, _, rfl⟩
      have HC : Hid (∀ W : World, Below w.heap.size w W → Calls Tryz.prog 107 #[rwV t (.slice ua un uc), rwV t (.slice va vn vc)] W fun r w' => r = .returned (.bool true) ∧ Below W.heap.size W w') := hideP (fun W hW => eqRow_same t (hu.below clNStable hW) (hu'.below clNStable hW) hsk)
      clear hu hu' hsk
      obtain ⟨rcs, ru⟩ := t
      rw [show cs = _ from hcs] at hcj
      rw [show cs' = _ from hcs'] at hcj'
      dsimp only at hcj hcj'
      simp only [clV, rwV, tbV] at HC
      have BD : Below w.heap.size w wr.drew := Below.drew hbel
      have QA : Hid (∀ x, Below w.heap.size w x → x.cell? ⟨b, off + k * 2, none⟩ = some (.slice ua un uc) ∧ x.cell? ⟨b, off + k * 2 + 1, none⟩ = some (.int .i64 ru)) := hideP (fun x hx => ⟨(Below.cell hx (p := ⟨b, off + k * 2 + 0, none⟩) hb).trans (hcj 0 (by omega)), (Below.cell hx (p := ⟨b, off + k * 2 + 1, none⟩) hb).trans (hcj 1 (by omega))⟩)
      have QB : Hid (∀ x, Below w.heap.size w x → x.cell? ⟨b', off' + k * 2, none⟩ = some (.slice va vn vc) ∧ x.cell? ⟨b', off' + k * 2 + 1, none⟩ = some (.int .i64 ru)) := hideP (fun x hx => ⟨(Below.cell hx (p := ⟨b', off' + k * 2 + 0, none⟩) hb').trans (hcj' 0 (by omega)), (Below.cell hx (p := ⟨b', off' + k * 2 + 1, none⟩) hb').trans (hcj' 1 (by omega))⟩)
      have HB : Hid (Below w.heap.size w wr) := hbel
      have HBD : Hid (Below w.heap.size w wr.drew) := BD
      clear hc hc' hcl hcl' hcj hcj' hbel ht BD hcs hcs'
      go_wp2_with fail
      go_region_held3 (fun x => (x.cell? ⟨b, off + k * 2, none⟩ = some (.slice ua un uc) ∧ x.cell? ⟨b, off + k * 2 + 1, none⟩ = some (.int .i64 ru)) ∧ (x.cell? ⟨b', off' + k * 2, none⟩ = some (.slice va vn vc) ∧ x.cell? ⟨b', off' + k * 2 + 1, none⟩ = some (.int .i64 ru))) (first | exact ⟨QA.out _ HBD.out, QB.out _ HBD.out⟩ | exact ⟨QA.out _ ‹Hid (Below w.heap.size w _)›, QB.out _ ‹Hid (Below w.heap.size w _)›⟩) ((go_at_call 107; refine (HC.out _ HBD.out).mono ?_; rintro e w2 ⟨rfl, hb1⟩; have hb2 : Hid (Below w.heap.size w w2) := below_more HBD.out hb1 HBD.out.size; clear hb1))
      all_goals
        go_wp2
        go_roundw
        case rel => exact ⟨k + 1, by omega, by go_num, ‹Hid (Below w.heap.size w w2)›⟩
        case measure => simp [intOf]; omega
    · have hki : ¬ (k : Int) < (n1 : Int) := by omega
      have HB : Hid (Below w.heap.size w wr) := hbel
      clear hbel
      go_wp2
      go_ret
      exact ⟨rfl, HB⟩

set_option maxHeartbeats 2000000 in
theorem eqTable_same (x : Tb) {v v' : Value} {w : World} (h : RRowN 0 w v x.rs) (h' : RRowN 0 w v' x.rs) (hs : SmT x) :
    Calls Tryz.prog 29 #[tbV x v, tbV x v'] w fun e w' => e = .returned (.bool true) ∧ Below w.heap.size w w' := by
  obtain ⟨ua, un, uc, rfl⟩ : ∃ a n c, v = .slice a n c := by obtain ⟨a, c, rfl⟩ := h.shape; exact ⟨_, _, _, rfl⟩
  obtain ⟨va, vn, vc, rfl⟩ : ∃ a n c, v' = .slice a n c := by obtain ⟨a, c, rfl⟩ := h'.shape; exact ⟨_, _, _, rfl⟩
  have HC : Hid (∀ (W : World), Below w.heap.size w W → Calls Tryz.prog 67 #[.slice ua un uc, .slice va vn vc] W fun e w' => e = .returned (.bool true) ∧ Below W.heap.size W w') := hideP (fun W hW => eqRowS_same (h.below rwNStable hW) (h'.below rwNStable hW) hs)
  clear h h' hs
  obtain ⟨co, gs, gp, gpo, gm, gmo, rs⟩ := x
  simp only [clV, rwV, tbV]
  go_enter Tryz.func29, Tryz.ntmps29
  go_wp2_with fail
  refine (eqGlue_same _ _ _ _ _ _).mono ?_
  rintro e w0 ⟨rfl, hb0⟩
  have hy0 : w.heap.size + 1 < w0.heap.size := by have := hb0.size; simp at this; omega
  have hx0 : w.heap.size < w0.heap.size := by omega
  have B0 : Hid (Below w.heap.size w w0) := hideP (below_more (below2 _ _ _) hb0 (by simp; omega))
  obtain ⟨hc0, hf0⟩ := bcell hb0
  simp only [World.size_alloc, World.size_setCell] at hc0 hf0
  clear hb0
  go_wp2_with fail
  refine (HC.out _ B0.out).mono ?_
  rintro e w1 ⟨rfl, hb1⟩
  have hy1 : w.heap.size + 1 < w1.heap.size := by have := hb1.size; omega
  have hx1 : w.heap.size < w1.heap.size := by omega
  have B1 : Hid (Below w.heap.size w w1) := hideP (below_more B0.out hb1 B0.out.size)
  obtain ⟨hc1, hf1⟩ := bcell hb1
  clear hc0 hf0 hy0 hx0
  clear hb1
  go_wp2
  go_ret
  exact ⟨rfl, B1⟩
end Go.Proofs.YtojoehdmjkgnnaaGreat

namespace Go.Proofs.YtojoehdmjkgnnaaGreat
open Go.RowKit
set_option linter.unusedVariables false
set_option linter.unusedSimpArgs false

theorem SSO.keep {B0 : Nat} {X w w' : World} {v : Value} {ts ts' : List T3} {gs : List Nat} (hX : SSO B0 X v ts gs) (h : SSO B0 w v ts' gs) (hb : Below X.heap.size w w') : SSO B0 w' v ts' gs := by
  refine ⟨ownG_same h.own (fun k hk => ?_), h.len, fun i hi => ⟨(h.at_ i hi).1, ?_⟩, h.up⟩
  · rcases hX.own.2 with ⟨rfl, _⟩ | ⟨g, cap, cur, rfl, _, hh, _⟩
    · cases hk
    · simp only [Value.ownBlock, Option.some.injEq] at hk
      subst hk
      exact hb.block _ (Array.getElem?_eq_some_iff.1 hh).1
  · exact (hb.block _ (Array.getElem?_eq_some_iff.1 (hX.at_ i hi).2).1).trans (h.at_ i hi).2
theorem Mk.same {lo b : Nat} {w w' : World} {cur : Array Value} {ty : TypeId} (hm : Mk lo w w') (h : w.heap[b]? = some (.cells cur ty (0, 0))) (h1 : ty ≠ 36) (h2 : ty ≠ 53) (h3 : ty ≠ 51) : w'.heap[b]? = some (.cells cur ty (0, 0)) := by
  obtain ⟨c, e1, _, _, _, e5⟩ := hm.blk _ _ _ h
  rw [e5 h1 h2 h3] at e1
  exact e1
theorem celL_len (x : Tb) : (celL x).length ≤ 1048576 := by
  unfold celL
  split
  · rename_i h
    obtain ⟨_, h2, h3, h4⟩ := celB h
    have h5 := rT_len (rs := x.rs) (i := x.rs.length) (fun k hk => (h4 k hk).le h2)
    omega
  · simp

set_option maxRecDepth 20000 in
set_option maxHeartbeats 16000000 in
theorem lawCells_any (x : Tb) {v : Value} {w : World} (h : RRow 0 w v x.rs) (hf : FnT x) :
    Calls Tryz.prog 8 #[tbV x v] w fun e w' => e = .returned (.bool true) ∧ Below w.heap.size w w' := by
  obtain ⟨va, vn, vc, rfl⟩ : ∃ a n c, v = .slice a n c := by obtain ⟨a, c, rfl⟩ := h.shape; exact ⟨_, _, _, rfl⟩
  obtain ⟨R, hR⟩ : ∃ R, R = celL x := ⟨_, rfl⟩
  have hRl : R.length ≤ 1048576 := by rw [hR]; exact celL_len x
  obtain ⟨n, hn⟩ : ∃ n, n = R.length := ⟨_, rfl⟩
  obtain ⟨s, hs⟩ : ∃ s, s = 1 + 3 * n := ⟨_, rfl⟩
  obtain ⟨S1, hS1⟩ : ∃ S1 : Nat → World → Option Addr → Nat → List Nat → Prop, S1 = fun B W a c gs => gs.length = n ∧ SSO B W (.slice a gs.length c) R gs := ⟨_, rfl⟩
  obtain ⟨S2, hS2⟩ : ∃ S2 : Nat → World → Option Addr → Nat → List Nat → Prop, S2 = fun B W a c gs => gs.length = n ∧ SSO B W (.slice a gs.length c) (mT 1 gs.length) gs := ⟨_, rfl⟩
  have CZ : Hid (∀ W, Below w.heap.size w W → Calls Tryz.prog 23 #[tbV x (.slice va vn vc), .int .i64 1048576] W fun r w' => (∃ m : Int, r = .returned (.int .i64 m) ∧ (0 ≤ m → 15 * m + mkK x.rs x.rs.length ≤ 15 * 1048576 ∧ SmT x)) ∧ Below W.heap.size W w') := hideP (fun W hW => szTable_w x (h.below rwStable hW) hf (by omega) (by omega))
  have CT : Hid (SmT x → ∀ W, Below w.heap.size w W → Calls Tryz.prog 25 #[tbV x (.slice va vn vc)] W fun e w' => ∃ a n c, e = .returned (tbV x (.slice a n c)) ∧ ROw W.heap.size w' (.slice a n c) x.rs ∧ Below W.heap.size W w') := hideP (fun hs W hW => (toTable_o x (h.below rwStable hW) hs).mono (fun e w' ⟨v', h1, h2, h3⟩ => by
    obtain ⟨a, c, rfl⟩ := h2.shape
    exact ⟨a, _, c, h1, h2, h3⟩))
  have CS : Hid (SmT x → ∀ u W, RRowN 0 W u x.rs → Calls Tryz.prog 36 #[tbV x u] W fun e w' => ∃ a c gs, e = .returned (.slice a n c) ∧ S1 W.heap.size w' a c gs ∧ Below W.heap.size W w') := hideP (fun hs u W hu => (specCells_any x hu hs).mono (fun e w' ⟨a, c, gs, h1, h2, h3⟩ => by
    rw [← hR] at h2
    have hl : gs.length = n := by rw [hn]; exact h2.len
    rw [hl] at h1
    exact ⟨a, c, gs, h1, by rw [hS1]; exact ⟨hl, h2⟩, h3⟩))
  have CI : Hid (SmT x → ∀ u W, RRowN 0 W u x.rs → Calls Tryz.prog 22 #[tbV x u] W fun e w' => ∃ a c gs, e = .returned (.slice a n c) ∧ S1 W.heap.size w' a c gs ∧ Below W.heap.size W w') := hideP (fun hs u W hu => (implCells_any x hu hs).mono (fun e w' ⟨a, c, gs, h1, h2, h3⟩ => by
    rw [← hR] at h2
    have hl : gs.length = n := by rw [hn]; exact h2.len
    rw [hl] at h1
    exact ⟨a, c, gs, h1, by rw [hS1]; exact ⟨hl, h2⟩, h3⟩))
  have CE : Hid (SmT x → ∀ u u' W, RRowN 0 W u x.rs → RRowN 0 W u' x.rs → Calls Tryz.prog 29 #[tbV x u, tbV x u'] W fun e w' => e = .returned (.bool true) ∧ Below W.heap.size W w') := hideP (fun hs u u' W h1 h2 => eqTable_same x h1 h2 hs)
  have CM : Hid (SmT x → 1 + mkK x.rs x.rs.length ≤ 16777216 → ∀ lo u W, RSh lo W u x.rs → lo ≤ W.heap.size → Calls Tryz.prog 31 #[tbV x u, .int .i64 1] W fun e w' => e = .returned (.int .i64 ((1 + mkK x.rs x.rs.length : Nat) : Int)) ∧ Mk lo W w') := hideP (fun hs hk lo u W hu hl => markTable_any (k := 1) x hu hs hl (by omega) hk)
  have CQ : Hid (∀ B a c gs B' a' c' gs' (W : World), S1 B W a c gs → S1 B' W a' c' gs' → Calls Tryz.prog 37 #[.slice a n c, .slice a' n c'] W fun e w' => e = .returned (.bool true) ∧ Below W.heap.size W w') := hideP (fun B a c gs B' a' c' gs' W h1 h2 => by
    rw [hS1] at h1 h2
    have h3 := eqSS_same h1.2 h2.2 hRl
    rw [h1.1, h2.1] at h3
    exact h3)
  have CMI : Hid (∀ B a c gs (W : World), S1 B W a c gs → B ≤ W.heap.size → Calls Tryz.prog 38 #[.slice a n c, .int .i64 1] W fun e w' => e = .returned (.int .i64 (s : Int)) ∧ S2 B w' a c gs ∧ Below B W w') := hideP (fun B a c gs W h1 hB => by
    rw [hS1] at h1
    have h3 := markSS_any (k := 1) h1.2 hRl (by omega) (by omega) hB
    rw [h1.1] at h3
    refine h3.mono ?_
    rintro e w' ⟨e1, e2, e3, _⟩
    rw [hS2, hs]
    exact ⟨e1, ⟨h1.1, by rw [h1.1]; exact e2⟩, e3⟩)
  have CH : Hid (∀ B a c gs (W : World), S2 B W a c gs → Calls Tryz.prog 39 #[.slice a n c, .int .i64 1] W fun e w' => e = .returned (.int .i64 (s : Int)) ∧ w' = W) := hideP (fun B a c gs W h1 => by
    rw [hS2] at h1
    have h3 := heldSS_any (k := 1) h1.2 (by rw [h1.1, hn]; exact hRl) (by omega) (by omega)
    rw [h1.1] at h3
    rw [hs]
    exact h3)
  have SB : Hid (∀ B a c gs (W W' : World), S1 B W a c gs → Below W.heap.size W W' → S1 B W' a c gs) := hideP (fun B a c gs W W' h1 hb => by rw [hS1] at h1 ⊢; exact ⟨h1.1, h1.2.below hb⟩)
  have SB2 : Hid (∀ B a c gs (W W' : World), S2 B W a c gs → Below W.heap.size W W' → S2 B W' a c gs) := hideP (fun B a c gs W W' h1 hb => by rw [hS2] at h1 ⊢; exact ⟨h1.1, h1.2.below hb⟩)
  have SM1 : Hid (∀ lo B a c gs (W W' : World), S1 B W a c gs → Mk lo W W' → S1 B W' a c gs) := hideP (fun lo B a c gs W W' h1 hb => by rw [hS1] at h1 ⊢; exact ⟨h1.1, h1.2.mkd hb⟩)
  have SK : Hid (∀ B a c gs (X W W' : World), S1 B X a c gs → S1 B W a c gs → Below X.heap.size W W' → S1 B W' a c gs) := hideP (fun B a c gs X W W' h0 h1 hb => by rw [hS1] at h0 h1 ⊢; exact ⟨h1.1, h0.2.keep h1.2 hb⟩)
  have hng : ¬ (s : Int) < 0 := by omega
  have hn2 : n ≤ 1048576 := by rw [hn]; exact hRl
  obtain ⟨SM, hSM⟩ : ∃ SM : Prop, SM = SmT x := ⟨_, rfl⟩
  rw [← hSM] at CZ CT CS CI CE CM
  obtain ⟨RN, hRN⟩ : ∃ RN : World → Value → Prop, RN = fun W u => RRowN 0 W u x.rs := ⟨_, rfl⟩
  obtain ⟨RO, hRO⟩ : ∃ RO : Nat → World → Value → Prop, RO = fun lo W u => ROw lo W u x.rs := ⟨_, rfl⟩
  obtain ⟨mk, hmk⟩ : ∃ mk, mk = mkK x.rs x.rs.length := ⟨_, rfl⟩
  rw [← hmk] at CZ CM
  have CT2 : Hid (SM → ∀ W, Below w.heap.size w W → Calls Tryz.prog 25 #[tbV x (.slice va vn vc)] W fun e w' => ∃ a n c, e = .returned (tbV x (.slice a n c)) ∧ RO W.heap.size w' (.slice a n c) ∧ Below W.heap.size W w') := by rw [hRO]; exact CT
  have CS2 : Hid (SM → ∀ u W, RN W u → Calls Tryz.prog 36 #[tbV x u] W fun e w' => ∃ a c gs, e = .returned (.slice a n c) ∧ S1 W.heap.size w' a c gs ∧ Below W.heap.size W w') := by rw [hRN]; exact CS
  have CI2 : Hid (SM → ∀ u W, RN W u → Calls Tryz.prog 22 #[tbV x u] W fun e w' => ∃ a c gs, e = .returned (.slice a n c) ∧ S1 W.heap.size w' a c gs ∧ Below W.heap.size W w') := by rw [hRN]; exact CI
  have CE2 : Hid (SM → ∀ u u' W, RN W u → RN W u' → Calls Tryz.prog 29 #[tbV x u, tbV x u'] W fun e w' => e = .returned (.bool true) ∧ Below W.heap.size W w') := by rw [hRN]; exact CE
  have RB : Hid (∀ lo u W W', RO lo W u → Below W.heap.size W W' → RO lo W' u) := hideP (by rw [hRO]; exact fun lo u W W' h hb => ROw.abv h (Abv.below hb))
  have RR : Hid (∀ lo u W, RO lo W u → RN W u) := hideP (by rw [hRO, hRN]; exact fun lo u W h => (ROw.row h).mono rwNStable (Nat.zero_le _))
  have CM2 : Hid (SM → 1 + mk ≤ 16777216 → ∀ lo u W, RO lo W u → lo ≤ W.heap.size → Calls Tryz.prog 31 #[tbV x u, .int .i64 1] W fun e w' => e = .returned (.int .i64 ((1 + mk : Nat) : Int)) ∧ Mk lo W w') := hideP (by rw [hRO]; exact fun hs hk lo u W h1 h2 => CM.out hs hk lo u W (ROw.sh h1) h2)
  clear h hf hR CT CS CI CE CM hSM hRN hRO hRl hn hmk hS1 hS2 hs
  obtain ⟨co, gs, gp, gpo, gm, gmo, rs⟩ := x
  simp only [tbV] at CZ CT2 CS2 CI2 CE2 CM2 ⊢
  go_enter Tryz.func8, Tryz.ntmps8
  go_wp2_with fail
  refine (CZ.out _ (below1 _ _)).mono ?_
  rintro e w1 ⟨⟨m, rfl, hm⟩, hb1⟩
  have B1 : Hid (Below w.heap.size w w1) := hideP (below_more (below1 _ _) hb1 (by simp))
  have P1 : Hid (w1.heap[w.heap.size]? = some (.cells #[.int .i64 co, .int .i64 gs, .int .i64 gp, .int .i64 gpo, .int .i64 gm, .int .i64 gmo, .slice va vn vc] 64 (0, 0))) := hideP ((hb1.block _ (by simp)).trans (heap_alloc_new w _))
  have HM := hideP hm
  clear hb1 hm
  by_cases hneg : m < 0
  · go_wp2
    go_ret
    exact ⟨rfl, B1.out⟩
  · have HS : Hid SM := hideP (HM.out (by omega)).2
    have HMK : Hid (1 + mk ≤ 16777216) := hideP (by have := (HM.out (by omega)).1; omega)
    clear HM CZ
    have QX : Hid (∀ X : World, X.heap[w.heap.size]? = some (.cells #[.int .i64 co, .int .i64 gs, .int .i64 gp, .int .i64 gpo, .int .i64 gm, .int .i64 gmo, .slice va vn vc] 64 (0, 0)) → w.heap.size < X.heap.size ∧ X.cell? ⟨w.heap.size, 0, none⟩ = some (.int .i64 co) ∧ X.cell? ⟨w.heap.size, 1, none⟩ = some (.int .i64 gs) ∧ X.cell? ⟨w.heap.size, 2, none⟩ = some (.int .i64 gp) ∧ X.cell? ⟨w.heap.size, 3, none⟩ = some (.int .i64 gpo) ∧ X.cell? ⟨w.heap.size, 4, none⟩ = some (.int .i64 gm) ∧ X.cell? ⟨w.heap.size, 5, none⟩ = some (.int .i64 gmo) ∧ X.cell? ⟨w.heap.size, 6, none⟩ = some (.slice va vn vc)) := hideP (fun X hX => ⟨(Array.getElem?_eq_some_iff.1 hX).1, cell_of_row _ _ 0 _ 64 _ hX, cell_of_row _ _ 1 _ 64 _ hX, cell_of_row _ _ 2 _ 64 _ hX, cell_of_row _ _ 3 _ 64 _ hX, cell_of_row _ _ 4 _ 64 _ hX, cell_of_row _ _ 5 _ 64 _ hX, cell_of_row _ _ 6 _ 64 _ hX⟩)
    obtain ⟨l1, c0, c1, c2, c3, c4, c5, c6⟩ := QX.out _ P1.out
    go_wp2_with fail
    refine (CT2.out HS.out _ B1.out).mono ?_
    rintro e w2 ⟨a2, n2, d2, rfl, hr2, hb2⟩
    have B2 : Hid (Below w.heap.size w w2) := hideP (below_more B1.out hb2 B1.out.size)
    have P2 := hideP ((hb2.block _ (Array.getElem?_eq_some_iff.1 P1.out).1).trans P1.out)
    have R2 := hideP (RR.out _ _ _ hr2)
    clear hb2 hr2 l1 c0 c1 c2 c3 c4 c5 c6 P1
    go_wp2_with fail
    refine (CS2.out HS.out _ _ R2.out).mono ?_
    rintro e w3 ⟨a0, d0, gs0, rfl, hi3, hb3⟩
    have B3 : Hid (Below w.heap.size w w3) := hideP (below_more B2.out hb3 B2.out.size)
    have P3 := hideP ((hb3.block _ (Array.getElem?_eq_some_iff.1 P2.out).1).trans P2.out)
    obtain ⟨b0, hb0⟩ : ∃ b0, b0 = w2.heap.size := ⟨_, rfl⟩
    rw [← hb0] at hi3
    have I3 := hideP hi3
    clear hb3 R2 P2 hi3 hb0
    obtain ⟨l1, c0, c1, c2, c3, c4, c5, c6⟩ := QX.out _ P3.out
    go_wp2_with fail
    refine (CT2.out HS.out _ B3.out).mono ?_
    rintro e w4 ⟨a4, n4, d4, rfl, hr4, hb4⟩
    have B4 : Hid (Below w.heap.size w w4) := hideP (below_more B3.out hb4 B3.out.size)
    have P4 := hideP ((hb4.block _ (Array.getElem?_eq_some_iff.1 P3.out).1).trans P3.out)
    have I4 := hideP (SB.out _ _ _ _ _ _ I3.out hb4)
    have R4 := hideP hr4
    have hlo : w.heap.size ≤ w3.heap.size := B3.out.size
    have hlo4 : w3.heap.size ≤ w4.heap.size := hb4.size
    obtain ⟨lo, hlo2⟩ : ∃ lo, lo = w3.heap.size := ⟨_, rfl⟩
    rw [← hlo2] at R4 hlo hlo4
    clear hb4 hr4 l1 c0 c1 c2 c3 c4 c5 c6 P3 I3 hlo2
    go_wp2_with fail
    obtain ⟨W4, hW4⟩ : ∃ W4, W4 = w4.alloc (.cells #[.int .i64 co, .int .i64 gs, .int .i64 gp, .int .i64 gpo, .int .i64 gm, .int .i64 gmo, .slice a4 n4 d4] 44) := ⟨_, rfl⟩
    rw [← hW4]
    obtain ⟨p5, hp5⟩ : ∃ p5, p5 = w4.heap.size := ⟨_, rfl⟩
    rw [← hp5]
    have BW4 : Hid (Below w.heap.size w W4) := hideP (by rw [hW4]; exact B4.out.alloc B4.out.size _)
    have PW4 : Hid (W4.heap[w.heap.size]? = some (.cells #[.int .i64 co, .int .i64 gs, .int .i64 gp, .int .i64 gpo, .int .i64 gm, .int .i64 gmo, .slice va vn vc] 64 (0, 0))) := hideP (by rw [hW4]; exact (Below.heap_alloc _ _ _ (Array.getElem?_eq_some_iff.1 P4.out).1).trans P4.out)
    have XW4 : Hid (W4.heap[p5]? = some (.cells #[.int .i64 co, .int .i64 gs, .int .i64 gp, .int .i64 gpo, .int .i64 gm, .int .i64 gmo, .slice a4 n4 d4] 44 (0, 0))) := hideP (by rw [hW4, hp5]; exact heap_alloc_new w4 _)
    have RW4 : Hid (RO lo W4 (.slice a4 n4 d4)) := hideP (by rw [hW4]; exact RB.out _ _ _ _ R4.out (below1 _ _))
    have IW4 : Hid (S1 b0 W4 a0 d0 gs0) := hideP (by rw [hW4]; exact SB.out _ _ _ _ _ _ I4.out (below1 _ _))
    have hloW : lo ≤ W4.heap.size := by rw [hW4]; simp; omega
    clear hW4 hp5 P4 R4 B4 I4
    refine (CI2.out HS.out _ _ (RR.out _ _ _ RW4.out)).mono ?_
    rintro e w5 ⟨a6, d6, gs6, rfl, ho5, hb5⟩
    have B5 : Hid (Below w.heap.size w w5) := hideP (below_more BW4.out hb5 BW4.out.size)
    have P5 := hideP ((hb5.block _ (Array.getElem?_eq_some_iff.1 PW4.out).1).trans PW4.out)
    have X5 := hideP ((hb5.block _ (Array.getElem?_eq_some_iff.1 XW4.out).1).trans XW4.out)
    have R5 := hideP (RB.out _ _ _ _ RW4.out hb5)
    have I5 := hideP (SB.out _ _ _ _ _ _ IW4.out hb5)
    have hl5 : lo ≤ w5.heap.size := Nat.le_trans hloW hb5.size
    have hg5 : W4.heap.size ≤ w5.heap.size := hb5.size
    have hs6 : w.heap.size < W4.heap.size := (Array.getElem?_eq_some_iff.1 PW4.out).1
    have KP : Hid (∀ W W', S1 b0 W a0 d0 gs0 → Below W4.heap.size W W' → S1 b0 W' a0 d0 gs0) := hideP (fun W W' h1 h2 => SK.out _ _ _ _ _ _ _ IW4.out h1 h2)
    obtain ⟨b6, hb6e⟩ : ∃ b6, b6 = W4.heap.size := ⟨_, rfl⟩
    rw [← hb6e] at ho5 hg5 hs6 KP
    have O5 := hideP ho5
    clear hb5 BW4 PW4 XW4 RW4 IW4 ho5 hloW hlo4 hb6e
    go_wp2_with fail
    refine (CQ.out _ _ _ _ _ _ _ _ _ O5.out I5.out).mono ?_
    rintro e w6 ⟨rfl, hb6⟩
    have B6 : Hid (Below w.heap.size w w6) := hideP (below_more B5.out hb6 B5.out.size)
    have P6 := hideP ((hb6.block _ (Array.getElem?_eq_some_iff.1 P5.out).1).trans P5.out)
    have X6 := hideP ((hb6.block _ (Array.getElem?_eq_some_iff.1 X5.out).1).trans X5.out)
    have R6 := hideP (RB.out _ _ _ _ R5.out hb6)
    have I6 := hideP (SB.out _ _ _ _ _ _ I5.out hb6)
    have O6 := hideP (SB.out _ _ _ _ _ _ O5.out hb6)
    have hl6 : lo ≤ w6.heap.size := Nat.le_trans hl5 hb6.size
    have hg6 : b6 ≤ w6.heap.size := Nat.le_trans hg5 hb6.size
    clear hb6 B5 P5 X5 R5 I5 O5 hl5 hg5
    have Q : Hid (∀ x : World, Below w6.heap.size w6 x → (x.cell? ⟨w.heap.size, 0, none⟩ = some (.int .i64 co) ∧ x.cell? ⟨w.heap.size, 1, none⟩ = some (.int .i64 gs) ∧ x.cell? ⟨w.heap.size, 2, none⟩ = some (.int .i64 gp) ∧ x.cell? ⟨w.heap.size, 3, none⟩ = some (.int .i64 gpo) ∧ x.cell? ⟨w.heap.size, 4, none⟩ = some (.int .i64 gm) ∧ x.cell? ⟨w.heap.size, 5, none⟩ = some (.int .i64 gmo) ∧ x.cell? ⟨w.heap.size, 6, none⟩ = some (.slice va vn vc)) ∧ x.cell? ⟨p5, 0, none⟩ = some (.int .i64 co) ∧ x.cell? ⟨p5, 1, none⟩ = some (.int .i64 gs) ∧ x.cell? ⟨p5, 2, none⟩ = some (.int .i64 gp) ∧ x.cell? ⟨p5, 3, none⟩ = some (.int .i64 gpo) ∧ x.cell? ⟨p5, 4, none⟩ = some (.int .i64 gm) ∧ x.cell? ⟨p5, 5, none⟩ = some (.int .i64 gmo) ∧ x.cell? ⟨p5, 6, none⟩ = some (.slice a4 n4 d4)) := hideP (fun x hx => by
      have h1 := (hx.block _ (Array.getElem?_eq_some_iff.1 P6.out).1).trans P6.out
      have h2 := (hx.block _ (Array.getElem?_eq_some_iff.1 X6.out).1).trans X6.out
      exact ⟨(QX.out _ h1).2, cell_of_row _ _ 0 _ 44 _ h2, cell_of_row _ _ 1 _ 44 _ h2, cell_of_row _ _ 2 _ 44 _ h2, cell_of_row _ _ 3 _ 44 _ h2, cell_of_row _ _ 4 _ 44 _ h2, cell_of_row _ _ 5 _ 44 _ h2, cell_of_row _ _ 6 _ 44 _ h2⟩)
    have BD : Hid (Below w6.heap.size w6 w6.drew) := hideP ((Below.refl _ _).drew)
    go_wp2_with fail
    go_region_held3 (fun x => (x.cell? ⟨w.heap.size, 0, none⟩ = some (.int .i64 co) ∧ x.cell? ⟨w.heap.size, 1, none⟩ = some (.int .i64 gs) ∧ x.cell? ⟨w.heap.size, 2, none⟩ = some (.int .i64 gp) ∧ x.cell? ⟨w.heap.size, 3, none⟩ = some (.int .i64 gpo) ∧ x.cell? ⟨w.heap.size, 4, none⟩ = some (.int .i64 gm) ∧ x.cell? ⟨w.heap.size, 5, none⟩ = some (.int .i64 gmo) ∧ x.cell? ⟨w.heap.size, 6, none⟩ = some (.slice va vn vc)) ∧ x.cell? ⟨p5, 0, none⟩ = some (.int .i64 co) ∧ x.cell? ⟨p5, 1, none⟩ = some (.int .i64 gs) ∧ x.cell? ⟨p5, 2, none⟩ = some (.int .i64 gp) ∧ x.cell? ⟨p5, 3, none⟩ = some (.int .i64 gpo) ∧ x.cell? ⟨p5, 4, none⟩ = some (.int .i64 gm) ∧ x.cell? ⟨p5, 5, none⟩ = some (.int .i64 gmo) ∧ x.cell? ⟨p5, 6, none⟩ = some (.slice a4 n4 d4)) (first | exact Q.out _ BD.out | exact Q.out _ ‹Hid (Below w6.heap.size w6 _)›) (first | (go_at_call 25; refine (CT2.out HS.out _ (below_more B6.out BD.out B6.out.size)).mono ?_; rintro e w7 ⟨a7, n7, d7, rfl, hr7, hb7⟩; have B67 : Hid (Below w6.heap.size w6 w7) := hideP (below_more BD.out hb7 BD.out.size); have R7 := hideP (RR.out _ _ _ hr7); clear hb7 hr7) | (go_at_call 29; refine (CE2.out HS.out _ _ _ (RR.out _ _ _ (RB.out _ _ _ _ R6.out B67.out)) R7.out).mono ?_; rintro e w8 ⟨rfl, hb8⟩; have B8 : Hid (Below w6.heap.size w6 w8) := hideP (below_more B67.out hb8 B67.out.size); clear hb8))
    all_goals
      have B08 : Hid (Below w.heap.size w w8) := hideP (below_more B6.out B8.out B6.out.size)
      have P8 := hideP ((B8.out.block _ (Array.getElem?_eq_some_iff.1 P6.out).1).trans P6.out)
      have X8 := hideP ((B8.out.block _ (Array.getElem?_eq_some_iff.1 X6.out).1).trans X6.out)
      have R8 := hideP (RB.out _ _ _ _ R6.out B8.out)
      have I8 := hideP (SB.out _ _ _ _ _ _ I6.out B8.out)
      have O8 := hideP (SB.out _ _ _ _ _ _ O6.out B8.out)
      have hl8 : lo ≤ w8.heap.size := Nat.le_trans hl6 B8.out.size
      have hg8 : b6 ≤ w8.heap.size := Nat.le_trans hg6 B8.out.size
      have z0 : w8.cell? ⟨p5, 0, none⟩ = some (.int .i64 co) := cell_of_row _ _ 0 _ 44 _ X8.out
      have z1 : w8.cell? ⟨p5, 1, none⟩ = some (.int .i64 gs) := cell_of_row _ _ 1 _ 44 _ X8.out
      have z2 : w8.cell? ⟨p5, 2, none⟩ = some (.int .i64 gp) := cell_of_row _ _ 2 _ 44 _ X8.out
      have z3 : w8.cell? ⟨p5, 3, none⟩ = some (.int .i64 gpo) := cell_of_row _ _ 3 _ 44 _ X8.out
      have z4 : w8.cell? ⟨p5, 4, none⟩ = some (.int .i64 gm) := cell_of_row _ _ 4 _ 44 _ X8.out
      have z5 : w8.cell? ⟨p5, 5, none⟩ = some (.int .i64 gmo) := cell_of_row _ _ 5 _ 44 _ X8.out
      have z6 : w8.cell? ⟨p5, 6, none⟩ = some (.slice a4 n4 d4) := cell_of_row _ _ 6 _ 44 _ X8.out
      have hp8 : p5 < w8.heap.size := (Array.getElem?_eq_some_iff.1 X8.out).1
      clear B6 P6 X6 R6 I6 O6 Q BD B8 hg6
      go_wp2_with fail
      refine (CM2.out HS.out HMK.out _ _ _ R8.out hl8).mono ?_
      rintro e w9 ⟨rfl, hm9⟩
      have B9 : Hid (Below w.heap.size w w9) := hideP (B08.out.trans (hm9.bel.mono hlo))
      have P9 := hideP (hm9.same P8.out (by decide) (by decide) (by decide))
      have I9 := hideP (SM1.out _ _ _ _ _ _ _ I8.out hm9)
      have O9 := hideP (SM1.out _ _ _ _ _ _ _ O8.out hm9)
      have hg9 : b6 ≤ w9.heap.size := Nat.le_trans hg8 hm9.bel.size
      have hneg9 : ¬ ((1 + mk : Nat) : Int) < 0 := by omega
      have hdec9 : decide (((1 + mk : Nat) : Int) < 0) = false := decide_eq_false hneg9
      obtain ⟨s9, hs9⟩ : ∃ s9, s9 = 1 + mk := ⟨_, rfl⟩
      rw [← hs9] at hneg9 hdec9 ⊢
      clear hm9 z0 z1 z2 z3 z4 z5 z6 hp8 X8 R8 P8 I8 O8 B08 hs9 hl8 hg8
      go_wp2_with fail
      refine (CQ.out _ _ _ _ _ _ _ _ _ O9.out I9.out).mono ?_
      rintro e w10 ⟨rfl, hb10⟩
      have B10 : Hid (Below w.heap.size w w10) := hideP (below_more B9.out hb10 B9.out.size)
      have P10 := hideP ((hb10.block _ (Array.getElem?_eq_some_iff.1 P9.out).1).trans P9.out)
      have I10 := hideP (SB.out _ _ _ _ _ _ I9.out hb10)
      have O10 := hideP (SB.out _ _ _ _ _ _ O9.out hb10)
      have hg10 : b6 ≤ w10.heap.size := Nat.le_trans hg9 hb10.size
      clear hb10 B9 P9 I9 O9 hg9
      go_wp2_with fail
      refine (CMI.out _ _ _ _ _ O10.out hg10).mono ?_
      rintro e w11 ⟨rfl, ho11, hbg⟩
      have B11 : Hid (Below w.heap.size w w11) := hideP (B10.out.trans (hbg.mono (Nat.le_of_lt hs6)))
      have P11 := hideP ((hbg.block _ hs6).trans P10.out)
      have I11 := hideP (KP.out _ _ I10.out hbg)
      have O11 := hideP ho11
      clear ho11 hbg B10 P10 I10 O10 hg10
      go_wp2_with fail
      refine (CH.out _ _ _ _ _ O11.out).mono ?_
      rintro e w12 ⟨rfl, h12⟩
      have h12' := h12.symm
      subst h12'
      clear h12
      obtain ⟨l1, c0, c1, c2, c3, c4, c5, c6⟩ := QX.out _ P11.out
      go_wp2_with fail
      refine (CT2.out HS.out _ B11.out).mono ?_
      rintro e w13 ⟨a13, n13, d13, rfl, hr13, hb13⟩
      have B13 : Hid (Below w.heap.size w w13) := hideP (below_more B11.out hb13 B11.out.size)
      have I13 := hideP (SB.out _ _ _ _ _ _ I11.out hb13)
      have O13 := hideP (SB2.out _ _ _ _ _ _ O11.out hb13)
      have R13 := hideP (RR.out _ _ _ hr13)
      clear hb13 hr13 l1 c0 c1 c2 c3 c4 c5 c6 P11 B11 I11 O11
      go_wp2_with fail
      refine (CI2.out HS.out _ _ R13.out).mono ?_
      rintro e w14 ⟨a14, d14, gs14, rfl, ho14, hb14⟩
      have B14 : Hid (Below w.heap.size w w14) := hideP (below_more B13.out hb14 B13.out.size)
      have I14 := hideP (SB.out _ _ _ _ _ _ I13.out hb14)
      have O14 := hideP (SB2.out _ _ _ _ _ _ O13.out hb14)
      have N14 := hideP ho14
      clear hb14 ho14 B13 I13 O13 R13
      go_wp2_with fail
      refine (CQ.out _ _ _ _ _ _ _ _ _ N14.out I14.out).mono ?_
      rintro e w15 ⟨rfl, hb15⟩
      have B15 : Hid (Below w.heap.size w w15) := hideP (below_more B14.out hb15 B14.out.size)
      have O15 := hideP (SB2.out _ _ _ _ _ _ O14.out hb15)
      clear hb15 B14 I14 O14 N14
      go_wp2_with fail
      refine (CH.out _ _ _ _ _ O15.out).mono ?_
      rintro e w16 ⟨rfl, rfl⟩
      go_wp2
      go_ret
      exact ⟨rfl, B15.out⟩
end Go.Proofs.YtojoehdmjkgnnaaGreat

namespace Go.Proofs.YtojoehdmjkgnnaaGreat
open Go.ChangeShapes Go.WideShapes Go.ChangeAt Go.RowKit Go.Joins
set_option linter.unusedVariables false
set_option linter.unusedSimpArgs false

set_option maxRecDepth 100000 in
theorem cells_lifted (os : Os) (started : os.Started) (H : Type) (enc : TypeId × Value → H) :
    ReturnsInHanded {} Tryz.checked os 8 .any (Rows.fnExactCellsSpec.pre6 enc Tryz.prog Tryz.f8 Rows.fnExactCellsRow.domain false) (Rows.fnExactCellsSpec.post enc Tryz.prog Tryz.f8 false true false false) := by
  refine returnsInHanded_of_change (C := Tryz.checked) ownT started (by kernel_rfl) Tryz.func8
    (ChangeSpec.witness6 (enc := enc) (C := Tryz.checked) false ⟨#[], #[.agg #[.int .i64 0, .int .i64 0, .int .i64 0, .int .i64 0, .int .i64 0, .int .i64 0, .slice none 0 0]], []⟩ 8 (by kernel_rfl) (by kernel_rfl) (by kernel_rfl) (by kernel_rfl)) ?_
  intro W base args ds gs before hval0 hW hcnd _
  have hval : ∀ (j : Nat) t v, Tryz.f8.params[j]? = some t → args[j]? = some v → Value.okWide Tryz.prog W .any base t v := hval0
  have hW' := hW
  obtain ⟨p, q, hA0, hV, rfl, hfz, hnd⟩ := hW
  have hA : DataW.TrodAll enc Tryz.prog W 0 (fun _ => true) true Tryz.f8.params.toList args.toList ds p := hA0
  rw [Tryz.params8] at hA hval
  obtain ⟨v0, vs0, d0, ds0, p0, q0, hargs, rfl, rfl, h0, r0⟩ := trodAll_cons hA
  obtain ⟨rfl, rfl, rfl⟩ := trodAll_nil r0
  obtain rfl : args = #[v0] := by cases args; simp_all
  obtain ⟨rfl, rfl⟩ := trodVars_none hV
  have k0 := h0
  have lt0 : ∀ x ∈ p0, x.block < W.heap.size := by obtain ⟨m, hm⟩ := k0; exact DataW.trod_lt m _ _ _ hm
  obtain ⟨t, u, rfl, hr, hF⟩ := openTable (hval 0 64 v0 rfl rfl) h0
  clear hA0 hval0
  refine (lawCells_any t hr hF).mono fun e W' ⟨he, bel⟩ => ?_
  subst he
  exact ⟨_, rfl, _, _, _, [], _, [], hW', trodAll_mk1 (shut_bool Tryz.underlying4 _), (trodAll_cons_mk (Below.trod laidOut (by kernel_rfl) (of_decide_eq_true (by kernel_rfl)) k0 bel lt0) trodAll_mk0), rfl, bel.frame _, fun h => by cases h⟩

theorem cells_holds : Rows.FnExactCellsSaid :=
  OpenClaim.holds_of_wide 8 Tryz.f8 rfl rfl rfl rfl rfl rfl rfl ⟨rfl, rfl, rfl, rfl, rfl⟩ rfl rfl rfl rfl rfl (by kernel_rfl) Tryz.func8 (by kernel_rfl)
    (of_decide_eq_true (by kernel_rfl)) (by unfold Func.isWrapper; first | (rw [if_pos (by decide +kernel)]; kernel_rfl) | (rw [if_neg (by decide +kernel)]; exact ⟨rfl, rfl⟩))
    (fun os started H enc _ => cells_lifted os started H enc)
#print axioms cells_holds
end Go.Proofs.YtojoehdmjkgnnaaGreat

