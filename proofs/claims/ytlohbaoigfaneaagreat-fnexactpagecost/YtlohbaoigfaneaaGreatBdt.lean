import Derived.Test.YtlohbaoigfaneaaGreatHlp
import Derived.Test.YtlohbaoigfaneaaGreatBadS
import Derived.Test.YtlohbaoigfaneaaGreatShn
import Derived.Test.YtlohbaoigfaneaaGreatGlue
namespace Go.Proofs.YtlohbaoigfaneaaGreat
open Go.RowKit
set_option linter.unusedVariables false
set_option linter.unusedSimpArgs false
end Go.Proofs.YtlohbaoigfaneaaGreat
namespace Go.Proofs.YtlohbaoigfaneaaGreat.Shr
open Go.RowKit
set_option linter.unusedVariables false
set_option linter.unusedSimpArgs false
theorem retI {a b : Int} (h : a = b) : Ending.returned (.int .i64 a) = .returned (.int .i64 b) := by rw [h]
set_option maxHeartbeats 1000000 in
theorem specTop_any {v : Value} {xs : List Int} {w : World} (h : Row w v xs) (hl : xs.length = 4) : Calls Tryz.prog 58 #[v] w fun e w' => e = .returned (.int .i64 (top xs : Int)) ∧ w' = w := by
 obtain ⟨ao, n, cap, rfl, hn, hr⟩ := h
 obtain rfl : n = 4 := by omega
 obtain ⟨b, off, rfl, hb, hc⟩ := hr (by omega)
 have HC : Hid (∀ i, i < 4 → w.cell? ⟨b, off + i, none⟩ = some (.int .i64 (xs.getD i 0))) := hc
 clear hc hr hn hl
 go_enter Tryz.func58, Tryz.ntmps58
 go_wp2
 go_loop [3] (fun i => ∃ k : Nat, k ≤ 3 ∧ i = .int .i64 k ∧ ∀ j, k < j → j ≤ 3 → xs.getD j 0 = 0) (fun i => (intOf i).toNat)
 case atStart => exact ⟨3, by omega, rfl, fun j h1 h2 => by omega⟩
 case round =>
  obtain ⟨k, hk, rfl, hz⟩ := hrel
  have HZ : Hid (∀ j, k < j → j ≤ 3 → xs.getD j 0 = 0) := hz
  clear hz
  by_cases hk0 : 0 < k
  ·have hki : (0 : Int) < (k : Int) := by omega
   have hk4 : (k : Int) < 4 := by omega
   obtain ⟨z, hz⟩ : ∃ z, z = xs.getD k 0 := ⟨_, rfl⟩
   have hcell : w.cell? ⟨b, off + k, none⟩ = some (.int .i64 z) := by rw [hz]; exact HC k (by omega)
   have HZZ : Hid (z = xs.getD k 0) := hz
   clear hz
   by_cases hz0 : z = 0
   ·go_wp2
    go_round
    case rel =>
     refine ⟨k - 1, by omega, ?_, fun j h1 h2 => ?_⟩
     ·rw [show (((k - 1 : Nat)) : Int) = (k : Int) - 1 by omega]
     ·by_cases hjk : j = k
      ·subst hjk; rw [← show z = xs.getD j 0 from HZZ]; exact hz0
      ·exact HZ j (by omega) h2
    case measure => simp [intOf]; omega
   ·go_wp2
    go_ret
    refine ⟨retI ?_, rfl⟩
    have hne : xs.getD k 0 ≠ 0 := by rw [← show z = xs.getD k 0 from HZZ]; exact hz0
    have : top xs = k := by
     unfold top
     rcases (show k = 1 ∨ k = 2 ∨ k = 3 by omega) with rfl | rfl | rfl
     ·rw [if_neg (by rw [HZ 3 (by omega) (by omega)]; simp), if_neg (by rw [HZ 2 (by omega) (by omega)]; simp), if_pos hne]
     ·rw [if_neg (by rw [HZ 3 (by omega) (by omega)]; simp), if_pos hne]
     ·rw [if_pos hne]
    rw [this]
  ·obtain rfl : k = 0 := by omega
   go_wp2
   go_ret
   refine ⟨retI ?_, rfl⟩
   have : top xs = 0 := by
    unfold top
    rw [if_neg (by rw [HZ 3 (by omega) (by omega)]; simp), if_neg (by rw [HZ 2 (by omega) (by omega)]; simp), if_neg (by rw [HZ 1 (by omega) (by omega)]; simp)]
   rw [this]
   rfl
def badT (q : Int) (p m : List Int) : Int :=
 if q = 0 then 0 else if 0 < q then (if p.getD (top p) 0 ≤ 0 then 10000 else if 0 < top p then 0 else badV q (p.getD (top p) 0))
 else (if m.getD (top m) 0 ≤ 0 ∨ (top m = 0 ∧ m.getD (top m) 0 < -q) then 1000000 else if 0 < top m then 0 else badV (-q) (m.getD (top m) 0))
def clsT (q b : Int) : Int := if b ≤ 12 then 2 else if q < 0 then 3 else if b ≤ 99 then 1 else 0
theorem badV_in (s c : Int) : 0 ≤ badV s c ∧ badV s c ≤ 10000 := by
 unfold badV
 split
 ·omega
 ·split
  ·omega
  ·have h1 : badN s.toNat c.toNat ≤ 10000 := BigN.part_le _ _ _
   omega
theorem top_le (xs : List Int) : top xs ≤ 3 := by
 unfold top
 split
 ·omega
 ·split
  ·omega
  ·split <;> omega
set_option maxRecDepth 20000 in
set_option maxHeartbeats 8000000 in
theorem l9Bad_any {w : World} (wd q target : Int) (pv mv : Value) (p m : List Int) (hp : Row w pv p) (hm : Row w mv m) (hpl : p.length = 4) (hml : m.length = 4) (hq : q = target - wd)
 (hw1 : -4611686018427387904 ≤ wd ∧ wd ≤ 4611686018427387904) (ht1 : 0 ≤ target ∧ target ≤ 1073741823)
 (hpb : p.getD (top p) 0 ≤ 9223372036854775807) (hmb : m.getD (top m) 0 ≤ 9223372036854775807) :
 Calls Tryz.prog 23 #[.agg #[.int .i64 wd, pv, mv], .int .i64 target] w fun e w' => e = .returned (.tuple #[.int .i64 (badT q p m), .int .i64 (clsT q (badT q p m))]) ∧ Below w.heap.size w w' := by
 obtain ⟨pa, pn, pc, rfl, hpn, hpr⟩ := hp
 obtain ⟨ma, mn, mc, rfl, hmn, hmr⟩ := hm
 obtain rfl : pn = 4 := by omega
 obtain rfl : mn = 4 := by omega
 obtain ⟨pg, po, rfl, hpg, hpc⟩ := hpr (by omega)
 obtain ⟨mg, mo, rfl, hmg, hmc⟩ := hmr (by omega)
 obtain ⟨bd, hbd⟩ : ∃ b, b = badT q p m := ⟨_, rfl⟩
 have HCL : Hid (∀ b, clsT q b = if b ≤ 12 then 2 else if q < 0 then 3 else if b ≤ 99 then 1 else 0) := hideP (fun _ => rfl)
 have HBD := hideP hbd
 rw [← hbd]
 have ROWP : Hid (∀ W, Below w.heap.size w W → Row W (.slice (some ⟨pg, po, none⟩) 4 pc) p) := hideP (fun W hW => Row.below ⟨_, 4, pc, rfl, hpl, fun _ => ⟨pg, po, rfl, hpg, hpc⟩⟩ hW)
 have ROWM : Hid (∀ W, Below w.heap.size w W → Row W (.slice (some ⟨mg, mo, none⟩) 4 mc) m) := hideP (fun W hW => Row.below ⟨_, 4, mc, rfl, hml, fun _ => ⟨mg, mo, rfl, hmg, hmc⟩⟩ hW)
 have HPC := hideP hpc
 have HMC := hideP hmc
 clear hpr hmr hpc hmc hpn hmn hbd
 have FIN : Hid (∀ (b : Int), b = bd → clsT q bd = (if b ≤ 12 then 2 else if q < 0 then 3 else if b ≤ 99 then 1 else 0)) := hideP (fun b hb => by rw [HCL.out, hb])
 rcases Int.lt_trichotomy q 0 with h0 | h0 | h0
 ·obtain ⟨o, ho⟩ : ∃ o, o = top m := ⟨_, rfl⟩
  obtain ⟨hv, hhv⟩ : ∃ h, h = m.getD (top m) 0 := ⟨_, rfl⟩
  have HO := hideP ho
  have HHV := hideP hhv
  have ho3 : o ≤ 3 := by rw [ho]; exact top_le m
  have hcell : w.cell? ⟨mg, mo + o, none⟩ = some (.int .i64 hv) := by rw [hhv, ho]; exact HMC.out _ (by have := top_le m; omega)
  have HB : Hid (bd = if hv ≤ 0 ∨ (o = 0 ∧ hv < -q) then 1000000 else if 0 < o then 0 else badV (-q) hv) := hideP (by rw [HBD.out, hhv, ho]; unfold badT; rw [if_neg (by omega), if_neg (by omega)])
  rw [← hhv] at hmb
  clear ho hhv
  have hoi : (o : Int) < 4 := by omega
  have TC : Hid (∀ W, Below w.heap.size w W → Calls Tryz.prog 58 #[.slice (some ⟨mg, mo, none⟩) 4 mc] W fun e w' => e = .returned (.int .i64 (o : Int)) ∧ w' = W) := hideP (fun W hW => by rw [HO.out]; exact specTop_any (ROWM.out W hW) hml)
  have hq1 : target - wd = q := hq.symm
  have n1 : ¬ wd = target := by omega
  have n1b : (wd == target) = false := by simpa using n1
  have n2 : wd > target := by omega
  have n2b : decide (wd > target) = true := by simp; omega
  have n2c : decide (target < wd) = true := by simp; omega
  have n3 : decide (q < 0) = true := by simp; omega
  have n4 : -9223372036854775808 ≤ -q ∧ -q ≤ 9223372036854775807 := by omega
  have HW := hideP hw1
  have HT := hideP ht1
  clear hq hw1 ht1 hpb hpl hml
  by_cases hov : hv ≤ 0 ∨ (o = 0 ∧ hv < -q)
  ·have HE : Hid (bd = 1000000) := hideP (by rw [HB.out, if_pos hov])
   have HF : Hid (clsT q bd = 3) := hideP (by rw [HCL.out, HE.out, if_neg (by omega), if_pos h0])
   clear HB FIN HBD HCL
   by_cases hv0 : hv ≤ 0
   ·have v1 : decide (hv ≤ 0) = true := by simp; omega
    go_enter Tryz.func23, Tryz.ntmps23
    go_wp2_with (go_at_call 58; refine (TC.out _ (below1 _ _)).mono ?_; rintro e w6 ⟨rfl, rfl⟩)
    go_ret2
    exact ⟨by rw [HF.out, HE.out]; rfl, below1 _ _⟩
   ·have v1 : decide (hv ≤ 0) = false := by simp; omega
    have ho0 : o = 0 := by omega
    subst ho0
    have hcell0 : w.cell? ⟨mg, mo, none⟩ = some (.int .i64 hv) := hcell
    have v2 : decide (hv < -q) = true := by simp; omega
    have v3 : hv < -q := by omega
    go_enter Tryz.func23, Tryz.ntmps23
    go_wp2_with (go_at_call 58; refine (TC.out _ (below1 _ _)).mono ?_; rintro e w6 ⟨rfl, rfl⟩)
    go_ret2
    exact ⟨by rw [HF.out, HE.out]; rfl, below1 _ _⟩
  ·have hv0 : ¬ hv ≤ 0 := by omega
   have v1 : decide (hv ≤ 0) = false := by simp; omega
   by_cases ho0 : o = 0
   ·subst ho0
    have hcell0 : w.cell? ⟨mg, mo, none⟩ = some (.int .i64 hv) := hcell
    have v2 : decide (hv < -q) = false := by simp; omega
    have v3 : ¬ hv < -q := by omega
    have HE : Hid (bd = badV (-q) hv) := hideP (by rw [HB.out, if_neg hov, if_neg (by omega)])
    have BC : Hid (∀ W, Calls Tryz.prog 59 #[.int .i64 (-q), .int .i64 hv] W fun e w' => e = .returned (.int .i64 bd) ∧ Below W.heap.size W w') := hideP (fun W => by rw [HE.out]; exact specBad_any _ _ _ (by omega) (by omega))
    have hbi : 0 ≤ bd ∧ bd ≤ 10000 := by rw [HE.out]; exact badV_in _ _
    clear HB FIN HBD HE
    go_enter Tryz.func23, Tryz.ntmps23
    go_wp2_with (first | (go_at_call 58; refine (TC.out _ (below1 _ _)).mono ?_; rintro e w6 ⟨rfl, rfl⟩) | (go_at_call 59; refine (BC.out _).mono ?_; rintro e w7 ⟨rfl, hb7⟩; have B7 : Hid (Below w.heap.size w w7) := hideP (below_more (below1 w _) hb7 (below1 w _).size); have k7 := hb7.block w.heap.size (by simp); have k8 := k7.trans (heap_alloc_new w _); have k9 := cell_of_row w7 w.heap.size 0 _ 65 _ k8; clear k7 k8 hb7))
    all_goals go_ret2
    all_goals refine ⟨?_, B7.out⟩
    all_goals rw [HCL.out]
    all_goals first | (rw [if_pos (by omega)]; rfl) | (rw [if_neg (by omega), if_pos (by omega)]; rfl) | (rw [if_neg (by omega), if_neg (by omega), if_pos (by omega)]; rfl) | (rw [if_neg (by omega), if_neg (by omega), if_neg (by omega)]; rfl)
   ·have ho1 : 0 < o := by omega
    have o1 : ((o : Int) == 0) = false := by simp; omega
    have o2 : ¬ (o : Int) = 0 := by omega
    have HE : Hid (bd = 0) := hideP (by rw [HB.out, if_neg hov, if_pos ho1])
    have HF : Hid (clsT q bd = 2) := hideP (by rw [HCL.out, HE.out, if_pos (by omega)])
    clear HB FIN HBD HCL
    go_enter Tryz.func23, Tryz.ntmps23
    go_wp2_with (go_at_call 58; refine (TC.out _ (below1 _ _)).mono ?_; rintro e w6 ⟨rfl, rfl⟩)
    go_ret2
    exact ⟨by rw [HF.out, HE.out]; rfl, below1 _ _⟩
 ·have HE : Hid (bd = 0) := hideP (by rw [HBD.out]; unfold badT; rw [if_pos h0])
  have HF : Hid (clsT q bd = 2) := hideP (by rw [HCL.out, HE.out, if_pos (by omega)])
  have n1 : wd = target := by omega
  have n1b : (wd == target) = true := by simpa using n1
  clear FIN HBD HCL hq hw1 ht1 hpb hmb hpl hml h0
  go_enter Tryz.func23, Tryz.ntmps23
  go_wp2
  go_ret2
  exact ⟨by rw [HF.out, HE.out]; rfl, below1 _ _⟩
 ·obtain ⟨o, ho⟩ : ∃ o, o = top p := ⟨_, rfl⟩
  obtain ⟨hv, hhv⟩ : ∃ h, h = p.getD (top p) 0 := ⟨_, rfl⟩
  have HO := hideP ho
  have ho3 : o ≤ 3 := by rw [ho]; exact top_le p
  have hcell : w.cell? ⟨pg, po + o, none⟩ = some (.int .i64 hv) := by rw [hhv, ho]; exact HPC.out _ (by have := top_le p; omega)
  have HB : Hid (bd = if hv ≤ 0 then 10000 else if 0 < o then 0 else badV q hv) := hideP (by rw [HBD.out, hhv, ho]; unfold badT; rw [if_neg (by omega), if_pos h0])
  rw [← hhv] at hpb
  clear ho hhv
  have hoi : (o : Int) < 4 := by omega
  have TC : Hid (∀ W, Below w.heap.size w W → Calls Tryz.prog 58 #[.slice (some ⟨pg, po, none⟩) 4 pc] W fun e w' => e = .returned (.int .i64 (o : Int)) ∧ w' = W) := hideP (fun W hW => by rw [HO.out]; exact specTop_any (ROWP.out W hW) hpl)
  have hq1 : target - wd = q := hq.symm
  have n1 : ¬ wd = target := by omega
  have n1b : (wd == target) = false := by simpa using n1
  have n2 : ¬ target < wd := by omega
  have n2b : decide (wd > target) = false := by simp; omega
  have n2c : decide (target < wd) = false := by simp; omega
  have n3 : decide (q < 0) = false := by simp; omega
  have hqn : ¬ q < 0 := by omega
  have hq9 : q ≤ 9223372036854775807 := by omega
  clear hq hw1 ht1 hpl hml
  by_cases hv0 : hv ≤ 0
  ·have v1 : decide (hv ≤ 0) = true := by simp; omega
   have HE : Hid (bd = 10000) := hideP (by rw [HB.out, if_pos hv0])
   have HF : Hid (clsT q bd = 0) := hideP (by rw [HCL.out, HE.out, if_neg (by omega), if_neg (by omega), if_neg (by omega)])
   clear HB FIN HBD HCL
   by_cases ho0 : o = 0
   ·subst ho0
    have hcell0 : w.cell? ⟨pg, po, none⟩ = some (.int .i64 hv) := hcell
    go_enter Tryz.func23, Tryz.ntmps23
    go_wp2_with (go_at_call 58; refine (TC.out _ (below1 _ _)).mono ?_; rintro e w6 ⟨rfl, rfl⟩)
    go_ret2
    exact ⟨by rw [HF.out, HE.out]; rfl, below1 _ _⟩
   ·go_enter Tryz.func23, Tryz.ntmps23
    go_wp2_with (go_at_call 58; refine (TC.out _ (below1 _ _)).mono ?_; rintro e w6 ⟨rfl, rfl⟩)
    go_ret2
    exact ⟨by rw [HF.out, HE.out]; rfl, below1 _ _⟩
  ·have v1 : decide (hv ≤ 0) = false := by simp; omega
   by_cases ho0 : o = 0
   ·subst ho0
    have hcell0 : w.cell? ⟨pg, po, none⟩ = some (.int .i64 hv) := hcell
    have HE : Hid (bd = badV q hv) := hideP (by rw [HB.out, if_neg hv0, if_neg (by omega)])
    have BC : Hid (∀ W, Calls Tryz.prog 59 #[.int .i64 q, .int .i64 hv] W fun e w' => e = .returned (.int .i64 bd) ∧ Below W.heap.size W w') := hideP (fun W => by rw [HE.out]; exact specBad_any _ _ _ (by omega) (by omega))
    have hbi : 0 ≤ bd ∧ bd ≤ 10000 := by rw [HE.out]; exact badV_in _ _
    clear HB FIN HBD HE
    go_enter Tryz.func23, Tryz.ntmps23
    go_wp2_with (first | (go_at_call 58; refine (TC.out _ (below1 _ _)).mono ?_; rintro e w6 ⟨rfl, rfl⟩) | (go_at_call 59; refine (BC.out _).mono ?_; rintro e w7 ⟨rfl, hb7⟩; have B7 : Hid (Below w.heap.size w w7) := hideP (below_more (below1 w _) hb7 (below1 w _).size); have k7 := hb7.block w.heap.size (by simp); have k8 := k7.trans (heap_alloc_new w _); have k9 := cell_of_row w7 w.heap.size 0 _ 65 _ k8; clear k7 k8 hb7))
    all_goals go_ret2
    all_goals refine ⟨?_, B7.out⟩
    all_goals rw [HCL.out]
    all_goals first | (rw [if_pos (by omega)]; rfl) | (rw [if_neg (by omega), if_pos (by omega)]; rfl) | (rw [if_neg (by omega), if_neg (by omega), if_pos (by omega)]; rfl) | (rw [if_neg (by omega), if_neg (by omega), if_neg (by omega)]; rfl)
   ·have ho1 : 0 < o := by omega
    have o1 : ((o : Int) == 0) = false := by simp; omega
    have o2 : ¬ (o : Int) = 0 := by omega
    have HE : Hid (bd = 0) := hideP (by rw [HB.out, if_neg hv0, if_pos ho1])
    have HF : Hid (clsT q bd = 2) := hideP (by rw [HCL.out, HE.out, if_pos (by omega)])
    clear HB FIN HBD HCL
    go_enter Tryz.func23, Tryz.ntmps23
    go_wp2_with (go_at_call 58; refine (TC.out _ (below1 _ _)).mono ?_; rintro e w6 ⟨rfl, rfl⟩)
    go_ret2
    exact ⟨by rw [HF.out, HE.out]; rfl, below1 _ _⟩
end Go.Proofs.YtlohbaoigfaneaaGreat.Shr
