import Derived.Test.YtlohbaoigfaneaaGreatHls
import Derived.Test.YtlohbaoigfaneaaGreatDivN
import Derived.Test.YtlohbaoigfaneaaGreatShn
import Derived.Test.YtlohbaoigfaneaaGreatInts
import Derived.Test.YtlohbaoigfaneaaGreatHal
import Derived.Test.YtlohbaoigfaneaaGreatAdl
namespace Go.Proofs.YtlohbaoigfaneaaGreat.Shr
open Go.RowKit
set_option linter.unusedVariables false
set_option linter.unusedSimpArgs false
theorem retI {a b : Int} (h : a = b) : Ending.returned (.int .i64 a) = .returned (.int .i64 b) := by rw [h]
set_option maxHeartbeats 1000000 in
theorem specTop_any {v : Value} {xs : List Int} {w : World} (h : Row w v xs) (hl : xs.length = 4) : Calls Tryz.prog 58 #[v] w fun e w' => e = .returned (.int .i64 (top xs : Int)) ∧ w' = w := by
 obtain ⟨ao, n, cap, rfl, hn, hr⟩ := h
 obtain rfl : n = 4 := by omega
 obtain ⟨b, off, rfl, hb, hc⟩ := hr (by omega)
 have HC : Hid (∀ i, i < 4 → w.cell? ⟨b, off + i, none⟩ = some (.int .i64 (xs.getD i 0))) := hc
 clear hc hr hn hl
 go_enter Tryz.func58, Tryz.ntmps58
 go_wp2
 go_loop [3] (fun i => ∃ k : Nat, k ≤ 3 ∧ i = .int .i64 k ∧ ∀ j, k < j → j ≤ 3 → xs.getD j 0 = 0) (fun i => (intOf i).toNat)
 case atStart => exact ⟨3, by omega, rfl, fun j h1 h2 => by omega⟩
 case round =>
  obtain ⟨k, hk, rfl, hz⟩ := hrel
  have HZ : Hid (∀ j, k < j → j ≤ 3 → xs.getD j 0 = 0) := hz
  clear hz
  by_cases hk0 : 0 < k
  ·have hki : (0 : Int) < (k : Int) := by omega
   have hk4 : (k : Int) < 4 := by omega
   obtain ⟨z, hz⟩ : ∃ z, z = xs.getD k 0 := ⟨_, rfl⟩
   have hcell : w.cell? ⟨b, off + k, none⟩ = some (.int .i64 z) := by rw [hz]; exact HC k (by omega)
   have HZZ : Hid (z = xs.getD k 0) := hz
   clear hz
   by_cases hz0 : z = 0
   ·go_wp2
    go_round
    case rel =>
     refine ⟨k - 1, by omega, ?_, fun j h1 h2 => ?_⟩
     ·rw [show (((k - 1 : Nat)) : Int) = (k : Int) - 1 by omega]
     ·by_cases hjk : j = k
      ·subst hjk; rw [← show z = xs.getD j 0 from HZZ]; exact hz0
      ·exact HZ j (by omega) h2
    case measure => simp [intOf]; omega
   ·go_wp2
    go_ret
    refine ⟨retI ?_, rfl⟩
    have hne : xs.getD k 0 ≠ 0 := by rw [← show z = xs.getD k 0 from HZZ]; exact hz0
    have : top xs = k := by
     unfold top
     rcases (show k = 1 ∨ k = 2 ∨ k = 3 by omega) with rfl | rfl | rfl
     ·rw [if_neg (by rw [HZ 3 (by omega) (by omega)]; simp), if_neg (by rw [HZ 2 (by omega) (by omega)]; simp), if_pos hne]
     ·rw [if_neg (by rw [HZ 3 (by omega) (by omega)]; simp), if_pos hne]
     ·rw [if_pos hne]
    rw [this]
  ·obtain rfl : k = 0 := by omega
   go_wp2
   go_ret
   refine ⟨retI ?_, rfl⟩
   have : top xs = 0 := by
    unfold top
    rw [if_neg (by rw [HZ 3 (by omega) (by omega)]; simp), if_neg (by rw [HZ 2 (by omega) (by omega)]; simp), if_neg (by rw [HZ 1 (by omega) (by omega)]; simp)]
   rw [this]
   rfl
def badT (q : Int) (p m : List Int) : Int :=
 if q = 0 then 0 else if 0 < q then (if p.getD (top p) 0 ≤ 0 then 10000 else if 0 < top p then 0 else badV q (p.getD (top p) 0))
 else (if m.getD (top m) 0 ≤ 0 ∨ (top m = 0 ∧ m.getD (top m) 0 < -q) then 1000000 else if 0 < top m then 0 else badV (-q) (m.getD (top m) 0))
def clsT (q b : Int) : Int := if b ≤ 12 then 2 else if q < 0 then 3 else if b ≤ 99 then 1 else 0
theorem badV_in (s c : Int) : 0 ≤ badV s c ∧ badV s c ≤ 10000 := by
 unfold badV
 split
 ·omega
 ·split
  ·omega
  ·have h1 : badN s.toNat c.toNat ≤ 10000 := BigN.part_le _ _ _
   omega
theorem top_le (xs : List Int) : top xs ≤ 3 := by
 unfold top
 split
 ·omega
 ·split
  ·omega
  ·split <;> omega
set_option maxRecDepth 20000 in
set_option maxHeartbeats 8000000 in
theorem l9Bad_any {w : World} (wd q target : Int) (pv mv : Value) (p m : List Int) (hp : Row w pv p) (hm : Row w mv m) (hpl : p.length = 4) (hml : m.length = 4) (hq : q = target - wd)
 (hw1 : -4611686018427387904 ≤ wd ∧ wd ≤ 4611686018427387904) (ht1 : 0 ≤ target ∧ target ≤ 1073741823)
 (hpb : p.getD (top p) 0 ≤ 9223372036854775807) (hmb : m.getD (top m) 0 ≤ 9223372036854775807) :
 Calls Tryz.prog 23 #[.agg #[.int .i64 wd, pv, mv], .int .i64 target] w fun e w' => e = .returned (.tuple #[.int .i64 (badT q p m), .int .i64 (clsT q (badT q p m))]) ∧ Below w.heap.size w w' := by
 obtain ⟨pa, pn, pc, rfl, hpn, hpr⟩ := hp
 obtain ⟨ma, mn, mc, rfl, hmn, hmr⟩ := hm
 obtain rfl : pn = 4 := by omega
 obtain rfl : mn = 4 := by omega
 obtain ⟨pg, po, rfl, hpg, hpc⟩ := hpr (by omega)
 obtain ⟨mg, mo, rfl, hmg, hmc⟩ := hmr (by omega)
 obtain ⟨bd, hbd⟩ : ∃ b, b = badT q p m := ⟨_, rfl⟩
 have HCL : Hid (∀ b, clsT q b = if b ≤ 12 then 2 else if q < 0 then 3 else if b ≤ 99 then 1 else 0) := hideP (fun _ => rfl)
 have HBD := hideP hbd
 rw [← hbd]
 have ROWP : Hid (∀ W, Below w.heap.size w W → Row W (.slice (some ⟨pg, po, none⟩) 4 pc) p) := hideP (fun W hW => Row.below ⟨_, 4, pc, rfl, hpl, fun _ => ⟨pg, po, rfl, hpg, hpc⟩⟩ hW)
 have ROWM : Hid (∀ W, Below w.heap.size w W → Row W (.slice (some ⟨mg, mo, none⟩) 4 mc) m) := hideP (fun W hW => Row.below ⟨_, 4, mc, rfl, hml, fun _ => ⟨mg, mo, rfl, hmg, hmc⟩⟩ hW)
 have HPC := hideP hpc
 have HMC := hideP hmc
 clear hpr hmr hpc hmc hpn hmn hbd
 have FIN : Hid (∀ (b : Int), b = bd → clsT q bd = (if b ≤ 12 then 2 else if q < 0 then 3 else if b ≤ 99 then 1 else 0)) := hideP (fun b hb => by rw [HCL.out, hb])
 rcases Int.lt_trichotomy q 0 with h0 | h0 | h0
 ·obtain ⟨o, ho⟩ : ∃ o, o = top m := ⟨_, rfl⟩
  obtain ⟨hv, hhv⟩ : ∃ h, h = m.getD (top m) 0 := ⟨_, rfl⟩
  have HO := hideP ho
  have HHV := hideP hhv
  have ho3 : o ≤ 3 := by rw [ho]; exact top_le m
  have hcell : w.cell? ⟨mg, mo + o, none⟩ = some (.int .i64 hv) := by rw [hhv, ho]; exact HMC.out _ (by have := top_le m; omega)
  have HB : Hid (bd = if hv ≤ 0 ∨ (o = 0 ∧ hv < -q) then 1000000 else if 0 < o then 0 else badV (-q) hv) := hideP (by rw [HBD.out, hhv, ho]; unfold badT; rw [if_neg (by omega), if_neg (by omega)])
  rw [← hhv] at hmb
  clear ho hhv
  have hoi : (o : Int) < 4 := by omega
  have TC : Hid (∀ W, Below w.heap.size w W → Calls Tryz.prog 58 #[.slice (some ⟨mg, mo, none⟩) 4 mc] W fun e w' => e = .returned (.int .i64 (o : Int)) ∧ w' = W) := hideP (fun W hW => by rw [HO.out]; exact specTop_any (ROWM.out W hW) hml)
  have hq1 : target - wd = q := hq.symm
  have n1 : ¬ wd = target := by omega
  have n1b : (wd == target) = false := by simpa using n1
  have n2 : wd > target := by omega
  have n2b : decide (wd > target) = true := by simp; omega
  have n2c : decide (target < wd) = true := by simp; omega
  have n3 : decide (q < 0) = true := by simp; omega
  have n4 : -9223372036854775808 ≤ -q ∧ -q ≤ 9223372036854775807 := by omega
  have HW := hideP hw1
  have HT := hideP ht1
  clear hq hw1 ht1 hpb hpl hml
  by_cases hov : hv ≤ 0 ∨ (o = 0 ∧ hv < -q)
  ·have HE : Hid (bd = 1000000) := hideP (by rw [HB.out, if_pos hov])
   have HF : Hid (clsT q bd = 3) := hideP (by rw [HCL.out, HE.out, if_neg (by omega), if_pos h0])
   clear HB FIN HBD HCL
   by_cases hv0 : hv ≤ 0
   ·have v1 : decide (hv ≤ 0) = true := by simp; omega
    go_enter Tryz.func23, Tryz.ntmps23
    go_wp2_with (go_at_call 58; refine (TC.out _ (below1 _ _)).mono ?_; rintro e w6 ⟨rfl, rfl⟩)
    go_ret2
    exact ⟨by rw [HF.out, HE.out]; rfl, below1 _ _⟩
   ·have v1 : decide (hv ≤ 0) = false := by simp; omega
    have ho0 : o = 0 := by omega
    subst ho0
    have hcell0 : w.cell? ⟨mg, mo, none⟩ = some (.int .i64 hv) := hcell
    have v2 : decide (hv < -q) = true := by simp; omega
    have v3 : hv < -q := by omega
    go_enter Tryz.func23, Tryz.ntmps23
    go_wp2_with (go_at_call 58; refine (TC.out _ (below1 _ _)).mono ?_; rintro e w6 ⟨rfl, rfl⟩)
    go_ret2
    exact ⟨by rw [HF.out, HE.out]; rfl, below1 _ _⟩
  ·have hv0 : ¬ hv ≤ 0 := by omega
   have v1 : decide (hv ≤ 0) = false := by simp; omega
   by_cases ho0 : o = 0
   ·subst ho0
    have hcell0 : w.cell? ⟨mg, mo, none⟩ = some (.int .i64 hv) := hcell
    have v2 : decide (hv < -q) = false := by simp; omega
    have v3 : ¬ hv < -q := by omega
    have HE : Hid (bd = badV (-q) hv) := hideP (by rw [HB.out, if_neg hov, if_neg (by omega)])
    have BC : Hid (∀ W, Calls Tryz.prog 59 #[.int .i64 (-q), .int .i64 hv] W fun e w' => e = .returned (.int .i64 bd) ∧ Below W.heap.size W w') := hideP (fun W => by rw [HE.out]; exact specBad_any _ _ _ (by omega) (by omega))
    have hbi : 0 ≤ bd ∧ bd ≤ 10000 := by rw [HE.out]; exact badV_in _ _
    clear HB FIN HBD HE
    go_enter Tryz.func23, Tryz.ntmps23
    go_wp2_with (first | (go_at_call 58; refine (TC.out _ (below1 _ _)).mono ?_; rintro e w6 ⟨rfl, rfl⟩) | (go_at_call 59; refine (BC.out _).mono ?_; rintro e w7 ⟨rfl, hb7⟩; have B7 : Hid (Below w.heap.size w w7) := hideP (below_more (below1 w _) hb7 (below1 w _).size); have k7 := hb7.block w.heap.size (by simp); have k8 := k7.trans (heap_alloc_new w _); have k9 := cell_of_row w7 w.heap.size 0 _ 65 _ k8; clear k7 k8 hb7))
    all_goals go_ret2
    all_goals refine ⟨?_, B7.out⟩
    all_goals rw [HCL.out]
    all_goals first | (rw [if_pos (by omega)]; rfl) | (rw [if_neg (by omega), if_pos (by omega)]; rfl) | (rw [if_neg (by omega), if_neg (by omega), if_pos (by omega)]; rfl) | (rw [if_neg (by omega), if_neg (by omega), if_neg (by omega)]; rfl)
   ·have ho1 : 0 < o := by omega
    have o1 : ((o : Int) == 0) = false := by simp; omega
    have o2 : ¬ (o : Int) = 0 := by omega
    have HE : Hid (bd = 0) := hideP (by rw [HB.out, if_neg hov, if_pos ho1])
    have HF : Hid (clsT q bd = 2) := hideP (by rw [HCL.out, HE.out, if_pos (by omega)])
    clear HB FIN HBD HCL
    go_enter Tryz.func23, Tryz.ntmps23
    go_wp2_with (go_at_call 58; refine (TC.out _ (below1 _ _)).mono ?_; rintro e w6 ⟨rfl, rfl⟩)
    go_ret2
    exact ⟨by rw [HF.out, HE.out]; rfl, below1 _ _⟩
 ·have HE : Hid (bd = 0) := hideP (by rw [HBD.out]; unfold badT; rw [if_pos h0])
  have HF : Hid (clsT q bd = 2) := hideP (by rw [HCL.out, HE.out, if_pos (by omega)])
  have n1 : wd = target := by omega
  have n1b : (wd == target) = true := by simpa using n1
  clear FIN HBD HCL hq hw1 ht1 hpb hmb hpl hml h0
  go_enter Tryz.func23, Tryz.ntmps23
  go_wp2
  go_ret2
  exact ⟨by rw [HF.out, HE.out]; rfl, below1 _ _⟩
 ·obtain ⟨o, ho⟩ : ∃ o, o = top p := ⟨_, rfl⟩
  obtain ⟨hv, hhv⟩ : ∃ h, h = p.getD (top p) 0 := ⟨_, rfl⟩
  have HO := hideP ho
  have ho3 : o ≤ 3 := by rw [ho]; exact top_le p
  have hcell : w.cell? ⟨pg, po + o, none⟩ = some (.int .i64 hv) := by rw [hhv, ho]; exact HPC.out _ (by have := top_le p; omega)
  have HB : Hid (bd = if hv ≤ 0 then 10000 else if 0 < o then 0 else badV q hv) := hideP (by rw [HBD.out, hhv, ho]; unfold badT; rw [if_neg (by omega), if_pos h0])
  rw [← hhv] at hpb
  clear ho hhv
  have hoi : (o : Int) < 4 := by omega
  have TC : Hid (∀ W, Below w.heap.size w W → Calls Tryz.prog 58 #[.slice (some ⟨pg, po, none⟩) 4 pc] W fun e w' => e = .returned (.int .i64 (o : Int)) ∧ w' = W) := hideP (fun W hW => by rw [HO.out]; exact specTop_any (ROWP.out W hW) hpl)
  have hq1 : target - wd = q := hq.symm
  have n1 : ¬ wd = target := by omega
  have n1b : (wd == target) = false := by simpa using n1
  have n2 : ¬ target < wd := by omega
  have n2b : decide (wd > target) = false := by simp; omega
  have n2c : decide (target < wd) = false := by simp; omega
  have n3 : decide (q < 0) = false := by simp; omega
  have hqn : ¬ q < 0 := by omega
  have hq9 : q ≤ 9223372036854775807 := by omega
  clear hq hw1 ht1 hpl hml
  by_cases hv0 : hv ≤ 0
  ·have v1 : decide (hv ≤ 0) = true := by simp; omega
   have HE : Hid (bd = 10000) := hideP (by rw [HB.out, if_pos hv0])
   have HF : Hid (clsT q bd = 0) := hideP (by rw [HCL.out, HE.out, if_neg (by omega), if_neg (by omega), if_neg (by omega)])
   clear HB FIN HBD HCL
   by_cases ho0 : o = 0
   ·subst ho0
    have hcell0 : w.cell? ⟨pg, po, none⟩ = some (.int .i64 hv) := hcell
    go_enter Tryz.func23, Tryz.ntmps23
    go_wp2_with (go_at_call 58; refine (TC.out _ (below1 _ _)).mono ?_; rintro e w6 ⟨rfl, rfl⟩)
    go_ret2
    exact ⟨by rw [HF.out, HE.out]; rfl, below1 _ _⟩
   ·go_enter Tryz.func23, Tryz.ntmps23
    go_wp2_with (go_at_call 58; refine (TC.out _ (below1 _ _)).mono ?_; rintro e w6 ⟨rfl, rfl⟩)
    go_ret2
    exact ⟨by rw [HF.out, HE.out]; rfl, below1 _ _⟩
  ·have v1 : decide (hv ≤ 0) = false := by simp; omega
   by_cases ho0 : o = 0
   ·subst ho0
    have hcell0 : w.cell? ⟨pg, po, none⟩ = some (.int .i64 hv) := hcell
    have HE : Hid (bd = badV q hv) := hideP (by rw [HB.out, if_neg hv0, if_neg (by omega)])
    have BC : Hid (∀ W, Calls Tryz.prog 59 #[.int .i64 q, .int .i64 hv] W fun e w' => e = .returned (.int .i64 bd) ∧ Below W.heap.size W w') := hideP (fun W => by rw [HE.out]; exact specBad_any _ _ _ (by omega) (by omega))
    have hbi : 0 ≤ bd ∧ bd ≤ 10000 := by rw [HE.out]; exact badV_in _ _
    clear HB FIN HBD HE
    go_enter Tryz.func23, Tryz.ntmps23
    go_wp2_with (first | (go_at_call 58; refine (TC.out _ (below1 _ _)).mono ?_; rintro e w6 ⟨rfl, rfl⟩) | (go_at_call 59; refine (BC.out _).mono ?_; rintro e w7 ⟨rfl, hb7⟩; have B7 : Hid (Below w.heap.size w w7) := hideP (below_more (below1 w _) hb7 (below1 w _).size); have k7 := hb7.block w.heap.size (by simp); have k8 := k7.trans (heap_alloc_new w _); have k9 := cell_of_row w7 w.heap.size 0 _ 65 _ k8; clear k7 k8 hb7))
    all_goals go_ret2
    all_goals refine ⟨?_, B7.out⟩
    all_goals rw [HCL.out]
    all_goals first | (rw [if_pos (by omega)]; rfl) | (rw [if_neg (by omega), if_pos (by omega)]; rfl) | (rw [if_neg (by omega), if_neg (by omega), if_pos (by omega)]; rfl) | (rw [if_neg (by omega), if_neg (by omega), if_neg (by omega)]; rfl)
   ·have ho1 : 0 < o := by omega
    have o1 : ((o : Int) == 0) = false := by simp; omega
    have o2 : ¬ (o : Int) = 0 := by omega
    have HE : Hid (bd = 0) := hideP (by rw [HB.out, if_neg hv0, if_pos ho1])
    have HF : Hid (clsT q bd = 2) := hideP (by rw [HCL.out, HE.out, if_pos (by omega)])
    clear HB FIN HBD HCL
    go_enter Tryz.func23, Tryz.ntmps23
    go_wp2_with (go_at_call 58; refine (TC.out _ (below1 _ _)).mono ?_; rintro e w6 ⟨rfl, rfl⟩)
    go_ret2
    exact ⟨by rw [HF.out, HE.out]; rfl, below1 _ _⟩
abbrev fourV (a b c d : Int) : Value := .agg #[.int .i64 a, .int .i64 b, .int .i64 c, .int .i64 d]
def SetQ (q bd : Int) (e : Ending) : Prop := ∃ sg x1 x2 x3 x5 : Int, e = .returned (setV sg x1 x2 x3 bd x5) ∧ (sg < 0 ↔ q < 0)
theorem upQ_any (q p0 p1 p2 p3 : Int) (m : List Int) (w : World) (h0 : 0 < q) (hw1 : q ≤ 4611686018427387904) (hb : ([p0, p1, p2, p3] : List Int).getD (top [p0, p1, p2, p3]) 0 ≤ 10737418230000) :
 Calls Tryz.prog 112 #[.int .i64 q, fourV p0 p1 p2 p3] w fun e w' => SetQ q (badT q [p0, p1, p2, p3] m) e ∧ Below w.heap.size w w' := by
 have hE : badT q [p0, p1, p2, p3] m = if ([p0, p1, p2, p3] : List Int).getD (top [p0, p1, p2, p3]) 0 ≤ 0 then 10000 else if 0 < (top [p0, p1, p2, p3] : Int) then 0 else badV q (([p0, p1, p2, p3] : List Int).getD (top [p0, p1, p2, p3]) 0) := by
  unfold badT
  rw [if_neg (by omega), if_pos h0]
  have e1 : (0 < ((top [p0, p1, p2, p3] : Nat) : Int)) = (0 < top [p0, p1, p2, p3]) := by simp
  simp only [e1]
 rw [hE]
 refine (stretchT_any q p0 p1 p2 p3 _ _ w rfl rfl (by omega) (by omega)).mono ?_
 rintro e w' ⟨rfl, hb'⟩
 exact ⟨⟨1, _, _, _, _, rfl, by omega⟩, hb'⟩
theorem downQ_any (q m0 m1 m2 m3 : Int) (p : List Int) (w : World) (h0 : q < 0) (hw1 : -4611686018427387904 ≤ q) (hb0 : -10737418230000 ≤ ([m0, m1, m2, m3] : List Int).getD (top [m0, m1, m2, m3]) 0) (hb : ([m0, m1, m2, m3] : List Int).getD (top [m0, m1, m2, m3]) 0 ≤ 10737418230000) :
 Calls Tryz.prog 113 #[.int .i64 (-q), fourV m0 m1 m2 m3] w fun e w' => SetQ q (badT q p [m0, m1, m2, m3]) e ∧ Below w.heap.size w w' := by
 have hE : badT q p [m0, m1, m2, m3] = if ([m0, m1, m2, m3] : List Int).getD (top [m0, m1, m2, m3]) 0 ≤ 0 ∨ (top [m0, m1, m2, m3] = 0 ∧ ([m0, m1, m2, m3] : List Int).getD (top [m0, m1, m2, m3]) 0 < -q) then 1000000 else if 0 < top [m0, m1, m2, m3] then 0 else badV (-q) (([m0, m1, m2, m3] : List Int).getD (top [m0, m1, m2, m3]) 0) := by
  unfold badT
  rw [if_neg (by omega), if_neg (by omega)]
 rw [hE]
 clear hE
 obtain ⟨o, ho⟩ : ∃ o, o = top [m0, m1, m2, m3] := ⟨_, rfl⟩
 obtain ⟨hv, hhv⟩ : ∃ h, h = ([m0, m1, m2, m3] : List Int).getD (top [m0, m1, m2, m3]) 0 := ⟨_, rfl⟩
 have ho1 : (o : Int) = (top [m0, m1, m2, m3] : Int) := by rw [ho]
 rw [← hhv] at hb0 hb ⊢
 rw [← ho]
 by_cases hno : hv ≤ 0
 ·refine (shrinkT_none (-q) m0 m1 m2 m3 _ _ w ho1 hhv (by omega) (by omega) hb0 hb hno).mono ?_
  rintro e w' ⟨rfl, hb'⟩
  rw [if_pos (.inl hno)]
  exact ⟨⟨-1, _, _, _, _, rfl, by omega⟩, hb'⟩
 ·by_cases hov : o = 0 ∧ hv < -q
  ·refine (shrinkT_over (-q) m0 m1 m2 m3 _ _ w ho1 hhv (by omega) (by omega) hb0 hb (by omega) (by omega) hov.2).mono ?_
   rintro e w' ⟨rfl, hb'⟩
   rw [if_pos (.inr hov)]
   exact ⟨⟨-1, _, _, _, _, rfl, by omega⟩, hb'⟩
  ·rw [if_neg (fun h => h.elim hno hov)]
   by_cases h1 : o = 0
   ·refine (shrinkT_zero (-q) m0 m1 m2 m3 _ _ w ho1 hhv (by omega) (by omega) hb0 hb (by omega) (by omega) (by omega) _ rfl).mono ?_
    rintro e w' ⟨rfl, hb'⟩
    rw [if_neg (by omega), if_neg (by omega)]
    exact ⟨⟨-1, _, _, _, _, rfl, by omega⟩, hb'⟩
   ·refine (shrinkT_high (-q) m0 m1 m2 m3 _ _ w ho1 hhv (by omega) (by omega) hb0 hb (by omega) (by omega) _ rfl).mono ?_
    rintro e w' ⟨rfl, hb'⟩
    rw [if_pos (by omega), if_pos (by omega)]
    exact ⟨⟨-1, _, _, _, _, rfl, by omega⟩, hb'⟩
set_option maxRecDepth 20000 in
set_option maxHeartbeats 4000000 in
theorem settleQ_any (q p0 p1 p2 p3 m0 m1 m2 m3 : Int) (w : World) (hw0 : -4611686018427387904 ≤ q) (hw1 : q ≤ 4611686018427387904) (hpb : ([p0, p1, p2, p3] : List Int).getD (top [p0, p1, p2, p3]) 0 ≤ 10737418230000)
 (hb0 : -10737418230000 ≤ ([m0, m1, m2, m3] : List Int).getD (top [m0, m1, m2, m3]) 0) (hb : ([m0, m1, m2, m3] : List Int).getD (top [m0, m1, m2, m3]) 0 ≤ 10737418230000) :
 Calls Tryz.prog 81 #[.int .i64 q, fourV p0 p1 p2 p3, fourV m0 m1 m2 m3] w fun e w' => SetQ q (badT q [p0, p1, p2, p3] [m0, m1, m2, m3]) e ∧ Below w.heap.size w w' := by
 obtain ⟨bd, hbd⟩ : ∃ b, b = badT q [p0, p1, p2, p3] [m0, m1, m2, m3] := ⟨_, rfl⟩
 rw [← hbd]
 have hwn : IntKind.i64.wrap (-q) = -q := by rw [IntKind.wrap_i64]; omega
 rcases Int.lt_trichotomy q 0 with h0 | h0 | h0
 ·have HU : Hid (∀ W, Calls Tryz.prog 113 #[.int .i64 (-q), fourV m0 m1 m2 m3] W fun e w' => SetQ q bd e ∧ Below W.heap.size W w') := hideP (fun W => by rw [hbd]; exact downQ_any q m0 m1 m2 m3 _ W h0 (by omega) hb0 hb)
  have hq1 : ¬ 0 < q := by omega
  clear hpb hb0 hb hbd
  simp only [fourV, SetQ] at HU ⊢
  go_enter Tryz.func81, Tryz.ntmps81
  go_wp2_with fail
  refine (HU.out _).mono ?_
  rintro e w2 ⟨⟨sg, x1, x2, x3, x5, rfl, hsg⟩, hb2⟩
  have R2 : w2.heap[w.heap.size + 2]? = some (setO 0 0 0 0 0 0) := block_keep (by have := heap_alloc_new ((w.alloc (.cells #[.int .i64 p0, .int .i64 p1, .int .i64 p2, .int .i64 p3] 114)).alloc (.cells #[.int .i64 m0, .int .i64 m1, .int .i64 m2, .int .i64 m3] 114)) (setO 0 0 0 0 0 0); simpa using this) hb2
  have B2 : Below w.heap.size w w2 := ((((Below.refl _ _).alloc (Nat.le_refl _) _).alloc (by simp) _).alloc (by simp; omega) _).trans (hb2.mono (by simp; omega))
  obtain ⟨R, hR⟩ : ∃ R, R = w.heap.size + 2 := ⟨_, rfl⟩
  have hR' : w.heap.size + 1 + 1 = R := by omega
  rw [hR']
  rw [← hR] at R2
  have HF : Hid ((six w2 R sg x1 x2 x3 bd x5).heap[R]? = some (setO sg x1 x2 x3 bd x5) ∧ Below w.heap.size w (six w2 R sg x1 x2 x3 bd x5)) := by
   refine ⟨six_heap R2 _ _ _ _ _ _, ?_⟩
   have hf : Fr w2.heap.size w w2 := ⟨B2.os, B2.tape, B2.output, B2.size, fun b hb _ => B2.block b hb⟩
   exact (six_fr hf (by omega) _ _ _ _ _ _).toBelow B2.size (Nat.le_refl _)
  have hRl : R < w2.heap.size := (Array.getElem?_eq_some_iff.1 R2).1
  obtain ⟨q0, q1, q2, q3, q4, q5⟩ := set_cells R2
  have fr : ∀ j, w2.frozen? ⟨R, j, none⟩ = false := fun j => frozen_of_row w2 R j _ _ R2
  have HSG := hideP hsg
  clear hb2 R2 B2 hR hR' HU hsg
  go_wp2
  exact bodyPost_ret (v := setV sg x1 x2 x3 bd x5) (results_cell_row rfl _ _ R 174 _ (0, 0) _ rfl HF.1 Tryz.underlying174 rfl (by kernel_rfl)) rfl ⟨⟨sg, x1, x2, x3, x5, rfl, HSG.out⟩, HF.2⟩
 ·have HE : Hid (bd = 0) := hideP (by rw [hbd]; unfold badT; rw [if_pos h0])
  subst h0
  clear hpb hb0 hb hbd hwn hw0 hw1
  simp only [fourV, SetQ]
  go_enter Tryz.func81, Tryz.ntmps81
  go_wp2
  have hz := HE.out
  subst hz
  obtain ⟨W3, hW3⟩ : ∃ W, W = ((w.alloc (.cells #[.int .i64 p0, .int .i64 p1, .int .i64 p2, .int .i64 p3] 114)).alloc (.cells #[.int .i64 m0, .int .i64 m1, .int .i64 m2, .int .i64 m3] 114)).alloc (setO 0 0 0 0 0 0) := ⟨_, rfl⟩
  have R2 : W3.heap[w.heap.size + 1 + 1]? = some (setO 0 0 0 0 0 0) := by rw [hW3]; have := heap_alloc_new ((w.alloc (.cells #[.int .i64 p0, .int .i64 p1, .int .i64 p2, .int .i64 p3] 114)).alloc (.cells #[.int .i64 m0, .int .i64 m1, .int .i64 m2, .int .i64 m3] 114)) (setO 0 0 0 0 0 0); simpa using this
  have B2 : Below w.heap.size w W3 := by rw [hW3]; exact (((Below.refl _ _).alloc (Nat.le_refl _) _).alloc (by simp) _).alloc (by simp; omega) _
  simp only [setO] at hW3
  rw [← hW3]
  exact bodyPost_ret (v := setV 0 0 0 0 0 0) (results_cell_row rfl _ _ (w.heap.size + 1 + 1) 174 _ (0, 0) _ rfl R2 Tryz.underlying174 rfl (by kernel_rfl)) rfl ⟨⟨0, 0, 0, 0, 0, rfl, by omega⟩, B2⟩
 ·have HU : Hid (∀ W, Calls Tryz.prog 112 #[.int .i64 q, fourV p0 p1 p2 p3] W fun e w' => SetQ q bd e ∧ Below W.heap.size W w') := hideP (fun W => by rw [hbd]; exact upQ_any q p0 p1 p2 p3 _ W h0 hw1 hpb)
  have hq1 : ¬ q < 0 := by omega
  clear hpb hb0 hb hbd
  simp only [fourV, SetQ] at HU ⊢
  go_enter Tryz.func81, Tryz.ntmps81
  go_wp2_with fail
  refine (HU.out _).mono ?_
  rintro e w2 ⟨⟨sg, x1, x2, x3, x5, rfl, hsg⟩, hb2⟩
  have R2 : w2.heap[w.heap.size + 2]? = some (setO 0 0 0 0 0 0) := block_keep (by have := heap_alloc_new ((w.alloc (.cells #[.int .i64 p0, .int .i64 p1, .int .i64 p2, .int .i64 p3] 114)).alloc (.cells #[.int .i64 m0, .int .i64 m1, .int .i64 m2, .int .i64 m3] 114)) (setO 0 0 0 0 0 0); simpa using this) hb2
  have B2 : Below w.heap.size w w2 := ((((Below.refl _ _).alloc (Nat.le_refl _) _).alloc (by simp) _).alloc (by simp; omega) _).trans (hb2.mono (by simp; omega))
  obtain ⟨R, hR⟩ : ∃ R, R = w.heap.size + 2 := ⟨_, rfl⟩
  have hR' : w.heap.size + 1 + 1 = R := by omega
  rw [hR']
  rw [← hR] at R2
  have HF : Hid ((six w2 R sg x1 x2 x3 bd x5).heap[R]? = some (setO sg x1 x2 x3 bd x5) ∧ Below w.heap.size w (six w2 R sg x1 x2 x3 bd x5)) := by
   refine ⟨six_heap R2 _ _ _ _ _ _, ?_⟩
   have hf : Fr w2.heap.size w w2 := ⟨B2.os, B2.tape, B2.output, B2.size, fun b hb _ => B2.block b hb⟩
   exact (six_fr hf (by omega) _ _ _ _ _ _).toBelow B2.size (Nat.le_refl _)
  have hRl : R < w2.heap.size := (Array.getElem?_eq_some_iff.1 R2).1
  obtain ⟨q0, q1, q2, q3, q4, q5⟩ := set_cells R2
  have fr : ∀ j, w2.frozen? ⟨R, j, none⟩ = false := fun j => frozen_of_row w2 R j _ _ R2
  have HSG := hideP hsg
  clear hb2 R2 B2 hR hR' HU hsg
  go_wp2
  exact bodyPost_ret (v := setV sg x1 x2 x3 bd x5) (results_cell_row rfl _ _ R 174 _ (0, 0) _ rfl HF.1 Tryz.underlying174 rfl (by kernel_rfl)) rfl ⟨⟨sg, x1, x2, x3, x5, rfl, HSG.out⟩, HF.2⟩
abbrev fillV (b c : Int) : Value := .agg #[.int .i64 b, .int .i64 c]
set_option maxRecDepth 20000 in
set_option maxHeartbeats 4000000 in
theorem fillOf_any (q sg x1 x2 x3 bd x5 : Int) (w : World) (h : sg < 0 ↔ q < 0) :
 Calls Tryz.prog 80 #[setV sg x1 x2 x3 bd x5] w fun e w' => e = .returned (fillV bd (clsT q bd)) ∧ Below w.heap.size w w' := by
 obtain ⟨c, hc⟩ : ∃ c, c = clsT q bd := ⟨_, rfl⟩
 rw [← hc]
 have HC : Hid (c = if bd ≤ 12 then 2 else if sg < 0 then 3 else if bd ≤ 99 then 1 else 0) := hideP (by rw [hc]; unfold clsT; simp only [h])
 clear hc h
 by_cases h1 : bd ≤ 12
 ·have HE : Hid (2 = c) := hideP (by rw [HC.out, if_pos h1])
  have h1b : ¬ bd > 12 := by omega
  by_cases h2 : sg < 0
  all_goals
   go_enter Tryz.func80, Tryz.ntmps80
   go_wp2
   have hz : _ = c := HE.out
   subst hz
   obtain ⟨W3, hW3⟩ : ∃ W, W = (w.alloc (.cells #[.int .i64 sg, .int .i64 x1, .int .i64 x2, .int .i64 x3, .int .i64 bd, .int .i64 x5] 174)).alloc (.cells #[.int .i64 bd, .int .i64 2] 94) := ⟨_, rfl⟩
   have R2 : W3.heap[w.heap.size + 1]? = some (.cells #[.int .i64 bd, .int .i64 2] 94 (0, 0)) := by rw [hW3]; have := heap_alloc_new (w.alloc (.cells #[.int .i64 sg, .int .i64 x1, .int .i64 x2, .int .i64 x3, .int .i64 bd, .int .i64 x5] 174)) (.cells #[.int .i64 bd, .int .i64 2] 94); simpa using this
   have B2 : Below w.heap.size w W3 := by rw [hW3]; exact ((Below.refl _ _).alloc (Nat.le_refl _) _).alloc (by simp) _
   rw [← hW3]
   exact bodyPost_ret (v := fillV bd 2) (results_cell_row rfl _ _ (w.heap.size + 1) 94 _ (0, 0) _ rfl R2 Tryz.underlying94 rfl (by kernel_rfl)) rfl ⟨rfl, B2⟩
 ·have h1b : bd > 12 := by omega
  by_cases h2 : sg < 0
  ·have HE : Hid (3 = c) := hideP (by rw [HC.out, if_neg h1, if_pos h2])
   go_enter Tryz.func80, Tryz.ntmps80
   go_wp2
   have hz : _ = c := HE.out
   subst hz
   obtain ⟨W3, hW3⟩ : ∃ W, W = (w.alloc (.cells #[.int .i64 sg, .int .i64 x1, .int .i64 x2, .int .i64 x3, .int .i64 bd, .int .i64 x5] 174)).alloc (.cells #[.int .i64 bd, .int .i64 3] 94) := ⟨_, rfl⟩
   have R2 : W3.heap[w.heap.size + 1]? = some (.cells #[.int .i64 bd, .int .i64 3] 94 (0, 0)) := by rw [hW3]; have := heap_alloc_new (w.alloc (.cells #[.int .i64 sg, .int .i64 x1, .int .i64 x2, .int .i64 x3, .int .i64 bd, .int .i64 x5] 174)) (.cells #[.int .i64 bd, .int .i64 3] 94); simpa using this
   have B2 : Below w.heap.size w W3 := by rw [hW3]; exact ((Below.refl _ _).alloc (Nat.le_refl _) _).alloc (by simp) _
   rw [← hW3]
   exact bodyPost_ret (v := fillV bd 3) (results_cell_row rfl _ _ (w.heap.size + 1) 94 _ (0, 0) _ rfl R2 Tryz.underlying94 rfl (by kernel_rfl)) rfl ⟨rfl, B2⟩
  by_cases h3 : bd ≤ 99
  ·have HE : Hid (1 = c) := hideP (by rw [HC.out, if_neg h1, if_neg h2, if_pos h3])
   go_enter Tryz.func80, Tryz.ntmps80
   go_wp2
   have hz : _ = c := HE.out
   subst hz
   obtain ⟨W3, hW3⟩ : ∃ W, W = (w.alloc (.cells #[.int .i64 sg, .int .i64 x1, .int .i64 x2, .int .i64 x3, .int .i64 bd, .int .i64 x5] 174)).alloc (.cells #[.int .i64 bd, .int .i64 1] 94) := ⟨_, rfl⟩
   have R2 : W3.heap[w.heap.size + 1]? = some (.cells #[.int .i64 bd, .int .i64 1] 94 (0, 0)) := by rw [hW3]; have := heap_alloc_new (w.alloc (.cells #[.int .i64 sg, .int .i64 x1, .int .i64 x2, .int .i64 x3, .int .i64 bd, .int .i64 x5] 174)) (.cells #[.int .i64 bd, .int .i64 1] 94); simpa using this
   have B2 : Below w.heap.size w W3 := by rw [hW3]; exact ((Below.refl _ _).alloc (Nat.le_refl _) _).alloc (by simp) _
   rw [← hW3]
   exact bodyPost_ret (v := fillV bd 1) (results_cell_row rfl _ _ (w.heap.size + 1) 94 _ (0, 0) _ rfl R2 Tryz.underlying94 rfl (by kernel_rfl)) rfl ⟨rfl, B2⟩
  ·have HE : Hid (0 = c) := hideP (by rw [HC.out, if_neg h1, if_neg h2, if_neg h3])
   go_enter Tryz.func80, Tryz.ntmps80
   go_wp2
   have hz : _ = c := HE.out
   subst hz
   obtain ⟨W3, hW3⟩ : ∃ W, W = (w.alloc (.cells #[.int .i64 sg, .int .i64 x1, .int .i64 x2, .int .i64 x3, .int .i64 bd, .int .i64 x5] 174)).alloc (.cells #[.int .i64 bd, .int .i64 0] 94) := ⟨_, rfl⟩
   have R2 : W3.heap[w.heap.size + 1]? = some (.cells #[.int .i64 bd, .int .i64 0] 94 (0, 0)) := by rw [hW3]; have := heap_alloc_new (w.alloc (.cells #[.int .i64 sg, .int .i64 x1, .int .i64 x2, .int .i64 x3, .int .i64 bd, .int .i64 x5] 174)) (.cells #[.int .i64 bd, .int .i64 0] 94); simpa using this
   have B2 : Below w.heap.size w W3 := by rw [hW3]; exact ((Below.refl _ _).alloc (Nat.le_refl _) _).alloc (by simp) _
   rw [← hW3]
   exact bodyPost_ret (v := fillV bd 0) (results_cell_row rfl _ _ (w.heap.size + 1) 94 _ (0, 0) _ rfl R2 Tryz.underlying94 rfl (by kernel_rfl)) rfl ⟨rfl, B2⟩
def mea (zs : List Int) : Value := .agg (zs.map (Value.int .i64)).toArray
def pl4 (zs : List Int) : List Int := [zs.getD 1 0, zs.getD 2 0, zs.getD 3 0, zs.getD 4 0]
def mi4 (zs : List Int) : List Int := [zs.getD 5 0, zs.getD 6 0, zs.getD 7 0, zs.getD 8 0]
def MeaIn (zs : List Int) (t : Int) : Prop := -4611686018427387904 ≤ t - zs.getD 0 0 ∧ t - zs.getD 0 0 ≤ 4611686018427387904 ∧ (pl4 zs).getD (top (pl4 zs)) 0 ≤ 10737418230000 ∧ -10737418230000 ≤ (mi4 zs).getD (top (mi4 zs)) 0 ∧ (mi4 zs).getD (top (mi4 zs)) 0 ≤ 10737418230000
def fillT (zs : List Int) (t : Int) : Value := fillV (badT (t - zs.getD 0 0) (pl4 zs) (mi4 zs)) (clsT (t - zs.getD 0 0) (badT (t - zs.getD 0 0) (pl4 zs) (mi4 zs)))
theorem settleZ_any (zs : List Int) (t : Int) (w : World) (h : MeaIn zs t) : Calls Tryz.prog 81 #[.int .i64 (t - zs.getD 0 0), fourV (zs.getD 1 0) (zs.getD 2 0) (zs.getD 3 0) (zs.getD 4 0), fourV (zs.getD 5 0) (zs.getD 6 0) (zs.getD 7 0) (zs.getD 8 0)] w fun e w' => SetQ (t - zs.getD 0 0) (badT (t - zs.getD 0 0) (pl4 zs) (mi4 zs)) e ∧ Below w.heap.size w w' :=
 settleQ_any _ _ _ _ _ _ _ _ _ w h.1 h.2.1 h.2.2.1 h.2.2.2.1 h.2.2.2.2
set_option maxRecDepth 20000 in
set_option maxHeartbeats 4000000 in
theorem fills1_any {w : World} {B : Nat} {zs : List Int} (t : Int) (h : IntsL w B 116 zs) (hl : zs.length = 9) (hm : MeaIn zs t) :
 Calls Tryz.prog 79 #[.int .i64 t, .pointer (some ⟨B, 0, none⟩)] w fun e w' => e = .returned (fillT zs t) ∧ Below w.heap.size w w' := by
 have hB := h.lt
 have SC : Hid (∀ W, Calls Tryz.prog 81 #[.int .i64 (t - zs.getD 0 0), fourV (zs.getD 1 0) (zs.getD 2 0) (zs.getD 3 0) (zs.getD 4 0), fourV (zs.getD 5 0) (zs.getD 6 0) (zs.getD 7 0) (zs.getD 8 0)] W fun e w' => SetQ (t - zs.getD 0 0) (badT (t - zs.getD 0 0) (pl4 zs) (mi4 zs)) e ∧ Below W.heap.size W w') := hideP (fun W => settleZ_any zs t W hm)
 have HQ : Hid (IntKind.i64.wrap (t - zs.getD 0 0) = t - zs.getD 0 0) := hideP (by rw [IntKind.wrap_i64]; have := hm.1; have := hm.2.1; omega)
 have FO : Hid (∀ (sg x1 x2 x3 bd x5 : Int) (W : World), (sg < 0 ↔ t - zs.getD 0 0 < 0) → Calls Tryz.prog 80 #[setV sg x1 x2 x3 bd x5] W fun e w' => e = .returned (fillV bd (clsT (t - zs.getD 0 0) bd)) ∧ Below W.heap.size W w') := hideP (fun sg x1 x2 x3 bd x5 W hs => fillOf_any _ sg x1 x2 x3 bd x5 W hs)
 have HI := hideP h
 simp only [fillT]
 match zs, hl with
 | [z0, z1, z2, z3, z4, z5, z6, z7, z8], _ =>
 have c0 := h.cell 0 (by simp)
 have c1 := h.cell 1 (by simp)
 have c2 := h.cell 2 (by simp)
 have c3 := h.cell 3 (by simp)
 have c4 := h.cell 4 (by simp)
 have c5 := h.cell 5 (by simp)
 have c6 := h.cell 6 (by simp)
 have c7 := h.cell 7 (by simp)
 have c8 := h.cell 8 (by simp)
 clear h hm hl
 simp only [List.getD_cons_zero, List.getD_cons_succ] at c0 c1 c2 c3 c4 c5 c6 c7 c8 SC HQ FO ⊢
 obtain ⟨bd, hbd⟩ : ∃ b, b = badT (t - z0) (pl4 [z0, z1, z2, z3, z4, z5, z6, z7, z8]) (mi4 [z0, z1, z2, z3, z4, z5, z6, z7, z8]) := ⟨_, rfl⟩
 rw [← hbd] at SC ⊢
 clear hbd
 have hq := HQ.out
 obtain ⟨q, hq0⟩ : ∃ q, q = t - z0 := ⟨_, rfl⟩
 rw [← hq0] at SC hq FO ⊢
 have hw0 : IntKind.i64.wrap (t - z0) = q := by rw [← hq0]; exact hq
 clear hq0 hq HQ
 simp only [fourV, SetQ] at SC
 go_enter Tryz.func79, Tryz.ntmps79
 go_wp2_with (first | (go_at_call 81; refine (SC.out _).mono ?_; rintro e w2 ⟨⟨sg, x1, x2, x3, x5, rfl, hsg⟩, hb2⟩) | (go_at_call 80; refine (FO.out sg x1 x2 x3 bd x5 _ hsg).mono ?_; rintro e w3 ⟨rfl, hb3⟩; have R3 : w3.heap[w.heap.size]? = some (.cells #[.int .i64 0, .int .i64 0] 94 (0, 0)) := block_keep (block_keep (heap_alloc_new w _) hb2) hb3; have B3 : Hid (Below w.heap.size w w3) := hideP (((below1 w _).trans (hb2.mono (by simp))).trans (hb3.mono (by have := hb2.size; simp at this; omega))); have r0 := cell_of_row w3 w.heap.size 0 _ 94 _ R3; have r1 := cell_of_row w3 w.heap.size 1 _ 94 _ R3; have fz3 : ∀ j, w3.frozen? ⟨w.heap.size, j, none⟩ = false := fun j => frozen_of_row w3 _ j _ 94 R3; have R4 := hideP R3; clear hb2 hb3 R3))
 obtain ⟨X, hX⟩ : ∃ X, X = (w3.setCell ⟨w.heap.size, 0, none⟩ (.int .i64 bd)).setCell ⟨w.heap.size, 1, none⟩ (.int .i64 (clsT q bd)) := ⟨_, rfl⟩
 have RX : X.heap[w.heap.size]? = some (.cells #[.int .i64 bd, .int .i64 (clsT q bd)] 94 (0, 0)) := by rw [hX]; exact heap_setCell_same _ _ 1 _ 94 _ (heap_setCell_same _ _ 0 _ 94 _ R4.out)
 have BX : Below w.heap.size w X := by
  rw [hX]
  have hf : Fr w.heap.size w w3 := ⟨B3.out.os, B3.out.tape, B3.out.output, B3.out.size, fun b hb _ => B3.out.block b hb⟩
  exact ((hf.set (.inl rfl) _).set (.inl rfl) _).toBelow (Nat.le_refl _) (Nat.le_refl _)
 rw [← hX]
 exact bodyPost_ret (v := fillV bd (clsT q bd)) (results_cell_row rfl _ _ w.heap.size 94 _ (0, 0) _ rfl RX Tryz.underlying94 rfl (by kernel_rfl)) rfl ⟨rfl, BX⟩
end Go.Proofs.YtlohbaoigfaneaaGreat.Shr
