import Derived.Test.YtbpidcfoldkhgaaGreatMokW
namespace Go.Proofs.YtbpidcfoldkhgaaGreat
open Go.RowKit
set_option linter.unusedVariables false
set_option linter.unusedSimpArgs false
set_option maxHeartbeats 4000000 in
theorem implMeanOk_Da {k n : Int} {c h : Int} {s : ByteArray} {ao ao2 : Option Addr} {n1 n2 cap cap2 : Nat} {p b : List Tk} {sl : Int} {w : World} (hp : TRow w (.slice ao n1 cap) p) (hb : TRow w (.slice ao2 n2 cap2) b) (lp : p.length ≤ 1048576) (lb : b.length ≤ 1048576)
 (hc : c = 0) (hh : h = 0) (hs : ¬ s.toList = []) (hnt : noTok ⟨c, h, s⟩ = false) (g1 : n1 = 0) (g2 : sl = 0) (g3 : n2 = 0) (hnm : noMac p sl b = true) :
 Calls Tryz.prog 134 #[meanV k n ⟨c, h, s⟩ (.slice ao n1 cap) sl (.slice ao2 n2 cap2)] w fun e w' => e = .returned (.bool (meanB k n ⟨c, h, s⟩ p sl b)) ∧ Below w.heap.size w w' := by
 have HP : Hid (TRow w (.slice ao n1 cap) p) := hp
 have HB : Hid (TRow w (.slice ao2 n2 cap2) b) := hb
 clear hp hb
 obtain ⟨mc, hmc⟩ : ∃ nm, nm = macB p sl b := ⟨_, rfl⟩
 obtain ⟨ic, hic⟩ : ∃ nm, nm = isCh ⟨c, h, s⟩ := ⟨_, rfl⟩
 have CI : Hid (∀ W : World, Calls Tryz.prog 138 #[tokV c h s] W fun e w' => e = .returned (.bool ic) ∧ Below W.heap.size W w') := by rw [hic]; intro W; exact isChar_any ⟨c, h, s⟩ W
 have CM : Hid (∀ W, Below w.heap.size w W → Calls Tryz.prog 139 #[macV (.slice ao n1 cap) sl (.slice ao2 n2 cap2)] W fun e w' => e = .returned (.bool mc) ∧ Below W.heap.size W w') := by rw [hmc]; intro W hW; exact macroOk_any (TRow.below HP hW) (TRow.below HB hW) lp lb
 rw [mean_is hnt hnm hic hmc]
 clear HP HB hmc hic hnt hnm lp lb
 subst hc hh
 subst g1 g2 g3
 by_cases k0 : k = 0
 ·rw [if_pos k0]
  subst k0
  go_enter Tryz.func134, Tryz.ntmps134
  go_wp2
  go_region
  all_goals go_wp2_with (first
   | (go_at_call 138; refine (CI _).mono ?_; rintro e w1 ⟨rfl, hb1⟩)
   | (go_at_call 139; refine (CM _ (below1 _ _).drew).mono ?_; rintro e w1 ⟨rfl, hb1⟩))
  all_goals go_ret
  all_goals (refine ⟨congrArg (fun b => Ending.returned (Value.bool b)) ?_, ?_⟩)
  all_goals (first | exact (below1 _ _).drew | exact (below1 _ _).drew.trans (‹Below _ _ w1›.mono (by simp)) | (simp; done) | (rw [decide_eq_false (by omega : ¬ 1 ≤ n)]; rfl) | (rw [decide_eq_false (by omega : ¬ n ≤ 58)]; simp; done) | (rw [decide_eq_true (⟨by omega, by omega⟩ : 1 ≤ n ∧ n ≤ 58)]; simp; done) | (rw [decide_eq_false (by omega : ¬ (1 ≤ n ∧ n ≤ 58))]; simp; done) | (simp [*]; done) | rfl | skip)
 ·by_cases k1 : k = 1
  ·rw [if_neg k0, if_pos k1]
   subst k1
   go_enter Tryz.func134, Tryz.ntmps134
   go_wp2
   go_region
   all_goals go_wp2_with (first
    | (go_at_call 138; refine (CI _).mono ?_; rintro e w1 ⟨rfl, hb1⟩)
    | (go_at_call 139; refine (CM _ (below1 _ _).drew).mono ?_; rintro e w1 ⟨rfl, hb1⟩))
   all_goals go_ret
   all_goals (refine ⟨congrArg (fun b => Ending.returned (Value.bool b)) ?_, ?_⟩)
   all_goals (first | exact (below1 _ _).drew | exact (below1 _ _).drew.trans (‹Below _ _ w1›.mono (by simp)) | (simp; done) | (rw [decide_eq_false (by omega : ¬ 1 ≤ n)]; rfl) | (rw [decide_eq_false (by omega : ¬ n ≤ 58)]; simp; done) | (rw [decide_eq_true (⟨by omega, by omega⟩ : 1 ≤ n ∧ n ≤ 58)]; simp; done) | (rw [decide_eq_false (by omega : ¬ (1 ≤ n ∧ n ≤ 58))]; simp; done) | (simp [*]; done) | rfl | skip)
  ·by_cases k2 : k = 2
   ·rw [if_neg k0, if_neg k1, if_pos k2]
    subst k2
    go_enter Tryz.func134, Tryz.ntmps134
    go_wp2
    go_region
    all_goals go_wp2_with (first
     | (go_at_call 138; refine (CI _).mono ?_; rintro e w1 ⟨rfl, hb1⟩)
     | (go_at_call 139; refine (CM _ (below1 _ _).drew).mono ?_; rintro e w1 ⟨rfl, hb1⟩))
    all_goals go_ret
    all_goals (refine ⟨congrArg (fun b => Ending.returned (Value.bool b)) ?_, ?_⟩)
    all_goals (first | exact (below1 _ _).drew | exact (below1 _ _).drew.trans (‹Below _ _ w1›.mono (by simp)) | (simp; done) | (rw [decide_eq_false (by omega : ¬ 1 ≤ n)]; rfl) | (rw [decide_eq_false (by omega : ¬ n ≤ 58)]; simp; done) | (rw [decide_eq_true (⟨by omega, by omega⟩ : 1 ≤ n ∧ n ≤ 58)]; simp; done) | (rw [decide_eq_false (by omega : ¬ (1 ≤ n ∧ n ≤ 58))]; simp; done) | (simp [*]; done) | rfl | skip)
   ·rw [if_neg k0, if_neg k1, if_neg k2]
    have q0 : (k == 0) = false := by simp [k0]
    have q1 : (k == 1) = false := by simp [k1]
    have q2 : (k == 2) = false := by simp [k2]
    by_cases k3 : k = 3
    ·rw [if_pos k3]
     subst k3
     go_enter Tryz.func134, Tryz.ntmps134
     go_wp2
     go_region
     all_goals go_wp2_with (first
      | (go_at_call 138; refine (CI _).mono ?_; rintro e w1 ⟨rfl, hb1⟩)
      | (go_at_call 139; refine (CM _ (below1 _ _).drew).mono ?_; rintro e w1 ⟨rfl, hb1⟩))
     all_goals go_ret
     all_goals (refine ⟨congrArg (fun b => Ending.returned (Value.bool b)) ?_, ?_⟩)
     all_goals (first | exact (below1 _ _).drew | exact (below1 _ _).drew.trans (‹Below _ _ w1›.mono (by simp)) | (simp; done) | (rw [decide_eq_false (by omega : ¬ 1 ≤ n)]; rfl) | (rw [decide_eq_false (by omega : ¬ n ≤ 58)]; simp; done) | (rw [decide_eq_true (⟨by omega, by omega⟩ : 1 ≤ n ∧ n ≤ 58)]; simp; done) | (rw [decide_eq_false (by omega : ¬ (1 ≤ n ∧ n ≤ 58))]; simp; done) | (simp [*]; done) | rfl | skip)
    ·rw [if_neg k3]
     have q3 : (k == 3) = false := by simp [k3]
     go_enter Tryz.func134, Tryz.ntmps134
     go_wp2
     go_region
     all_goals go_wp2_with (first
      | (go_at_call 138; refine (CI _).mono ?_; rintro e w1 ⟨rfl, hb1⟩)
      | (go_at_call 139; refine (CM _ (below1 _ _).drew).mono ?_; rintro e w1 ⟨rfl, hb1⟩))
     all_goals go_ret
     all_goals (refine ⟨congrArg (fun b => Ending.returned (Value.bool b)) ?_, ?_⟩)
     all_goals (first | exact (below1 _ _).drew | exact (below1 _ _).drew.trans (‹Below _ _ w1›.mono (by simp)) | (simp; done) | (rw [decide_eq_false (by omega : ¬ 1 ≤ n)]; rfl) | (rw [decide_eq_false (by omega : ¬ n ≤ 58)]; simp; done) | (rw [decide_eq_true (⟨by omega, by omega⟩ : 1 ≤ n ∧ n ≤ 58)]; simp; done) | (rw [decide_eq_false (by omega : ¬ (1 ≤ n ∧ n ≤ 58))]; simp; done) | (simp [*]; done) | rfl | skip)
set_option maxHeartbeats 4000000 in
theorem implMeanOk_Db {k n : Int} {c h : Int} {s : ByteArray} {ao ao2 : Option Addr} {n1 n2 cap cap2 : Nat} {p b : List Tk} {sl : Int} {w : World} (hp : TRow w (.slice ao n1 cap) p) (hb : TRow w (.slice ao2 n2 cap2) b) (lp : p.length ≤ 1048576) (lb : b.length ≤ 1048576)
 (hc : c = 0) (hh : h = 0) (hs : ¬ s.toList = []) (hnt : noTok ⟨c, h, s⟩ = false) (g1 : ¬ n1 = 0) (hnm : noMac p sl b = false) :
 Calls Tryz.prog 134 #[meanV k n ⟨c, h, s⟩ (.slice ao n1 cap) sl (.slice ao2 n2 cap2)] w fun e w' => e = .returned (.bool (meanB k n ⟨c, h, s⟩ p sl b)) ∧ Below w.heap.size w w' := by
 have HP : Hid (TRow w (.slice ao n1 cap) p) := hp
 have HB : Hid (TRow w (.slice ao2 n2 cap2) b) := hb
 clear hp hb
 obtain ⟨mc, hmc⟩ : ∃ nm, nm = macB p sl b := ⟨_, rfl⟩
 obtain ⟨ic, hic⟩ : ∃ nm, nm = isCh ⟨c, h, s⟩ := ⟨_, rfl⟩
 have CI : Hid (∀ W : World, Calls Tryz.prog 138 #[tokV c h s] W fun e w' => e = .returned (.bool ic) ∧ Below W.heap.size W w') := by rw [hic]; intro W; exact isChar_any ⟨c, h, s⟩ W
 have CM : Hid (∀ W, Below w.heap.size w W → Calls Tryz.prog 139 #[macV (.slice ao n1 cap) sl (.slice ao2 n2 cap2)] W fun e w' => e = .returned (.bool mc) ∧ Below W.heap.size W w') := by rw [hmc]; intro W hW; exact macroOk_any (TRow.below HP hW) (TRow.below HB hW) lp lb
 rw [mean_is hnt hnm hic hmc]
 clear HP HB hmc hic hnt hnm lp lb
 subst hc hh
 have g4 : ((n1 : Int) == 0) = false := by simp [g1]
 by_cases k0 : k = 0
 ·rw [if_pos k0]
  subst k0
  go_enter Tryz.func134, Tryz.ntmps134
  go_wp2
  go_region
  all_goals go_wp2_with (first
   | (go_at_call 138; refine (CI _).mono ?_; rintro e w1 ⟨rfl, hb1⟩)
   | (go_at_call 139; refine (CM _ (below1 _ _).drew).mono ?_; rintro e w1 ⟨rfl, hb1⟩))
  all_goals go_ret
  all_goals (refine ⟨congrArg (fun b => Ending.returned (Value.bool b)) ?_, ?_⟩)
  all_goals (first | exact (below1 _ _).drew | exact (below1 _ _).drew.trans (‹Below _ _ w1›.mono (by simp)) | (simp; done) | (rw [decide_eq_false (by omega : ¬ 1 ≤ n)]; rfl) | (rw [decide_eq_false (by omega : ¬ n ≤ 58)]; simp; done) | (rw [decide_eq_true (⟨by omega, by omega⟩ : 1 ≤ n ∧ n ≤ 58)]; simp; done) | (rw [decide_eq_false (by omega : ¬ (1 ≤ n ∧ n ≤ 58))]; simp; done) | (simp [*]; done) | rfl | skip)
 ·by_cases k1 : k = 1
  ·rw [if_neg k0, if_pos k1]
   subst k1
   go_enter Tryz.func134, Tryz.ntmps134
   go_wp2
   go_region
   all_goals go_wp2_with (first
    | (go_at_call 138; refine (CI _).mono ?_; rintro e w1 ⟨rfl, hb1⟩)
    | (go_at_call 139; refine (CM _ (below1 _ _).drew).mono ?_; rintro e w1 ⟨rfl, hb1⟩))
   all_goals go_ret
   all_goals (refine ⟨congrArg (fun b => Ending.returned (Value.bool b)) ?_, ?_⟩)
   all_goals (first | exact (below1 _ _).drew | exact (below1 _ _).drew.trans (‹Below _ _ w1›.mono (by simp)) | (simp; done) | (rw [decide_eq_false (by omega : ¬ 1 ≤ n)]; rfl) | (rw [decide_eq_false (by omega : ¬ n ≤ 58)]; simp; done) | (rw [decide_eq_true (⟨by omega, by omega⟩ : 1 ≤ n ∧ n ≤ 58)]; simp; done) | (rw [decide_eq_false (by omega : ¬ (1 ≤ n ∧ n ≤ 58))]; simp; done) | (simp [*]; done) | rfl | skip)
  ·by_cases k2 : k = 2
   ·rw [if_neg k0, if_neg k1, if_pos k2]
    subst k2
    go_enter Tryz.func134, Tryz.ntmps134
    go_wp2
    go_region
    all_goals go_wp2_with (first
     | (go_at_call 138; refine (CI _).mono ?_; rintro e w1 ⟨rfl, hb1⟩)
     | (go_at_call 139; refine (CM _ (below1 _ _).drew).mono ?_; rintro e w1 ⟨rfl, hb1⟩))
    all_goals go_ret
    all_goals (refine ⟨congrArg (fun b => Ending.returned (Value.bool b)) ?_, ?_⟩)
    all_goals (first | exact (below1 _ _).drew | exact (below1 _ _).drew.trans (‹Below _ _ w1›.mono (by simp)) | (simp; done) | (rw [decide_eq_false (by omega : ¬ 1 ≤ n)]; rfl) | (rw [decide_eq_false (by omega : ¬ n ≤ 58)]; simp; done) | (rw [decide_eq_true (⟨by omega, by omega⟩ : 1 ≤ n ∧ n ≤ 58)]; simp; done) | (rw [decide_eq_false (by omega : ¬ (1 ≤ n ∧ n ≤ 58))]; simp; done) | (simp [*]; done) | rfl | skip)
   ·rw [if_neg k0, if_neg k1, if_neg k2]
    have q0 : (k == 0) = false := by simp [k0]
    have q1 : (k == 1) = false := by simp [k1]
    have q2 : (k == 2) = false := by simp [k2]
    by_cases k3 : k = 3
    ·rw [if_pos k3]
     subst k3
     go_enter Tryz.func134, Tryz.ntmps134
     go_wp2
     go_region
     all_goals go_wp2_with (first
      | (go_at_call 138; refine (CI _).mono ?_; rintro e w1 ⟨rfl, hb1⟩)
      | (go_at_call 139; refine (CM _ (below1 _ _).drew).mono ?_; rintro e w1 ⟨rfl, hb1⟩))
     all_goals go_ret
     all_goals (refine ⟨congrArg (fun b => Ending.returned (Value.bool b)) ?_, ?_⟩)
     all_goals (first | exact (below1 _ _).drew | exact (below1 _ _).drew.trans (‹Below _ _ w1›.mono (by simp)) | (simp; done) | (rw [decide_eq_false (by omega : ¬ 1 ≤ n)]; rfl) | (rw [decide_eq_false (by omega : ¬ n ≤ 58)]; simp; done) | (rw [decide_eq_true (⟨by omega, by omega⟩ : 1 ≤ n ∧ n ≤ 58)]; simp; done) | (rw [decide_eq_false (by omega : ¬ (1 ≤ n ∧ n ≤ 58))]; simp; done) | (simp [*]; done) | rfl | skip)
    ·rw [if_neg k3]
     have q3 : (k == 3) = false := by simp [k3]
     go_enter Tryz.func134, Tryz.ntmps134
     go_wp2
     go_region
     all_goals go_wp2_with (first
      | (go_at_call 138; refine (CI _).mono ?_; rintro e w1 ⟨rfl, hb1⟩)
      | (go_at_call 139; refine (CM _ (below1 _ _).drew).mono ?_; rintro e w1 ⟨rfl, hb1⟩))
     all_goals go_ret
     all_goals (refine ⟨congrArg (fun b => Ending.returned (Value.bool b)) ?_, ?_⟩)
     all_goals (first | exact (below1 _ _).drew | exact (below1 _ _).drew.trans (‹Below _ _ w1›.mono (by simp)) | (simp; done) | (rw [decide_eq_false (by omega : ¬ 1 ≤ n)]; rfl) | (rw [decide_eq_false (by omega : ¬ n ≤ 58)]; simp; done) | (rw [decide_eq_true (⟨by omega, by omega⟩ : 1 ≤ n ∧ n ≤ 58)]; simp; done) | (rw [decide_eq_false (by omega : ¬ (1 ≤ n ∧ n ≤ 58))]; simp; done) | (simp [*]; done) | rfl | skip)
set_option maxHeartbeats 4000000 in
theorem implMeanOk_Dc {k n : Int} {c h : Int} {s : ByteArray} {ao ao2 : Option Addr} {n1 n2 cap cap2 : Nat} {p b : List Tk} {sl : Int} {w : World} (hp : TRow w (.slice ao n1 cap) p) (hb : TRow w (.slice ao2 n2 cap2) b) (lp : p.length ≤ 1048576) (lb : b.length ≤ 1048576)
 (hc : c = 0) (hh : h = 0) (hs : ¬ s.toList = []) (hnt : noTok ⟨c, h, s⟩ = false) (g1 : n1 = 0) (g2 : ¬ sl = 0) (hnm : noMac p sl b = false) :
 Calls Tryz.prog 134 #[meanV k n ⟨c, h, s⟩ (.slice ao n1 cap) sl (.slice ao2 n2 cap2)] w fun e w' => e = .returned (.bool (meanB k n ⟨c, h, s⟩ p sl b)) ∧ Below w.heap.size w w' := by
 have HP : Hid (TRow w (.slice ao n1 cap) p) := hp
 have HB : Hid (TRow w (.slice ao2 n2 cap2) b) := hb
 clear hp hb
 obtain ⟨mc, hmc⟩ : ∃ nm, nm = macB p sl b := ⟨_, rfl⟩
 obtain ⟨ic, hic⟩ : ∃ nm, nm = isCh ⟨c, h, s⟩ := ⟨_, rfl⟩
 have CI : Hid (∀ W : World, Calls Tryz.prog 138 #[tokV c h s] W fun e w' => e = .returned (.bool ic) ∧ Below W.heap.size W w') := by rw [hic]; intro W; exact isChar_any ⟨c, h, s⟩ W
 have CM : Hid (∀ W, Below w.heap.size w W → Calls Tryz.prog 139 #[macV (.slice ao n1 cap) sl (.slice ao2 n2 cap2)] W fun e w' => e = .returned (.bool mc) ∧ Below W.heap.size W w') := by rw [hmc]; intro W hW; exact macroOk_any (TRow.below HP hW) (TRow.below HB hW) lp lb
 rw [mean_is hnt hnm hic hmc]
 clear HP HB hmc hic hnt hnm lp lb
 subst hc hh
 subst g1
 by_cases k0 : k = 0
 ·rw [if_pos k0]
  subst k0
  go_enter Tryz.func134, Tryz.ntmps134
  go_wp2
  go_region
  all_goals go_wp2_with (first
   | (go_at_call 138; refine (CI _).mono ?_; rintro e w1 ⟨rfl, hb1⟩)
   | (go_at_call 139; refine (CM _ (below1 _ _).drew).mono ?_; rintro e w1 ⟨rfl, hb1⟩))
  all_goals go_ret
  all_goals (refine ⟨congrArg (fun b => Ending.returned (Value.bool b)) ?_, ?_⟩)
  all_goals (first | exact (below1 _ _).drew | exact (below1 _ _).drew.trans (‹Below _ _ w1›.mono (by simp)) | (simp; done) | (rw [decide_eq_false (by omega : ¬ 1 ≤ n)]; rfl) | (rw [decide_eq_false (by omega : ¬ n ≤ 58)]; simp; done) | (rw [decide_eq_true (⟨by omega, by omega⟩ : 1 ≤ n ∧ n ≤ 58)]; simp; done) | (rw [decide_eq_false (by omega : ¬ (1 ≤ n ∧ n ≤ 58))]; simp; done) | (simp [*]; done) | rfl | skip)
 ·by_cases k1 : k = 1
  ·rw [if_neg k0, if_pos k1]
   subst k1
   go_enter Tryz.func134, Tryz.ntmps134
   go_wp2
   go_region
   all_goals go_wp2_with (first
    | (go_at_call 138; refine (CI _).mono ?_; rintro e w1 ⟨rfl, hb1⟩)
    | (go_at_call 139; refine (CM _ (below1 _ _).drew).mono ?_; rintro e w1 ⟨rfl, hb1⟩))
   all_goals go_ret
   all_goals (refine ⟨congrArg (fun b => Ending.returned (Value.bool b)) ?_, ?_⟩)
   all_goals (first | exact (below1 _ _).drew | exact (below1 _ _).drew.trans (‹Below _ _ w1›.mono (by simp)) | (simp; done) | (rw [decide_eq_false (by omega : ¬ 1 ≤ n)]; rfl) | (rw [decide_eq_false (by omega : ¬ n ≤ 58)]; simp; done) | (rw [decide_eq_true (⟨by omega, by omega⟩ : 1 ≤ n ∧ n ≤ 58)]; simp; done) | (rw [decide_eq_false (by omega : ¬ (1 ≤ n ∧ n ≤ 58))]; simp; done) | (simp [*]; done) | rfl | skip)
  ·by_cases k2 : k = 2
   ·rw [if_neg k0, if_neg k1, if_pos k2]
    subst k2
    go_enter Tryz.func134, Tryz.ntmps134
    go_wp2
    go_region
    all_goals go_wp2_with (first
     | (go_at_call 138; refine (CI _).mono ?_; rintro e w1 ⟨rfl, hb1⟩)
     | (go_at_call 139; refine (CM _ (below1 _ _).drew).mono ?_; rintro e w1 ⟨rfl, hb1⟩))
    all_goals go_ret
    all_goals (refine ⟨congrArg (fun b => Ending.returned (Value.bool b)) ?_, ?_⟩)
    all_goals (first | exact (below1 _ _).drew | exact (below1 _ _).drew.trans (‹Below _ _ w1›.mono (by simp)) | (simp; done) | (rw [decide_eq_false (by omega : ¬ 1 ≤ n)]; rfl) | (rw [decide_eq_false (by omega : ¬ n ≤ 58)]; simp; done) | (rw [decide_eq_true (⟨by omega, by omega⟩ : 1 ≤ n ∧ n ≤ 58)]; simp; done) | (rw [decide_eq_false (by omega : ¬ (1 ≤ n ∧ n ≤ 58))]; simp; done) | (simp [*]; done) | rfl | skip)
   ·rw [if_neg k0, if_neg k1, if_neg k2]
    have q0 : (k == 0) = false := by simp [k0]
    have q1 : (k == 1) = false := by simp [k1]
    have q2 : (k == 2) = false := by simp [k2]
    by_cases k3 : k = 3
    ·rw [if_pos k3]
     subst k3
     go_enter Tryz.func134, Tryz.ntmps134
     go_wp2
     go_region
     all_goals go_wp2_with (first
      | (go_at_call 138; refine (CI _).mono ?_; rintro e w1 ⟨rfl, hb1⟩)
      | (go_at_call 139; refine (CM _ (below1 _ _).drew).mono ?_; rintro e w1 ⟨rfl, hb1⟩))
     all_goals go_ret
     all_goals (refine ⟨congrArg (fun b => Ending.returned (Value.bool b)) ?_, ?_⟩)
     all_goals (first | exact (below1 _ _).drew | exact (below1 _ _).drew.trans (‹Below _ _ w1›.mono (by simp)) | (simp; done) | (rw [decide_eq_false (by omega : ¬ 1 ≤ n)]; rfl) | (rw [decide_eq_false (by omega : ¬ n ≤ 58)]; simp; done) | (rw [decide_eq_true (⟨by omega, by omega⟩ : 1 ≤ n ∧ n ≤ 58)]; simp; done) | (rw [decide_eq_false (by omega : ¬ (1 ≤ n ∧ n ≤ 58))]; simp; done) | (simp [*]; done) | rfl | skip)
    ·rw [if_neg k3]
     have q3 : (k == 3) = false := by simp [k3]
     go_enter Tryz.func134, Tryz.ntmps134
     go_wp2
     go_region
     all_goals go_wp2_with (first
      | (go_at_call 138; refine (CI _).mono ?_; rintro e w1 ⟨rfl, hb1⟩)
      | (go_at_call 139; refine (CM _ (below1 _ _).drew).mono ?_; rintro e w1 ⟨rfl, hb1⟩))
     all_goals go_ret
     all_goals (refine ⟨congrArg (fun b => Ending.returned (Value.bool b)) ?_, ?_⟩)
     all_goals (first | exact (below1 _ _).drew | exact (below1 _ _).drew.trans (‹Below _ _ w1›.mono (by simp)) | (simp; done) | (rw [decide_eq_false (by omega : ¬ 1 ≤ n)]; rfl) | (rw [decide_eq_false (by omega : ¬ n ≤ 58)]; simp; done) | (rw [decide_eq_true (⟨by omega, by omega⟩ : 1 ≤ n ∧ n ≤ 58)]; simp; done) | (rw [decide_eq_false (by omega : ¬ (1 ≤ n ∧ n ≤ 58))]; simp; done) | (simp [*]; done) | rfl | skip)
set_option maxHeartbeats 4000000 in
theorem implMeanOk_Dd {k n : Int} {c h : Int} {s : ByteArray} {ao ao2 : Option Addr} {n1 n2 cap cap2 : Nat} {p b : List Tk} {sl : Int} {w : World} (hp : TRow w (.slice ao n1 cap) p) (hb : TRow w (.slice ao2 n2 cap2) b) (lp : p.length ≤ 1048576) (lb : b.length ≤ 1048576)
 (hc : c = 0) (hh : h = 0) (hs : ¬ s.toList = []) (hnt : noTok ⟨c, h, s⟩ = false) (g1 : n1 = 0) (g2 : sl = 0) (g3 : ¬ n2 = 0) (hnm : noMac p sl b = false) :
 Calls Tryz.prog 134 #[meanV k n ⟨c, h, s⟩ (.slice ao n1 cap) sl (.slice ao2 n2 cap2)] w fun e w' => e = .returned (.bool (meanB k n ⟨c, h, s⟩ p sl b)) ∧ Below w.heap.size w w' := by
 have HP : Hid (TRow w (.slice ao n1 cap) p) := hp
 have HB : Hid (TRow w (.slice ao2 n2 cap2) b) := hb
 clear hp hb
 obtain ⟨mc, hmc⟩ : ∃ nm, nm = macB p sl b := ⟨_, rfl⟩
 obtain ⟨ic, hic⟩ : ∃ nm, nm = isCh ⟨c, h, s⟩ := ⟨_, rfl⟩
 have CI : Hid (∀ W : World, Calls Tryz.prog 138 #[tokV c h s] W fun e w' => e = .returned (.bool ic) ∧ Below W.heap.size W w') := by rw [hic]; intro W; exact isChar_any ⟨c, h, s⟩ W
 have CM : Hid (∀ W, Below w.heap.size w W → Calls Tryz.prog 139 #[macV (.slice ao n1 cap) sl (.slice ao2 n2 cap2)] W fun e w' => e = .returned (.bool mc) ∧ Below W.heap.size W w') := by rw [hmc]; intro W hW; exact macroOk_any (TRow.below HP hW) (TRow.below HB hW) lp lb
 rw [mean_is hnt hnm hic hmc]
 clear HP HB hmc hic hnt hnm lp lb
 subst hc hh
 subst g1 g2; have g4 : ((n2 : Int) == 0) = false := by simp [g3]
 by_cases k0 : k = 0
 ·rw [if_pos k0]
  subst k0
  go_enter Tryz.func134, Tryz.ntmps134
  go_wp2
  go_region
  all_goals go_wp2_with (first
   | (go_at_call 138; refine (CI _).mono ?_; rintro e w1 ⟨rfl, hb1⟩)
   | (go_at_call 139; refine (CM _ (below1 _ _).drew).mono ?_; rintro e w1 ⟨rfl, hb1⟩))
  all_goals go_ret
  all_goals (refine ⟨congrArg (fun b => Ending.returned (Value.bool b)) ?_, ?_⟩)
  all_goals (first | exact (below1 _ _).drew | exact (below1 _ _).drew.trans (‹Below _ _ w1›.mono (by simp)) | (simp; done) | (rw [decide_eq_false (by omega : ¬ 1 ≤ n)]; rfl) | (rw [decide_eq_false (by omega : ¬ n ≤ 58)]; simp; done) | (rw [decide_eq_true (⟨by omega, by omega⟩ : 1 ≤ n ∧ n ≤ 58)]; simp; done) | (rw [decide_eq_false (by omega : ¬ (1 ≤ n ∧ n ≤ 58))]; simp; done) | (simp [*]; done) | rfl | skip)
 ·by_cases k1 : k = 1
  ·rw [if_neg k0, if_pos k1]
   subst k1
   go_enter Tryz.func134, Tryz.ntmps134
   go_wp2
   go_region
   all_goals go_wp2_with (first
    | (go_at_call 138; refine (CI _).mono ?_; rintro e w1 ⟨rfl, hb1⟩)
    | (go_at_call 139; refine (CM _ (below1 _ _).drew).mono ?_; rintro e w1 ⟨rfl, hb1⟩))
   all_goals go_ret
   all_goals (refine ⟨congrArg (fun b => Ending.returned (Value.bool b)) ?_, ?_⟩)
   all_goals (first | exact (below1 _ _).drew | exact (below1 _ _).drew.trans (‹Below _ _ w1›.mono (by simp)) | (simp; done) | (rw [decide_eq_false (by omega : ¬ 1 ≤ n)]; rfl) | (rw [decide_eq_false (by omega : ¬ n ≤ 58)]; simp; done) | (rw [decide_eq_true (⟨by omega, by omega⟩ : 1 ≤ n ∧ n ≤ 58)]; simp; done) | (rw [decide_eq_false (by omega : ¬ (1 ≤ n ∧ n ≤ 58))]; simp; done) | (simp [*]; done) | rfl | skip)
  ·by_cases k2 : k = 2
   ·rw [if_neg k0, if_neg k1, if_pos k2]
    subst k2
    go_enter Tryz.func134, Tryz.ntmps134
    go_wp2
    go_region
    all_goals go_wp2_with (first
     | (go_at_call 138; refine (CI _).mono ?_; rintro e w1 ⟨rfl, hb1⟩)
     | (go_at_call 139; refine (CM _ (below1 _ _).drew).mono ?_; rintro e w1 ⟨rfl, hb1⟩))
    all_goals go_ret
    all_goals (refine ⟨congrArg (fun b => Ending.returned (Value.bool b)) ?_, ?_⟩)
    all_goals (first | exact (below1 _ _).drew | exact (below1 _ _).drew.trans (‹Below _ _ w1›.mono (by simp)) | (simp; done) | (rw [decide_eq_false (by omega : ¬ 1 ≤ n)]; rfl) | (rw [decide_eq_false (by omega : ¬ n ≤ 58)]; simp; done) | (rw [decide_eq_true (⟨by omega, by omega⟩ : 1 ≤ n ∧ n ≤ 58)]; simp; done) | (rw [decide_eq_false (by omega : ¬ (1 ≤ n ∧ n ≤ 58))]; simp; done) | (simp [*]; done) | rfl | skip)
   ·rw [if_neg k0, if_neg k1, if_neg k2]
    have q0 : (k == 0) = false := by simp [k0]
    have q1 : (k == 1) = false := by simp [k1]
    have q2 : (k == 2) = false := by simp [k2]
    by_cases k3 : k = 3
    ·rw [if_pos k3]
     subst k3
     go_enter Tryz.func134, Tryz.ntmps134
     go_wp2
     go_region
     all_goals go_wp2_with (first
      | (go_at_call 138; refine (CI _).mono ?_; rintro e w1 ⟨rfl, hb1⟩)
      | (go_at_call 139; refine (CM _ (below1 _ _).drew).mono ?_; rintro e w1 ⟨rfl, hb1⟩))
     all_goals go_ret
     all_goals (refine ⟨congrArg (fun b => Ending.returned (Value.bool b)) ?_, ?_⟩)
     all_goals (first | exact (below1 _ _).drew | exact (below1 _ _).drew.trans (‹Below _ _ w1›.mono (by simp)) | (simp; done) | (rw [decide_eq_false (by omega : ¬ 1 ≤ n)]; rfl) | (rw [decide_eq_false (by omega : ¬ n ≤ 58)]; simp; done) | (rw [decide_eq_true (⟨by omega, by omega⟩ : 1 ≤ n ∧ n ≤ 58)]; simp; done) | (rw [decide_eq_false (by omega : ¬ (1 ≤ n ∧ n ≤ 58))]; simp; done) | (simp [*]; done) | rfl | skip)
    ·rw [if_neg k3]
     have q3 : (k == 3) = false := by simp [k3]
     go_enter Tryz.func134, Tryz.ntmps134
     go_wp2
     go_region
     all_goals go_wp2_with (first
      | (go_at_call 138; refine (CI _).mono ?_; rintro e w1 ⟨rfl, hb1⟩)
      | (go_at_call 139; refine (CM _ (below1 _ _).drew).mono ?_; rintro e w1 ⟨rfl, hb1⟩))
     all_goals go_ret
     all_goals (refine ⟨congrArg (fun b => Ending.returned (Value.bool b)) ?_, ?_⟩)
     all_goals (first | exact (below1 _ _).drew | exact (below1 _ _).drew.trans (‹Below _ _ w1›.mono (by simp)) | (simp; done) | (rw [decide_eq_false (by omega : ¬ 1 ≤ n)]; rfl) | (rw [decide_eq_false (by omega : ¬ n ≤ 58)]; simp; done) | (rw [decide_eq_true (⟨by omega, by omega⟩ : 1 ≤ n ∧ n ≤ 58)]; simp; done) | (rw [decide_eq_false (by omega : ¬ (1 ≤ n ∧ n ≤ 58))]; simp; done) | (simp [*]; done) | rfl | skip)
end Go.Proofs.YtbpidcfoldkhgaaGreat
