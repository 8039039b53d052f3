import Derived.Test.YtbpidcfoldkhgaaGreatOkI
namespace Go.Proofs.YtbpidcfoldkhgaaGreat
open Go.RowKit
set_option linter.unusedVariables false
set_option linter.unusedSimpArgs false
theorem noTok_yes {c h : Int} {s : ByteArray} (hc : c = 0) (hh : h = 0) (hs : s.toList = []) : noTok ⟨c, h, s⟩ = true := by simp [noTok, hc, hh, hs]
theorem noTok_c {c h : Int} {s : ByteArray} (hc : ¬ c = 0) : noTok ⟨c, h, s⟩ = false := by simp [noTok, hc]
theorem noTok_h {c h : Int} {s : ByteArray} (hc : ¬ h = 0) : noTok ⟨c, h, s⟩ = false := by simp [noTok, hc]
theorem noTok_s {c h : Int} {s : ByteArray} (hc : ¬ s.toList = []) : noTok ⟨c, h, s⟩ = false := by simp [noTok, hc]
set_option maxHeartbeats 4000000 in
theorem specMeanOk_any {k n : Int} {t : Tk} {vp vb : Value} {p b : List Tk} {sl : Int} {w : World} (hp : TRow w vp p) (hb : TRow w vb b) (lp : p.length ≤ 1048576) (lb : b.length ≤ 1048576) :
 Calls Tryz.prog 60 #[meanV k n t vp sl vb] w fun e w' => e = .returned (.bool (meanB k n t p sl b)) ∧ Below w.heap.size w w' := by
 have HP : Hid (TRow w vp p) := hp
 have HB : Hid (TRow w vb b) := hb
 obtain ⟨ao, n1, cap, rfl, hx, hy⟩ := hp
 obtain ⟨ao2, n2, cap2, rfl, hx2, hy2⟩ := hb
 clear hx hy hx2 hy2
 obtain ⟨nm, hnm⟩ : ∃ nm, nm = noMac p sl b := ⟨_, rfl⟩
 obtain ⟨mc, hmc⟩ : ∃ nm, nm = macB p sl b := ⟨_, rfl⟩
 have CN : Hid (∀ W, Below w.heap.size w W → Calls Tryz.prog 87 #[macV (.slice ao n1 cap) sl (.slice ao2 n2 cap2)] W fun e w' => e = .returned (.bool nm) ∧ Below W.heap.size W w') := by rw [hnm]; intro W hW; exact specNoMacro_any (TRow.below HP hW) (TRow.below HB hW) lp lb
 have CM : Hid (∀ W, Below w.heap.size w W → Calls Tryz.prog 89 #[macV (.slice ao n1 cap) sl (.slice ao2 n2 cap2)] W fun e w' => e = .returned (.bool mc) ∧ Below W.heap.size W w') := by rw [hmc]; intro W hW; exact specMacroOk_any (TRow.below HP hW) (TRow.below HB hW) lp lb
 obtain ⟨ans, hans⟩ : ∃ ans, ans = meanB k n t p sl b := ⟨_, rfl⟩
 rw [← hans]
 obtain ⟨c, h, s⟩ := t
 unfold meanB isCh at hans
 rw [← hnm, ← hmc] at hans
 clear hnm hmc HP HB
 dsimp only at hans
 by_cases h0 : k = 0
 ·rw [if_pos h0] at hans
  have HA : Hid (ans = (decide (n = 0) && (noTok ⟨c, h, s⟩ && nm))) := hans
  subst h0
  clear hans
  go_enter Tryz.func60, Tryz.ntmps60
  go_wp2_with (go_at_call 87; refine (CN _ (below1 _ _)).mono ?_; rintro e w1 ⟨rfl, hb1⟩)
  all_goals go_ret
  all_goals (refine ⟨congrArg (fun b => Ending.returned (Value.bool b)) (Eq.trans ?_ (show ans = _ from HA).symm), ?_⟩)
  all_goals (first
   | exact below1 _ _
   | exact (below1 _ _).trans (‹Below _ _ w1›.mono (by simp))
   | (rw [noTok_yes (c := c) (h := h) (s := s) ‹_› ‹_› ‹_›, decide_eq_true (by omega)]; rfl)
   | (rw [noTok_s (c := c) (h := h) (s := s) ‹_›]; simp; done)
   | (rw [noTok_h (c := c) (h := h) (s := s) ‹_›]; simp; done)
   | (rw [noTok_c (c := c) (h := h) (s := s) ‹_›]; simp; done)
   | (rw [decide_eq_false (by omega)]; rfl))
 ·by_cases h1 : k = 1
  ·rw [if_neg h0, if_pos h1] at hans
   have HA : Hid (ans = (decide (1 ≤ n ∧ n ≤ 58) && (noTok ⟨c, h, s⟩ && nm))) := hans
   subst h1
   clear hans
   go_enter Tryz.func60, Tryz.ntmps60
   go_wp2_with (go_at_call 87; refine (CN _ (below1 _ _)).mono ?_; rintro e w1 ⟨rfl, hb1⟩)
   all_goals go_ret
   all_goals (refine ⟨congrArg (fun b => Ending.returned (Value.bool b)) (Eq.trans ?_ (show ans = _ from HA).symm), ?_⟩)
   all_goals (first
    | exact below1 _ _
    | exact (below1 _ _).trans (‹Below _ _ w1›.mono (by simp))
    | (rw [noTok_yes (c := c) (h := h) (s := s) ‹_› ‹_› ‹_›, decide_eq_true (by omega)]; rfl)
    | (rw [noTok_s (c := c) (h := h) (s := s) ‹_›]; simp; done)
    | (rw [noTok_h (c := c) (h := h) (s := s) ‹_›]; simp; done)
    | (rw [noTok_c (c := c) (h := h) (s := s) ‹_›]; simp; done)
    | (rw [decide_eq_false (by omega)]; rfl))
  ·by_cases h2 : k = 2
   ·rw [if_neg h0, if_neg h1, if_pos h2] at hans
    obtain ⟨tb, htb⟩ : ∃ tb, tb = tokB c h s := ⟨_, rfl⟩
    have hcall : ∀ w : World, Calls Tryz.prog 88 #[tokV c h s] w fun e w' => e = .returned (.bool tb) ∧ Below w.heap.size w w' := by rw [htb]; exact specTokenOk_any c h s
    rw [← htb] at hans
    have HA : Hid (ans = (decide (n = 0) && ((tb && decide (c ≠ 0 ∧ c ≠ 16)) && nm))) := hans
    subst h2
    clear hans htb
    by_cases hn : n = 0
    ·subst hn
     go_enter Tryz.func60, Tryz.ntmps60
     go_wp2_with fail
     refine (hcall _).mono ?_
     rintro e w1 ⟨rfl, hb1⟩
     have hz1 : w.heap.size < w1.heap.size := by have := hb1.size; simp at this; omega
     obtain ⟨hc1, hf1⟩ := bcell hb1
     have B1 : Hid (Below w.heap.size w w1) := (below1 _ _).trans (hb1.mono (by simp))
     clear hb1 hcall
     cases tb
     ·go_wp2
      go_ret
      refine ⟨congrArg (fun b => Ending.returned (Value.bool b)) (Eq.trans ?_ (show ans = _ from HA).symm), B1⟩
      simp
     ·by_cases hc0 : c = 0
      ·subst hc0
       go_wp2
       go_ret
       refine ⟨congrArg (fun b => Ending.returned (Value.bool b)) (Eq.trans ?_ (show ans = _ from HA).symm), B1⟩
       simp
      ·have m0 : (c == 0) = false := by simp [hc0]
       have M0 : (c != 0) = true := by simp [hc0]
       by_cases hc16 : c = 16
       ·subst hc16
        go_wp2
        go_ret
        refine ⟨congrArg (fun b => Ending.returned (Value.bool b)) (Eq.trans ?_ (show ans = _ from HA).symm), B1⟩
        simp
       ·have m16 : (c == 16) = false := by simp [hc16]
        have M16 : (c != 16) = true := by simp [hc16]
        go_wp2_with (go_at_call 87; refine (CN _ B1).mono ?_; rintro e w2 ⟨rfl, hb2⟩)
        go_ret
        refine ⟨congrArg (fun b => Ending.returned (Value.bool b)) (Eq.trans ?_ (show ans = _ from HA).symm), Below.trans B1 (‹Below w1.heap.size w1 _›.mono (Below.size B1))⟩
        simp [hc0, hc16]
    ·have hn2 : (n == 0) = false := by simp [hn]
     go_enter Tryz.func60, Tryz.ntmps60
     go_wp2
     go_ret
     refine ⟨congrArg (fun b => Ending.returned (Value.bool b)) (Eq.trans ?_ (show ans = _ from HA).symm), below1 _ _⟩
     simp [hn]
   ·rw [if_neg h0, if_neg h1, if_neg h2] at hans
    have hk0 : (k == 0) = false := by simp [h0]
    have hk1 : (k == 1) = false := by simp [h1]
    have hk2 : (k == 2) = false := by simp [h2]
    by_cases h3 : k = 3
    ·rw [if_pos h3] at hans
     have HA : Hid (ans = (decide (n = 0) && (noTok ⟨c, h, s⟩ && mc))) := hans
     subst h3
     clear hans
     go_enter Tryz.func60, Tryz.ntmps60
     go_wp2_with (go_at_call 89; refine (CM _ (below1 _ _)).mono ?_; rintro e w1 ⟨rfl, hb1⟩)
     all_goals go_ret
     all_goals (refine ⟨congrArg (fun b => Ending.returned (Value.bool b)) (Eq.trans ?_ (show ans = _ from HA).symm), ?_⟩)
     all_goals (first
      | exact below1 _ _
      | exact (below1 _ _).trans (‹Below _ _ w1›.mono (by simp))
      | (rw [noTok_yes (c := c) (h := h) (s := s) ‹_› ‹_› ‹_›, decide_eq_true (by omega)]; rfl)
      | (rw [noTok_s (c := c) (h := h) (s := s) ‹_›]; simp; done)
      | (rw [noTok_h (c := c) (h := h) (s := s) ‹_›]; simp; done)
      | (rw [noTok_c (c := c) (h := h) (s := s) ‹_›]; simp; done)
      | (rw [decide_eq_false (by omega)]; rfl))
    ·rw [if_neg h3] at hans
     have hk3 : (k == 3) = false := by simp [h3]
     subst hans
     go_enter Tryz.func60, Tryz.ntmps60
     go_wp2
     go_ret
     exact ⟨rfl, below1 _ _⟩
end Go.Proofs.YtbpidcfoldkhgaaGreat
