import Derived.Test.YtbpidcfoldkhgaaGreatLok
import Derived.Test.YtbpidcfoldkhgaaGreatEok
namespace Go.Proofs.YtbpidcfoldkhgaaGreat
open Go.RowKit
set_option linter.unusedVariables false
set_option linter.unusedSimpArgs false
set_option maxHeartbeats 8000000 in
theorem specLevelOk_any {x : Lv} {w : World} {v0 v1 v2 v3 v4 v5 : Value} (h : Six 0 w v0 v1 v2 v3 v4 v5 x) (hs : SmL x) :
 Calls Tryz.prog 32 #[levV v0 v1 v2 v3 v4 v5] w fun e w' => e = .returned (.bool (levB x)) ∧ Below w.heap.size w w' := by
 obtain ⟨a0, c0, a1, c1, a2, c2, a3, c3, a4, c4, a5, c5, rfl, rfl, rfl, rfl, rfl, rfl⟩ := h.shape
 cases hcb : catsB x.cats
 ·have e : levB x = false := by unfold levB; rw [hcb]; rfl
  have HC : Hid (∀ W, Below w.heap.size w W → Calls Tryz.prog 59 #[.slice a0 x.cats.length c0] W fun e w' => e = .returned (.bool false) ∧ w' = W) := by intro W hW; rw [← hcb]; exact specCatsOk_any (RIn.below h.h0 hW).1
  rw [e]
  clear e h hs
  go_enter Tryz.func32, Tryz.ntmps32
  go_wp2_with (go_at_call 59; refine (HC _ (below1 _ _)).mono ?_; rintro e w1 ⟨rfl, hw⟩; have hw2 := hw.symm; clear hw; subst hw2)
  go_ret
  exact ⟨rfl, below1 _ _⟩
 by_cases hgood : x.binds.length ≤ 500 ∧ x.counts.length = 32 ∧ x.lens.length = 32 ∧ x.glues.length = 32 ∧ x.toks.length = 32
 ·exact specLevelOk_good h hs hcb hgood.1 (by omega) (by omega) (by omega) (by omega)
 have HC : Hid (∀ W, Below w.heap.size w W → Calls Tryz.prog 59 #[.slice a0 x.cats.length c0] W fun e w' => e = .returned (.bool true) ∧ w' = W) := by intro W hW; rw [← hcb]; exact specCatsOk_any (RIn.below h.h0 hW).1
 have e : levB x = false := by
  unfold levB
  by_cases h1 : x.binds.length ≤ 500
  ·by_cases h2 : x.counts.length = 32
   ·by_cases h3 : x.lens.length = 32
    ·by_cases h4 : x.glues.length = 32
     ·rw [reg_short (xs := x.toks) (by omega)]; simp
     ·rw [reg_short (xs := x.glues) h4]; simp
    ·rw [reg_short (xs := x.lens) h3]; simp
   ·rw [reg_short (xs := x.counts) h2]; simp
  ·rw [binds_long h1]; simp
 rw [e]
 clear e h hs hcb
 obtain ⟨l0, f0⟩ : ∃ l, l = x.cats.length := ⟨_, rfl⟩
 obtain ⟨l1, f1⟩ : ∃ l, l = x.binds.length := ⟨_, rfl⟩
 obtain ⟨l2, f2⟩ : ∃ l, l = x.counts.length := ⟨_, rfl⟩
 obtain ⟨l3, f3⟩ : ∃ l, l = x.lens.length := ⟨_, rfl⟩
 obtain ⟨l4, f4⟩ : ∃ l, l = x.glues.length := ⟨_, rfl⟩
 obtain ⟨l5, f5⟩ : ∃ l, l = x.toks.length := ⟨_, rfl⟩
 rw [← f0] at HC
 rw [← f1, ← f2, ← f3, ← f4, ← f5] at hgood
 rw [← f0, ← f1, ← f2, ← f3, ← f4, ← f5]
 clear f0 f1 f2 f3 f4 f5
 by_cases g1 : 500 < l1
 ·have h1 : (500 : Int) < (l1 : Int) := by omega
  clear hgood
  go_enter Tryz.func32, Tryz.ntmps32
  go_wp2_with (go_at_call 59; refine (HC _ (below1 _ _)).mono ?_; rintro e w1 ⟨rfl, hw⟩; have hw2 := hw.symm; clear hw; subst hw2)
  all_goals go_ret
  all_goals exact ⟨rfl, below1 _ _⟩
 have h1 : ¬ (500 : Int) < (l1 : Int) := by omega
 by_cases g2 : l2 = 32
 ·by_cases g3 : l3 = 32
  ·by_cases g4 : l4 = 32
   ·have h5 : ((l5 : Int) == 32) = false := by simp; omega
    have h6 : ((l5 : Int) != 32) = true := by simp; omega
    subst g2 g3 g4
    clear hgood g1
    go_enter Tryz.func32, Tryz.ntmps32
    go_wp2_with (go_at_call 59; refine (HC _ (below1 _ _)).mono ?_; rintro e w1 ⟨rfl, hw⟩; have hw2 := hw.symm; clear hw; subst hw2)
    all_goals go_ret
    all_goals exact ⟨rfl, below1 _ _⟩
   ·have h5 : ((l4 : Int) == 32) = false := by simp; omega
    have h6 : ((l4 : Int) != 32) = true := by simp; omega
    subst g2 g3
    clear hgood g1
    go_enter Tryz.func32, Tryz.ntmps32
    go_wp2_with (go_at_call 59; refine (HC _ (below1 _ _)).mono ?_; rintro e w1 ⟨rfl, hw⟩; have hw2 := hw.symm; clear hw; subst hw2)
    all_goals go_ret
    all_goals exact ⟨rfl, below1 _ _⟩
  ·have h5 : ((l3 : Int) == 32) = false := by simp; omega
   have h6 : ((l3 : Int) != 32) = true := by simp; omega
   subst g2
   clear hgood g1
   go_enter Tryz.func32, Tryz.ntmps32
   go_wp2_with (go_at_call 59; refine (HC _ (below1 _ _)).mono ?_; rintro e w1 ⟨rfl, hw⟩; have hw2 := hw.symm; clear hw; subst hw2)
   all_goals go_ret
   all_goals exact ⟨rfl, below1 _ _⟩
 ·have h5 : ((l2 : Int) == 32) = false := by simp; omega
  have h6 : ((l2 : Int) != 32) = true := by simp; omega
  clear hgood g1
  go_enter Tryz.func32, Tryz.ntmps32
  go_wp2_with (go_at_call 59; refine (HC _ (below1 _ _)).mono ?_; rintro e w1 ⟨rfl, hw⟩; have hw2 := hw.symm; clear hw; subst hw2)
  all_goals go_ret
  all_goals exact ⟨rfl, below1 _ _⟩
set_option maxHeartbeats 8000000 in
theorem specEnvOk_any {v : Value} {xs : List Lv} {w : World} (h : LRow 0 w v xs) (hs : SmE xs) :
 Calls Tryz.prog 17 #[.agg #[v]] w fun e w' => e = .returned (.bool (envB xs)) ∧ Below w.heap.size w w' := by
 obtain ⟨ao, n, cap, rfl, hn, hr⟩ := h
 by_cases h1 : n < 1
 ·rw [env_short (by omega)]
  have h1i : (n : Int) < 1 := by omega
  go_enter Tryz.func17, Tryz.ntmps17
  go_wp2
  go_ret
  exact ⟨rfl, below1 _ _⟩
 by_cases h20 : 20 < n
 ·rw [env_short (by omega)]
  have h1i : ¬ (n : Int) < 1 := by omega
  have h2i : (20 : Int) < (n : Int) := by omega
  go_enter Tryz.func17, Tryz.ntmps17
  go_wp2
  go_ret
  exact ⟨rfl, below1 _ _⟩
 have h1i : ¬ (n : Int) < 1 := by omega
 have h2i : ¬ (20 : Int) < (n : Int) := by omega
 have hn20 : n ≤ 20 := by omega
 obtain ⟨ans, hans⟩ : ∃ a, a = envB xs := ⟨_, rfl⟩
 rw [← hans]
 have HA : Hid (ans = envB xs) := hans
 have HL : Hid (xs.length = n) := hn
 have HS : Hid (SmE xs) := hs
 have HR : Hid (0 < n → ∃ b off, ao = some ⟨b, off, none⟩ ∧ 0 ≤ b ∧ b < w.heap.size ∧ ∀ i, i < n → ∃ cs : List Value, cs.length = 6 ∧ LvR 0 w cs (xs.getD i Lv.none) ∧ ∀ j, j < 6 → w.cell? ⟨b, off + i * 6 + j, none⟩ = cs[j]?) := hr
 clear hans hn hs hr
 go_enter Tryz.func17, Tryz.ntmps17
 go_wp2
 obtain ⟨U, hU⟩ : ∃ U, U = w.alloc (.cells #[.slice ao n cap] 30) := ⟨_, rfl⟩
 rw [← hU]
 have hUs : w.heap.size < U.heap.size := by rw [hU]; simp
 have hUc : U.cell? ⟨w.heap.size, 0, none⟩ = some (.slice ao n cap) := by rw [hU]; simp [go_sem]
 have BU0 : Hid (Below w.heap.size w U) := by rw [hU]; exact below1 _ _
 have KU : Hid (w.heap.size < U.heap.size ∧ U.cell? ⟨w.heap.size, 0, none⟩ = some (.slice ao n cap)) := ⟨hUs, hUc⟩
 clear hU hUs hUc
 go_loopw [3] (fun i wr => ∃ k : Nat, k ≤ n ∧ i = .int .i64 k ∧ Hid (∀ i, i < k → levB (xs.getD i Lv.none) = true) ∧ Below U.heap.size U wr) (fun i _ => n - (intOf i).toNat)
 case atStart => exact ⟨0, by omega, rfl, fun i hi => absurd hi (by omega), Below.refl _ _⟩
 case round =>
  obtain ⟨k, hk, rfl, HM, hbel⟩ := hrel
  have HB : Hid (Below w.heap.size w wr) := below_more BU0 hbel (Below.size BU0)
  have hzr : w.heap.size < wr.heap.size := Nat.lt_of_lt_of_le KU.1 hbel.size
  have kc : wr.cell? ⟨w.heap.size, 0, none⟩ = some (.slice ao n cap) := (hbel.cell (p := ⟨w.heap.size, 0, none⟩) KU.1).trans KU.2
  have HBU : Hid (Below U.heap.size U wr) := hbel
  have BU : Hid (∀ o, Below U.heap.size U (wr.alloc o)) := fun o => Below.trans hbel ((below1 _ _).mono hbel.size)
  clear hbel
  by_cases hkn : k < n
  ·have hki : (k : Int) < (n : Int) := by omega
   obtain ⟨b, off, rfl, hlo, hb, hc⟩ := HR (by omega)
   have HLK : Hid (k < xs.length) := by show k < xs.length; rw [show xs.length = n from HL]; exact hkn
   obtain ⟨cs, hcl, hRel, hcj⟩ := hc k hkn
   obtain ⟨t, ht⟩ : ∃ t, t = xs.getD k Lv.none := ⟨_, rfl⟩
   rw [← ht] at hRel
   have hsm : SmL t := by rw [ht]; exact HS.2 k HLK
   obtain ⟨e0, e1, e2, e3, e4, e5, rfl, i0, i1, i2, i3, i4, i5⟩ := hRel
   have hin : Six 0 w e0 e1 e2 e3 e4 e5 t := ⟨i0, i1, i2, i3, i4, i5⟩
   clear i0 i1 i2 i3 i4 i5
   obtain ⟨a0, c0, a1, c1, a2, c2, a3, c3, a4, c4, a5, c5, rfl, rfl, rfl, rfl, rfl, rfl⟩ := hin.shape
   have g0 : wr.cell? ⟨b, off + k * 6, none⟩ = some (.slice a0 t.cats.length c0) := (Below.cell HB (p := ⟨b, off + k * 6, none⟩) hb).trans (hcj 0 (by omega))
   have g1 : wr.cell? ⟨b, off + k * 6 + 1, none⟩ = some (.slice a1 t.binds.length c1) := (Below.cell HB (p := ⟨b, off + k * 6 + 1, none⟩) hb).trans (hcj 1 (by omega))
   have g2 : wr.cell? ⟨b, off + k * 6 + 2, none⟩ = some (.slice a2 t.counts.length c2) := (Below.cell HB (p := ⟨b, off + k * 6 + 2, none⟩) hb).trans (hcj 2 (by omega))
   have g3 : wr.cell? ⟨b, off + k * 6 + 3, none⟩ = some (.slice a3 t.lens.length c3) := (Below.cell HB (p := ⟨b, off + k * 6 + 3, none⟩) hb).trans (hcj 3 (by omega))
   have g4 : wr.cell? ⟨b, off + k * 6 + 4, none⟩ = some (.slice a4 t.glues.length c4) := (Below.cell HB (p := ⟨b, off + k * 6 + 4, none⟩) hb).trans (hcj 4 (by omega))
   have g5 : wr.cell? ⟨b, off + k * 6 + 5, none⟩ = some (.slice a5 t.toks.length c5) := (Below.cell HB (p := ⟨b, off + k * 6 + 5, none⟩) hb).trans (hcj 5 (by omega))
   obtain ⟨bb, hbb⟩ : ∃ bb, bb = levB t := ⟨_, rfl⟩
   have CB : Hid (∀ W, Below wr.heap.size wr W → Calls Tryz.prog 32 #[levV (.slice a0 t.cats.length c0) (.slice a1 t.binds.length c1) (.slice a2 t.counts.length c2) (.slice a3 t.lens.length c3) (.slice a4 t.glues.length c4) (.slice a5 t.toks.length c5)] W fun e w' => e = .returned (.bool bb) ∧ Below W.heap.size W w') := by
    rw [hbb]; intro W hW; exact specLevelOk_any (Six.below (Six.below hin HB) hW) hsm
   have HZ : Hid (levB (xs.getD k Lv.none) = bb) := by rw [← ht]; exact hbb.symm
   have DEAD : Hid (bb = false → ans = false) := by
    intro hd; rw [show ans = _ from HA]; exact env_dead HLK ((show levB (xs.getD k Lv.none) = bb from HZ).trans hd)
   clear hc hcj hcl ht hin hsm hbb
   obtain ⟨l0, hl0⟩ : ∃ l, l = t.cats.length := ⟨_, rfl⟩
   rw [← hl0] at g0 CB
   obtain ⟨l1, hl1⟩ : ∃ l, l = t.binds.length := ⟨_, rfl⟩
   rw [← hl1] at g1 CB
   obtain ⟨l2, hl2⟩ : ∃ l, l = t.counts.length := ⟨_, rfl⟩
   rw [← hl2] at g2 CB
   obtain ⟨l3, hl3⟩ : ∃ l, l = t.lens.length := ⟨_, rfl⟩
   rw [← hl3] at g3 CB
   obtain ⟨l4, hl4⟩ : ∃ l, l = t.glues.length := ⟨_, rfl⟩
   rw [← hl4] at g4 CB
   obtain ⟨l5, hl5⟩ : ∃ l, l = t.toks.length := ⟨_, rfl⟩
   rw [← hl5] at g5 CB
   clear hl0 hl1 hl2 hl3 hl4 hl5
   go_wp2_with fail
   refine (CB _ (Below.refl _ _)).mono ?_
   rintro e w2 ⟨rfl, hb1⟩
   have B2 : Hid (Below U.heap.size U w2) := below_more HBU hb1 (Below.size HBU)
   have B3 : Hid (Below w.heap.size w w2) := below_more BU0 B2 (Below.size BU0)
   clear hb1
   cases bb
   ·have hd : ans = false := DEAD rfl
    go_wp2
    go_ret
    exact ⟨by first | rfl | (rw [hd]; rfl), B3⟩
   ·go_wp2
    go_roundw
    case rel =>
     refine ⟨k + 1, by omega, by go_num, fun i hi => ?_, B2⟩
     by_cases hik : i = k
     ·subst hik; exact HZ
     ·exact HM i (by omega)
    case measure => simp [intOf]; omega
  ·have hki : ¬ (k : Int) < (n : Int) := by omega
   have hd : ans = true := by
    rw [show ans = _ from HA]
    have hl : xs.length = n := HL
    exact env_yes (by omega) (fun i hi => HM i (by omega))
   go_wp2
   go_ret
   exact ⟨by first | rfl | (rw [hd]; rfl), HB⟩
end Go.Proofs.YtbpidcfoldkhgaaGreat
