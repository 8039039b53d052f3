import Derived.Test.YtbpidcfoldkhgaaGreatReg
namespace Go.Proofs.YtbpidcfoldkhgaaGreat
open Go.RowKit
set_option linter.unusedVariables false
set_option linter.unusedSimpArgs false
set_option maxHeartbeats 8000000 in
theorem levelOk_any {x : Lv} {w : World} {v0 v1 v2 v3 v4 v5 : Value} (h : Six 0 w v0 v1 v2 v3 v4 v5 x) (hs : SmL x) :
 Calls Tryz.prog 68 #[levV v0 v1 v2 v3 v4 v5] w fun e w' => e = .returned (.bool (levB x)) ∧ Below w.heap.size w w' := by
 have HX : Hid (Six 0 w v0 v1 v2 v3 v4 v5 x) := h
 obtain ⟨a0, c0, a1, c1, a2, c2, a3, c3, a4, c4, a5, c5, rfl, rfl, rfl, rfl, rfl, rfl⟩ := h.shape
 have HS : Hid (SmL x) := hs
 unfold levB
 obtain ⟨b0, e0⟩ : ∃ b, b = catsB x.cats := ⟨_, rfl⟩
 obtain ⟨b1, e1⟩ : ∃ b, b = bindsB x.binds := ⟨_, rfl⟩
 obtain ⟨b2, e2⟩ : ∃ b, b = regB x.counts cntB := ⟨_, rfl⟩
 obtain ⟨b3, e3⟩ : ∃ b, b = regB x.lens fitsB := ⟨_, rfl⟩
 obtain ⟨b4, e4⟩ : ∃ b, b = regB x.glues glB := ⟨_, rfl⟩
 obtain ⟨b5, e5⟩ : ∃ b, b = regB x.toks tsB := ⟨_, rfl⟩
 rw [← e0, ← e1, ← e2, ← e3, ← e4, ← e5]
 have C0 : Hid (∀ W, Below w.heap.size w W → Calls Tryz.prog 94 #[.slice a0 x.cats.length c0] W fun e w' => e = .returned (.bool b0) ∧ Below W.heap.size W w') := by rw [e0]; intro W hW; exact implCatsOk_any (RIn.below h.h0 hW).1
 have C1 : Hid (∀ W, Below w.heap.size w W → Calls Tryz.prog 95 #[.slice a1 x.binds.length c1] W fun e w' => e = .returned (.bool b1) ∧ Below W.heap.size W w') := by rw [e1]; intro W hW; exact bindsOk_any (h.h1.below bdStable hW) hs.2.1
 have C2 : Hid (∀ W, Below w.heap.size w W → Calls Tryz.prog 96 #[.slice a2 x.counts.length c2, .func (.func 97) #[] #[]] W fun e w' => e = .returned (.bool b2) ∧ Below W.heap.size W w') := by rw [e2]; intro W hW; exact regI_61 (RIn.below h.h2 hW).1 hs.2.2.1
 have C3 : Hid (∀ W, Below w.heap.size w W → Calls Tryz.prog 96 #[.slice a3 x.lens.length c3, .func (.func 98) #[] #[]] W fun e w' => e = .returned (.bool b3) ∧ Below W.heap.size W w') := by rw [e3]; intro W hW; exact regI_62 (RIn.below h.h3 hW).1 hs.2.2.2.1
 have C4 : Hid (∀ W, Below w.heap.size w W → Calls Tryz.prog 99 #[.slice a4 x.glues.length c4, .func (.func 100) #[] #[]] W fun e w' => e = .returned (.bool b4) ∧ Below W.heap.size W w') := by rw [e4]; intro W hW; exact regG_64 (GIn.below h.h4 hW).1 hs.2.2.2.2.1
 have C5 : Hid (∀ W, Below w.heap.size w W → Calls Tryz.prog 101 #[.slice a5 x.toks.length c5, .func (.func 102) #[] #[]] W fun e w' => e = .returned (.bool b5) ∧ Below W.heap.size W w') := by rw [e5]; intro W hW; exact regT_66 (h.h5.below tsStable hW) hs.2.2.2.2.2.2
 obtain ⟨l0, f0⟩ : ∃ l, l = x.cats.length := ⟨_, rfl⟩
 obtain ⟨l1, f1⟩ : ∃ l, l = x.binds.length := ⟨_, rfl⟩
 obtain ⟨l2, f2⟩ : ∃ l, l = x.counts.length := ⟨_, rfl⟩
 obtain ⟨l3, f3⟩ : ∃ l, l = x.lens.length := ⟨_, rfl⟩
 obtain ⟨l4, f4⟩ : ∃ l, l = x.glues.length := ⟨_, rfl⟩
 obtain ⟨l5, f5⟩ : ∃ l, l = x.toks.length := ⟨_, rfl⟩
 rw [← f0] at C0
 rw [← f1] at C1
 rw [← f2] at C2
 rw [← f3] at C3
 rw [← f4] at C4
 rw [← f5] at C5
 rw [← f0, ← f1, ← f2, ← f3, ← f4, ← f5]
 have K0 : Hid (Cells6 (w.alloc (.cells #[.slice a0 l0 c0, .slice a1 l1 c1, .slice a2 l2 c2, .slice a3 l3 c3, .slice a4 l4 c4, .slice a5 l5 c5] 45)) w.heap.size (.slice a0 l0 c0) (.slice a1 l1 c1) (.slice a2 l2 c2) (.slice a3 l3 c3) (.slice a4 l4 c4) (.slice a5 l5 c5)) := Cells6.new _ _ _ _ _ _ _ _
 clear e0 e1 e2 e3 e4 e5 f0 f1 f2 f3 f4 f5 h hs HX
 go_enter Tryz.func68, Tryz.ntmps68
 go_wp2_with fail
 refine (C0 _ (below1 _ _)).mono ?_
 rintro e w1 ⟨rfl, hb1⟩
 have K1 : Hid (Cells6 w1 w.heap.size (.slice a0 l0 c0) (.slice a1 l1 c1) (.slice a2 l2 c2) (.slice a3 l3 c3) (.slice a4 l4 c4) (.slice a5 l5 c5)) := Cells6.below K0 hb1
 have B1 : Hid (Below w.heap.size w w1) := below_more (below1 _ _) hb1 (by simp)
 obtain ⟨hz1, q10, q11, q12, q13, q14, q15⟩ := (show Cells6 w1 w.heap.size _ _ _ _ _ _ from K1)
 clear hb1
 cases b0
 ·go_wp2
  go_ret
  exact ⟨rfl, B1⟩
 go_wp2_with fail
 refine (C1 _ B1).mono ?_
 rintro e w2 ⟨rfl, hb2⟩
 have K2 : Hid (Cells6 w2 w.heap.size (.slice a0 l0 c0) (.slice a1 l1 c1) (.slice a2 l2 c2) (.slice a3 l3 c3) (.slice a4 l4 c4) (.slice a5 l5 c5)) := Cells6.below K1 hb2
 have B2 : Hid (Below w.heap.size w w2) := below_more B1 hb2 (Below.size B1)
 obtain ⟨hz2, q20, q21, q22, q23, q24, q25⟩ := (show Cells6 w2 w.heap.size _ _ _ _ _ _ from K2)
 clear hb2 q10 q11 q12 q13 q14 q15
 cases b1
 ·go_wp2
  go_ret
  exact ⟨rfl, B2⟩
 go_wp2_with fail
 refine (C2 _ B2).mono ?_
 rintro e w3 ⟨rfl, hb3⟩
 have K3 : Hid (Cells6 w3 w.heap.size (.slice a0 l0 c0) (.slice a1 l1 c1) (.slice a2 l2 c2) (.slice a3 l3 c3) (.slice a4 l4 c4) (.slice a5 l5 c5)) := Cells6.below K2 hb3
 have B3 : Hid (Below w.heap.size w w3) := below_more B2 hb3 (Below.size B2)
 obtain ⟨hz3, q30, q31, q32, q33, q34, q35⟩ := (show Cells6 w3 w.heap.size _ _ _ _ _ _ from K3)
 clear hb3 q20 q21 q22 q23 q24 q25
 cases b2
 ·go_wp2
  go_ret
  exact ⟨rfl, B3⟩
 go_wp2_with fail
 refine (C3 _ B3).mono ?_
 rintro e w4 ⟨rfl, hb4⟩
 have K4 : Hid (Cells6 w4 w.heap.size (.slice a0 l0 c0) (.slice a1 l1 c1) (.slice a2 l2 c2) (.slice a3 l3 c3) (.slice a4 l4 c4) (.slice a5 l5 c5)) := Cells6.below K3 hb4
 have B4 : Hid (Below w.heap.size w w4) := below_more B3 hb4 (Below.size B3)
 obtain ⟨hz4, q40, q41, q42, q43, q44, q45⟩ := (show Cells6 w4 w.heap.size _ _ _ _ _ _ from K4)
 clear hb4 q30 q31 q32 q33 q34 q35
 cases b3
 ·go_wp2
  go_ret
  exact ⟨rfl, B4⟩
 go_wp2_with fail
 refine (C4 _ B4).mono ?_
 rintro e w5 ⟨rfl, hb5⟩
 have K5 : Hid (Cells6 w5 w.heap.size (.slice a0 l0 c0) (.slice a1 l1 c1) (.slice a2 l2 c2) (.slice a3 l3 c3) (.slice a4 l4 c4) (.slice a5 l5 c5)) := Cells6.below K4 hb5
 have B5 : Hid (Below w.heap.size w w5) := below_more B4 hb5 (Below.size B4)
 obtain ⟨hz5, q50, q51, q52, q53, q54, q55⟩ := (show Cells6 w5 w.heap.size _ _ _ _ _ _ from K5)
 clear hb5 q40 q41 q42 q43 q44 q45
 cases b4
 ·go_wp2
  go_ret
  exact ⟨rfl, B5⟩
 go_wp2_with fail
 refine (C5 _ B5).mono ?_
 rintro e w6 ⟨rfl, hb6⟩
 have K6 : Hid (Cells6 w6 w.heap.size (.slice a0 l0 c0) (.slice a1 l1 c1) (.slice a2 l2 c2) (.slice a3 l3 c3) (.slice a4 l4 c4) (.slice a5 l5 c5)) := Cells6.below K5 hb6
 have B6 : Hid (Below w.heap.size w w6) := below_more B5 hb6 (Below.size B5)
 obtain ⟨hz6, q60, q61, q62, q63, q64, q65⟩ := (show Cells6 w6 w.heap.size _ _ _ _ _ _ from K6)
 clear hb6 q50 q51 q52 q53 q54 q55
 go_wp2
 go_ret
 exact ⟨rfl, B6⟩
theorem env_short {xs : List Lv} (h : ¬ (1 ≤ xs.length ∧ xs.length ≤ 20)) : envB xs = false := by unfold envB; rw [decide_eq_false h]; rfl
theorem env_dead {xs : List Lv} {k : Nat} (hk : k < xs.length) (h : levB (xs.getD k Lv.none) = false) : envB xs = false := by unfold envB; rw [allD_dead hk h]; simp
theorem env_yes {xs : List Lv} (hl : 1 ≤ xs.length ∧ xs.length ≤ 20) (h : ∀ i, i < xs.length → levB (xs.getD i Lv.none) = true) : envB xs = true := by unfold envB; rw [decide_eq_true hl, allD_yes h]; rfl
set_option maxHeartbeats 8000000 in
theorem implEnvOk_any {v : Value} {xs : List Lv} {w : World} (h : LRow 0 w v xs) (hs : SmE xs) :
 Calls Tryz.prog 36 #[.agg #[v]] w fun e w' => e = .returned (.bool (envB xs)) ∧ Below w.heap.size w w' := by
 obtain ⟨ao, n, cap, rfl, hn, hr⟩ := h
 by_cases h1 : n < 1
 ·rw [env_short (by omega)]
  have h1i : (n : Int) < 1 := by omega
  go_enter Tryz.func36, Tryz.ntmps36
  go_wp2
  go_ret
  exact ⟨rfl, below1 _ _⟩
 by_cases h20 : 20 < n
 ·rw [env_short (by omega)]
  have h1i : ¬ (n : Int) < 1 := by omega
  have h2i : (20 : Int) < (n : Int) := by omega
  go_enter Tryz.func36, Tryz.ntmps36
  go_wp2
  go_ret
  exact ⟨rfl, below1 _ _⟩
 have h1i : ¬ (n : Int) < 1 := by omega
 have h2i : ¬ (20 : Int) < (n : Int) := by omega
 have hn20 : n ≤ 20 := by omega
 obtain ⟨ans, hans⟩ : ∃ a, a = envB xs := ⟨_, rfl⟩
 rw [← hans]
 have HA : Hid (ans = envB xs) := hans
 have HL : Hid (xs.length = n) := hn
 have HS : Hid (SmE xs) := hs
 have HR : Hid (0 < n → ∃ b off, ao = some ⟨b, off, none⟩ ∧ 0 ≤ b ∧ b < w.heap.size ∧ ∀ i, i < n → ∃ cs : List Value, cs.length = 6 ∧ LvR 0 w cs (xs.getD i Lv.none) ∧ ∀ j, j < 6 → w.cell? ⟨b, off + i * 6 + j, none⟩ = cs[j]?) := hr
 clear hans hn hs hr
 go_enter Tryz.func36, Tryz.ntmps36
 go_wp2
 obtain ⟨U, hU⟩ : ∃ U, U = w.alloc (.cells #[.slice ao n cap] 30) := ⟨_, rfl⟩
 rw [← hU]
 have hUs : w.heap.size < U.heap.size := by rw [hU]; simp
 have hUc : U.cell? ⟨w.heap.size, 0, none⟩ = some (.slice ao n cap) := by rw [hU]; simp [go_sem]
 have BU0 : Hid (Below w.heap.size w U) := by rw [hU]; exact below1 _ _
 have KU : Hid (w.heap.size < U.heap.size ∧ U.cell? ⟨w.heap.size, 0, none⟩ = some (.slice ao n cap)) := ⟨hUs, hUc⟩
 clear hU hUs hUc
 go_loopw [18] (fun i wr => ∃ k : Nat, k ≤ n ∧ i = .int .i64 k ∧ Hid (∀ i, i < k → levB (xs.getD i Lv.none) = true) ∧ Below U.heap.size U wr) (fun i _ => n - (intOf i).toNat)
 case atStart => exact ⟨0, by omega, rfl, fun i hi => absurd hi (by omega), Below.refl _ _⟩
 case round =>
  obtain ⟨k, hk, rfl, HM, hbel⟩ := hrel
  have HB : Hid (Below w.heap.size w wr) := below_more BU0 hbel (Below.size BU0)
  have hzr : w.heap.size < wr.heap.size := Nat.lt_of_lt_of_le KU.1 hbel.size
  have kc : wr.cell? ⟨w.heap.size, 0, none⟩ = some (.slice ao n cap) := (hbel.cell (p := ⟨w.heap.size, 0, none⟩) KU.1).trans KU.2
  have HBU : Hid (Below U.heap.size U wr) := hbel
  have BU : Hid (∀ o, Below U.heap.size U (wr.alloc o)) := fun o => Below.trans hbel ((below1 _ _).mono hbel.size)
  clear hbel
  by_cases hkn : k < n
  ·have hki : (k : Int) < (n : Int) := by omega
   obtain ⟨b, off, rfl, hlo, hb, hc⟩ := HR (by omega)
   have HLK : Hid (k < xs.length) := by show k < xs.length; rw [show xs.length = n from HL]; exact hkn
   obtain ⟨cs, hcl, hRel, hcj⟩ := hc k hkn
   obtain ⟨t, ht⟩ : ∃ t, t = xs.getD k Lv.none := ⟨_, rfl⟩
   rw [← ht] at hRel
   have hsm : SmL t := by rw [ht]; exact HS.2 k HLK
   obtain ⟨e0, e1, e2, e3, e4, e5, rfl, i0, i1, i2, i3, i4, i5⟩ := hRel
   have hin : Six 0 w e0 e1 e2 e3 e4 e5 t := ⟨i0, i1, i2, i3, i4, i5⟩
   clear i0 i1 i2 i3 i4 i5
   obtain ⟨a0, c0, a1, c1, a2, c2, a3, c3, a4, c4, a5, c5, rfl, rfl, rfl, rfl, rfl, rfl⟩ := hin.shape
   have g0 : wr.cell? ⟨b, off + k * 6, none⟩ = some (.slice a0 t.cats.length c0) := (Below.cell HB (p := ⟨b, off + k * 6, none⟩) hb).trans (hcj 0 (by omega))
   have g1 : wr.cell? ⟨b, off + k * 6 + 1, none⟩ = some (.slice a1 t.binds.length c1) := (Below.cell HB (p := ⟨b, off + k * 6 + 1, none⟩) hb).trans (hcj 1 (by omega))
   have g2 : wr.cell? ⟨b, off + k * 6 + 2, none⟩ = some (.slice a2 t.counts.length c2) := (Below.cell HB (p := ⟨b, off + k * 6 + 2, none⟩) hb).trans (hcj 2 (by omega))
   have g3 : wr.cell? ⟨b, off + k * 6 + 3, none⟩ = some (.slice a3 t.lens.length c3) := (Below.cell HB (p := ⟨b, off + k * 6 + 3, none⟩) hb).trans (hcj 3 (by omega))
   have g4 : wr.cell? ⟨b, off + k * 6 + 4, none⟩ = some (.slice a4 t.glues.length c4) := (Below.cell HB (p := ⟨b, off + k * 6 + 4, none⟩) hb).trans (hcj 4 (by omega))
   have g5 : wr.cell? ⟨b, off + k * 6 + 5, none⟩ = some (.slice a5 t.toks.length c5) := (Below.cell HB (p := ⟨b, off + k * 6 + 5, none⟩) hb).trans (hcj 5 (by omega))
   obtain ⟨bb, hbb⟩ : ∃ bb, bb = levB t := ⟨_, rfl⟩
   have CB : Hid (∀ W, Below wr.heap.size wr W → Calls Tryz.prog 68 #[levV (.slice a0 t.cats.length c0) (.slice a1 t.binds.length c1) (.slice a2 t.counts.length c2) (.slice a3 t.lens.length c3) (.slice a4 t.glues.length c4) (.slice a5 t.toks.length c5)] W fun e w' => e = .returned (.bool bb) ∧ Below W.heap.size W w') := by
    rw [hbb]; intro W hW; exact levelOk_any (Six.below (Six.below hin HB) hW) hsm
   have HZ : Hid (levB (xs.getD k Lv.none) = bb) := by rw [← ht]; exact hbb.symm
   have DEAD : Hid (bb = false → ans = false) := by
    intro hd; rw [show ans = _ from HA]; exact env_dead HLK ((show levB (xs.getD k Lv.none) = bb from HZ).trans hd)
   clear hc hcj hcl ht hin hsm hbb
   obtain ⟨l0, hl0⟩ : ∃ l, l = t.cats.length := ⟨_, rfl⟩
   rw [← hl0] at g0 CB
   obtain ⟨l1, hl1⟩ : ∃ l, l = t.binds.length := ⟨_, rfl⟩
   rw [← hl1] at g1 CB
   obtain ⟨l2, hl2⟩ : ∃ l, l = t.counts.length := ⟨_, rfl⟩
   rw [← hl2] at g2 CB
   obtain ⟨l3, hl3⟩ : ∃ l, l = t.lens.length := ⟨_, rfl⟩
   rw [← hl3] at g3 CB
   obtain ⟨l4, hl4⟩ : ∃ l, l = t.glues.length := ⟨_, rfl⟩
   rw [← hl4] at g4 CB
   obtain ⟨l5, hl5⟩ : ∃ l, l = t.toks.length := ⟨_, rfl⟩
   rw [← hl5] at g5 CB
   clear hl0 hl1 hl2 hl3 hl4 hl5
   go_wp2_with fail
   refine (CB _ (below1 _ _)).mono ?_
   rintro e w2 ⟨rfl, hb1⟩
   have B2 : Hid (Below U.heap.size U w2) := below_more (BU _) hb1 (by simp; have := Below.size HBU; omega)
   have B3 : Hid (Below w.heap.size w w2) := below_more BU0 B2 (Below.size BU0)
   clear hb1
   cases bb
   ·have hd : ans = false := DEAD rfl
    go_wp2
    go_ret
    exact ⟨by first | rfl | (rw [hd]; rfl), B3⟩
   ·go_wp2
    go_roundw
    case rel =>
     refine ⟨k + 1, by omega, by go_num, fun i hi => ?_, B2⟩
     by_cases hik : i = k
     ·subst hik; exact HZ
     ·exact HM i (by omega)
    case measure => simp [intOf]; omega
  ·have hki : ¬ (k : Int) < (n : Int) := by omega
   have hd : ans = true := by
    rw [show ans = _ from HA]
    have hl : xs.length = n := HL
    exact env_yes (by omega) (fun i hi => HM i (by omega))
   go_wp2
   go_ret
   exact ⟨by first | rfl | (rw [hd]; rfl), HB⟩
end Go.Proofs.YtbpidcfoldkhgaaGreat
