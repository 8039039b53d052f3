import Derived.Test.YtbpidcfoldkhgaaGreatBok
namespace Go.Proofs.YtbpidcfoldkhgaaGreat
open Go.RowKit
set_option linter.unusedVariables false
set_option linter.unusedSimpArgs false
theorem countOk_any (z : Int) (w : World) : Calls Tryz.prog 97 #[.int .i64 z] w fun e w' => e = .returned (.bool (cntB z)) ∧ Below w.heap.size w w' := by
 unfold cntB
 by_cases h1 : -2147483647 ≤ z
 ·by_cases h2 : z ≤ 2147483647
  ·rw [decide_eq_true ⟨h1, h2⟩]
   go_enter Tryz.func97, Tryz.ntmps97
   go_wp2
   go_ret
   exact ⟨rfl, Below.refl _ _⟩
  ·rw [decide_eq_false (by omega)]
   go_enter Tryz.func97, Tryz.ntmps97
   go_wp2
   go_ret
   exact ⟨rfl, Below.refl _ _⟩
 ·rw [decide_eq_false (by omega)]
  go_enter Tryz.func97, Tryz.ntmps97
  go_wp2
  go_ret
  exact ⟨rfl, Below.refl _ _⟩
theorem fitsOk_any (z : Int) (w : World) : Calls Tryz.prog 98 #[.int .i64 z] w fun e w' => e = .returned (.bool (fitsB z)) ∧ Below w.heap.size w w' := by
 refine (implFits_any z w).mono ?_
 rintro e w' ⟨rfl, rfl⟩
 exact ⟨rfl, Below.refl _ _⟩
theorem toksOk_any {v : Value} {ts : List Tk} {w : World} (h : TRow w v ts) (hn : ts.length ≤ 1048576) : Calls Tryz.prog 102 #[v] w fun e w' => e = .returned (.bool (tsB ts)) ∧ Below w.heap.size w w' := by
 have HT : Hid (TRow w v ts) := h
 obtain ⟨ao, n, cap, rfl, _, _⟩ := h
 go_enter Tryz.func102, Tryz.ntmps102
 go_wp2_with (go_at_call 122; refine (bodyOk_any HT hn).mono ?_; rintro e w1 ⟨rfl, hb1⟩)
 go_ret
 exact ⟨rfl, ‹Below _ _ _›⟩
set_option maxHeartbeats 4000000 in
theorem regI_61 {v : Value} {zs : List Int} {w : World} (h : Row w v zs) (hn : zs.length ≤ 1048576) :
 Calls Tryz.prog 96 #[v, .func (.func 97) #[] #[]] w fun e w' => e = .returned (.bool (regB zs cntB)) ∧ Below w.heap.size w w' := by
 obtain ⟨ao, n, cap, rfl, hl, hr⟩ := h
 by_cases h32 : n = 32
 ·subst h32
  obtain ⟨b, off, rfl, hb, hc⟩ := hr (by omega)
  have HC : Hid (∀ i, i < 32 → w.cell? ⟨b, off + i, none⟩ = some (.int .i64 (zs.getD i 0))) := hc
  have HL : Hid (zs.length = 32) := hl
  obtain ⟨ans, hans⟩ : ∃ a, a = regB zs cntB := ⟨_, rfl⟩
  rw [← hans]
  have HA : Hid (ans = regB zs cntB) := hans
  clear hc hr hl hans hn
  go_enter Tryz.func96, Tryz.ntmps96
  go_wp2
  go_loopw [12] (fun i wr => ∃ k : Nat, k ≤ 32 ∧ i = .int .i64 k ∧ Hid (∀ i, i < k → cntB (zs.getD i 0) = true) ∧ Below w.heap.size w wr) (fun i _ => 32 - (intOf i).toNat)
  case atStart => exact ⟨0, by omega, rfl, fun i hi => absurd hi (by omega), Below.refl _ _⟩
  case round =>
   obtain ⟨k, hk, rfl, HM, hbel⟩ := hrel
   by_cases hkn : k < 32
   ·have hki : (k : Int) < 32 := by omega
    obtain ⟨z, hz⟩ : ∃ z, z = zs.getD k 0 := ⟨_, rfl⟩
    have g0 : wr.cell? ⟨b, off + k, none⟩ = some (.int .i64 z) := by rw [hz]; exact (hbel.cell (p := ⟨b, off + k, none⟩) hb).trans (HC k hkn)
    obtain ⟨bb, hbb⟩ : ∃ bb, bb = cntB z := ⟨_, rfl⟩
    have CB : Hid (∀ W : World, Calls Tryz.prog 97 #[.int .i64 z] W fun e w' => e = .returned (.bool bb) ∧ Below W.heap.size W w') := by rw [hbb]; exact countOk_any z
    have HZ : Hid (cntB (zs.getD k 0) = bb) := by rw [← hz]; exact hbb.symm
    have DEAD : Hid (bb = false → ans = false) := by
     intro hd; rw [show ans = _ from HA]; exact reg_dead (d := 0) (by have : zs.length = 32 := HL; omega) (show cntB (zs.getD k 0) = false from (show _ = bb from HZ).trans hd)
    have HB : Hid (Below w.heap.size w wr) := hbel
    clear hz hbb hbel
    go_wp2_with fail
    refine (CB _).mono ?_
    rintro e w2 ⟨rfl, hb1⟩
    have B2 : Hid (Below w.heap.size w w2) := below_more HB hb1 (Below.size HB)
    clear hb1
    cases bb
    ·have hd : ans = false := DEAD rfl
     go_wp2
     go_ret
     exact ⟨by first | rfl | (rw [hd]; rfl), B2⟩
    ·go_wp2
     go_roundw
     case rel =>
      refine ⟨k + 1, by omega, by go_num, fun i hi => ?_, B2⟩
      by_cases hik : i = k
      ·subst hik; exact HZ
      ·exact HM i (by omega)
     case measure => simp [intOf]; omega
   ·have hki : ¬ (k : Int) < 32 := by omega
    have HB : Hid (Below w.heap.size w wr) := hbel
    have hd : ans = true := by rw [show ans = _ from HA]; exact reg_yes (d := 0) HL (fun i hi => HM i (by omega))
    clear hbel
    go_wp2
    go_ret
    exact ⟨by first | rfl | (rw [hd]; rfl), HB⟩
 ·have h32i : ((n : Int) == 32) = false := by simp; omega
  rw [reg_short (by omega)]
  go_enter Tryz.func96, Tryz.ntmps96
  go_wp2
  go_ret
  exact ⟨rfl, Below.refl _ _⟩
set_option maxHeartbeats 4000000 in
theorem regI_62 {v : Value} {zs : List Int} {w : World} (h : Row w v zs) (hn : zs.length ≤ 1048576) :
 Calls Tryz.prog 96 #[v, .func (.func 98) #[] #[]] w fun e w' => e = .returned (.bool (regB zs fitsB)) ∧ Below w.heap.size w w' := by
 obtain ⟨ao, n, cap, rfl, hl, hr⟩ := h
 by_cases h32 : n = 32
 ·subst h32
  obtain ⟨b, off, rfl, hb, hc⟩ := hr (by omega)
  have HC : Hid (∀ i, i < 32 → w.cell? ⟨b, off + i, none⟩ = some (.int .i64 (zs.getD i 0))) := hc
  have HL : Hid (zs.length = 32) := hl
  obtain ⟨ans, hans⟩ : ∃ a, a = regB zs fitsB := ⟨_, rfl⟩
  rw [← hans]
  have HA : Hid (ans = regB zs fitsB) := hans
  clear hc hr hl hans hn
  go_enter Tryz.func96, Tryz.ntmps96
  go_wp2
  go_loopw [12] (fun i wr => ∃ k : Nat, k ≤ 32 ∧ i = .int .i64 k ∧ Hid (∀ i, i < k → fitsB (zs.getD i 0) = true) ∧ Below w.heap.size w wr) (fun i _ => 32 - (intOf i).toNat)
  case atStart => exact ⟨0, by omega, rfl, fun i hi => absurd hi (by omega), Below.refl _ _⟩
  case round =>
   obtain ⟨k, hk, rfl, HM, hbel⟩ := hrel
   by_cases hkn : k < 32
   ·have hki : (k : Int) < 32 := by omega
    obtain ⟨z, hz⟩ : ∃ z, z = zs.getD k 0 := ⟨_, rfl⟩
    have g0 : wr.cell? ⟨b, off + k, none⟩ = some (.int .i64 z) := by rw [hz]; exact (hbel.cell (p := ⟨b, off + k, none⟩) hb).trans (HC k hkn)
    obtain ⟨bb, hbb⟩ : ∃ bb, bb = fitsB z := ⟨_, rfl⟩
    have CB : Hid (∀ W : World, Calls Tryz.prog 98 #[.int .i64 z] W fun e w' => e = .returned (.bool bb) ∧ Below W.heap.size W w') := by rw [hbb]; exact fitsOk_any z
    have HZ : Hid (fitsB (zs.getD k 0) = bb) := by rw [← hz]; exact hbb.symm
    have DEAD : Hid (bb = false → ans = false) := by
     intro hd; rw [show ans = _ from HA]; exact reg_dead (d := 0) (by have : zs.length = 32 := HL; omega) (show fitsB (zs.getD k 0) = false from (show _ = bb from HZ).trans hd)
    have HB : Hid (Below w.heap.size w wr) := hbel
    clear hz hbb hbel
    go_wp2_with fail
    refine (CB _).mono ?_
    rintro e w2 ⟨rfl, hb1⟩
    have B2 : Hid (Below w.heap.size w w2) := below_more HB hb1 (Below.size HB)
    clear hb1
    cases bb
    ·have hd : ans = false := DEAD rfl
     go_wp2
     go_ret
     exact ⟨by first | rfl | (rw [hd]; rfl), B2⟩
    ·go_wp2
     go_roundw
     case rel =>
      refine ⟨k + 1, by omega, by go_num, fun i hi => ?_, B2⟩
      by_cases hik : i = k
      ·subst hik; exact HZ
      ·exact HM i (by omega)
     case measure => simp [intOf]; omega
   ·have hki : ¬ (k : Int) < 32 := by omega
    have HB : Hid (Below w.heap.size w wr) := hbel
    have hd : ans = true := by rw [show ans = _ from HA]; exact reg_yes (d := 0) HL (fun i hi => HM i (by omega))
    clear hbel
    go_wp2
    go_ret
    exact ⟨by first | rfl | (rw [hd]; rfl), HB⟩
 ·have h32i : ((n : Int) == 32) = false := by simp; omega
  rw [reg_short (by omega)]
  go_enter Tryz.func96, Tryz.ntmps96
  go_wp2
  go_ret
  exact ⟨rfl, Below.refl _ _⟩
def GlA (w : World) (b off i : Nat) (g : Gl) : Prop := w.cell? ⟨b, off + i * 5, none⟩ = some (.int .i64 g.s) ∧ w.cell? ⟨b, off + i * 5 + 1, none⟩ = some (.int .i64 g.p) ∧ w.cell? ⟨b, off + i * 5 + 2, none⟩ = some (.int .i64 g.po) ∧ w.cell? ⟨b, off + i * 5 + 3, none⟩ = some (.int .i64 g.m) ∧ w.cell? ⟨b, off + i * 5 + 4, none⟩ = some (.int .i64 g.mo)
set_option maxHeartbeats 4000000 in
theorem regG_64 {v : Value} {zs : List Gl} {w : World} (h : GRow w v zs) (hn : zs.length ≤ 1048576) :
 Calls Tryz.prog 99 #[v, .func (.func 100) #[] #[]] w fun e w' => e = .returned (.bool (regB zs glB)) ∧ Below w.heap.size w w' := by
 obtain ⟨ao, n, cap, rfl, hl, hr⟩ := h
 by_cases h32 : n = 32
 ·subst h32
  obtain ⟨b, off, rfl, hb, hc⟩ := hr (by omega)
  have HC : Hid (∀ i, i < 32 → GlA w b off i (zs.getD i Gl.none)) := hc
  have HL : Hid (zs.length = 32) := hl
  obtain ⟨ans, hans⟩ : ∃ a, a = regB zs glB := ⟨_, rfl⟩
  rw [← hans]
  have HA : Hid (ans = regB zs glB) := hans
  clear hc hr hl hans hn
  go_enter Tryz.func99, Tryz.ntmps99
  go_wp2
  go_loopw [12] (fun i wr => ∃ k : Nat, k ≤ 32 ∧ i = .int .i64 k ∧ Hid (∀ i, i < k → glB (zs.getD i Gl.none) = true) ∧ Below w.heap.size w wr) (fun i _ => 32 - (intOf i).toNat)
  case atStart => exact ⟨0, by omega, rfl, fun i hi => absurd hi (by omega), Below.refl _ _⟩
  case round =>
   obtain ⟨k, hk, rfl, HM, hbel⟩ := hrel
   by_cases hkn : k < 32
   ·have hki : (k : Int) < 32 := by omega
    obtain ⟨z, hz⟩ : ∃ z, z = zs.getD k Gl.none := ⟨_, rfl⟩
    obtain ⟨r0, r1, r2, r3, r4⟩ := HC k hkn
    rw [← hz] at r0 r1 r2 r3 r4
    have g0 := (hbel.cell (p := ⟨b, off + k * 5, none⟩) hb).trans r0
    have g1 := (hbel.cell (p := ⟨b, off + k * 5 + 1, none⟩) hb).trans r1
    have g2 := (hbel.cell (p := ⟨b, off + k * 5 + 2, none⟩) hb).trans r2
    have g3 := (hbel.cell (p := ⟨b, off + k * 5 + 3, none⟩) hb).trans r3
    have g4 := (hbel.cell (p := ⟨b, off + k * 5 + 4, none⟩) hb).trans r4
    have BA : Hid (∀ o, Below w.heap.size w (wr.alloc o)) := fun o => Below.trans hbel ((below1 _ _).mono hbel.size)
    clear r0 r1 r2 r3 r4
    obtain ⟨bb, hbb⟩ : ∃ bb, bb = glB z := ⟨_, rfl⟩
    have CB : Hid (∀ W : World, Calls Tryz.prog 100 #[z.v] W fun e w' => e = .returned (.bool bb) ∧ Below W.heap.size W w') := by rw [hbb]; intro W; exact implGlueOk_any z.s z.p z.po z.m z.mo W
    have HZ : Hid (glB (zs.getD k Gl.none) = bb) := by rw [← hz]; exact hbb.symm
    have DEAD : Hid (bb = false → ans = false) := by
     intro hd; rw [show ans = _ from HA]; exact reg_dead (d := Gl.none) (by have : zs.length = 32 := HL; omega) (show glB (zs.getD k Gl.none) = false from (show _ = bb from HZ).trans hd)
    have HB : Hid (Below w.heap.size w wr) := hbel
    clear hz hbb hbel
    go_wp2_with fail
    refine (CB _).mono ?_
    rintro e w2 ⟨rfl, hb1⟩
    have B2 : Hid (Below w.heap.size w w2) := below_more (BA _) hb1 (by simp; have := Below.size HB; omega)
    clear hb1
    cases bb
    ·have hd : ans = false := DEAD rfl
     go_wp2
     go_ret
     exact ⟨by first | rfl | (rw [hd]; rfl), B2⟩
    ·go_wp2
     go_roundw
     case rel =>
      refine ⟨k + 1, by omega, by go_num, fun i hi => ?_, B2⟩
      by_cases hik : i = k
      ·subst hik; exact HZ
      ·exact HM i (by omega)
     case measure => simp [intOf]; omega
   ·have hki : ¬ (k : Int) < 32 := by omega
    have HB : Hid (Below w.heap.size w wr) := hbel
    have hd : ans = true := by rw [show ans = _ from HA]; exact reg_yes (d := Gl.none) HL (fun i hi => HM i (by omega))
    clear hbel
    go_wp2
    go_ret
    exact ⟨by first | rfl | (rw [hd]; rfl), HB⟩
 ·have h32i : ((n : Int) == 32) = false := by simp; omega
  rw [reg_short (by omega)]
  go_enter Tryz.func99, Tryz.ntmps99
  go_wp2
  go_ret
  exact ⟨rfl, Below.refl _ _⟩
set_option maxHeartbeats 4000000 in
theorem regT_66 {v : Value} {zs : List (List Tk)} {w : World} (h : TsRow 0 w v zs) (hn : ∀ i, i < zs.length → Sml (zs.getD i [])) :
 Calls Tryz.prog 101 #[v, .func (.func 102) #[] #[]] w fun e w' => e = .returned (.bool (regB zs tsB)) ∧ Below w.heap.size w w' := by
 obtain ⟨ao, n, cap, rfl, hl, hr⟩ := h
 by_cases h32 : n = 32
 ·subst h32
  obtain ⟨b, off, rfl, _, hb, hc⟩ := hr (by omega)
  have HSM : Hid (∀ i, i < 32 → Sml (zs.getD i [])) := fun i hi => hn i (by omega)
  have HC : Hid (∀ i, i < 32 → ∃ cs : List Value, cs.length = 1 ∧ TsR 0 w cs (zs.getD i []) ∧ ∀ j, j < 1 → w.cell? ⟨b, off + i * 1 + j, none⟩ = cs[j]?) := hc
  have HL : Hid (zs.length = 32) := hl
  obtain ⟨ans, hans⟩ : ∃ a, a = regB zs tsB := ⟨_, rfl⟩
  rw [← hans]
  have HA : Hid (ans = regB zs tsB) := hans
  clear hc hr hl hans hn
  go_enter Tryz.func101, Tryz.ntmps101
  go_wp2
  go_loopw [12] (fun i wr => ∃ k : Nat, k ≤ 32 ∧ i = .int .i64 k ∧ Hid (∀ i, i < k → tsB (zs.getD i []) = true) ∧ Below w.heap.size w wr) (fun i _ => 32 - (intOf i).toNat)
  case atStart => exact ⟨0, by omega, rfl, fun i hi => absurd hi (by omega), Below.refl _ _⟩
  case round =>
   obtain ⟨k, hk, rfl, HM, hbel⟩ := hrel
   by_cases hkn : k < 32
   ·have hki : (k : Int) < 32 := by omega
    obtain ⟨z, hz⟩ : ∃ z, z = zs.getD k [] := ⟨_, rfl⟩
    obtain ⟨cs, _, ⟨u, rfl, hin⟩, hcj⟩ := HC k hkn
    obtain ⟨ta, tn, tc, rfl⟩ := hin.shape
    rw [← hz] at hin
    have hsz : Sml z := by rw [hz]; exact HSM k hkn
    have g0 : wr.cell? ⟨b, off + k, none⟩ = some (.slice ta tn tc) := by have h := (hbel.cell (p := ⟨b, off + k * 1 + 0, none⟩) hb).trans (hcj 0 (by omega)); simpa using h
    have HIN : Hid (TRow wr (.slice ta tn tc) z) := TIn.row_below hin hbel
    obtain ⟨bb, hbb⟩ : ∃ bb, bb = tsB z := ⟨_, rfl⟩
    have CB : Hid (∀ W : World, Below wr.heap.size wr W → Calls Tryz.prog 102 #[.slice ta tn tc] W fun e w' => e = .returned (.bool bb) ∧ Below W.heap.size W w') := by rw [hbb]; intro W hW; exact toksOk_any (TRow.below HIN hW) hsz
    have HZ : Hid (tsB (zs.getD k []) = bb) := by rw [← hz]; exact hbb.symm
    have DEAD : Hid (bb = false → ans = false) := by
     intro hd; rw [show ans = _ from HA]; exact reg_dead (d := []) (by have : zs.length = 32 := HL; omega) (show tsB (zs.getD k []) = false from (show _ = bb from HZ).trans hd)
    have HB : Hid (Below w.heap.size w wr) := hbel
    clear hz hbb hbel hin hcj hsz
    go_wp2_with fail
    refine (CB _ (Below.refl _ _)).mono ?_
    rintro e w2 ⟨rfl, hb1⟩
    have B2 : Hid (Below w.heap.size w w2) := below_more HB hb1 (Below.size HB)
    clear hb1
    cases bb
    ·have hd : ans = false := DEAD rfl
     go_wp2
     go_ret
     exact ⟨by first | rfl | (rw [hd]; rfl), B2⟩
    ·go_wp2
     go_roundw
     case rel =>
      refine ⟨k + 1, by omega, by go_num, fun i hi => ?_, B2⟩
      by_cases hik : i = k
      ·subst hik; exact HZ
      ·exact HM i (by omega)
     case measure => simp [intOf]; omega
   ·have hki : ¬ (k : Int) < 32 := by omega
    have HB : Hid (Below w.heap.size w wr) := hbel
    have hd : ans = true := by rw [show ans = _ from HA]; exact reg_yes (d := []) HL (fun i hi => HM i (by omega))
    clear hbel
    go_wp2
    go_ret
    exact ⟨by first | rfl | (rw [hd]; rfl), HB⟩
 ·have h32i : ((n : Int) == 32) = false := by simp; omega
  rw [reg_short (by omega)]
  go_enter Tryz.func101, Tryz.ntmps101
  go_wp2
  go_ret
  exact ⟨rfl, Below.refl _ _⟩
end Go.Proofs.YtbpidcfoldkhgaaGreat
