import Derived.Test.YtbpidcfoldkhgaaGreatDat
namespace Go.Proofs.YtbpidcfoldkhgaaGreat
open Go.RowKit
set_option linter.unusedVariables false
set_option linter.unusedSimpArgs false
theorem step_dead {most o : Int} {t : Tk} (h : okT most t = false ∨ o + dl t < 0) : tkStep most (some o) t = none := by
 unfold tkStep; dsimp only
 rcases h with h | h
 ·rw [if_pos h]
 ·rw [if_pos h]; split <;> rfl
theorem step_on {most o : Int} {t : Tk} (h : okT most t = true) (h2 : ¬ o + dl t < 0) : tkStep most (some o) t = some (o + dl t) := by
 unfold tkStep; dsimp only
 rw [if_neg (by simp [h]), if_neg h2]
theorem tk_end {most : Int} {ts : List Tk} {limit : Int} (hl : (ts.length : Int) ≤ limit) {o : Int} (h : ts.foldl (tkStep most) (some 0) = some o) : toksB ts limit most = decide (o = 0) := by
 unfold toksB; rw [h]; simp [hl]
theorem tk_off {most : Int} {ts : List Tk} {limit : Int} (h : ts.foldl (tkStep most) (some 0) = none) : toksB ts limit most = false := by
 unfold toksB; rw [h]; simp
set_option maxHeartbeats 4000000 in
theorem specToks_any {v : Value} {ts : List Tk} {w : World} {limit most : Int} (h : TRow w v ts) (hn : ts.length ≤ 1048576) :
 Calls Tryz.prog 63 #[v, .int .i64 limit, .int .i64 most] w fun e w' => e = .returned (.bool (toksB ts limit most)) ∧ Below w.heap.size w w' := by
 obtain ⟨ao, n, cap, rfl, hl, hr⟩ := h
 rw [hl] at hn
 by_cases hbig : limit < (n : Int)
 ·have e : toksB ts limit most = false := by unfold toksB; rw [hl]; simp; intro h; omega
  rw [e]
  go_enter Tryz.func63, Tryz.ntmps63
  go_wp2
  go_ret
  exact ⟨rfl, Below.refl _ _⟩
 ·have HR : Hid (0 < n → ∃ b off, ao = some ⟨b, off, none⟩ ∧ b < w.heap.size ∧ ∀ i, i < n →
   w.cell? ⟨b, off + i * 3, none⟩ = some (.int .i64 (ts.getD i Tk.none).c) ∧ w.cell? ⟨b, off + i * 3 + 1, none⟩ = some (.int .i64 (ts.getD i Tk.none).h) ∧ w.cell? ⟨b, off + i * 3 + 2, none⟩ = some (.string (ts.getD i Tk.none).s)) := hr
  have HL : Hid (ts.length = n) := hl
  obtain ⟨ans, hans⟩ : ∃ a, a = toksB ts limit most := ⟨_, rfl⟩
  rw [← hans]
  have HA : Hid (ans = toksB ts limit most) := hans
  have HG : Hid ((ts.length : Int) ≤ limit) := by show (ts.length : Int) ≤ limit; omega
  clear hr hl hans
  go_enter Tryz.func63, Tryz.ntmps63
  go_wp2
  go_loopw [7, 8] (fun s i wr => ∃ (k : Nat) (o : Int), k ≤ n ∧ i = .int .i64 k ∧ s = .int .i64 o ∧ 0 ≤ o ∧ o ≤ k ∧ Hid ((ts.take k).foldl (tkStep most) (some 0) = some o) ∧ Below w.heap.size w wr)
   (fun _ i _ => n - (intOf i).toNat)
  case atStart => exact ⟨0, 0, by omega, rfl, rfl, by omega, by omega, rfl, Below.refl _ _⟩
  case round =>
   obtain ⟨k, o, hk, rfl, rfl, ho0, ho1, HO, hbel⟩ := hrel
   by_cases hkn : k < n
   ·have hki : (k : Int) < (n : Int) := by omega
    obtain ⟨b, off, rfl, hb, hc⟩ := HR (by omega)
    have HLK : Hid (k < ts.length) := by show k < ts.length; rw [show ts.length = n from HL]; exact hkn
    obtain ⟨t, ht⟩ : ∃ t, t = ts.getD k Tk.none := ⟨_, rfl⟩
    obtain ⟨hc0, hc1, hc2⟩ := hc k hkn
    rw [← ht] at hc0 hc1 hc2
    have HT : Hid (t = ts.getD k Tk.none) := ht
    have g0 := (hbel.cell (p := ⟨b, off + k * 3, none⟩) hb).trans hc0
    have g1 := (hbel.cell (p := ⟨b, off + k * 3 + 1, none⟩) hb).trans hc1
    have g2 := (hbel.cell (p := ⟨b, off + k * 3 + 2, none⟩) hb).trans hc2
    have hbw : b < wr.heap.size := Nat.lt_of_lt_of_le hb hbel.size
    have HB : Hid (Below w.heap.size w wr) := hbel
    have dead : tkStep most (some o) t = none → ans = false := by
     intro hd
     rw [show ans = toksB ts limit most from HA]
     refine tk_off (fold_dead _ (fun _ => rfl) _ HLK HO ?_)
     rw [← show t = ts.getD k Tk.none from HT]
     exact hd
    have onto : ∀ o2, tkStep most (some o) t = some o2 → (ts.take (k + 1)).foldl (tkStep most) (some 0) = some o2 := by
     intro o2 h2
     rw [fold_take _ _ HLK, show _ = _ from HO, ← show t = ts.getD k Tk.none from HT]
     exact h2
    have DEAD : Hid (tkStep most (some o) t = none → ans = false) := dead
    have ONTO : Hid (∀ o2, tkStep most (some o) t = some o2 → (ts.take (k + 1)).foldl (tkStep most) (some 0) = some o2) := onto
    obtain ⟨c, h, s⟩ := t
    dsimp only at g0 g1 g2
    obtain ⟨tb, htb⟩ : ∃ tb, tb = tokB c h s := ⟨_, rfl⟩
    have hcall : ∀ w : World, Calls Tryz.prog 88 #[tokV c h s] w fun e w' => e = .returned (.bool tb) ∧ Below w.heap.size w w' := by rw [htb]; exact specTokenOk_any c h s
    have HTB : Hid (tb = tokB c h s) := htb
    clear hc hc0 hc1 hc2 hbel ht htb dead onto HA HG
    have okf : tb = false → okT most ⟨c, h, s⟩ = false := by
     intro h2; unfold okT; dsimp only; rw [← show tb = tokB c h s from HTB, h2]; rfl
    cases tb
    ·have hd : ans = false := DEAD (step_dead (.inl (okf rfl)))
     clear okf
     go_wp2_with (go_at_call 88; refine (hcall _).mono ?_; rintro e w2 ⟨rfl, hb1⟩)
     go_ret
     refine ⟨by rw [hd]; rfl, Below.trans HB (‹Below wr.heap.size wr _›.mono (Below.size HB))⟩
    ·clear okf
     by_cases hc16 : c = 16
     ·by_cases hgt : most < h
      ·have hok : okT most ⟨c, h, s⟩ = false := by unfold okT; dsimp only; simp [hc16, hgt]
       have hd : ans = false := DEAD (step_dead (.inl hok))
       subst hc16
       go_wp2_with (go_at_call 88; refine (hcall _).mono ?_; rintro e w2 ⟨rfl, hb1⟩; have f0 := (hb1.cell (p := ⟨b, off + k * 3, none⟩) hbw).trans g0; have f1 := (hb1.cell (p := ⟨b, off + k * 3 + 1, none⟩) hbw).trans g1)
       go_ret
       refine ⟨by rw [hd]; rfl, Below.trans HB (‹Below wr.heap.size wr _›.mono (Below.size HB))⟩
      ·have hok : okT most ⟨c, h, s⟩ = true := by unfold okT; dsimp only; rw [← show true = tokB c h s from HTB]; simp [hgt]
       have hdl : dl ⟨c, h, s⟩ = 0 := by unfold dl; dsimp only; rw [if_neg (by omega), if_neg (by omega)]
       have HN : Hid ((ts.take (k + 1)).foldl (tkStep most) (some 0) = some (o + dl ⟨c, h, s⟩)) := ONTO _ (step_on hok (by rw [hdl]; omega))
       have HD : Hid (dl ⟨c, h, s⟩ = 0) := hdl
       clear hok hdl
       subst hc16
       go_wp2_with (go_at_call 88; refine (hcall _).mono ?_; rintro e w2 ⟨rfl, hb1⟩; have f0 := (hb1.cell (p := ⟨b, off + k * 3, none⟩) hbw).trans g0; have f1 := (hb1.cell (p := ⟨b, off + k * 3 + 1, none⟩) hbw).trans g1)
       have hb2 : Below w.heap.size w w2 := Below.trans HB (‹Below wr.heap.size wr _›.mono (Below.size HB))
       go_roundw
       case rel =>
        refine ⟨k + 1, o, by omega, by go_num, rfl, ho0, by omega, ?_, hb2⟩
        have := show _ = _ from HN
        rw [show dl _ = 0 from HD, Int.add_zero] at this
        exact this
       case measure => simp [intOf]; omega
     ·have hok : okT most ⟨c, h, s⟩ = true := by unfold okT; dsimp only; rw [← show true = tokB c h s from HTB]; simp [hc16]
      by_cases hc1 : c = 1
      ·have hdl : dl ⟨c, h, s⟩ = 1 := by unfold dl; dsimp only; rw [if_pos hc1]
       have HN : Hid ((ts.take (k + 1)).foldl (tkStep most) (some 0) = some (o + 1)) := by have := ONTO _ (step_on hok (by rw [hdl]; omega)); rwa [hdl] at this
       clear hok hdl
       subst hc1
       go_wp2_with (go_at_call 88; refine (hcall _).mono ?_; rintro e w2 ⟨rfl, hb1⟩; have f0 := (hb1.cell (p := ⟨b, off + k * 3, none⟩) hbw).trans g0; have f1 := (hb1.cell (p := ⟨b, off + k * 3 + 1, none⟩) hbw).trans g1)
       have hb2 : Below w.heap.size w w2 := Below.trans HB (‹Below wr.heap.size wr _›.mono (Below.size HB))
       go_roundw
       case rel => exact ⟨k + 1, o + 1, by omega, by go_num, rfl, by omega, by omega, HN, hb2⟩
       case measure => simp [intOf]; omega
      ·by_cases hc2 : c = 2
       ·have hdl : dl ⟨c, h, s⟩ = -1 := by unfold dl; dsimp only; rw [if_neg hc1, if_pos hc2]
        by_cases ho : o = 0
        ·have hd : ans = false := DEAD (step_dead (.inr (by rw [hdl]; omega)))
         clear hok hdl
         subst hc2
         subst ho
         go_wp2_with (go_at_call 88; refine (hcall _).mono ?_; rintro e w2 ⟨rfl, hb1⟩; have f0 := (hb1.cell (p := ⟨b, off + k * 3, none⟩) hbw).trans g0; have f1 := (hb1.cell (p := ⟨b, off + k * 3 + 1, none⟩) hbw).trans g1)
         go_ret
         refine ⟨by rw [hd]; rfl, Below.trans HB (‹Below wr.heap.size wr _›.mono (Below.size HB))⟩
        ·have HN : Hid ((ts.take (k + 1)).foldl (tkStep most) (some 0) = some (o - 1)) := by have := ONTO _ (step_on hok (by rw [hdl]; omega)); rwa [hdl] at this
         have hneg : ¬ o - 1 < 0 := by omega
         clear hok hdl
         subst hc2
         go_wp2_with (go_at_call 88; refine (hcall _).mono ?_; rintro e w2 ⟨rfl, hb1⟩; have f0 := (hb1.cell (p := ⟨b, off + k * 3, none⟩) hbw).trans g0; have f1 := (hb1.cell (p := ⟨b, off + k * 3 + 1, none⟩) hbw).trans g1)
         have hb2 : Below w.heap.size w w2 := Below.trans HB (‹Below wr.heap.size wr _›.mono (Below.size HB))
         go_roundw
         case rel => exact ⟨k + 1, o - 1, by omega, by go_num, rfl, by omega, by omega, HN, hb2⟩
         case measure => simp [intOf]; omega
       ·have hdl : dl ⟨c, h, s⟩ = 0 := by unfold dl; dsimp only; rw [if_neg hc1, if_neg hc2]
        have HN : Hid ((ts.take (k + 1)).foldl (tkStep most) (some 0) = some o) := by have := ONTO _ (step_on hok (by rw [hdl]; omega)); rw [hdl, Int.add_zero] at this; exact this
        have m1 : (c == 1) = false := by simp; omega
        have m2 : (c == 2) = false := by simp; omega
        have m16 : (c == 16) = false := by simp; omega
        clear hok hdl
        go_wp2_with (go_at_call 88; refine (hcall _).mono ?_; rintro e w2 ⟨rfl, hb1⟩; have f0 := (hb1.cell (p := ⟨b, off + k * 3, none⟩) hbw).trans g0; have f1 := (hb1.cell (p := ⟨b, off + k * 3 + 1, none⟩) hbw).trans g1)
        have hb2 : Below w.heap.size w w2 := Below.trans HB (‹Below wr.heap.size wr _›.mono (Below.size HB))
        go_roundw
        case rel => exact ⟨k + 1, o, by omega, by go_num, rfl, by omega, by omega, HN, hb2⟩
        case measure => simp [intOf]; omega
   ·have hki : ¬ (k : Int) < (n : Int) := by omega
    obtain rfl : k = n := by omega
    have HB : Hid (Below w.heap.size w wr) := hbel
    have hans : ans = decide (o = 0) := by
     rw [show ans = toksB ts limit most from HA]
     refine tk_end HG ?_
     have := show (ts.take k).foldl (tkStep most) (some 0) = some o from HO
     rwa [← show ts.length = k from HL, List.take_length] at this
    have HAN : Hid (ans = decide (o = 0)) := hans
    clear hbel hans
    go_wp2
    go_ret
    refine ⟨?_, HB⟩
    rw [show ans = decide (o = 0) from HAN]
    rfl
theorem pstep_dead {o : Int} {t : Tk} (h : tokB t.c t.h t.s = false ∨ t.c = 1 ∨ t.c = 2 ∨ t.c = 7 ∨ (t.c = 16 ∧ t.h ≠ o + 1)) : patTStep (some o) t = none := by
 unfold patTStep patStep; dsimp only
 rcases h with h | h
 ·rw [if_pos h]
 ·split
  ·rfl
  ·by_cases h3 : t.c = 1 ∨ t.c = 2 ∨ t.c = 7
   ·rw [if_pos h3]
   ·rw [if_neg h3, if_pos (by omega), if_neg (by omega)]
theorem pstep_on {o : Int} {t : Tk} (h : tokB t.c t.h t.s = true) (h2 : ¬ (t.c = 1 ∨ t.c = 2 ∨ t.c = 7)) (h3 : t.c ≠ 16) : patTStep (some o) t = some o := by
 unfold patTStep patStep; dsimp only
 rw [if_neg (by simp [h]), if_neg h2, if_neg h3]
theorem pstep_slot {o : Int} {t : Tk} (h : tokB t.c t.h t.s = true) (h3 : t.c = 16) (h4 : t.h = o + 1) : patTStep (some o) t = some (o + 1) := by
 unfold patTStep patStep; dsimp only
 rw [if_neg (by simp [h]), if_neg (by omega), if_pos h3, if_pos h4]
theorem mac_off {p b : List Tk} {sl : Int} (h : p.foldl patTStep (some 0) = none) : macB p sl b = false := by
 unfold macB patB; rw [h]; simp
theorem mac_end {p b : List Tk} {sl o : Int} (h0 : 0 ≤ sl) (h9 : sl ≤ 9) (hl : (p.length : Int) ≤ 100) (h : p.foldl patTStep (some 0) = some o) : macB p sl b = (decide (o = sl) && toksB b 2000 sl) := by
 unfold macB patB; rw [h]; simp [h0, h9, hl]
set_option maxHeartbeats 4000000 in
theorem specMacroOk_any {vp vb : Value} {p b : List Tk} {sl : Int} {w : World} (hp : TRow w vp p) (hb : TRow w vb b) (lp : p.length ≤ 1048576) (lb : b.length ≤ 1048576) :
 Calls Tryz.prog 89 #[macV vp sl vb] w fun e w' => e = .returned (.bool (macB p sl b)) ∧ Below w.heap.size w w' := by
 have HBB : Hid (TRow w vb b) := hb
 obtain ⟨ao2, n2, cap2, rfl, hx2, hy2⟩ := hb
 obtain ⟨ao, n, cap, rfl, hl, hr⟩ := hp
 clear hx2 hy2
 rw [hl] at lp
 obtain ⟨ans, hans⟩ : ∃ a, a = macB p sl b := ⟨_, rfl⟩
 rw [← hans]
 by_cases hbad : sl < 0 ∨ 9 < sl ∨ 100 < n
 ·have ha : ans = false := by rw [hans]; unfold macB patB; rw [hl]; simp; intro h1 h2 h3; omega
  subst ha
  clear hans
  rcases hbad with h | h | h
  ·go_enter Tryz.func89, Tryz.ntmps89
   go_wp2
   go_ret
   exact ⟨rfl, below1 _ _⟩
  ·have h2 : ¬ sl < 0 := by omega
   go_enter Tryz.func89, Tryz.ntmps89
   go_wp2
   go_ret
   exact ⟨rfl, below1 _ _⟩
  ·have h3 : (100 : Int) < n := by omega
   by_cases h1 : sl < 0
   ·go_enter Tryz.func89, Tryz.ntmps89
    go_wp2
    go_ret
    exact ⟨rfl, below1 _ _⟩
   ·by_cases h2 : 9 < sl
    ·go_enter Tryz.func89, Tryz.ntmps89
     go_wp2
     go_ret
     exact ⟨rfl, below1 _ _⟩
    ·go_enter Tryz.func89, Tryz.ntmps89
     go_wp2
     go_ret
     exact ⟨rfl, below1 _ _⟩
 ·have h1 : ¬ sl < 0 := by omega
  have h2 : ¬ 9 < sl := by omega
  have h3 : ¬ (100 : Int) < n := by omega
  have HA : Hid (ans = macB p sl b) := hans
  have HL : Hid (p.length = n) := hl
  have HR : Hid (0 < n → ∃ b off, ao = some ⟨b, off, none⟩ ∧ b < w.heap.size ∧ ∀ i, i < n →
   w.cell? ⟨b, off + i * 3, none⟩ = some (.int .i64 (p.getD i Tk.none).c) ∧ w.cell? ⟨b, off + i * 3 + 1, none⟩ = some (.int .i64 (p.getD i Tk.none).h) ∧ w.cell? ⟨b, off + i * 3 + 2, none⟩ = some (.string (p.getD i Tk.none).s)) := hr
  clear hbad hl hr hans
  go_enter Tryz.func89, Tryz.ntmps89
  go_wp2
  obtain ⟨W, hW⟩ : ∃ W, W = w.alloc (.cells #[.slice ao n cap, .int .i64 sl, .slice ao2 n2 cap2] 54) := ⟨_, rfl⟩
  rw [← hW]
  have hWs : W.heap.size = w.heap.size + 1 := by rw [hW]; simp
  have e0 : W.cell? ⟨w.heap.size, 0, none⟩ = some (.slice ao n cap) := by rw [hW]; simp [go_sem]
  have e1 : W.cell? ⟨w.heap.size, 1, none⟩ = some (.int .i64 sl) := by rw [hW]; simp [go_sem]
  have e2 : W.cell? ⟨w.heap.size, 2, none⟩ = some (.slice ao2 n2 cap2) := by rw [hW]; simp [go_sem]
  have BW : Hid (Below w.heap.size w W) := by rw [hW]; exact below1 _ _
  have EW : Hid (W.cell? ⟨w.heap.size, 0, none⟩ = some (.slice ao n cap) ∧ W.cell? ⟨w.heap.size, 1, none⟩ = some (.int .i64 sl) ∧ W.cell? ⟨w.heap.size, 2, none⟩ = some (.slice ao2 n2 cap2)) := ⟨e0, e1, e2⟩
  clear e0 e1 e2 hW
  go_loopw [3, 4] (fun s i wr => ∃ (k : Nat) (o : Int), k ≤ n ∧ i = .int .i64 k ∧ s = .int .i64 o ∧ 0 ≤ o ∧ o ≤ k ∧ Hid ((p.take k).foldl patTStep (some 0) = some o) ∧ Below W.heap.size W wr)
   (fun _ i _ => n - (intOf i).toNat)
  case atStart => exact ⟨0, 0, by omega, rfl, rfl, by omega, by omega, rfl, Below.refl _ _⟩
  case round =>
   obtain ⟨k, o, hk, rfl, rfl, ho0, ho1, HO, hbel⟩ := hrel
   have hzw : w.heap.size < W.heap.size := by omega
   have q0 := (hbel.cell (p := ⟨w.heap.size, 0, none⟩) hzw).trans EW.1
   have q1 := (hbel.cell (p := ⟨w.heap.size, 1, none⟩) hzw).trans EW.2.1
   have q2 := (hbel.cell (p := ⟨w.heap.size, 2, none⟩) hzw).trans EW.2.2
   have hzr : w.heap.size < wr.heap.size := Nat.lt_of_lt_of_le hzw hbel.size
   have HB : Hid (Below w.heap.size w wr) := Below.trans BW (hbel.mono (Below.size BW))
   have HBW : Hid (Below W.heap.size W wr) := hbel
   by_cases hkn : k < n
   ·have hki : (k : Int) < (n : Int) := by omega
    obtain ⟨b0, off, rfl, hb, hc⟩ := HR (by omega)
    have HLK : Hid (k < p.length) := by show k < p.length; rw [show p.length = n from HL]; exact hkn
    obtain ⟨t, ht⟩ : ∃ t, t = p.getD k Tk.none := ⟨_, rfl⟩
    obtain ⟨hc0, hc1, hc2⟩ := hc k hkn
    rw [← ht] at hc0 hc1 hc2
    have HT : Hid (t = p.getD k Tk.none) := ht
    have g0 := (Below.cell HB (p := ⟨b0, off + k * 3, none⟩) hb).trans hc0
    have g1 := (Below.cell HB (p := ⟨b0, off + k * 3 + 1, none⟩) hb).trans hc1
    have g2 := (Below.cell HB (p := ⟨b0, off + k * 3 + 2, none⟩) hb).trans hc2
    have hbw : b0 < wr.heap.size := Nat.lt_of_lt_of_le hb (Below.size HB)
    have dead : patTStep (some o) t = none → ans = false := by
     intro hd
     rw [show ans = macB p sl b from HA]
     refine mac_off (fold_dead _ (fun _ => rfl) _ HLK HO ?_)
     rw [← show t = p.getD k Tk.none from HT]
     exact hd
    have onto : ∀ o2, patTStep (some o) t = some o2 → (p.take (k + 1)).foldl patTStep (some 0) = some o2 := by
     intro o2 h2
     rw [fold_take _ _ HLK, show _ = _ from HO, ← show t = p.getD k Tk.none from HT]
     exact h2
    have DEAD : Hid (patTStep (some o) t = none → ans = false) := dead
    have ONTO : Hid (∀ o2, patTStep (some o) t = some o2 → (p.take (k + 1)).foldl patTStep (some 0) = some o2) := onto
    obtain ⟨c, h, s⟩ := t
    dsimp only at g0 g1 g2
    obtain ⟨tb, htb⟩ : ∃ tb, tb = tokB c h s := ⟨_, rfl⟩
    have hcall : ∀ w : World, Calls Tryz.prog 88 #[tokV c h s] w fun e w' => e = .returned (.bool tb) ∧ Below w.heap.size w w' := by rw [htb]; exact specTokenOk_any c h s
    have HTB : Hid (tb = tokB c h s) := htb
    clear hc hc0 hc1 hc2 hbel ht htb dead onto HA q1 q2
    go_wp2_with fail
    refine (hcall _).mono ?_
    rintro e w2 ⟨rfl, hb1⟩
    have hz2 : wr.heap.size < w2.heap.size := by have := hb1.size; simp at this; omega
    obtain ⟨hcc, hff⟩ := bcell hb1
    have f0 : w2.cell? ⟨wr.heap.size, 0, none⟩ = some (.int .i64 c) := by rw [hcc _ _ (by simp)]; simp [go_sem]
    have f1 : w2.cell? ⟨wr.heap.size, 1, none⟩ = some (.int .i64 h) := by rw [hcc _ _ (by simp)]; simp [go_sem]
    have B2 : Hid (Below w.heap.size w w2 ∧ Below W.heap.size W w2) := ⟨below_more (Below.trans HB ((below1 _ _).mono (Below.size HB))) hb1 (by simp; have := Below.size HB; omega), below_more (Below.trans HBW ((below1 _ _).mono (Below.size HBW))) hb1 (by simp; have := Below.size HBW; omega)⟩
    clear hb1 hcc hff g0 g1 g2 q0
    cases tb
    ·have hd : ans = false := DEAD (pstep_dead (.inl (show tokB c h s = false from (show false = tokB c h s from HTB).symm)))
     go_wp2
     go_ret
     exact ⟨by rw [hd]; rfl, B2.1⟩
    ·by_cases hc16 : c = 16
     ·subst hc16
      by_cases hh : h = o + 1
      ·have HN : Hid ((p.take (k + 1)).foldl patTStep (some 0) = some (o + 1)) := ONTO _ (pstep_slot (show tokB 16 h s = true from (show true = tokB 16 h s from HTB).symm) rfl hh)
       subst hh
       go_wp2
       go_roundw
       case rel => exact ⟨k + 1, o + 1, by omega, by go_num, rfl, by omega, by omega, HN, B2.2⟩
       case measure => simp [intOf]; omega
      ·have hd : ans = false := DEAD (pstep_dead (.inr (.inr (.inr (.inr ⟨rfl, hh⟩)))))
       have hh2 : (h == o + 1) = false := by simp [hh]
       go_wp2
       go_ret
       exact ⟨by rw [hd]; rfl, B2.1⟩
     ·by_cases h7 : c = 1 ∨ c = 2 ∨ c = 7
      ·have hd : ans = false := DEAD (pstep_dead (.inr (by rcases h7 with h | h | h <;> simp [h])))
       rcases h7 with rfl | rfl | rfl
       all_goals
        go_wp2
        go_ret
        exact ⟨by rw [hd]; rfl, B2.1⟩
      ·have HN : Hid ((p.take (k + 1)).foldl patTStep (some 0) = some o) := ONTO _ (pstep_on (show tokB c h s = true from (show true = tokB c h s from HTB).symm) h7 hc16)
       have m1 : (c == 1) = false := by simp; omega
       have m2 : (c == 2) = false := by simp; omega
       have m7 : (c == 7) = false := by simp; omega
       have m16 : (c == 16) = false := by simp; omega
       have l1 : c ≠ 1 := by omega
       have l2 : c ≠ 2 := by omega
       have l7 : c ≠ 7 := by omega
       clear h7
       go_wp2
       go_roundw
       case rel => exact ⟨k + 1, o, by omega, by go_num, rfl, by omega, by omega, HN, B2.2⟩
       case measure => simp [intOf]; omega
   ·have hki : ¬ (k : Int) < (n : Int) := by omega
    obtain rfl : k = n := by omega
    have hans : ans = (decide (o = sl) && toksB b 2000 sl) := by
     rw [show ans = macB p sl b from HA]
     refine mac_end (by omega) (by omega) (by rw [show p.length = k from HL]; omega) ?_
     have := show (p.take k).foldl patTStep (some 0) = some o from HO
     rwa [← show p.length = k from HL, List.take_length] at this
    have HAN : Hid (ans = (decide (o = sl) && toksB b 2000 sl)) := hans
    clear hbel hans HA
    by_cases hos : o = sl
    ·have HAN2 : ans = toksB b 2000 sl := by rw [show _ = _ from HAN]; simp [hos]
     subst hos
     go_wp2_with (go_at_call 63; refine (specToks_any (TRow.below HBB HB) lb).mono ?_; rintro e w2 ⟨rfl, hb1⟩)
     go_ret
     exact ⟨by rw [HAN2]; rfl, Below.trans HB (‹Below wr.heap.size wr _›.mono (Below.size HB))⟩
    ·have HAN2 : ans = false := by rw [show _ = _ from HAN]; simp [hos]
     have hos2 : (o == sl) = false := by simp [hos]
     go_wp2
     go_ret
     exact ⟨by first | rfl | (rw [HAN2]; rfl), HB⟩
theorem specNoMacro_any {vp vb : Value} {p b : List Tk} {sl : Int} {w : World} (hp : TRow w vp p) (hb : TRow w vb b) (lp : p.length ≤ 1048576) (lb : b.length ≤ 1048576) :
 Calls Tryz.prog 87 #[macV vp sl vb] w fun e w' => e = .returned (.bool (noMac p sl b)) ∧ Below w.heap.size w w' := by
 obtain ⟨ao2, n2, cap2, rfl, hx2, hy2⟩ := hb
 obtain ⟨ao, n, cap, rfl, hl, hr⟩ := hp
 clear hy2 hr
 rw [hl] at lp
 rw [hx2] at lb
 by_cases hz : (n : Int) + (n2 : Int) = 0
 ·have e : noMac p sl b = decide (sl = 0) := by unfold noMac; rw [hl, hx2]; simp; omega
  rw [e]
  clear e
  go_enter Tryz.func87, Tryz.ntmps87
  go_wp2
  go_ret
  exact ⟨rfl, below1 _ _⟩
 ·have e : noMac p sl b = false := by unfold noMac; rw [hl, hx2]; simp; omega
  have hz2 : ((n : Int) + (n2 : Int) == 0) = false := by simp; omega
  rw [e]
  clear e
  go_enter Tryz.func87, Tryz.ntmps87
  go_wp2
  go_ret
  exact ⟨rfl, below1 _ _⟩
end Go.Proofs.YtbpidcfoldkhgaaGreat
