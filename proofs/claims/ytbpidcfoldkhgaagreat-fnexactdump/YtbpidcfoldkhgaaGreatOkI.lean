import Derived.Test.YtbpidcfoldkhgaaGreatOkS
namespace Go.Proofs.YtbpidcfoldkhgaaGreat
open Go.RowKit
set_option linter.unusedVariables false
set_option linter.unusedSimpArgs false
theorem all_dead {f : Tk → Bool} {ts : List Tk} {k : Nat} (hk : k < ts.length) (h : f (ts.getD k Tk.none) = false) : ts.all f = false := by
 rw [List.all_eq_false]
 refine ⟨ts[k], List.getElem_mem hk, ?_⟩
 simp [List.getD, List.getElem?_eq_getElem hk] at h
 simp [h]
theorem all_on {f : Tk → Bool} {ts : List Tk} {k : Nat} (hk : k < ts.length) (h0 : (ts.take k).all f = true) (h : f (ts.getD k Tk.none) = true) : (ts.take (k + 1)).all f = true := by
 rw [List.take_succ_eq_append_getElem hk, List.all_append, h0]
 simp [List.getD, List.getElem?_eq_getElem hk] at h
 simp [h]
theorem bstep_dead {o : Int} {t : Tk} (h : o + dl t < 0) : balStep (some o) t = none := by
 unfold balStep; dsimp only; rw [if_pos h]
theorem bstep_on {o : Int} {t : Tk} (h : ¬ o + dl t < 0) : balStep (some o) t = some (o + dl t) := by
 unfold balStep; dsimp only; rw [if_neg h]
theorem qstep_dead {o : Int} {t : Tk} (h : t.c = 1 ∨ t.c = 2 ∨ t.c = 7 ∨ (t.c = 16 ∧ t.h ≠ o + 1)) : patStep (some o) t = none := by
 unfold patStep; dsimp only
 by_cases h3 : t.c = 1 ∨ t.c = 2 ∨ t.c = 7
 ·rw [if_pos h3]
 ·rw [if_neg h3, if_pos (by omega), if_neg (by omega)]
theorem qstep_on {o : Int} {t : Tk} (h2 : ¬ (t.c = 1 ∨ t.c = 2 ∨ t.c = 7)) (h3 : t.c ≠ 16) : patStep (some o) t = some o := by
 unfold patStep; dsimp only
 rw [if_neg h2, if_neg h3]
theorem qstep_slot {o : Int} {t : Tk} (h3 : t.c = 16) (h4 : t.h = o + 1) : patStep (some o) t = some (o + 1) := by
 unfold patStep; dsimp only
 rw [if_neg (by omega), if_pos h3, if_pos h4]
set_option maxHeartbeats 4000000 in
theorem tokensOk_any {v : Value} {ts : List Tk} {w : World} {limit most : Int} (h : TRow w v ts) (hn : ts.length ≤ 1048576) :
 Calls Tryz.prog 135 #[v, .int .i64 limit, .int .i64 most] w fun e w' => e = .returned (.bool (decide ((ts.length : Int) ≤ limit) && ts.all (okT most))) ∧ Below w.heap.size w w' := by
 obtain ⟨ao, n, cap, rfl, hl, hr⟩ := h
 rw [hl] at hn
 by_cases hbig : limit < (n : Int)
 ·have e : (decide ((ts.length : Int) ≤ limit) && ts.all (okT most)) = false := by rw [hl, decide_eq_false (by omega)]; rfl
  rw [e]
  go_enter Tryz.func135, Tryz.ntmps135
  go_wp2
  go_ret
  exact ⟨rfl, Below.refl _ _⟩
 ·have HR : Hid (0 < n → ∃ b off, ao = some ⟨b, off, none⟩ ∧ b < w.heap.size ∧ ∀ i, i < n →
   w.cell? ⟨b, off + i * 3, none⟩ = some (.int .i64 (ts.getD i Tk.none).c) ∧ w.cell? ⟨b, off + i * 3 + 1, none⟩ = some (.int .i64 (ts.getD i Tk.none).h) ∧ w.cell? ⟨b, off + i * 3 + 2, none⟩ = some (.string (ts.getD i Tk.none).s)) := hr
  have HL : Hid (ts.length = n) := hl
  obtain ⟨ans, hans⟩ : ∃ a, a = ts.all (okT most) := ⟨_, rfl⟩
  rw [hl, decide_eq_true (show (n : Int) ≤ limit by omega), Bool.true_and, ← hans]
  have HA : Hid (ans = ts.all (okT most)) := hans
  clear hr hl hans
  go_enter Tryz.func135, Tryz.ntmps135
  go_wp2
  go_loopw [15] (fun i wr => ∃ (k : Nat), k ≤ n ∧ i = .int .i64 k ∧ Hid ((ts.take k).all (okT most) = true) ∧ Below w.heap.size w wr)
   (fun i _ => n - (intOf i).toNat)
  case atStart => exact ⟨0, by omega, rfl, rfl, Below.refl _ _⟩
  case round =>
   obtain ⟨k, hk, rfl, HO, hbel⟩ := hrel
   by_cases hkn : k < n
   ·have hki : (k : Int) < (n : Int) := by omega
    obtain ⟨b, off, rfl, hb, hc⟩ := HR (by omega)
    have HLK : Hid (k < ts.length) := by show k < ts.length; rw [show ts.length = n from HL]; exact hkn
    obtain ⟨t, ht⟩ : ∃ t, t = ts.getD k Tk.none := ⟨_, rfl⟩
    obtain ⟨hc0, hc1, hc2⟩ := hc k hkn
    rw [← ht] at hc0 hc1 hc2
    have HT : Hid (t = ts.getD k Tk.none) := ht
    have g0 := (hbel.cell (p := ⟨b, off + k * 3, none⟩) hb).trans hc0
    have g1 := (hbel.cell (p := ⟨b, off + k * 3 + 1, none⟩) hb).trans hc1
    have g2 := (hbel.cell (p := ⟨b, off + k * 3 + 2, none⟩) hb).trans hc2
    have hbw : b < wr.heap.size := Nat.lt_of_lt_of_le hb hbel.size
    have HB : Hid (Below w.heap.size w wr) := hbel
    have dead : okT most t = false → ans = false := by
     intro hd
     rw [show ans = ts.all (okT most) from HA]
     exact all_dead HLK (by rw [← show t = ts.getD k Tk.none from HT]; exact hd)
    have onto : okT most t = true → (ts.take (k + 1)).all (okT most) = true := by
     intro h2
     exact all_on HLK HO (by rw [← show t = ts.getD k Tk.none from HT]; exact h2)
    have DEAD : Hid (okT most t = false → ans = false) := dead
    have ONTO : Hid (okT most t = true → (ts.take (k + 1)).all (okT most) = true) := onto
    obtain ⟨c, h, s⟩ := t
    dsimp only at g0 g1 g2
    obtain ⟨tb, htb⟩ : ∃ tb, tb = tokB c h s := ⟨_, rfl⟩
    have hcall : ∀ w : World, Calls Tryz.prog 140 #[tokV c h s] w fun e w' => e = .returned (.bool tb) ∧ Below w.heap.size w w' := by rw [htb]; exact implTokenOk_any c h s
    have HTB : Hid (tb = tokB c h s) := htb
    clear hc hc0 hc1 hc2 hbel ht htb dead onto HA
    go_wp2_with fail
    refine (hcall _).mono ?_
    rintro e w2 ⟨rfl, hb1⟩
    have hz2 : wr.heap.size < w2.heap.size := by have := hb1.size; simp at this; omega
    obtain ⟨hcc, hff⟩ := bcell hb1
    have f0 : w2.cell? ⟨wr.heap.size, 0, none⟩ = some (.int .i64 c) := by rw [hcc _ _ (by simp)]; simp [go_sem]
    have f1 : w2.cell? ⟨wr.heap.size, 1, none⟩ = some (.int .i64 h) := by rw [hcc _ _ (by simp)]; simp [go_sem]
    have B2 : Hid (Below w.heap.size w w2) := below_more (Below.trans HB ((below1 _ _).mono (Below.size HB))) hb1 (by simp; have := Below.size HB; omega)
    clear hb1 hcc hff g0 g1 g2
    cases tb
    ·have hd : ans = false := DEAD (by unfold okT; dsimp only; rw [← show false = tokB c h s from HTB]; rfl)
     go_wp2
     go_ret
     exact ⟨by first | rfl | (rw [hd]; rfl), B2⟩
    ·by_cases hc16 : c = 16
     ·by_cases hgt : most < h
      ·have hd : ans = false := DEAD (by unfold okT; dsimp only; simp [hc16, hgt])
       subst hc16
       go_wp2
       go_ret
       exact ⟨by first | rfl | (rw [hd]; rfl), B2⟩
      ·have HN : Hid ((ts.take (k + 1)).all (okT most) = true) := ONTO (by unfold okT; dsimp only; rw [← show true = tokB c h s from HTB]; simp [hgt])
       subst hc16
       go_wp2
       go_roundw
       case rel => exact ⟨k + 1, by omega, by go_num, HN, B2⟩
       case measure => simp [intOf]; omega
     ·have HN : Hid ((ts.take (k + 1)).all (okT most) = true) := ONTO (by unfold okT; dsimp only; rw [← show true = tokB c h s from HTB]; simp [hc16])
      have m16 : (c == 16) = false := by simp; omega
      go_wp2
      go_roundw
      case rel => exact ⟨k + 1, by omega, by go_num, HN, B2⟩
      case measure => simp [intOf]; omega
   ·have hki : ¬ (k : Int) < (n : Int) := by omega
    obtain rfl : k = n := by omega
    have HB : Hid (Below w.heap.size w wr) := hbel
    have hans : ans = true := by
     rw [show ans = ts.all (okT most) from HA]
     have := show (ts.take k).all (okT most) = true from HO
     rwa [← show ts.length = k from HL, List.take_length] at this
    clear hbel HA
    go_wp2
    go_ret
    exact ⟨by first | rfl | (rw [hans]; rfl), HB⟩
set_option maxHeartbeats 4000000 in
theorem balanced_any {v : Value} {ts : List Tk} {w : World} (h : TRow w v ts) (hn : ts.length ≤ 1048576) :
 Calls Tryz.prog 136 #[v] w fun e w' => e = .returned (.bool (decide (ts.foldl balStep (some 0) = some 0))) ∧ Below w.heap.size w w' := by
 obtain ⟨ao, n, cap, rfl, hl, hr⟩ := h
 rw [hl] at hn
 have HR : Hid (0 < n → ∃ b off, ao = some ⟨b, off, none⟩ ∧ b < w.heap.size ∧ ∀ i, i < n →
  w.cell? ⟨b, off + i * 3, none⟩ = some (.int .i64 (ts.getD i Tk.none).c) ∧ w.cell? ⟨b, off + i * 3 + 1, none⟩ = some (.int .i64 (ts.getD i Tk.none).h) ∧ w.cell? ⟨b, off + i * 3 + 2, none⟩ = some (.string (ts.getD i Tk.none).s)) := hr
 have HL : Hid (ts.length = n) := hl
 obtain ⟨ans, hans⟩ : ∃ a, a = decide (ts.foldl balStep (some 0) = some 0) := ⟨_, rfl⟩
 rw [← hans]
 have HA : Hid (ans = decide (ts.foldl balStep (some 0) = some 0)) := hans
 clear hr hl hans
 go_enter Tryz.func136, Tryz.ntmps136
 go_wp2
 go_loopw [3, 8] (fun s i wr => ∃ (k : Nat) (o : Int), k ≤ n ∧ i = .int .i64 k ∧ s = .int .i64 o ∧ 0 ≤ o ∧ o ≤ k ∧ Hid ((ts.take k).foldl balStep (some 0) = some o) ∧ Below w.heap.size w wr)
  (fun _ i _ => n - (intOf i).toNat)
 case atStart => exact ⟨0, 0, by omega, rfl, rfl, by omega, by omega, rfl, Below.refl _ _⟩
 case round =>
  obtain ⟨k, o, hk, rfl, rfl, ho0, ho1, HO, hbel⟩ := hrel
  by_cases hkn : k < n
  ·have hki : (k : Int) < (n : Int) := by omega
   obtain ⟨b, off, rfl, hb, hc⟩ := HR (by omega)
   have HLK : Hid (k < ts.length) := by show k < ts.length; rw [show ts.length = n from HL]; exact hkn
   obtain ⟨t, ht⟩ : ∃ t, t = ts.getD k Tk.none := ⟨_, rfl⟩
   obtain ⟨hc0, hc1, hc2⟩ := hc k hkn
   rw [← ht] at hc0 hc1 hc2
   have HT : Hid (t = ts.getD k Tk.none) := ht
   have g0 := (hbel.cell (p := ⟨b, off + k * 3, none⟩) hb).trans hc0
   have g1 := (hbel.cell (p := ⟨b, off + k * 3 + 1, none⟩) hb).trans hc1
   have g2 := (hbel.cell (p := ⟨b, off + k * 3 + 2, none⟩) hb).trans hc2
   have hbw : b < wr.heap.size := Nat.lt_of_lt_of_le hb hbel.size
   have HB : Hid (Below w.heap.size w wr) := hbel
   have dead : balStep (some o) t = none → ans = false := by
    intro hd
    rw [show ans = _ from HA, fold_dead _ (fun _ => rfl) _ HLK HO (by rw [← show t = ts.getD k Tk.none from HT]; exact hd)]
    simp
   have onto : ∀ o2, balStep (some o) t = some o2 → (ts.take (k + 1)).foldl balStep (some 0) = some o2 := by
    intro o2 h2
    rw [fold_take _ _ HLK, show _ = _ from HO, ← show t = ts.getD k Tk.none from HT]
    exact h2
   have DEAD : Hid (balStep (some o) t = none → ans = false) := dead
   have ONTO : Hid (∀ o2, balStep (some o) t = some o2 → (ts.take (k + 1)).foldl balStep (some 0) = some o2) := onto
   have B2 : Hid (∀ x y, Below w.heap.size w ((wr.alloc x).alloc y)) := fun x y => Below.trans HB ((below2 _ _ _).mono (Below.size HB))
   obtain ⟨c, h, s⟩ := t
   dsimp only at g0 g1 g2
   clear hc hc0 hc1 hc2 hbel ht dead onto HA
   by_cases hc1 : c = 1
   ·have hdl : dl ⟨c, h, s⟩ = 1 := by unfold dl; dsimp only; rw [if_pos hc1]
    have HN : Hid ((ts.take (k + 1)).foldl balStep (some 0) = some (o + 1)) := by have := ONTO _ (bstep_on (by rw [hdl]; omega)); rwa [hdl] at this
    have hneg : ¬ o + 1 < 0 := by omega
    clear hdl
    subst hc1
    go_wp2
    go_roundw
    case rel => exact ⟨k + 1, o + 1, by omega, by go_num, rfl, by omega, by omega, HN, B2 _ _⟩
    case measure => simp [intOf]; omega
   ·by_cases hc2 : c = 2
    ·have hdl : dl ⟨c, h, s⟩ = -1 := by unfold dl; dsimp only; rw [if_neg hc1, if_pos hc2]
     by_cases ho : o = 0
     ·have hd : ans = false := DEAD (bstep_dead (by rw [hdl]; omega))
      clear hdl
      subst hc2
      subst ho
      go_wp2
      go_ret
      exact ⟨by first | rfl | (rw [hd]; rfl), B2 _ _⟩
     ·have HN : Hid ((ts.take (k + 1)).foldl balStep (some 0) = some (o - 1)) := by have := ONTO _ (bstep_on (by rw [hdl]; omega)); rwa [hdl] at this
      have hneg : ¬ o - 1 < 0 := by omega
      clear hdl
      subst hc2
      go_wp2
      go_roundw
      case rel => exact ⟨k + 1, o - 1, by omega, by go_num, rfl, by omega, by omega, HN, B2 _ _⟩
      case measure => simp [intOf]; omega
    ·have hdl : dl ⟨c, h, s⟩ = 0 := by unfold dl; dsimp only; rw [if_neg hc1, if_neg hc2]
     have HN : Hid ((ts.take (k + 1)).foldl balStep (some 0) = some o) := by have := ONTO _ (bstep_on (by rw [hdl]; omega)); rw [hdl, Int.add_zero] at this; exact this
     have m1 : (c == 1) = false := by simp; omega
     have m2 : (c == 2) = false := by simp; omega
     have hneg : ¬ o < 0 := by omega
     clear hdl
     go_wp2
     go_roundw
     case rel => exact ⟨k + 1, o, by omega, by go_num, rfl, by omega, by omega, HN, B2 _ _⟩
     case measure => simp [intOf]; omega
  ·have hki : ¬ (k : Int) < (n : Int) := by omega
   obtain rfl : k = n := by omega
   have HB : Hid (Below w.heap.size w wr) := hbel
   have hans : ans = decide (o = 0) := by
    have := show (ts.take k).foldl balStep (some 0) = some o from HO
    rw [← show ts.length = k from HL, List.take_length] at this
    rw [show ans = _ from HA, this]
    simp
   have HAN : Hid (ans = decide (o = 0)) := hans
   clear hbel hans HA
   go_wp2
   go_ret
   refine ⟨?_, HB⟩
   rw [show ans = decide (o = 0) from HAN]
   rfl
set_option maxHeartbeats 4000000 in
theorem patternOk_any {v : Value} {ts : List Tk} {w : World} {sl : Int} (h : TRow w v ts) (hn : ts.length ≤ 1048576) :
 Calls Tryz.prog 142 #[v, .int .i64 sl] w fun e w' => e = .returned (.bool (patB ts sl)) ∧ Below w.heap.size w w' := by
 obtain ⟨ao, n, cap, rfl, hl, hr⟩ := h
 have HT0 : Hid (TRow w (.slice ao n cap) ts) := ⟨ao, n, cap, rfl, hl, hr⟩
 have HR : Hid (0 < n → ∃ b off, ao = some ⟨b, off, none⟩ ∧ b < w.heap.size ∧ ∀ i, i < n →
  w.cell? ⟨b, off + i * 3, none⟩ = some (.int .i64 (ts.getD i Tk.none).c) ∧ w.cell? ⟨b, off + i * 3 + 1, none⟩ = some (.int .i64 (ts.getD i Tk.none).h) ∧ w.cell? ⟨b, off + i * 3 + 2, none⟩ = some (.string (ts.getD i Tk.none).s)) := hr
 have HL : Hid (ts.length = n) := hl
 obtain ⟨ok, hok⟩ : ∃ ok, ok = (decide ((ts.length : Int) ≤ 100) && ts.all (okT sl)) := ⟨_, rfl⟩
 have hcall : Calls Tryz.prog 135 #[.slice ao n cap, .int .i64 100, .int .i64 sl] w fun e w' => e = .returned (.bool ok) ∧ Below w.heap.size w w' := by rw [hok]; exact tokensOk_any HT0 hn
 obtain ⟨ans, hans⟩ : ∃ a, a = patB ts sl := ⟨_, rfl⟩
 rw [← hans]
 rw [patB_two, ← hok] at hans
 rw [hl] at hn
 have HA : Hid (ans = (ok && decide (ts.foldl patStep (some 0) = some sl))) := hans
 have HOK : Hid (ok = (decide ((ts.length : Int) ≤ 100) && ts.all (okT sl))) := hok
 clear hans hok hl hr
 cases ok
 ·have hd : ans = false := HA
  clear HA HOK
  go_enter Tryz.func142, Tryz.ntmps142
  go_wp2_with fail
  refine hcall.mono ?_
  rintro e w1 ⟨rfl, hb1⟩
  have HB1 : Hid (Below w.heap.size w w1) := hb1
  clear hb1 hcall
  go_wp2
  go_ret
  exact ⟨by first | rfl | (rw [hd]; rfl), HB1⟩
 have hans2 : ans = decide (ts.foldl patStep (some 0) = some sl) := by rw [show ans = _ from HA]; rfl
 have HA2 : Hid (ans = decide (ts.foldl patStep (some 0) = some sl)) := hans2
 clear HA hans2 HOK
 go_enter Tryz.func142, Tryz.ntmps142
 go_wp2_with fail
 refine hcall.mono ?_
 rintro e w1 ⟨rfl, hb1⟩
 have HB1 : Hid (Below w.heap.size w w1) := hb1
 clear hb1 hcall
 go_wp2
 go_loopw [5, 14] (fun s i wr => ∃ (k : Nat) (o : Int), k ≤ n ∧ i = .int .i64 k ∧ s = .int .i64 o ∧ 0 ≤ o ∧ o ≤ k ∧ Hid ((ts.take k).foldl patStep (some 0) = some o) ∧ Below w.heap.size w wr)
  (fun _ i _ => n - (intOf i).toNat)
 case atStart => exact ⟨0, 0, by omega, rfl, rfl, by omega, by omega, rfl, HB1⟩
 case round =>
  obtain ⟨k, o, hk, rfl, rfl, ho0, ho1, HO, hbel⟩ := hrel
  by_cases hkn : k < n
  ·have hki : (k : Int) < (n : Int) := by omega
   obtain ⟨b, off, rfl, hb, hc⟩ := HR (by omega)
   have HLK : Hid (k < ts.length) := by show k < ts.length; rw [show ts.length = n from HL]; exact hkn
   obtain ⟨t, ht⟩ : ∃ t, t = ts.getD k Tk.none := ⟨_, rfl⟩
   obtain ⟨hc0, hc1, hc2⟩ := hc k hkn
   rw [← ht] at hc0 hc1 hc2
   have HT : Hid (t = ts.getD k Tk.none) := ht
   have g0 := (hbel.cell (p := ⟨b, off + k * 3, none⟩) hb).trans hc0
   have g1 := (hbel.cell (p := ⟨b, off + k * 3 + 1, none⟩) hb).trans hc1
   have g2 := (hbel.cell (p := ⟨b, off + k * 3 + 2, none⟩) hb).trans hc2
   have hbw : b < wr.heap.size := Nat.lt_of_lt_of_le hb hbel.size
   have HB : Hid (Below w.heap.size w wr) := hbel
   have dead : patStep (some o) t = none → ans = false := by
    intro hd
    rw [show ans = _ from HA2, fold_dead _ (fun _ => rfl) _ HLK HO (by rw [← show t = ts.getD k Tk.none from HT]; exact hd)]
    simp
   have onto : ∀ o2, patStep (some o) t = some o2 → (ts.take (k + 1)).foldl patStep (some 0) = some o2 := by
    intro o2 h2
    rw [fold_take _ _ HLK, show _ = _ from HO, ← show t = ts.getD k Tk.none from HT]
    exact h2
   have DEAD : Hid (patStep (some o) t = none → ans = false) := dead
   have ONTO : Hid (∀ o2, patStep (some o) t = some o2 → (ts.take (k + 1)).foldl patStep (some 0) = some o2) := onto
   have B2 : Hid (∀ x, Below w.heap.size w (wr.alloc x)) := fun x => Below.trans HB ((below1 _ _).mono (Below.size HB))
   obtain ⟨c, h, s⟩ := t
   dsimp only at g0 g1 g2
   clear hc hc0 hc1 hc2 hbel ht dead onto HA2
   by_cases hc16 : c = 16
   ·subst hc16
    by_cases hh : h = o + 1
    ·have HN : Hid ((ts.take (k + 1)).foldl patStep (some 0) = some (o + 1)) := ONTO _ (qstep_slot rfl hh)
     subst hh
     go_wp2
     go_roundw
     case rel => exact ⟨k + 1, o + 1, by omega, by go_num, rfl, by omega, by omega, HN, B2 _⟩
     case measure => simp [intOf]; omega
    ·have hd : ans = false := DEAD (qstep_dead (.inr (.inr (.inr ⟨rfl, hh⟩))))
     have hh2 : (h == o + 1) = false := by simp [hh]
     go_wp2
     go_ret
     exact ⟨by first | rfl | (rw [hd]; rfl), B2 _⟩
   ·by_cases h7 : c = 1 ∨ c = 2 ∨ c = 7
    ·have hd : ans = false := DEAD (qstep_dead (by rcases h7 with h | h | h <;> simp [h]))
     rcases h7 with rfl | rfl | rfl
     all_goals
      go_wp2
      go_ret
      exact ⟨by first | rfl | (rw [hd]; rfl), B2 _⟩
    ·have HN : Hid ((ts.take (k + 1)).foldl patStep (some 0) = some o) := ONTO _ (qstep_on h7 hc16)
     have m1 : (c == 1) = false := by simp; omega
     have m2 : (c == 2) = false := by simp; omega
     have m7 : (c == 7) = false := by simp; omega
     have m16 : (c == 16) = false := by simp; omega
     have l1 : c ≠ 1 := by omega
     have l2 : c ≠ 2 := by omega
     have l7 : c ≠ 7 := by omega
     clear h7
     go_wp2
     go_roundw
     case rel => exact ⟨k + 1, o, by omega, by go_num, rfl, by omega, by omega, HN, B2 _⟩
     case measure => simp [intOf]; omega
  ·have hki : ¬ (k : Int) < (n : Int) := by omega
   obtain rfl : k = n := by omega
   have HB : Hid (Below w.heap.size w wr) := hbel
   have hans : ans = decide (o = sl) := by
    have := show (ts.take k).foldl patStep (some 0) = some o from HO
    rw [← show ts.length = k from HL, List.take_length] at this
    rw [show ans = _ from HA2, this]
    simp
   have HAN : Hid (ans = decide (o = sl)) := hans
   clear hbel hans HA2
   go_wp2
   go_ret
   refine ⟨?_, HB⟩
   rw [show ans = decide (o = sl) from HAN]
   rfl
set_option maxHeartbeats 1000000 in
theorem bodyOk_any {v : Value} {ts : List Tk} {w : World} {sl : Int} (h : TRow w v ts) (hn : ts.length ≤ 1048576) :
 Calls Tryz.prog 122 #[v, .int .i64 sl] w fun e w' => e = .returned (.bool (toksB ts 2000 sl)) ∧ Below w.heap.size w w' := by
 rw [toksB_two]
 have HT0 : Hid (TRow w v ts) := h
 obtain ⟨ao, n, cap, rfl, hl, hr⟩ := h
 obtain ⟨ok, hok⟩ : ∃ ok, ok = (decide ((ts.length : Int) ≤ 2000) && ts.all (okT sl)) := ⟨_, rfl⟩
 have hcall : Calls Tryz.prog 135 #[.slice ao n cap, .int .i64 2000, .int .i64 sl] w fun e w' => e = .returned (.bool ok) ∧ Below w.heap.size w w' := by rw [hok]; exact tokensOk_any HT0 hn
 rw [← hok]
 clear hok hl hr
 go_enter Tryz.func122, Tryz.ntmps122
 go_wp2_with fail
 refine hcall.mono ?_
 rintro e w1 ⟨rfl, hb1⟩
 have HB1 : Hid (Below w.heap.size w w1) := hb1
 clear hb1 hcall
 cases ok
 ·go_wp2
  go_ret
  exact ⟨rfl, HB1⟩
 ·go_wp2_with (go_at_call 136; refine (balanced_any (TRow.below HT0 HB1) hn).mono ?_; rintro e w2 ⟨rfl, hb2⟩)
  go_ret
  exact ⟨rfl, Below.trans HB1 (‹Below w1.heap.size w1 _›.mono (Below.size HB1))⟩
set_option maxHeartbeats 1000000 in
theorem macroOk_any {vp vb : Value} {p b : List Tk} {sl : Int} {w : World} (hp : TRow w vp p) (hb : TRow w vb b) (lp : p.length ≤ 1048576) (lb : b.length ≤ 1048576) :
 Calls Tryz.prog 139 #[macV vp sl vb] w fun e w' => e = .returned (.bool (macB p sl b)) ∧ Below w.heap.size w w' := by
 have HP : Hid (TRow w vp p) := hp
 have HB : Hid (TRow w vb b) := hb
 obtain ⟨ao, n, cap, rfl, hx, hy⟩ := hp
 obtain ⟨ao2, n2, cap2, rfl, hx2, hy2⟩ := hb
 clear hx hy hx2 hy2
 by_cases h0 : 0 ≤ sl
 ·by_cases h9 : sl ≤ 9
  ·have e : macB p sl b = (patB p sl && toksB b 2000 sl) := by unfold macB; simp [h0, h9]
   rw [e]
   clear e
   obtain ⟨ok, hok⟩ : ∃ ok, ok = patB p sl := ⟨_, rfl⟩
   have hcall : ∀ W, Below w.heap.size w W → Calls Tryz.prog 142 #[.slice ao n cap, .int .i64 sl] W fun e w' => e = .returned (.bool ok) ∧ Below W.heap.size W w' := by rw [hok]; intro W hW; exact patternOk_any (TRow.below HP hW) lp
   have HC : Hid (∀ W, Below w.heap.size w W → Calls Tryz.prog 142 #[.slice ao n cap, .int .i64 sl] W fun e w' => e = .returned (.bool ok) ∧ Below W.heap.size W w') := hcall
   rw [← hok]
   clear hok hcall
   go_enter Tryz.func139, Tryz.ntmps139
   go_wp2_with fail
   refine (HC _ (below1 _ _)).mono ?_
   rintro e w1 ⟨rfl, hb1⟩
   have hz1 : w.heap.size < w1.heap.size := by have := hb1.size; simp at this; omega
   obtain ⟨hc1, hf1⟩ := bcell hb1
   have B1 : Hid (Below w.heap.size w w1) := (below1 _ _).trans (hb1.mono (by simp))
   clear hb1
   cases ok
   ·go_wp2
    go_ret
    exact ⟨rfl, B1⟩
   ·go_wp2_with (go_at_call 122; refine (bodyOk_any (TRow.below HB B1) lb).mono ?_; rintro e w2 ⟨rfl, hb2⟩)
    go_ret
    exact ⟨rfl, Below.trans B1 (‹Below w1.heap.size w1 _›.mono (Below.size B1))⟩
  ·have e : macB p sl b = false := by unfold macB; simp [h9]
   rw [e]
   clear e
   go_enter Tryz.func139, Tryz.ntmps139
   go_wp2
   go_ret
   exact ⟨rfl, below1 _ _⟩
 ·have e : macB p sl b = false := by unfold macB; simp [h0]
  rw [e]
  clear e
  go_enter Tryz.func139, Tryz.ntmps139
  go_wp2
  go_ret
  exact ⟨rfl, below1 _ _⟩
set_option maxHeartbeats 1000000 in
theorem isChar_any (t : Tk) (w : World) : Calls Tryz.prog 138 #[t.v] w fun e w' => e = .returned (.bool (isCh t)) ∧ Below w.heap.size w w' := by
 obtain ⟨c, h, s⟩ := t
 unfold isCh Tk.v
 dsimp only
 obtain ⟨tb, htb⟩ : ∃ tb, tb = tokB c h s := ⟨_, rfl⟩
 have hcall : ∀ w : World, Calls Tryz.prog 140 #[tokV c h s] w fun e w' => e = .returned (.bool tb) ∧ Below w.heap.size w w' := by rw [htb]; exact implTokenOk_any c h s
 rw [← htb]
 clear htb
 go_enter Tryz.func138, Tryz.ntmps138
 go_wp2_with fail
 refine (hcall _).mono ?_
 rintro e w1 ⟨rfl, hb1⟩
 have hz1 : w.heap.size < w1.heap.size := by have := hb1.size; simp at this; omega
 obtain ⟨hc1, hf1⟩ := bcell hb1
 have B1 : Hid (Below w.heap.size w w1) := (below1 _ _).trans (hb1.mono (by simp))
 clear hb1
 cases tb
 ·go_wp2
  go_ret
  exact ⟨rfl, B1⟩
 ·by_cases h0 : c = 0
  ·subst h0
   go_wp2
   go_ret
   exact ⟨rfl, B1⟩
  ·have m0 : (c == 0) = false := by simp [h0]
   by_cases h16 : c = 16
   ·subst h16
    go_wp2
    go_ret
    exact ⟨rfl, B1⟩
   ·have m16 : (c == 16) = false := by simp [h16]
    go_wp2
    go_ret
    have q : (c != 0 && c != 16) = true := by simp [h0, h16]
    exact ⟨by rw [decide_eq_true (⟨h0, h16⟩ : c ≠ 0 ∧ c ≠ 16)]; exact congrArg (fun b => Ending.returned (Value.bool b)) q, B1⟩
end Go.Proofs.YtbpidcfoldkhgaaGreat
