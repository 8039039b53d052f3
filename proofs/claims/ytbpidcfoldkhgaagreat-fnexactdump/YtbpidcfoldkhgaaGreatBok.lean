import Derived.Test.YtbpidcfoldkhgaaGreatEd
import Derived.Deep.RegionWith
import Derived.Laws.Cover1
import Derived.Deep.RegionHeld3
namespace Go.Proofs.YtbpidcfoldkhgaaGreat
open Go.RowKit
set_option linter.unusedVariables false
set_option linter.unusedSimpArgs false
theorem bdAt_zero {bs : List Bd} {x : Bd} (hx : x = bs.getD 0 Bd.none) : bdAt bs 0 = bdB x := by unfold bdAt; rw [← hx]; simp
theorem bdAt_more {bs : List Bd} {k : Nat} {x y : Bd} (hk : k ≠ 0) (hx : x = bs.getD k Bd.none) (hy : y = bs.getD (k - 1) Bd.none) : bdAt bs k = (Op.bytesLess y.nm.toList x.nm.toList && bdB x) := by unfold bdAt; rw [← hx, ← hy]; simp [hk]
set_option maxHeartbeats 8000000 in
theorem bindsOk_any {v : Value} {xs : List Bd} {w : World} (h : BRow 0 w v xs) (hs : xs.length ≤ 1048576 ∧ ∀ i, i < xs.length → SmB (xs.getD i Bd.none)) :
 Calls Tryz.prog 95 #[v] w fun e w' => e = .returned (.bool (bindsB xs)) ∧ Below w.heap.size w w' := by
 obtain ⟨ao, n, cap, rfl, hn, hr⟩ := h
 by_cases hbig : 500 < n
 ·have hbi : (500 : Int) < n := by omega
  rw [binds_long (by omega)]
  go_enter Tryz.func95, Tryz.ntmps95
  go_wp2
  go_ret
  exact ⟨rfl, Below.refl _ _⟩
 have hbi : ¬ (500 : Int) < n := by omega
 have hn5 : n ≤ 500 := by omega
 obtain ⟨ans, hans⟩ : ∃ a, a = bindsB xs := ⟨_, rfl⟩
 rw [← hans]
 have HA : Hid (ans = bindsB xs) := hans
 have HS : Hid (∀ i, i < xs.length → SmB (xs.getD i Bd.none)) := hs.2
 have HL : Hid (xs.length = n) := hn
 have HR : Hid (0 < n → ∃ b off, ao = some ⟨b, off, none⟩ ∧ 0 ≤ b ∧ b < w.heap.size ∧ ∀ i, i < n → ∃ cs : List Value, cs.length = 9 ∧ BdR 0 w cs (xs.getD i Bd.none) ∧ ∀ j, j < 9 → w.cell? ⟨b, off + i * 9 + j, none⟩ = cs[j]?) := hr
 clear hr hs hn hans
 go_enter Tryz.func95, Tryz.ntmps95
 go_wp2
 go_loopw [10] (fun i wr => ∃ k : Nat, k ≤ n ∧ i = .int .i64 k ∧ Hid (∀ i, i < k → bdAt xs i = true) ∧ Below w.heap.size w wr) (fun i _ => n - (intOf i).toNat)
 case atStart => exact ⟨0, by omega, rfl, fun i hi => absurd hi (by omega), Below.refl _ _⟩
 case round =>
  obtain ⟨k, hk, rfl, HM, hbel⟩ := hrel
  by_cases hkn : k < n
  ·have hki : (k : Int) < (n : Int) := by omega
   obtain ⟨b, off, rfl, hlo, hb, hc⟩ := HR (by omega)
   have HLK : Hid (k < xs.length) := by show k < xs.length; rw [show xs.length = n from HL]; exact hkn
   have hfk : SmB (xs.getD k Bd.none) := HS k HLK
   obtain ⟨cs, hcl, hRel, hcj⟩ := hc k hkn
   obtain ⟨y, hy⟩ : ∃ y, y = xs.getD (k - 1) Bd.none := ⟨_, rfl⟩
   obtain ⟨cs2, hcl2, hRel2, hcj2⟩ := hc (k - 1) (by omega)
   rw [← hy] at hRel2
   obtain ⟨u2, z2, rfl, _, _⟩ := hRel2
   obtain ⟨t, ht⟩ : ∃ t, t = xs.getD k Bd.none := ⟨_, rfl⟩
   rw [← ht] at hRel hfk
   have HT : Hid (t = xs.getD k Bd.none ∧ y = xs.getD (k - 1) Bd.none) := ⟨ht, hy⟩
   obtain ⟨j, hj⟩ : ∃ j, j = k - 1 := ⟨_, rfl⟩
   have f0 : wr.cell? ⟨b, off + j * 9, none⟩ = some (.string y.nm) := by rw [hj]; exact (hbel.cell (p := ⟨b, off + (k - 1) * 9, none⟩) hb).trans (hcj2 0 (by omega))
   obtain ⟨ynm, hynm⟩ : ∃ a, a = y.nm := ⟨_, rfl⟩
   rw [← hynm] at f0
   obtain ⟨nm, ⟨mk, mn, mt, mp, ms, mb⟩⟩ := t
   obtain ⟨u, z, rfl, hin, hjn⟩ := hRel
   obtain ⟨a, n0, c, rfl⟩ := hin.shape
   obtain ⟨a9, n9, c9, rfl⟩ := hjn.shape
   dsimp only at hin hjn hcj
   have g0 : wr.cell? ⟨b, off + k * 9, none⟩ = some (.string nm) := (hbel.cell (p := ⟨b, off + k * 9, none⟩) hb).trans (hcj 0 (by omega))
   have g1 : wr.cell? ⟨b, off + k * 9 + 1, none⟩ = some (.int .i64 mk) := (hbel.cell (p := ⟨b, off + k * 9 + 1, none⟩) hb).trans (hcj 1 (by omega))
   have g2 : wr.cell? ⟨b, off + k * 9 + 2, none⟩ = some (.int .i64 mn) := (hbel.cell (p := ⟨b, off + k * 9 + 2, none⟩) hb).trans (hcj 2 (by omega))
   have g3 : wr.cell? ⟨b, off + k * 9 + 3, none⟩ = some (.int .i64 mt.c) := (hbel.cell (p := ⟨b, off + k * 9 + 3, none⟩) hb).trans (hcj 3 (by omega))
   have g4 : wr.cell? ⟨b, off + k * 9 + 4, none⟩ = some (.int .i64 mt.h) := (hbel.cell (p := ⟨b, off + k * 9 + 4, none⟩) hb).trans (hcj 4 (by omega))
   have g5 : wr.cell? ⟨b, off + k * 9 + 5, none⟩ = some (.string mt.s) := (hbel.cell (p := ⟨b, off + k * 9 + 5, none⟩) hb).trans (hcj 5 (by omega))
   have g6 : wr.cell? ⟨b, off + k * 9 + 6, none⟩ = some (.slice a n0 c) := (hbel.cell (p := ⟨b, off + k * 9 + 6, none⟩) hb).trans (hcj 6 (by omega))
   have g7 : wr.cell? ⟨b, off + k * 9 + 7, none⟩ = some (.int .i64 ms) := (hbel.cell (p := ⟨b, off + k * 9 + 7, none⟩) hb).trans (hcj 7 (by omega))
   have g8 : wr.cell? ⟨b, off + k * 9 + 8, none⟩ = some (.slice a9 n9 c9) := (hbel.cell (p := ⟨b, off + k * 9 + 8, none⟩) hb).trans (hcj 8 (by omega))
   have dead : bdAt xs k = false → ans = false := by
    intro hd; rw [show ans = bindsB xs from HA]; exact binds_dead HLK hd
   have DEAD : Hid (bdAt xs k = false → ans = false) := dead
   have AT0 : Hid (k = 0 → bdAt xs k = bdB (⟨nm, ⟨mk, mn, mt, mp, ms, mb⟩⟩ : Bd)) := by intro hk0; subst hk0; exact bdAt_zero HT.1
   have AT1 : Hid (k ≠ 0 → bdAt xs k = (Op.bytesLess ynm.toList nm.toList && bdB (⟨nm, ⟨mk, mn, mt, mp, ms, mb⟩⟩ : Bd))) := by intro hk0; rw [hynm]; exact bdAt_more hk0 HT.1 HT.2
   have hbw : b < wr.heap.size := Nat.lt_of_lt_of_le hb hbel.size
   have HB : Hid (Below w.heap.size w wr) := hbel
   have BA : Hid (∀ x, Below w.heap.size w (wr.alloc x)) := fun x => Below.trans hbel ((below1 _ _).mono hbel.size)
   have HX : Hid (SmB (⟨nm, ⟨mk, mn, mt, mp, ms, mb⟩⟩ : Bd) ∧ TRow wr (.slice a n0 c) mp ∧ TRow wr (.slice a9 n9 c9) mb) := ⟨hfk, TIn.row_below hin hbel, TIn.row_below hjn hbel⟩
   obtain ⟨bb, hbb⟩ : ∃ bb, bb = bdB (⟨nm, ⟨mk, mn, mt, mp, ms, mb⟩⟩ : Bd) := ⟨_, rfl⟩
   have CB : Hid (∀ W, Below wr.heap.size wr W → Calls Tryz.prog 120 #[bindV nm mk mn mt (.slice a n0 c) ms (.slice a9 n9 c9)] W fun e w' => e = .returned (.bool bb) ∧ Below W.heap.size W w') := by
    rw [hbb]; intro W hW; exact bindOk_any (TRow.below HX.2.1 hW) (TRow.below HX.2.2 hW) HX.1
   rw [← hbb] at AT0 AT1
   clear hc hcj hcl hcj2 hcl2 hbel ht hy hfk hin hjn dead hbb HA hynm
   by_cases hk0 : k = 0
   ·have hat := AT0 hk0
    have HAT : Hid (bdAt xs k = bb) := hat
    clear hat AT0 AT1 f0 hj
    have hki0 : decide ((0 : Int) < (k : Int)) = false := by simp; omega
    have HK0 : Hid (k = 0) := hk0
    clear hk0
    go_wp2
    obtain ⟨W, hW⟩ : ∃ W, W = wr.alloc (.cells #[.string nm, .int .i64 mk, .int .i64 mn, .int .i64 mt.c, .int .i64 mt.h, .string mt.s, .slice a n0 c, .int .i64 ms, .slice a9 n9 c9] 58) := ⟨_, rfl⟩
    rw [← hW]
    have q0 : W.cell? ⟨wr.heap.size, 0, none⟩ = some (.string nm) := by rw [hW]; simp [go_sem]
    have q1 : W.cell? ⟨wr.heap.size, 1, none⟩ = some (.int .i64 mk) := by rw [hW]; simp [go_sem]
    have q2 : W.cell? ⟨wr.heap.size, 2, none⟩ = some (.int .i64 mn) := by rw [hW]; simp [go_sem]
    have q3 : W.cell? ⟨wr.heap.size, 3, none⟩ = some (.int .i64 mt.c) := by rw [hW]; simp [go_sem]
    have q4 : W.cell? ⟨wr.heap.size, 4, none⟩ = some (.int .i64 mt.h) := by rw [hW]; simp [go_sem]
    have q5 : W.cell? ⟨wr.heap.size, 5, none⟩ = some (.string mt.s) := by rw [hW]; simp [go_sem]
    have q6 : W.cell? ⟨wr.heap.size, 6, none⟩ = some (.slice a n0 c) := by rw [hW]; simp [go_sem]
    have q7 : W.cell? ⟨wr.heap.size, 7, none⟩ = some (.int .i64 ms) := by rw [hW]; simp [go_sem]
    have q8 : W.cell? ⟨wr.heap.size, 8, none⟩ = some (.slice a9 n9 c9) := by rw [hW]; simp [go_sem]
    have hWs : wr.heap.size < W.heap.size := by rw [hW]; simp
    have BW : Hid (Below w.heap.size w W.drew ∧ Below wr.heap.size wr W.drew) := by rw [hW]; exact ⟨Below.drew (BA _), Below.drew (below1 _ _)⟩
    clear hW g0 g1 g2 g3 g4 g5 g6 g7 g8
    obtain ⟨ki, hki2⟩ : ∃ ki : Int, ki = (k : Int) := ⟨_, rfl⟩
    rw [← hki2]
    have hkz : ¬ (0 : Int) < ki := by have hk0 : k = 0 := HK0; omega
    have HKI : Hid (ki = (k : Int)) := hki2
    clear hki2 hki0
    have Q : Hid (∀ x : World, Below W.heap.size W x → x.cell? ⟨wr.heap.size, 0, none⟩ = some (.string nm) ∧ x.cell? ⟨wr.heap.size, 1, none⟩ = some (.int .i64 mk) ∧ x.cell? ⟨wr.heap.size, 2, none⟩ = some (.int .i64 mn) ∧ x.cell? ⟨wr.heap.size, 3, none⟩ = some (.int .i64 mt.c) ∧ x.cell? ⟨wr.heap.size, 4, none⟩ = some (.int .i64 mt.h) ∧ x.cell? ⟨wr.heap.size, 5, none⟩ = some (.string mt.s) ∧ x.cell? ⟨wr.heap.size, 6, none⟩ = some (.slice a n0 c) ∧ x.cell? ⟨wr.heap.size, 7, none⟩ = some (.int .i64 ms) ∧ x.cell? ⟨wr.heap.size, 8, none⟩ = some (.slice a9 n9 c9)) := fun x hx => ⟨(Below.cell hx (p := ⟨wr.heap.size, 0, none⟩) hWs).trans q0, (Below.cell hx (p := ⟨wr.heap.size, 1, none⟩) hWs).trans q1, (Below.cell hx (p := ⟨wr.heap.size, 2, none⟩) hWs).trans q2, (Below.cell hx (p := ⟨wr.heap.size, 3, none⟩) hWs).trans q3, (Below.cell hx (p := ⟨wr.heap.size, 4, none⟩) hWs).trans q4, (Below.cell hx (p := ⟨wr.heap.size, 5, none⟩) hWs).trans q5, (Below.cell hx (p := ⟨wr.heap.size, 6, none⟩) hWs).trans q6, (Below.cell hx (p := ⟨wr.heap.size, 7, none⟩) hWs).trans q7, (Below.cell hx (p := ⟨wr.heap.size, 8, none⟩) hWs).trans q8⟩
    have BD : Hid (Below W.heap.size W W.drew) := Below.drew (Below.refl _ _)
    clear q0 q1 q2 q3 q4 q5 q6 q7 q8
    refine wp_region_held_drew (S := fun x => x.cell? ⟨wr.heap.size, 0, none⟩ = some (.string nm) ∧ x.cell? ⟨wr.heap.size, 1, none⟩ = some (.int .i64 mk) ∧ x.cell? ⟨wr.heap.size, 2, none⟩ = some (.int .i64 mn) ∧ x.cell? ⟨wr.heap.size, 3, none⟩ = some (.int .i64 mt.c) ∧ x.cell? ⟨wr.heap.size, 4, none⟩ = some (.int .i64 mt.h) ∧ x.cell? ⟨wr.heap.size, 5, none⟩ = some (.string mt.s) ∧ x.cell? ⟨wr.heap.size, 6, none⟩ = some (.slice a n0 c) ∧ x.cell? ⟨wr.heap.size, 7, none⟩ = some (.int .i64 ms) ∧ x.cell? ⟨wr.heap.size, 8, none⟩ = some (.slice a9 n9 c9)) (by kernel_rfl) (Q _ BD) (fun hS => ?_)
    refine wpAnyH_take (i := 0) (v := .int .i64 ki) rfl (by kernel_rfl) (by kernel_rfl) (by kernel_rfl) (fun _ _ _ h => h) (Or.inl ⟨by rfl, fun wx hx => by go_simp⟩) hS ?_
    try simp only [Act.put, List.setIfInBounds_toArray, List.set_cons_zero, List.set_cons_succ]
    refine wpAnyH_take (i := 1) (v := .bool false) rfl (by kernel_rfl) (by kernel_rfl) (by kernel_rfl) (fun _ _ _ h => h) (Or.inl ⟨by rfl, fun wx hx => by go_simp⟩) hS ?_
    try simp only [Act.put, List.setIfInBounds_toArray, List.set_cons_zero, List.set_cons_succ]
    refine wpAnyH_take (i := 2) (v := .bool false) rfl (by kernel_rfl) (by kernel_rfl) (by kernel_rfl) (fun _ _ _ h => h) (Or.inl ⟨by rfl, fun wx hx => by go_simp⟩) hS ?_
    try simp only [Act.put, List.setIfInBounds_toArray, List.set_cons_zero, List.set_cons_succ]
    refine wpAnyH_take (i := 3) (v := undef) rfl (by kernel_rfl) (by kernel_rfl) (by kernel_rfl) (fun _ _ _ h => h) (Or.inr ⟨by go_simp, rfl⟩) hS ?_
    try simp only [Act.put, List.setIfInBounds_toArray, List.set_cons_zero, List.set_cons_succ]
    refine wpAnyH_take (i := 4) (v := undef) rfl (by kernel_rfl) (by kernel_rfl) (by kernel_rfl) (fun _ _ _ h => h) (Or.inr ⟨by go_simp, rfl⟩) hS ?_
    try simp only [Act.put, List.setIfInBounds_toArray, List.set_cons_zero, List.set_cons_succ]
    refine wpAnyH_take (i := 5) (v := undef) rfl (by kernel_rfl) (by kernel_rfl) (by kernel_rfl) (fun _ _ _ h => h) (Or.inr ⟨by go_simp, rfl⟩) hS ?_
    try simp only [Act.put, List.setIfInBounds_toArray, List.set_cons_zero, List.set_cons_succ]
    refine wpAnyH_take (i := 6) (v := undef) rfl (by kernel_rfl) (by kernel_rfl) (by kernel_rfl) (fun _ _ _ h => h) (Or.inr ⟨by go_simp, rfl⟩) hS ?_
    try simp only [Act.put, List.setIfInBounds_toArray, List.set_cons_zero, List.set_cons_succ]
    refine wpAnyH_take (i := 7) (v := undef) rfl (by kernel_rfl) (by kernel_rfl) (by kernel_rfl) (fun _ _ _ h => h) (Or.inr ⟨by go_simp, rfl⟩) hS ?_
    try simp only [Act.put, List.setIfInBounds_toArray, List.set_cons_zero, List.set_cons_succ]
    refine wpAnyH_take (i := 8) (v := undef) rfl (by kernel_rfl) (by kernel_rfl) (by kernel_rfl) (fun _ _ _ h => h) (Or.inr ⟨by go_simp, rfl⟩) hS ?_
    try simp only [Act.put, List.setIfInBounds_toArray, List.set_cons_zero, List.set_cons_succ]
    refine wpAnyH_take (i := 9) (v := undef) rfl (by kernel_rfl) (by kernel_rfl) (by kernel_rfl) (fun _ _ _ h => h) (Or.inr ⟨by go_simp, rfl⟩) hS ?_
    try simp only [Act.put, List.setIfInBounds_toArray, List.set_cons_zero, List.set_cons_succ]
    refine wpAnyH_take (i := 10) (v := undef) rfl (by kernel_rfl) (by kernel_rfl) (by kernel_rfl) (fun _ _ _ h => h) (Or.inr ⟨by go_simp, rfl⟩) hS ?_
    try simp only [Act.put, List.setIfInBounds_toArray, List.set_cons_zero, List.set_cons_succ]
    refine wpAnyH_take (i := 11) (v := undef) rfl (by kernel_rfl) (by kernel_rfl) (by kernel_rfl) (fun _ _ _ h => h) (Or.inr ⟨by go_simp, rfl⟩) hS ?_
    try simp only [Act.put, List.setIfInBounds_toArray, List.set_cons_zero, List.set_cons_succ]
    refine wpAnyH_take (i := 12) (v := .bool false) rfl (by kernel_rfl) (by kernel_rfl) (by kernel_rfl) (fun _ _ _ h => h) (Or.inl ⟨by rfl, fun wx hx => by go_simp⟩) hS ?_
    try simp only [Act.put, List.setIfInBounds_toArray, List.set_cons_zero, List.set_cons_succ]
    refine wpAnyH_take (i := 13) (v := .bool false) rfl (by kernel_rfl) (by kernel_rfl) (by kernel_rfl) (fun _ _ _ h => h) (Or.inl ⟨by rfl, fun wx hx => by go_simp⟩) hS ?_
    try simp only [Act.put, List.setIfInBounds_toArray, List.set_cons_zero, List.set_cons_succ]
    refine wpAnyH_take (i := 14) (v := .agg #[.string nm, .int .i64 mk, .int .i64 mn, .int .i64 mt.c, .int .i64 mt.h, .string mt.s, .slice a n0 c, .int .i64 ms, .slice a9 n9 c9]) rfl (by kernel_rfl) (by kernel_rfl) (by kernel_rfl) (fun _ _ _ h => h) (Or.inl ⟨by go_simp, fun wx hx => by obtain ⟨e0, e1, e2, e3, e4, e5, e6, e7, e8⟩ := hx; go_simp⟩) hS ?_
    try simp only [Act.put, List.setIfInBounds_toArray, List.set_cons_zero, List.set_cons_succ]
    refine wpAnyH_ready (rs := [15]) (by kernel_rfl) (by simp) ?_
    refine AllReadyH.cons rfl (fun K hK => ?_) AllReadyH.nil
    rw [if_pos (by go_simp)]
    go_wp2_with (go_at_call 120; refine (CB _ BW.2).mono ?_; rintro e w2 ⟨rfl, hb1⟩; have hb3 : Hid (Below W.heap.size W w2) := below_more BD hb1 (Below.size BD); have B2 : Hid (Below w.heap.size w w2) := below_more BW.1 hb1 (Below.size BW.1); clear hb1)
    refine hK.out _ _ (Q _ ‹Hid (Below W.heap.size W w2)›) (fun hS3 => ?_)
    try simp only [Act.put, List.setIfInBounds_toArray, List.set_cons_zero, List.set_cons_succ]
    refine wpAnyH_take (i := 16) (v := .bool (!bb)) rfl (by kernel_rfl) (by kernel_rfl) (by kernel_rfl) (fun _ _ _ h => h) (Or.inl ⟨by go_simp, fun wx hx => by go_simp⟩) hS3 ?_
    try simp only [Act.put, List.setIfInBounds_toArray, List.set_cons_zero, List.set_cons_succ]
    refine wpAnyH_take (i := 17) (v := .bool (!bb)) rfl (by kernel_rfl) (by kernel_rfl) (by kernel_rfl) (fun _ _ _ h => h) (Or.inl ⟨by rfl, fun wx hx => by go_simp⟩) hS3 ?_
    try simp only [Act.put, List.setIfInBounds_toArray, List.set_cons_zero, List.set_cons_succ]
    refine wpAnyH_done (by kernel_rfl) ?_ _
    clear hS hS3 hK
    obtain rfl : ki = (k : Int) := HKI
    clear hkz
    all_goals
     cases bb
     ·have hd := DEAD HAT
      go_wp2
      go_ret
      exact ⟨by first | rfl | (rw [hd]; rfl), B2⟩
     ·go_wp2
      go_roundw
      case rel =>
       refine ⟨k + 1, by omega, by go_num, fun i hi => ?_, ‹Hid (Below w.heap.size w w2)›⟩
       have hk0 : k = 0 := HK0
       obtain rfl : i = k := by omega
       exact HAT
      case measure => simp [intOf]; omega
   ·have hat := AT1 hk0
    have HAT : Hid (bdAt xs k = (Op.bytesLess ynm.toList nm.toList && bb)) := hat
    have hki0 : (0 : Int) < (k : Int) := by omega
    have hk1 : 0 < k := by omega
    have hk9 : (k : Int) - 1 = (j : Int) := by omega
    have hj0 : (j : Int) < (n : Int) := by omega
    have hjn : j < n := by omega
    clear hat AT0 AT1 hj
    cases hlt : Op.bytesLess ynm.toList nm.toList
    ·have hd : ans = false := DEAD (by rw [show bdAt xs k = _ from HAT, hlt]; rfl)
     go_wp2
     go_region
     all_goals
      go_wp2
      go_ret
      exact ⟨by first | rfl | (rw [hd]; rfl), Below.drew (BA _)⟩
    ·have HA2 : Hid (bdAt xs k = bb) := by rw [show bdAt xs k = _ from HAT, hlt]; rfl
     clear HAT
     go_wp2
     obtain ⟨W, hW⟩ : ∃ W, W = wr.alloc (.cells #[.string nm, .int .i64 mk, .int .i64 mn, .int .i64 mt.c, .int .i64 mt.h, .string mt.s, .slice a n0 c, .int .i64 ms, .slice a9 n9 c9] 58) := ⟨_, rfl⟩
     rw [← hW]
     have q0 : W.cell? ⟨wr.heap.size, 0, none⟩ = some (.string nm) := by rw [hW]; simp [go_sem]
     have q1 : W.cell? ⟨wr.heap.size, 1, none⟩ = some (.int .i64 mk) := by rw [hW]; simp [go_sem]
     have q2 : W.cell? ⟨wr.heap.size, 2, none⟩ = some (.int .i64 mn) := by rw [hW]; simp [go_sem]
     have q3 : W.cell? ⟨wr.heap.size, 3, none⟩ = some (.int .i64 mt.c) := by rw [hW]; simp [go_sem]
     have q4 : W.cell? ⟨wr.heap.size, 4, none⟩ = some (.int .i64 mt.h) := by rw [hW]; simp [go_sem]
     have q5 : W.cell? ⟨wr.heap.size, 5, none⟩ = some (.string mt.s) := by rw [hW]; simp [go_sem]
     have q6 : W.cell? ⟨wr.heap.size, 6, none⟩ = some (.slice a n0 c) := by rw [hW]; simp [go_sem]
     have q7 : W.cell? ⟨wr.heap.size, 7, none⟩ = some (.int .i64 ms) := by rw [hW]; simp [go_sem]
     have q8 : W.cell? ⟨wr.heap.size, 8, none⟩ = some (.slice a9 n9 c9) := by rw [hW]; simp [go_sem]
     have f1 : W.cell? ⟨b, off + j * 9, none⟩ = some (.string ynm) := by rw [hW]; exact (Below.cell (below1 _ _) (p := ⟨b, off + j * 9, none⟩) hbw).trans f0
     have hWs : wr.heap.size < W.heap.size := by rw [hW]; simp
     have BW : Hid (Below w.heap.size w W.drew ∧ Below wr.heap.size wr W.drew) := by rw [hW]; exact ⟨Below.drew (BA _), Below.drew (below1 _ _)⟩
     clear hW g0 g1 g2 g3 g4 g5 g6 g7 g8 f0
     have hw : IntKind.i64.wrap (j : Int) = (j : Int) := by rw [IntKind.wrap_i64]; omega
     have hbW : b < W.heap.size := by omega
     have Q : Hid (∀ x : World, Below W.heap.size W x → x.cell? ⟨b, off + j * 9, none⟩ = some (.string ynm) ∧ x.cell? ⟨wr.heap.size, 0, none⟩ = some (.string nm) ∧ x.cell? ⟨wr.heap.size, 1, none⟩ = some (.int .i64 mk) ∧ x.cell? ⟨wr.heap.size, 2, none⟩ = some (.int .i64 mn) ∧ x.cell? ⟨wr.heap.size, 3, none⟩ = some (.int .i64 mt.c) ∧ x.cell? ⟨wr.heap.size, 4, none⟩ = some (.int .i64 mt.h) ∧ x.cell? ⟨wr.heap.size, 5, none⟩ = some (.string mt.s) ∧ x.cell? ⟨wr.heap.size, 6, none⟩ = some (.slice a n0 c) ∧ x.cell? ⟨wr.heap.size, 7, none⟩ = some (.int .i64 ms) ∧ x.cell? ⟨wr.heap.size, 8, none⟩ = some (.slice a9 n9 c9)) := fun x hx => ⟨(Below.cell hx (p := ⟨b, off + j * 9, none⟩) hbW).trans f1, (Below.cell hx (p := ⟨wr.heap.size, 0, none⟩) hWs).trans q0, (Below.cell hx (p := ⟨wr.heap.size, 1, none⟩) hWs).trans q1, (Below.cell hx (p := ⟨wr.heap.size, 2, none⟩) hWs).trans q2, (Below.cell hx (p := ⟨wr.heap.size, 3, none⟩) hWs).trans q3, (Below.cell hx (p := ⟨wr.heap.size, 4, none⟩) hWs).trans q4, (Below.cell hx (p := ⟨wr.heap.size, 5, none⟩) hWs).trans q5, (Below.cell hx (p := ⟨wr.heap.size, 6, none⟩) hWs).trans q6, (Below.cell hx (p := ⟨wr.heap.size, 7, none⟩) hWs).trans q7, (Below.cell hx (p := ⟨wr.heap.size, 8, none⟩) hWs).trans q8⟩
     have BD : Hid (Below W.heap.size W W.drew) := Below.drew (Below.refl _ _)
     go_region_held3 (fun x => x.cell? ⟨b, off + j * 9, none⟩ = some (.string ynm) ∧ x.cell? ⟨wr.heap.size, 0, none⟩ = some (.string nm) ∧ x.cell? ⟨wr.heap.size, 1, none⟩ = some (.int .i64 mk) ∧ x.cell? ⟨wr.heap.size, 2, none⟩ = some (.int .i64 mn) ∧ x.cell? ⟨wr.heap.size, 3, none⟩ = some (.int .i64 mt.c) ∧ x.cell? ⟨wr.heap.size, 4, none⟩ = some (.int .i64 mt.h) ∧ x.cell? ⟨wr.heap.size, 5, none⟩ = some (.string mt.s) ∧ x.cell? ⟨wr.heap.size, 6, none⟩ = some (.slice a n0 c) ∧ x.cell? ⟨wr.heap.size, 7, none⟩ = some (.int .i64 ms) ∧ x.cell? ⟨wr.heap.size, 8, none⟩ = some (.slice a9 n9 c9)) (first | exact Q _ BD | exact Q _ ‹Below W.heap.size W _›) ((go_at_call 120; refine (CB _ BW.2).mono ?_; rintro e w2 ⟨rfl, hb1⟩; have hb3 : Below W.heap.size W w2 := below_more BD hb1 (Below.size BD); have B2 : Hid (Below w.heap.size w w2) := below_more BW.1 hb1 (Below.size BW.1); clear hb1))
     all_goals
      clear hw
      cases bb
      ·have hd := DEAD HA2
       go_wp2
       go_ret
       exact ⟨by first | rfl | (rw [hd]; rfl), B2⟩
      ·go_wp2
       go_roundw
       case rel =>
        refine ⟨k + 1, by omega, by go_num, fun i hi => ?_, B2⟩
        by_cases hik : i = k
        ·subst hik; exact HA2
        ·exact HM i (by omega)
       case measure => simp [intOf]; omega
  ·have hki : ¬ (k : Int) < (n : Int) := by omega
   obtain rfl : k = n := by omega
   have HB : Hid (Below w.heap.size w wr) := hbel
   have hans : ans = true := by
    rw [show ans = bindsB xs from HA]
    have hl : xs.length = k := HL
    exact binds_yes (by omega) (fun i hi => HM i (by omega))
   clear hbel HA
   go_wp2
   go_ret
   exact ⟨by first | rfl | (rw [hans]; rfl), HB⟩
end Go.Proofs.YtbpidcfoldkhgaaGreat
