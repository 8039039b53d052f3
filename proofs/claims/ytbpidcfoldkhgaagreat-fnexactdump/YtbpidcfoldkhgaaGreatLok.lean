import Derived.Test.YtbpidcfoldkhgaaGreatBok
namespace Go.Proofs.YtbpidcfoldkhgaaGreat
open Go.RowKit
set_option linter.unusedVariables false
set_option linter.unusedSimpArgs false
theorem bdAt_is {bs : List Bd} {k : Nat} {nm ynm : ByteArray} {mk mn : Int} {mt : Tk} {mp mb : List Tk} {ms : Int} {y : Bd} (hx : (⟨nm, ⟨mk, mn, mt, mp, ms, mb⟩⟩ : Bd) = bs.getD k Bd.none) (hy : y = bs.getD (k - 1) Bd.none) (hn : ynm = y.nm) :
 bdAt bs k = ((decide (k = 0) || Op.bytesLess ynm.toList nm.toList) && (decide (nm.size ≤ 40) && (decide (mk ≠ 0) && meanB mk mn mt mp ms mb))) := by
 unfold bdAt; rw [← hx, ← hy, hn]; rfl
theorem Row.at {w : World} {a : Option Addr} {n c : Nat} {zs : List Int} (h : Row w (.slice a n c) zs) (hp : 0 < n) : ∃ b off, a = some ⟨b, off, none⟩ ∧ b < w.heap.size ∧ zs.length = n ∧ ∀ i, i < n → w.cell? ⟨b, off + i, none⟩ = some (.int .i64 (zs.getD i 0)) := by
 obtain ⟨ao, n', cap, e, hl, hr⟩ := h
 simp only [Value.slice.injEq] at e
 obtain ⟨rfl, rfl, rfl⟩ := e
 obtain ⟨b, off, rfl, hb, hc⟩ := hr hp
 exact ⟨b, off, rfl, hb, hl, hc⟩
def GlAt (w : World) (b off i : Nat) (g : Gl) : Prop := w.cell? ⟨b, off + i * 5, none⟩ = some (.int .i64 g.s) ∧ w.cell? ⟨b, off + i * 5 + 1, none⟩ = some (.int .i64 g.p) ∧ w.cell? ⟨b, off + i * 5 + 2, none⟩ = some (.int .i64 g.po) ∧ w.cell? ⟨b, off + i * 5 + 3, none⟩ = some (.int .i64 g.m) ∧ w.cell? ⟨b, off + i * 5 + 4, none⟩ = some (.int .i64 g.mo)
theorem GRow.at {w : World} {a : Option Addr} {n c : Nat} {gs : List Gl} (h : GRow w (.slice a n c) gs) (hp : 0 < n) : ∃ b off, a = some ⟨b, off, none⟩ ∧ b < w.heap.size ∧ gs.length = n ∧ ∀ i, i < n → GlAt w b off i (gs.getD i Gl.none) := by
 obtain ⟨ao, n', cap, e, hl, hr⟩ := h
 simp only [Value.slice.injEq] at e
 obtain ⟨rfl, rfl, rfl⟩ := e
 obtain ⟨b, off, rfl, hb, hc⟩ := hr hp
 exact ⟨b, off, rfl, hb, hl, hc⟩
theorem TsRow.at {lo : Nat} {w : World} {a : Option Addr} {n c : Nat} {tss : List (List Tk)} (h : TsRow lo w (.slice a n c) tss) (hp : 0 < n) : ∃ b off, a = some ⟨b, off, none⟩ ∧ b < w.heap.size ∧ tss.length = n ∧ ∀ i, i < n → ∃ a n c, w.cell? ⟨b, off + i, none⟩ = some (.slice a n c) ∧ TRow w (.slice a n c) (tss.getD i []) := by
 obtain ⟨ao, n', cap, e, hl, hr⟩ := h
 simp only [Value.slice.injEq] at e
 obtain ⟨rfl, rfl, rfl⟩ := e
 obtain ⟨b, off, rfl, _, hb, hc⟩ := hr hp
 refine ⟨b, off, rfl, hb, hl, fun i hi => ?_⟩
 obtain ⟨cs, hcl, ⟨v, rfl, hin⟩, hcj⟩ := hc i hi
 obtain ⟨a, n, c, rfl⟩ := hin.shape
 have h0 := hcj 0 (by omega)
 exact ⟨a, n, c, by simpa using h0, hin.1⟩
theorem lev_dead {x : Lv} {k : Nat} (l1 : x.counts.length = 32) (l2 : x.lens.length = 32) (l3 : x.glues.length = 32) (l4 : x.toks.length = 32) (hk : k < 32) (h : ¬ (cntB (x.counts.getD k 0) = true ∧ fitsB (x.lens.getD k 0) = true ∧ glB (x.glues.getD k Gl.none) = true ∧ tsB (x.toks.getD k []) = true)) : levB x = false := by
 unfold levB
 cases h1 : cntB (x.counts.getD k 0) with
 | false => rw [reg_dead (d := 0) (by omega) h1]; simp
 | true =>
  cases h2 : fitsB (x.lens.getD k 0) with
  | false => rw [reg_dead (xs := x.lens) (d := 0) (by omega) h2]; simp
  | true =>
   cases h3 : glB (x.glues.getD k Gl.none) with
   | false => rw [reg_dead (d := Gl.none) (by omega) h3]; simp
   | true =>
    cases h4 : tsB (x.toks.getD k []) with
    | false => rw [reg_dead (d := []) (by omega) h4]; simp
    | true => exact absurd ⟨h1, h2, h3, h4⟩ h
theorem lev_yes {x : Lv} (l1 : x.counts.length = 32) (l2 : x.lens.length = 32) (l3 : x.glues.length = 32) (l4 : x.toks.length = 32) (hc : catsB x.cats = true) (hb : bindsB x.binds = true) (h : ∀ i, i < 32 → cntB (x.counts.getD i 0) = true ∧ fitsB (x.lens.getD i 0) = true ∧ glB (x.glues.getD i Gl.none) = true ∧ tsB (x.toks.getD i []) = true) : levB x = true := by
 unfold levB
 rw [hc, hb, reg_yes (d := 0) l1 (fun i hi => (h i hi).1), reg_yes (d := 0) l2 (fun i hi => (h i hi).2.1), reg_yes (d := Gl.none) l3 (fun i hi => (h i hi).2.2.1), reg_yes (d := []) l4 (fun i hi => (h i hi).2.2.2)]
 rfl
set_option maxRecDepth 20000 in
set_option maxHeartbeats 16000000 in
theorem specLevelOk_good {x : Lv} {w : World} {a0 a1 a2 a3 a4 a5 : Option Addr} {n0 n1 n2 n3 n4 n5 c0 c1 c2 c3 c4 c5 : Nat} (h : Six 0 w (.slice a0 n0 c0) (.slice a1 n1 c1) (.slice a2 n2 c2) (.slice a3 n3 c3) (.slice a4 n4 c4) (.slice a5 n5 c5) x) (hs : SmL x) (hcb : catsB x.cats = true)
 (h1 : n1 ≤ 500) (h2 : (n2 : Int) = 32) (h3 : (n3 : Int) = 32) (h4 : (n4 : Int) = 32) (h5 : (n5 : Int) = 32) :
 Calls Tryz.prog 32 #[levV (.slice a0 n0 c0) (.slice a1 n1 c1) (.slice a2 n2 c2) (.slice a3 n3 c3) (.slice a4 n4 c4) (.slice a5 n5 c5)] w fun e w' => e = .returned (.bool (levB x)) ∧ Below w.heap.size w w' := by
 have HX : Hid (Six 0 w (.slice a0 n0 c0) (.slice a1 n1 c1) (.slice a2 n2 c2) (.slice a3 n3 c3) (.slice a4 n4 c4) (.slice a5 n5 c5) x) := h
 have HS : Hid (SmL x) := hs
 have hcats : ∀ W, Below w.heap.size w W → Calls Tryz.prog 59 #[.slice a0 n0 c0] W fun e w' => e = .returned (.bool true) ∧ w' = W := by
  intro W hW; rw [← hcb]; exact specCatsOk_any (RIn.below h.h0 hW).1
 have HC : Hid (∀ W, Below w.heap.size w W → Calls Tryz.prog 59 #[.slice a0 n0 c0] W fun e w' => e = .returned (.bool true) ∧ w' = W) := hcats
 obtain ⟨ans, hans⟩ : ∃ a, a = levB x := ⟨_, rfl⟩
 rw [← hans]
 have HA : Hid (ans = levB x ∧ catsB x.cats = true) := ⟨hans, hcb⟩
 have hrow := h.h1
 obtain ⟨ao, n, cap, e, hn, hr⟩ := hrow
 simp only [Value.slice.injEq] at e
 obtain ⟨rfl, rfl, rfl⟩ := e
 have HL : Hid (x.binds.length = n1) := hn
 have HR : Hid (0 < n1 → ∃ b off, a1 = some ⟨b, off, none⟩ ∧ 0 ≤ b ∧ b < w.heap.size ∧ ∀ i, i < n1 → ∃ cs : List Value, cs.length = 9 ∧ BdR 0 w cs (x.binds.getD i Bd.none) ∧ ∀ j, j < 9 → w.cell? ⟨b, off + i * 9 + j, none⟩ = cs[j]?) := hr
 have h1i : ¬ (500 : Int) < (n1 : Int) := by omega
 clear hr hs hn hans h hcats hcb
 go_enter Tryz.func32, Tryz.ntmps32
 go_wp2_with (go_at_call 59; refine (HC _ (below1 _ _)).mono ?_; rintro e w1 ⟨rfl, hw⟩; have hw2 := hw.symm; clear hw; subst hw2)
 obtain ⟨U, hU⟩ : ∃ U, U = w.alloc (.cells #[.slice a0 n0 c0, .slice a1 n1 c1, .slice a2 n2 c2, .slice a3 n3 c3, .slice a4 n4 c4, .slice a5 n5 c5] 45) := ⟨_, rfl⟩
 rw [← hU]
 have KU : Hid (Cells6 U w.heap.size (.slice a0 n0 c0) (.slice a1 n1 c1) (.slice a2 n2 c2) (.slice a3 n3 c3) (.slice a4 n4 c4) (.slice a5 n5 c5)) := by rw [hU]; exact Cells6.new _ _ _ _ _ _ _ _
 have BU0 : Hid (Below w.heap.size w U) := by rw [hU]; exact below1 _ _
 clear hU
 go_loopw [3] (fun i wr => ∃ k : Nat, k ≤ n1 ∧ i = .int .i64 k ∧ Hid (∀ i, i < k → bdAt x.binds i = true) ∧ Below U.heap.size U wr) (fun i _ => n1 - (intOf i).toNat)
 case atStart => exact ⟨0, by omega, rfl, fun i hi => absurd hi (by omega), Below.refl _ _⟩
 case round =>
  obtain ⟨k, hk, rfl, HM, hbel⟩ := hrel
  have HB : Hid (Below w.heap.size w wr) := below_more BU0 hbel (Below.size BU0)
  have BU : Hid (∀ o, Below U.heap.size U (wr.alloc o)) := fun o => Below.trans hbel ((below1 _ _).mono hbel.size)
  have BA : Hid (∀ o, Below w.heap.size w (wr.alloc o)) := fun o => Below.trans HB ((below1 _ _).mono (Below.size HB))
  obtain ⟨hzr, k0, k1, k2, k3, k4, k5⟩ := Cells6.below KU hbel
  have HBU : Hid (Below U.heap.size U wr) := hbel
  clear hbel
  by_cases hkn : k < n1
  ·clear k0 k2 k3 k4 k5
   have hki : (k : Int) < (n1 : Int) := by omega
   obtain ⟨b, off, rfl, hlo, hb, hc⟩ := HR (by omega)
   have HLK : Hid (k < x.binds.length) := by show k < x.binds.length; rw [show x.binds.length = n1 from HL]; exact hkn
   have hfk : SmB (x.binds.getD k Bd.none) := HS.2.1.2 k HLK
   obtain ⟨cs, hcl, hRel, hcj⟩ := hc k hkn
   obtain ⟨y, hy⟩ : ∃ y, y = x.binds.getD (k - 1) Bd.none := ⟨_, rfl⟩
   obtain ⟨cs2, hcl2, hRel2, hcj2⟩ := hc (k - 1) (by omega)
   rw [← hy] at hRel2
   obtain ⟨u2, z2, rfl, _, _⟩ := hRel2
   obtain ⟨t, ht⟩ : ∃ t, t = x.binds.getD k Bd.none := ⟨_, rfl⟩
   rw [← ht] at hRel hfk
   have HT : Hid (t = x.binds.getD k Bd.none ∧ y = x.binds.getD (k - 1) Bd.none) := ⟨ht, hy⟩
   obtain ⟨j, hj⟩ : ∃ j, j = k - 1 := ⟨_, rfl⟩
   have f0 : wr.cell? ⟨b, off + j * 9, none⟩ = some (.string y.nm) := by rw [hj]; exact (Below.cell HB (p := ⟨b, off + (k - 1) * 9, none⟩) hb).trans (hcj2 0 (by omega))
   obtain ⟨ynm, hynm⟩ : ∃ a, a = y.nm := ⟨_, rfl⟩
   rw [← hynm] at f0
   obtain ⟨nm, ⟨mk, mn, mt, mp, ms, mb⟩⟩ := t
   obtain ⟨u, z, rfl, hin, hjn⟩ := hRel
   obtain ⟨a, n0, c, rfl⟩ := hin.shape
   obtain ⟨a9, n9, c9, rfl⟩ := hjn.shape
   dsimp only at hin hjn hcj
   have g0 : wr.cell? ⟨b, off + k * 9, none⟩ = some (.string nm) := (Below.cell HB (p := ⟨b, off + k * 9, none⟩) hb).trans (hcj 0 (by omega))
   have g1 : wr.cell? ⟨b, off + k * 9 + 1, none⟩ = some (.int .i64 mk) := (Below.cell HB (p := ⟨b, off + k * 9 + 1, none⟩) hb).trans (hcj 1 (by omega))
   have g2 : wr.cell? ⟨b, off + k * 9 + 2, none⟩ = some (.int .i64 mn) := (Below.cell HB (p := ⟨b, off + k * 9 + 2, none⟩) hb).trans (hcj 2 (by omega))
   have g3 : wr.cell? ⟨b, off + k * 9 + 3, none⟩ = some (.int .i64 mt.c) := (Below.cell HB (p := ⟨b, off + k * 9 + 3, none⟩) hb).trans (hcj 3 (by omega))
   have g4 : wr.cell? ⟨b, off + k * 9 + 4, none⟩ = some (.int .i64 mt.h) := (Below.cell HB (p := ⟨b, off + k * 9 + 4, none⟩) hb).trans (hcj 4 (by omega))
   have g5 : wr.cell? ⟨b, off + k * 9 + 5, none⟩ = some (.string mt.s) := (Below.cell HB (p := ⟨b, off + k * 9 + 5, none⟩) hb).trans (hcj 5 (by omega))
   have g6 : wr.cell? ⟨b, off + k * 9 + 6, none⟩ = some (.slice a n0 c) := (Below.cell HB (p := ⟨b, off + k * 9 + 6, none⟩) hb).trans (hcj 6 (by omega))
   have g7 : wr.cell? ⟨b, off + k * 9 + 7, none⟩ = some (.int .i64 ms) := (Below.cell HB (p := ⟨b, off + k * 9 + 7, none⟩) hb).trans (hcj 7 (by omega))
   have g8 : wr.cell? ⟨b, off + k * 9 + 8, none⟩ = some (.slice a9 n9 c9) := (Below.cell HB (p := ⟨b, off + k * 9 + 8, none⟩) hb).trans (hcj 8 (by omega))
   have dead : bdAt x.binds k = false → ans = false := by
    intro hd; rw [show ans = levB x from HA.1]; unfold levB; rw [binds_dead HLK hd]; simp
   have DEAD : Hid (bdAt x.binds k = false → ans = false) := dead
   have hbw : b < wr.heap.size := Nat.lt_of_lt_of_le hb (Below.size HB)
   have HXX : Hid (SmB (⟨nm, ⟨mk, mn, mt, mp, ms, mb⟩⟩ : Bd) ∧ TRow wr (.slice a n0 c) mp ∧ TRow wr (.slice a9 n9 c9) mb) := ⟨hfk, TIn.row_below hin HB, TIn.row_below hjn HB⟩
   obtain ⟨bb, hbb⟩ : ∃ bb, bb = meanB mk mn mt mp ms mb := ⟨_, rfl⟩
   have CB : Hid (∀ W, Below wr.heap.size wr W → Calls Tryz.prog 60 #[meanV mk mn mt (.slice a n0 c) ms (.slice a9 n9 c9)] W fun e w' => e = .returned (.bool bb) ∧ Below W.heap.size W w') := by
    rw [hbb]; intro W hW; exact specMeanOk_any (TRow.below HXX.2.1 hW) (TRow.below HXX.2.2 hW) HXX.1.1 HXX.1.2
   have hat : bdAt x.binds k = ((decide (k = 0) || Op.bytesLess ynm.toList nm.toList) && (decide (nm.size ≤ 40) && (decide (mk ≠ 0) && bb))) := by rw [hbb]; exact bdAt_is HT.1 HT.2 hynm
   have AT : Hid (bdAt x.binds k = ((decide (k = 0) || Op.bytesLess ynm.toList nm.toList) && (decide (nm.size ≤ 40) && (decide (mk ≠ 0) && bb)))) := hat
   obtain ⟨ns, hns⟩ : ∃ ns : Int, (nm.size : Int) = ns := ⟨_, rfl⟩
   clear hc hcj hcl hcj2 hcl2 ht hy hfk hin hjn dead hbb hynm hat
   by_cases h40 : 40 < nm.size
   ·have hd : ans = false := DEAD (by rw [show bdAt x.binds k = _ from AT]; simp; omega)
    have h40i : (40 : Int) < ns := by omega
    clear hj f0 h40
    go_wp2
    obtain ⟨W, hW⟩ : ∃ W, W = wr.alloc (.cells #[.string nm, .int .i64 mk, .int .i64 mn, .int .i64 mt.c, .int .i64 mt.h, .string mt.s, .slice a n0 c, .int .i64 ms, .slice a9 n9 c9] 58) := ⟨_, rfl⟩
    rw [← hW]
    have q0 : W.cell? ⟨wr.heap.size, 0, none⟩ = some (.string nm) := by rw [hW]; simp [go_sem]
    have q1 : W.cell? ⟨wr.heap.size, 1, none⟩ = some (.int .i64 mk) := by rw [hW]; simp [go_sem]
    have q2 : W.cell? ⟨wr.heap.size, 2, none⟩ = some (.int .i64 mn) := by rw [hW]; simp [go_sem]
    have q3 : W.cell? ⟨wr.heap.size, 3, none⟩ = some (.int .i64 mt.c) := by rw [hW]; simp [go_sem]
    have q4 : W.cell? ⟨wr.heap.size, 4, none⟩ = some (.int .i64 mt.h) := by rw [hW]; simp [go_sem]
    have q5 : W.cell? ⟨wr.heap.size, 5, none⟩ = some (.string mt.s) := by rw [hW]; simp [go_sem]
    have q6 : W.cell? ⟨wr.heap.size, 6, none⟩ = some (.slice a n0 c) := by rw [hW]; simp [go_sem]
    have q7 : W.cell? ⟨wr.heap.size, 7, none⟩ = some (.int .i64 ms) := by rw [hW]; simp [go_sem]
    have q8 : W.cell? ⟨wr.heap.size, 8, none⟩ = some (.slice a9 n9 c9) := by rw [hW]; simp [go_sem]
    have p1 : W.cell? ⟨w.heap.size, 1, none⟩ = some (.slice (some ⟨b, off, none⟩) n1 c1) := by rw [hW]; exact (Below.cell (below1 _ _) (p := ⟨w.heap.size, 1, none⟩) hzr).trans k1
    have hWs : wr.heap.size < W.heap.size := by rw [hW]; simp
    have hWz : w.heap.size < W.heap.size := by omega
    have BW : Hid (Below w.heap.size w W.drew ∧ Below wr.heap.size wr W.drew ∧ Below U.heap.size U W.drew) := by rw [hW]; exact ⟨Below.drew (BA _), Below.drew (below1 _ _), Below.drew (BU _)⟩
    clear hW g0 g1 g2 g3 g4 g5 g6 g7 g8 k1
    go_region
    all_goals
     go_wp2
     go_ret
     exact ⟨by first | rfl | (rw [hd]; rfl), BW.1⟩
   have h40i : decide ((40 : Int) < ns) = false := by simp; omega
   have H40 : Hid (nm.size ≤ 40) := by show nm.size ≤ 40; omega
   clear h40
   by_cases hk0 : k = 0
   ·have HK0 : Hid (k = 0) := hk0
    have hki0 : decide ((0 : Int) < (k : Int)) = false := by simp; omega
    clear hk0 hj f0
    by_cases hmk : mk = 0
    ·have hd : ans = false := DEAD (by rw [show bdAt x.binds k = _ from AT]; simp [hmk])
     subst hmk
     go_wp2
     obtain ⟨W, hW⟩ : ∃ W, W = wr.alloc (.cells #[.string nm, .int .i64 0, .int .i64 mn, .int .i64 mt.c, .int .i64 mt.h, .string mt.s, .slice a n0 c, .int .i64 ms, .slice a9 n9 c9] 58) := ⟨_, rfl⟩
     rw [← hW]
     have q0 : W.cell? ⟨wr.heap.size, 0, none⟩ = some (.string nm) := by rw [hW]; simp [go_sem]
     have q1 : W.cell? ⟨wr.heap.size, 1, none⟩ = some (.int .i64 0) := by rw [hW]; simp [go_sem]
     have q2 : W.cell? ⟨wr.heap.size, 2, none⟩ = some (.int .i64 mn) := by rw [hW]; simp [go_sem]
     have q3 : W.cell? ⟨wr.heap.size, 3, none⟩ = some (.int .i64 mt.c) := by rw [hW]; simp [go_sem]
     have q4 : W.cell? ⟨wr.heap.size, 4, none⟩ = some (.int .i64 mt.h) := by rw [hW]; simp [go_sem]
     have q5 : W.cell? ⟨wr.heap.size, 5, none⟩ = some (.string mt.s) := by rw [hW]; simp [go_sem]
     have q6 : W.cell? ⟨wr.heap.size, 6, none⟩ = some (.slice a n0 c) := by rw [hW]; simp [go_sem]
     have q7 : W.cell? ⟨wr.heap.size, 7, none⟩ = some (.int .i64 ms) := by rw [hW]; simp [go_sem]
     have q8 : W.cell? ⟨wr.heap.size, 8, none⟩ = some (.slice a9 n9 c9) := by rw [hW]; simp [go_sem]
     have p1 : W.cell? ⟨w.heap.size, 1, none⟩ = some (.slice (some ⟨b, off, none⟩) n1 c1) := by rw [hW]; exact (Below.cell (below1 _ _) (p := ⟨w.heap.size, 1, none⟩) hzr).trans k1
     have hWs : wr.heap.size < W.heap.size := by rw [hW]; simp
     have hWz : w.heap.size < W.heap.size := by omega
     have BW : Hid (Below w.heap.size w W.drew ∧ Below wr.heap.size wr W.drew ∧ Below U.heap.size U W.drew) := by rw [hW]; exact ⟨Below.drew (BA _), Below.drew (below1 _ _), Below.drew (BU _)⟩
     clear hW g0 g1 g2 g3 g4 g5 g6 g7 g8 k1
     obtain ⟨ki, hki2⟩ : ∃ ki : Int, ki = (k : Int) := ⟨_, rfl⟩
     rw [← hki2]
     have hkz : ¬ (0 : Int) < ki := by have hk0 : k = 0 := HK0; omega
     clear hki2 hki0
     go_region
     all_goals
      go_wp2
      go_ret
      exact ⟨by first | rfl | (rw [hd]; rfl), BW.1⟩
    ·have hat : bdAt x.binds k = bb := by rw [show bdAt x.binds k = _ from AT, decide_eq_true (show k = 0 from HK0), decide_eq_true (show nm.size ≤ 40 from H40), decide_eq_true (show mk ≠ 0 from hmk)]; simp only [Bool.true_or, Bool.or_true, Bool.true_and]
     have HAT : Hid (bdAt x.binds k = bb) := hat
     clear hat
     have hmk2 : (mk == 0) = false := by simp [hmk]
     go_wp2
     obtain ⟨W, hW⟩ : ∃ W, W = wr.alloc (.cells #[.string nm, .int .i64 mk, .int .i64 mn, .int .i64 mt.c, .int .i64 mt.h, .string mt.s, .slice a n0 c, .int .i64 ms, .slice a9 n9 c9] 58) := ⟨_, rfl⟩
     rw [← hW]
     have q0 : W.cell? ⟨wr.heap.size, 0, none⟩ = some (.string nm) := by rw [hW]; simp [go_sem]
     have q1 : W.cell? ⟨wr.heap.size, 1, none⟩ = some (.int .i64 mk) := by rw [hW]; simp [go_sem]
     have q2 : W.cell? ⟨wr.heap.size, 2, none⟩ = some (.int .i64 mn) := by rw [hW]; simp [go_sem]
     have q3 : W.cell? ⟨wr.heap.size, 3, none⟩ = some (.int .i64 mt.c) := by rw [hW]; simp [go_sem]
     have q4 : W.cell? ⟨wr.heap.size, 4, none⟩ = some (.int .i64 mt.h) := by rw [hW]; simp [go_sem]
     have q5 : W.cell? ⟨wr.heap.size, 5, none⟩ = some (.string mt.s) := by rw [hW]; simp [go_sem]
     have q6 : W.cell? ⟨wr.heap.size, 6, none⟩ = some (.slice a n0 c) := by rw [hW]; simp [go_sem]
     have q7 : W.cell? ⟨wr.heap.size, 7, none⟩ = some (.int .i64 ms) := by rw [hW]; simp [go_sem]
     have q8 : W.cell? ⟨wr.heap.size, 8, none⟩ = some (.slice a9 n9 c9) := by rw [hW]; simp [go_sem]
     have p1 : W.cell? ⟨w.heap.size, 1, none⟩ = some (.slice (some ⟨b, off, none⟩) n1 c1) := by rw [hW]; exact (Below.cell (below1 _ _) (p := ⟨w.heap.size, 1, none⟩) hzr).trans k1
     have hWs : wr.heap.size < W.heap.size := by rw [hW]; simp
     have hWz : w.heap.size < W.heap.size := by omega
     have BW : Hid (Below w.heap.size w W.drew ∧ Below wr.heap.size wr W.drew ∧ Below U.heap.size U W.drew) := by rw [hW]; exact ⟨Below.drew (BA _), Below.drew (below1 _ _), Below.drew (BU _)⟩
     clear hW g0 g1 g2 g3 g4 g5 g6 g7 g8 k1
     obtain ⟨ki, hki2⟩ : ∃ ki : Int, ki = (k : Int) := ⟨_, rfl⟩
     rw [← hki2]
     have hkz : ¬ (0 : Int) < ki := by have hk0 : k = 0 := HK0; omega
     have HKI : Hid (ki = (k : Int)) := hki2
     clear hki2 hki0
     have Q : Hid (∀ x : World, Below W.heap.size W x → x.cell? ⟨wr.heap.size, 0, none⟩ = some (.string nm) ∧ x.cell? ⟨wr.heap.size, 1, none⟩ = some (.int .i64 mk) ∧ x.cell? ⟨wr.heap.size, 2, none⟩ = some (.int .i64 mn) ∧ x.cell? ⟨wr.heap.size, 3, none⟩ = some (.int .i64 mt.c) ∧ x.cell? ⟨wr.heap.size, 4, none⟩ = some (.int .i64 mt.h) ∧ x.cell? ⟨wr.heap.size, 5, none⟩ = some (.string mt.s) ∧ x.cell? ⟨wr.heap.size, 6, none⟩ = some (.slice a n0 c) ∧ x.cell? ⟨wr.heap.size, 7, none⟩ = some (.int .i64 ms) ∧ x.cell? ⟨wr.heap.size, 8, none⟩ = some (.slice a9 n9 c9)) := fun x hx => ⟨(Below.cell hx (p := ⟨wr.heap.size, 0, none⟩) hWs).trans q0, (Below.cell hx (p := ⟨wr.heap.size, 1, none⟩) hWs).trans q1, (Below.cell hx (p := ⟨wr.heap.size, 2, none⟩) hWs).trans q2, (Below.cell hx (p := ⟨wr.heap.size, 3, none⟩) hWs).trans q3, (Below.cell hx (p := ⟨wr.heap.size, 4, none⟩) hWs).trans q4, (Below.cell hx (p := ⟨wr.heap.size, 5, none⟩) hWs).trans q5, (Below.cell hx (p := ⟨wr.heap.size, 6, none⟩) hWs).trans q6, (Below.cell hx (p := ⟨wr.heap.size, 7, none⟩) hWs).trans q7, (Below.cell hx (p := ⟨wr.heap.size, 8, none⟩) hWs).trans q8⟩
     have BD : Hid (Below W.heap.size W W.drew) := Below.drew (Below.refl _ _)
     clear q0 q1 q2 q3 q4 q5 q6 q7 q8 p1
     refine wp_region_held_drew (S := fun x => x.cell? ⟨wr.heap.size, 0, none⟩ = some (.string nm) ∧ x.cell? ⟨wr.heap.size, 1, none⟩ = some (.int .i64 mk) ∧ x.cell? ⟨wr.heap.size, 2, none⟩ = some (.int .i64 mn) ∧ x.cell? ⟨wr.heap.size, 3, none⟩ = some (.int .i64 mt.c) ∧ x.cell? ⟨wr.heap.size, 4, none⟩ = some (.int .i64 mt.h) ∧ x.cell? ⟨wr.heap.size, 5, none⟩ = some (.string mt.s) ∧ x.cell? ⟨wr.heap.size, 6, none⟩ = some (.slice a n0 c) ∧ x.cell? ⟨wr.heap.size, 7, none⟩ = some (.int .i64 ms) ∧ x.cell? ⟨wr.heap.size, 8, none⟩ = some (.slice a9 n9 c9)) (by kernel_rfl) (Q _ BD) (fun hS => ?_)
     refine wpAnyH_take (i := 0) (v := .pointer (some ⟨wr.heap.size, 0, none⟩)) rfl (by kernel_rfl) (by kernel_rfl) (by kernel_rfl) (fun _ _ _ h => h) (Or.inl ⟨by rfl, fun wx hx => by go_simp⟩) hS ?_
     try simp only [Act.put, List.setIfInBounds_toArray, List.set_cons_zero, List.set_cons_succ]
     refine wpAnyH_take (i := 1) (v := .string nm) rfl (by kernel_rfl) (by kernel_rfl) (by kernel_rfl) (fun _ _ _ h => h) (Or.inl ⟨by first | go_simp | rfl, fun wx hx => by obtain ⟨e0, e1, e2, e3, e4, e5, e6, e7, e8⟩ := hx; go_simp⟩) hS ?_
     try simp only [Act.put, List.setIfInBounds_toArray, List.set_cons_zero, List.set_cons_succ]
     refine wpAnyH_take (i := 2) (v := .int .i64 ns) rfl (by kernel_rfl) (by kernel_rfl) (by kernel_rfl) (fun _ _ _ h => h) (Or.inl ⟨by rfl, fun wx hx => by go_simp⟩) hS ?_
     try simp only [Act.put, List.setIfInBounds_toArray, List.set_cons_zero, List.set_cons_succ]
     refine wpAnyH_take (i := 3) (v := .bool false) rfl (by kernel_rfl) (by kernel_rfl) (by kernel_rfl) (fun _ _ _ h => h) (Or.inl ⟨by rfl, fun wx hx => by go_simp⟩) hS ?_
     try simp only [Act.put, List.setIfInBounds_toArray, List.set_cons_zero, List.set_cons_succ]
     refine wpAnyH_take (i := 4) (v := .bool false) rfl (by kernel_rfl) (by kernel_rfl) (by kernel_rfl) (fun _ _ _ h => h) (Or.inl ⟨by rfl, fun wx hx => by go_simp⟩) hS ?_
     try simp only [Act.put, List.setIfInBounds_toArray, List.set_cons_zero, List.set_cons_succ]
     refine wpAnyH_take (i := 5) (v := .int .i64 ki) rfl (by kernel_rfl) (by kernel_rfl) (by kernel_rfl) (fun _ _ _ h => h) (Or.inl ⟨by first | go_simp | rfl, fun wx hx => by go_simp⟩) hS ?_
     try simp only [Act.put, List.setIfInBounds_toArray, List.set_cons_zero, List.set_cons_succ]
     refine wpAnyH_take (i := 6) (v := .bool false) rfl (by kernel_rfl) (by kernel_rfl) (by kernel_rfl) (fun _ _ _ h => h) (Or.inl ⟨by first | go_simp | rfl, fun wx hx => by go_simp⟩) hS ?_
     try simp only [Act.put, List.setIfInBounds_toArray, List.set_cons_zero, List.set_cons_succ]
     refine wpAnyH_take (i := 7) (v := .bool false) rfl (by kernel_rfl) (by kernel_rfl) (by kernel_rfl) (fun _ _ _ h => h) (Or.inl ⟨by first | go_simp | rfl, fun wx hx => by go_simp⟩) hS ?_
     try simp only [Act.put, List.setIfInBounds_toArray, List.set_cons_zero, List.set_cons_succ]
     refine wpAnyH_take (i := 8) (v := undef) rfl (by kernel_rfl) (by kernel_rfl) (by kernel_rfl) (fun _ _ _ h => h) (Or.inr ⟨by go_simp, rfl⟩) hS ?_
     try simp only [Act.put, List.setIfInBounds_toArray, List.set_cons_zero, List.set_cons_succ]
     refine wpAnyH_take (i := 9) (v := undef) rfl (by kernel_rfl) (by kernel_rfl) (by kernel_rfl) (fun _ _ _ h => h) (Or.inr ⟨by go_simp, rfl⟩) hS ?_
     try simp only [Act.put, List.setIfInBounds_toArray, List.set_cons_zero, List.set_cons_succ]
     refine wpAnyH_take (i := 10) (v := undef) rfl (by kernel_rfl) (by kernel_rfl) (by kernel_rfl) (fun _ _ _ h => h) (Or.inr ⟨by go_simp, rfl⟩) hS ?_
     try simp only [Act.put, List.setIfInBounds_toArray, List.set_cons_zero, List.set_cons_succ]
     refine wpAnyH_take (i := 11) (v := undef) rfl (by kernel_rfl) (by kernel_rfl) (by kernel_rfl) (fun _ _ _ h => h) (Or.inr ⟨by go_simp, rfl⟩) hS ?_
     try simp only [Act.put, List.setIfInBounds_toArray, List.set_cons_zero, List.set_cons_succ]
     refine wpAnyH_take (i := 12) (v := undef) rfl (by kernel_rfl) (by kernel_rfl) (by kernel_rfl) (fun _ _ _ h => h) (Or.inr ⟨by go_simp, rfl⟩) hS ?_
     try simp only [Act.put, List.setIfInBounds_toArray, List.set_cons_zero, List.set_cons_succ]
     refine wpAnyH_take (i := 13) (v := undef) rfl (by kernel_rfl) (by kernel_rfl) (by kernel_rfl) (fun _ _ _ h => h) (Or.inr ⟨by go_simp, rfl⟩) hS ?_
     try simp only [Act.put, List.setIfInBounds_toArray, List.set_cons_zero, List.set_cons_succ]
     refine wpAnyH_take (i := 14) (v := undef) rfl (by kernel_rfl) (by kernel_rfl) (by kernel_rfl) (fun _ _ _ h => h) (Or.inr ⟨by go_simp, rfl⟩) hS ?_
     try simp only [Act.put, List.setIfInBounds_toArray, List.set_cons_zero, List.set_cons_succ]
     refine wpAnyH_take (i := 15) (v := undef) rfl (by kernel_rfl) (by kernel_rfl) (by kernel_rfl) (fun _ _ _ h => h) (Or.inr ⟨by go_simp, rfl⟩) hS ?_
     try simp only [Act.put, List.setIfInBounds_toArray, List.set_cons_zero, List.set_cons_succ]
     refine wpAnyH_take (i := 16) (v := undef) rfl (by kernel_rfl) (by kernel_rfl) (by kernel_rfl) (fun _ _ _ h => h) (Or.inr ⟨by go_simp, rfl⟩) hS ?_
     try simp only [Act.put, List.setIfInBounds_toArray, List.set_cons_zero, List.set_cons_succ]
     refine wpAnyH_take (i := 17) (v := undef) rfl (by kernel_rfl) (by kernel_rfl) (by kernel_rfl) (fun _ _ _ h => h) (Or.inr ⟨by go_simp, rfl⟩) hS ?_
     try simp only [Act.put, List.setIfInBounds_toArray, List.set_cons_zero, List.set_cons_succ]
     refine wpAnyH_take (i := 18) (v := .bool false) rfl (by kernel_rfl) (by kernel_rfl) (by kernel_rfl) (fun _ _ _ h => h) (Or.inl ⟨by first | go_simp | rfl, fun wx hx => by go_simp⟩) hS ?_
     try simp only [Act.put, List.setIfInBounds_toArray, List.set_cons_zero, List.set_cons_succ]
     refine wpAnyH_take (i := 19) (v := .bool false) rfl (by kernel_rfl) (by kernel_rfl) (by kernel_rfl) (fun _ _ _ h => h) (Or.inl ⟨by first | go_simp | rfl, fun wx hx => by go_simp⟩) hS ?_
     try simp only [Act.put, List.setIfInBounds_toArray, List.set_cons_zero, List.set_cons_succ]
     refine wpAnyH_take (i := 20) (v := .bool false) rfl (by kernel_rfl) (by kernel_rfl) (by kernel_rfl) (fun _ _ _ h => h) (Or.inl ⟨by first | go_simp | rfl, fun wx hx => by go_simp⟩) hS ?_
     try simp only [Act.put, List.setIfInBounds_toArray, List.set_cons_zero, List.set_cons_succ]
     refine wpAnyH_take (i := 21) (v := .pointer (some ⟨wr.heap.size, 1, none⟩)) rfl (by kernel_rfl) (by kernel_rfl) (by kernel_rfl) (fun _ _ _ h => h) (Or.inl ⟨by first | go_simp | rfl, fun wx hx => by go_simp⟩) hS ?_
     try simp only [Act.put, List.setIfInBounds_toArray, List.set_cons_zero, List.set_cons_succ]
     refine wpAnyH_take (i := 22) (v := .pointer (some ⟨wr.heap.size, 1, none⟩)) rfl (by kernel_rfl) (by kernel_rfl) (by kernel_rfl) (fun _ _ _ h => h) (Or.inl ⟨by first | go_simp | rfl, fun wx hx => by go_simp⟩) hS ?_
     try simp only [Act.put, List.setIfInBounds_toArray, List.set_cons_zero, List.set_cons_succ]
     refine wpAnyH_take (i := 23) (v := .int .i64 mk) rfl (by kernel_rfl) (by kernel_rfl) (by kernel_rfl) (fun _ _ _ h => h) (Or.inl ⟨by first | go_simp | rfl, fun wx hx => by obtain ⟨e0, e1, e2, e3, e4, e5, e6, e7, e8⟩ := hx; go_simp⟩) hS ?_
     try simp only [Act.put, List.setIfInBounds_toArray, List.set_cons_zero, List.set_cons_succ]
     refine wpAnyH_take (i := 24) (v := .bool false) rfl (by kernel_rfl) (by kernel_rfl) (by kernel_rfl) (fun _ _ _ h => h) (Or.inl ⟨by first | go_simp | rfl, fun wx hx => by go_simp⟩) hS ?_
     try simp only [Act.put, List.setIfInBounds_toArray, List.set_cons_zero, List.set_cons_succ]
     refine wpAnyH_take (i := 25) (v := .bool false) rfl (by kernel_rfl) (by kernel_rfl) (by kernel_rfl) (fun _ _ _ h => h) (Or.inl ⟨by first | go_simp | rfl, fun wx hx => by go_simp⟩) hS ?_
     try simp only [Act.put, List.setIfInBounds_toArray, List.set_cons_zero, List.set_cons_succ]
     refine wpAnyH_take (i := 26) (v := .bool false) rfl (by kernel_rfl) (by kernel_rfl) (by kernel_rfl) (fun _ _ _ h => h) (Or.inl ⟨by first | go_simp | rfl, fun wx hx => by go_simp⟩) hS ?_
     try simp only [Act.put, List.setIfInBounds_toArray, List.set_cons_zero, List.set_cons_succ]
     refine wpAnyH_take (i := 27) (v := .pointer (some ⟨wr.heap.size, 1, none⟩)) rfl (by kernel_rfl) (by kernel_rfl) (by kernel_rfl) (fun _ _ _ h => h) (Or.inl ⟨by first | go_simp | rfl, fun wx hx => by go_simp⟩) hS ?_
     try simp only [Act.put, List.setIfInBounds_toArray, List.set_cons_zero, List.set_cons_succ]
     refine wpAnyH_take (i := 28) (v := .agg #[.int .i64 mk, .int .i64 mn, .int .i64 mt.c, .int .i64 mt.h, .string mt.s, .slice a n0 c, .int .i64 ms, .slice a9 n9 c9]) rfl (by kernel_rfl) (by kernel_rfl) (by kernel_rfl) (fun _ _ _ h => h) (Or.inl ⟨by first | go_simp | rfl, fun wx hx => by obtain ⟨e0, e1, e2, e3, e4, e5, e6, e7, e8⟩ := hx; go_simp⟩) hS ?_
     try simp only [Act.put, List.setIfInBounds_toArray, List.set_cons_zero, List.set_cons_succ]
     refine wpAnyH_ready (rs := [29]) (by kernel_rfl) (by simp) ?_
     refine AllReadyH.cons rfl (fun K hK => ?_) AllReadyH.nil
     rw [if_pos (by go_simp)]
     go_wp2_with (go_at_call 60; refine (CB _ BW.2.1).mono ?_; rintro e w2 ⟨rfl, hb1⟩; have hb3 : Hid (Below W.heap.size W w2) := below_more BD hb1 (Below.size BD); have B2 : Hid (Below w.heap.size w w2 ∧ Below U.heap.size U w2) := ⟨below_more BW.1 hb1 (Below.size BW.1), below_more BW.2.2 hb1 (Below.size BW.2.2)⟩; clear hb1)
     refine hK.out _ _ (Q _ ‹Hid (Below W.heap.size W w2)›) (fun hS3 => ?_)
     try simp only [Act.put, List.setIfInBounds_toArray, List.set_cons_zero, List.set_cons_succ]
     refine wpAnyH_take (i := 30) (v := .bool (!bb)) rfl (by kernel_rfl) (by kernel_rfl) (by kernel_rfl) (fun _ _ _ h => h) (Or.inl ⟨by first | go_simp | rfl, fun wx hx => by go_simp⟩) hS3 ?_
     try simp only [Act.put, List.setIfInBounds_toArray, List.set_cons_zero, List.set_cons_succ]
     refine wpAnyH_take (i := 31) (v := .bool (!bb)) rfl (by kernel_rfl) (by kernel_rfl) (by kernel_rfl) (fun _ _ _ h => h) (Or.inl ⟨by first | go_simp | rfl, fun wx hx => by go_simp⟩) hS3 ?_
     try simp only [Act.put, List.setIfInBounds_toArray, List.set_cons_zero, List.set_cons_succ]
     refine wpAnyH_done (by kernel_rfl) ?_ _
     clear hS hS3 hK
     obtain rfl : ki = (k : Int) := HKI
     clear hkz
     cases bb
     ·have hd : ans = false := DEAD HAT
      go_wp2
      go_ret
      exact ⟨by first | rfl | (rw [hd]; rfl), B2.1⟩
     ·go_wp2
      go_roundw
      case rel =>
       refine ⟨k + 1, by omega, by go_num, fun i hi => ?_, B2.2⟩
       by_cases hik : i = k
       ·subst hik; exact HAT
       ·exact HM i (by omega)
      case measure => simp [intOf]; omega
   ·have hki0 : (0 : Int) < (k : Int) := by omega
    have hk1 : 0 < k := by omega
    have hk9 : (k : Int) - 1 = (j : Int) := by omega
    have hj0 : (j : Int) < (n1 : Int) := by omega
    have hjn : j < n1 := by omega
    clear hj
    cases hlt : Op.bytesLess ynm.toList nm.toList
    ·have hd : ans = false := DEAD (by rw [show bdAt x.binds k = _ from AT, hlt]; simp [hk0])
     go_wp2
     obtain ⟨W, hW⟩ : ∃ W, W = wr.alloc (.cells #[.string nm, .int .i64 mk, .int .i64 mn, .int .i64 mt.c, .int .i64 mt.h, .string mt.s, .slice a n0 c, .int .i64 ms, .slice a9 n9 c9] 58) := ⟨_, rfl⟩
     rw [← hW]
     have q0 : W.cell? ⟨wr.heap.size, 0, none⟩ = some (.string nm) := by rw [hW]; simp [go_sem]
     have q1 : W.cell? ⟨wr.heap.size, 1, none⟩ = some (.int .i64 mk) := by rw [hW]; simp [go_sem]
     have q2 : W.cell? ⟨wr.heap.size, 2, none⟩ = some (.int .i64 mn) := by rw [hW]; simp [go_sem]
     have q3 : W.cell? ⟨wr.heap.size, 3, none⟩ = some (.int .i64 mt.c) := by rw [hW]; simp [go_sem]
     have q4 : W.cell? ⟨wr.heap.size, 4, none⟩ = some (.int .i64 mt.h) := by rw [hW]; simp [go_sem]
     have q5 : W.cell? ⟨wr.heap.size, 5, none⟩ = some (.string mt.s) := by rw [hW]; simp [go_sem]
     have q6 : W.cell? ⟨wr.heap.size, 6, none⟩ = some (.slice a n0 c) := by rw [hW]; simp [go_sem]
     have q7 : W.cell? ⟨wr.heap.size, 7, none⟩ = some (.int .i64 ms) := by rw [hW]; simp [go_sem]
     have q8 : W.cell? ⟨wr.heap.size, 8, none⟩ = some (.slice a9 n9 c9) := by rw [hW]; simp [go_sem]
     have f1 : W.cell? ⟨b, off + j * 9, none⟩ = some (.string ynm) := by rw [hW]; exact (Below.cell (below1 _ _) (p := ⟨b, off + j * 9, none⟩) hbw).trans f0
     have p1 : W.cell? ⟨w.heap.size, 1, none⟩ = some (.slice (some ⟨b, off, none⟩) n1 c1) := by rw [hW]; exact (Below.cell (below1 _ _) (p := ⟨w.heap.size, 1, none⟩) hzr).trans k1
     have hWs : wr.heap.size < W.heap.size := by rw [hW]; simp
     have hWz : w.heap.size < W.heap.size := by omega
     have BW : Hid (Below w.heap.size w W.drew ∧ Below wr.heap.size wr W.drew ∧ Below U.heap.size U W.drew) := by rw [hW]; exact ⟨Below.drew (BA _), Below.drew (below1 _ _), Below.drew (BU _)⟩
     clear hW g0 g1 g2 g3 g4 g5 g6 g7 g8 k1 f0
     go_region
     all_goals
      go_wp2
      go_ret
      exact ⟨by first | rfl | (rw [hd]; rfl), BW.1⟩
    ·by_cases hmk : mk = 0
     ·have hd : ans = false := DEAD (by rw [show bdAt x.binds k = _ from AT]; simp [hmk])
      subst hmk
      go_wp2
      obtain ⟨W, hW⟩ : ∃ W, W = wr.alloc (.cells #[.string nm, .int .i64 0, .int .i64 mn, .int .i64 mt.c, .int .i64 mt.h, .string mt.s, .slice a n0 c, .int .i64 ms, .slice a9 n9 c9] 58) := ⟨_, rfl⟩
      rw [← hW]
      have q0 : W.cell? ⟨wr.heap.size, 0, none⟩ = some (.string nm) := by rw [hW]; simp [go_sem]
      have q1 : W.cell? ⟨wr.heap.size, 1, none⟩ = some (.int .i64 0) := by rw [hW]; simp [go_sem]
      have q2 : W.cell? ⟨wr.heap.size, 2, none⟩ = some (.int .i64 mn) := by rw [hW]; simp [go_sem]
      have q3 : W.cell? ⟨wr.heap.size, 3, none⟩ = some (.int .i64 mt.c) := by rw [hW]; simp [go_sem]
      have q4 : W.cell? ⟨wr.heap.size, 4, none⟩ = some (.int .i64 mt.h) := by rw [hW]; simp [go_sem]
      have q5 : W.cell? ⟨wr.heap.size, 5, none⟩ = some (.string mt.s) := by rw [hW]; simp [go_sem]
      have q6 : W.cell? ⟨wr.heap.size, 6, none⟩ = some (.slice a n0 c) := by rw [hW]; simp [go_sem]
      have q7 : W.cell? ⟨wr.heap.size, 7, none⟩ = some (.int .i64 ms) := by rw [hW]; simp [go_sem]
      have q8 : W.cell? ⟨wr.heap.size, 8, none⟩ = some (.slice a9 n9 c9) := by rw [hW]; simp [go_sem]
      have f1 : W.cell? ⟨b, off + j * 9, none⟩ = some (.string ynm) := by rw [hW]; exact (Below.cell (below1 _ _) (p := ⟨b, off + j * 9, none⟩) hbw).trans f0
      have p1 : W.cell? ⟨w.heap.size, 1, none⟩ = some (.slice (some ⟨b, off, none⟩) n1 c1) := by rw [hW]; exact (Below.cell (below1 _ _) (p := ⟨w.heap.size, 1, none⟩) hzr).trans k1
      have hWs : wr.heap.size < W.heap.size := by rw [hW]; simp
      have hWz : w.heap.size < W.heap.size := by omega
      have BW : Hid (Below w.heap.size w W.drew ∧ Below wr.heap.size wr W.drew ∧ Below U.heap.size U W.drew) := by rw [hW]; exact ⟨Below.drew (BA _), Below.drew (below1 _ _), Below.drew (BU _)⟩
      clear hW g0 g1 g2 g3 g4 g5 g6 g7 g8 k1 f0
      go_region
      all_goals
       go_wp2
       go_ret
       exact ⟨by first | rfl | (rw [hd]; rfl), BW.1⟩
     ·have hat : bdAt x.binds k = bb := by rw [show bdAt x.binds k = _ from AT, hlt, decide_eq_true (show nm.size ≤ 40 from H40), decide_eq_true (show mk ≠ 0 from hmk)]; simp only [Bool.true_or, Bool.or_true, Bool.true_and]
      have HAT : Hid (bdAt x.binds k = bb) := hat
      clear hat
      have hmk2 : (mk == 0) = false := by simp [hmk]
      go_wp2
      obtain ⟨W, hW⟩ : ∃ W, W = wr.alloc (.cells #[.string nm, .int .i64 mk, .int .i64 mn, .int .i64 mt.c, .int .i64 mt.h, .string mt.s, .slice a n0 c, .int .i64 ms, .slice a9 n9 c9] 58) := ⟨_, rfl⟩
      rw [← hW]
      have q0 : W.cell? ⟨wr.heap.size, 0, none⟩ = some (.string nm) := by rw [hW]; simp [go_sem]
      have q1 : W.cell? ⟨wr.heap.size, 1, none⟩ = some (.int .i64 mk) := by rw [hW]; simp [go_sem]
      have q2 : W.cell? ⟨wr.heap.size, 2, none⟩ = some (.int .i64 mn) := by rw [hW]; simp [go_sem]
      have q3 : W.cell? ⟨wr.heap.size, 3, none⟩ = some (.int .i64 mt.c) := by rw [hW]; simp [go_sem]
      have q4 : W.cell? ⟨wr.heap.size, 4, none⟩ = some (.int .i64 mt.h) := by rw [hW]; simp [go_sem]
      have q5 : W.cell? ⟨wr.heap.size, 5, none⟩ = some (.string mt.s) := by rw [hW]; simp [go_sem]
      have q6 : W.cell? ⟨wr.heap.size, 6, none⟩ = some (.slice a n0 c) := by rw [hW]; simp [go_sem]
      have q7 : W.cell? ⟨wr.heap.size, 7, none⟩ = some (.int .i64 ms) := by rw [hW]; simp [go_sem]
      have q8 : W.cell? ⟨wr.heap.size, 8, none⟩ = some (.slice a9 n9 c9) := by rw [hW]; simp [go_sem]
      have f1 : W.cell? ⟨b, off + j * 9, none⟩ = some (.string ynm) := by rw [hW]; exact (Below.cell (below1 _ _) (p := ⟨b, off + j * 9, none⟩) hbw).trans f0
      have p1 : W.cell? ⟨w.heap.size, 1, none⟩ = some (.slice (some ⟨b, off, none⟩) n1 c1) := by rw [hW]; exact (Below.cell (below1 _ _) (p := ⟨w.heap.size, 1, none⟩) hzr).trans k1
      have hWs : wr.heap.size < W.heap.size := by rw [hW]; simp
      have hWz : w.heap.size < W.heap.size := by omega
      have BW : Hid (Below w.heap.size w W.drew ∧ Below wr.heap.size wr W.drew ∧ Below U.heap.size U W.drew) := by rw [hW]; exact ⟨Below.drew (BA _), Below.drew (below1 _ _), Below.drew (BU _)⟩
      clear hW g0 g1 g2 g3 g4 g5 g6 g7 g8 k1 f0
      have hw : IntKind.i64.wrap (j : Int) = (j : Int) := by rw [IntKind.wrap_i64]; omega
      have hbW : b < W.heap.size := by omega
      have Q : Hid (∀ x : World, Below W.heap.size W x → x.cell? ⟨b, off + j * 9, none⟩ = some (.string ynm) ∧ x.cell? ⟨w.heap.size, 1, none⟩ = some (.slice (some ⟨b, off, none⟩) n1 c1) ∧ x.cell? ⟨wr.heap.size, 0, none⟩ = some (.string nm) ∧ x.cell? ⟨wr.heap.size, 1, none⟩ = some (.int .i64 mk) ∧ x.cell? ⟨wr.heap.size, 2, none⟩ = some (.int .i64 mn) ∧ x.cell? ⟨wr.heap.size, 3, none⟩ = some (.int .i64 mt.c) ∧ x.cell? ⟨wr.heap.size, 4, none⟩ = some (.int .i64 mt.h) ∧ x.cell? ⟨wr.heap.size, 5, none⟩ = some (.string mt.s) ∧ x.cell? ⟨wr.heap.size, 6, none⟩ = some (.slice a n0 c) ∧ x.cell? ⟨wr.heap.size, 7, none⟩ = some (.int .i64 ms) ∧ x.cell? ⟨wr.heap.size, 8, none⟩ = some (.slice a9 n9 c9)) := fun x hx => ⟨(Below.cell hx (p := ⟨b, off + j * 9, none⟩) hbW).trans f1, (Below.cell hx (p := ⟨w.heap.size, 1, none⟩) hWz).trans p1, (Below.cell hx (p := ⟨wr.heap.size, 0, none⟩) hWs).trans q0, (Below.cell hx (p := ⟨wr.heap.size, 1, none⟩) hWs).trans q1, (Below.cell hx (p := ⟨wr.heap.size, 2, none⟩) hWs).trans q2, (Below.cell hx (p := ⟨wr.heap.size, 3, none⟩) hWs).trans q3, (Below.cell hx (p := ⟨wr.heap.size, 4, none⟩) hWs).trans q4, (Below.cell hx (p := ⟨wr.heap.size, 5, none⟩) hWs).trans q5, (Below.cell hx (p := ⟨wr.heap.size, 6, none⟩) hWs).trans q6, (Below.cell hx (p := ⟨wr.heap.size, 7, none⟩) hWs).trans q7, (Below.cell hx (p := ⟨wr.heap.size, 8, none⟩) hWs).trans q8⟩
      have BD : Hid (Below W.heap.size W W.drew) := Below.drew (Below.refl _ _)
      go_region_held3 (fun x => x.cell? ⟨b, off + j * 9, none⟩ = some (.string ynm) ∧ x.cell? ⟨w.heap.size, 1, none⟩ = some (.slice (some ⟨b, off, none⟩) n1 c1) ∧ x.cell? ⟨wr.heap.size, 0, none⟩ = some (.string nm) ∧ x.cell? ⟨wr.heap.size, 1, none⟩ = some (.int .i64 mk) ∧ x.cell? ⟨wr.heap.size, 2, none⟩ = some (.int .i64 mn) ∧ x.cell? ⟨wr.heap.size, 3, none⟩ = some (.int .i64 mt.c) ∧ x.cell? ⟨wr.heap.size, 4, none⟩ = some (.int .i64 mt.h) ∧ x.cell? ⟨wr.heap.size, 5, none⟩ = some (.string mt.s) ∧ x.cell? ⟨wr.heap.size, 6, none⟩ = some (.slice a n0 c) ∧ x.cell? ⟨wr.heap.size, 7, none⟩ = some (.int .i64 ms) ∧ x.cell? ⟨wr.heap.size, 8, none⟩ = some (.slice a9 n9 c9)) (first | exact Q _ BD | exact Q _ ‹Hid (Below W.heap.size W w2)›) ((go_at_call 60; refine (CB _ BW.2.1).mono ?_; rintro e w2 ⟨rfl, hb1⟩; have hb3 : Hid (Below W.heap.size W w2) := below_more BD hb1 (Below.size BD); have B2 : Hid (Below w.heap.size w w2 ∧ Below U.heap.size U w2) := ⟨below_more BW.1 hb1 (Below.size BW.1), below_more BW.2.2 hb1 (Below.size BW.2.2)⟩; clear hb1))
      all_goals
       clear hw
       cases bb
       ·have hd : ans = false := DEAD HAT
        go_wp2
        go_ret
        exact ⟨by first | rfl | (rw [hd]; rfl), B2.1⟩
       ·go_wp2
        go_roundw
        case rel =>
         refine ⟨k + 1, by omega, by go_num, fun i hi => ?_, B2.2⟩
         by_cases hik : i = k
         ·subst hik; exact HAT
         ·exact HM i (by omega)
        case measure => simp [intOf]; omega
  ·have hki : ¬ (k : Int) < (n1 : Int) := by omega
   obtain rfl : k = n1 := by omega
   clear k0 k2 k3 k4 k5
   have hxx : Six 0 w (.slice a0 n0 c0) (.slice a1 k c1) (.slice a2 n2 c2) (.slice a3 n3 c3) (.slice a4 n4 c4) (.slice a5 n5 c5) x := HX
   obtain ⟨b2, o2, rfl, hb2, hl2, hr2⟩ := Row.at hxx.h2.1 (by omega)
   obtain ⟨b3, o3, rfl, hb3, hl3, hr3⟩ := Row.at hxx.h3.1 (by omega)
   obtain ⟨b4, o4, rfl, hb4, hl4, hr4⟩ := GRow.at hxx.h4.1 (by omega)
   obtain ⟨b5, o5, rfl, hb5, hl5, hr5⟩ := TsRow.at hxx.h5 (by omega)
   have hn2 : n2 = 32 := by omega
   have hn3 : n3 = 32 := by omega
   have hn4 : n4 = 32 := by omega
   have hn5 : n5 = 32 := by omega
   have hbin : bindsB x.binds = true := by
    have hl : x.binds.length = k := HL
    exact binds_yes (by omega) (fun i hi => HM i (by omega))
   have HLs : Hid (x.counts.length = 32 ∧ x.lens.length = 32 ∧ x.glues.length = 32 ∧ x.toks.length = 32 ∧ bindsB x.binds = true) := ⟨by omega, by omega, by omega, by omega, hbin⟩
   have HR2 : Hid (∀ i, i < 32 → w.cell? ⟨b2, o2 + i, none⟩ = some (.int .i64 (x.counts.getD i 0))) := fun i hi => hr2 i (by omega)
   have HR3 : Hid (∀ i, i < 32 → w.cell? ⟨b3, o3 + i, none⟩ = some (.int .i64 (x.lens.getD i 0))) := fun i hi => hr3 i (by omega)
   have HR4 : Hid (∀ i, i < 32 → GlAt w b4 o4 i (x.glues.getD i Gl.none)) := fun i hi => hr4 i (by omega)
   have HR5 : Hid (∀ i, i < 32 → ∃ a n c, w.cell? ⟨b5, o5 + i, none⟩ = some (.slice a n c) ∧ TRow w (.slice a n c) (x.toks.getD i [])) := fun i hi => hr5 i (by omega)
   clear hr2 hr3 hr4 hr5 hl2 hl3 hl4 hl5 hbin hn2 hn3 hn4 hn5 hxx HR HM HB BU BA
   go_wp2
   clear k1 hzr
   go_loopw [5] (fun i wx => ∃ m : Nat, m ≤ 32 ∧ i = .int .i64 m ∧ Hid (∀ i, i < m → cntB (x.counts.getD i 0) = true ∧ fitsB (x.lens.getD i 0) = true ∧ glB (x.glues.getD i Gl.none) = true ∧ tsB (x.toks.getD i []) = true) ∧ Below U.heap.size U wx) (fun i _ => 32 - (intOf i).toNat)
   case atStart => exact ⟨0, by omega, rfl, fun i hi => absurd hi (by omega), HBU⟩
   case round =>
    obtain ⟨m, hm, rfl, HM, hbel⟩ := hrel
    have HB : Hid (Below w.heap.size w wr) := below_more BU0 hbel (Below.size BU0)
    obtain ⟨hzr, k0, k1, k2, k3, k4, k5⟩ := Cells6.below KU hbel
    have HBU2 : Hid (Below U.heap.size U wr) := hbel
    clear hbel HBU k0 k1
    by_cases hm32 : m < 32
    ·have hmi : (m : Int) < 32 := by omega
     obtain ⟨z1, hz1⟩ : ∃ z, z = x.counts.getD m 0 := ⟨_, rfl⟩
     obtain ⟨z2, hz2⟩ : ∃ z, z = x.lens.getD m 0 := ⟨_, rfl⟩
     obtain ⟨g, hg⟩ : ∃ z, z = x.glues.getD m Gl.none := ⟨_, rfl⟩
     obtain ⟨ts, hts⟩ : ∃ z, z = x.toks.getD m [] := ⟨_, rfl⟩
     have p2 : wr.cell? ⟨b2, o2 + m, none⟩ = some (.int .i64 z1) := by rw [hz1]; exact (Below.cell HB (p := ⟨b2, o2 + m, none⟩) hb2).trans (HR2 m hm32)
     have p3 : wr.cell? ⟨b3, o3 + m, none⟩ = some (.int .i64 z2) := by rw [hz2]; exact (Below.cell HB (p := ⟨b3, o3 + m, none⟩) hb3).trans (HR3 m hm32)
     obtain ⟨gs, gp, gpo, gm, gmo⟩ := g
     obtain ⟨r0, r1, r2, r3, r4⟩ := HR4 m hm32
     rw [← hg] at r0 r1 r2 r3 r4
     have g0 : wr.cell? ⟨b4, o4 + m * 5, none⟩ = some (.int .i64 gs) := (Below.cell HB (p := ⟨b4, o4 + m * 5, none⟩) hb4).trans r0
     have g1 : wr.cell? ⟨b4, o4 + m * 5 + 1, none⟩ = some (.int .i64 gp) := (Below.cell HB (p := ⟨b4, o4 + m * 5 + 1, none⟩) hb4).trans r1
     have g2 : wr.cell? ⟨b4, o4 + m * 5 + 2, none⟩ = some (.int .i64 gpo) := (Below.cell HB (p := ⟨b4, o4 + m * 5 + 2, none⟩) hb4).trans r2
     have g3 : wr.cell? ⟨b4, o4 + m * 5 + 3, none⟩ = some (.int .i64 gm) := (Below.cell HB (p := ⟨b4, o4 + m * 5 + 3, none⟩) hb4).trans r3
     have g4 : wr.cell? ⟨b4, o4 + m * 5 + 4, none⟩ = some (.int .i64 gmo) := (Below.cell HB (p := ⟨b4, o4 + m * 5 + 4, none⟩) hb4).trans r4
     obtain ⟨ta, tn, tc, s0, srow⟩ := HR5 m hm32
     rw [← hts] at srow
     have p5 : wr.cell? ⟨b5, o5 + m, none⟩ = some (.slice ta tn tc) := (Below.cell HB (p := ⟨b5, o5 + m, none⟩) hb5).trans s0
     have hsm : ts.length ≤ 1048576 := by rw [hts]; exact HS.2.2.2.2.2.2 m (by have := HLs.2.2.2.1; omega)
     obtain ⟨fb, hfb⟩ : ∃ b, b = fitsB z2 := ⟨_, rfl⟩
     obtain ⟨gb, hgb⟩ : ∃ b, b = okB gs gp gpo gm gmo := ⟨_, rfl⟩
     obtain ⟨tb, htb⟩ : ∃ b, b = toksB ts 2000 0 := ⟨_, rfl⟩
     have CF : Hid (∀ W : World, Calls Tryz.prog 61 #[.int .i64 z2] W fun e w' => e = .returned (.bool fb) ∧ w' = W) := by rw [hfb]; exact specFits_any z2
     have CG : Hid (∀ W : World, Calls Tryz.prog 62 #[glueV gs gp gpo gm gmo] W fun e w' => e = .returned (.bool gb) ∧ Below W.heap.size W w') := by rw [hgb]; exact specGlueOk_any gs gp gpo gm gmo
     have CT : Hid (∀ W, Below w.heap.size w W → Calls Tryz.prog 63 #[.slice ta tn tc, .int .i64 2000, .int .i64 0] W fun e w' => e = .returned (.bool tb) ∧ Below W.heap.size W w') := by rw [htb]; intro W hW; exact specToks_any (TRow.below srow hW) hsm
     have DEAD : Hid (¬ (cntB z1 = true ∧ fb = true ∧ gb = true ∧ tb = true) → ans = false) := by
      intro hno
      rw [show ans = levB x from HA.1]
      refine lev_dead (k := m) HLs.1 HLs.2.1 HLs.2.2.1 HLs.2.2.2.1 hm32 (fun h => hno ?_)
      obtain ⟨h1, h2, h3, h4⟩ := h
      rw [← hz1] at h1
      rw [← hz2, ← hfb] at h2
      rw [← hg] at h3
      rw [← hts] at h4
      exact ⟨h1, h2, hgb.trans h3, htb.trans h4⟩
     have LIVE : Hid (cntB z1 = true → fb = true → gb = true → tb = true → cntB (x.counts.getD m 0) = true ∧ fitsB (x.lens.getD m 0) = true ∧ glB (x.glues.getD m Gl.none) = true ∧ tsB (x.toks.getD m []) = true) := by
      intro h1 h2 h3 h4
      rw [← hz1, ← hz2, ← hg, ← hts]
      exact ⟨h1, hfb.symm.trans h2, hgb.symm.trans h3, htb.symm.trans h4⟩
     have hw2 : b2 < wr.heap.size := Nat.lt_of_lt_of_le hb2 (Below.size HB)
     have hw5 : b5 < wr.heap.size := Nat.lt_of_lt_of_le hb5 (Below.size HB)
     clear hz1 hz2 hg hts r0 r1 r2 r3 r4 s0 srow hfb hgb htb hsm
     by_cases hc1 : z1 < -2147483647
     ·have hd : ans = false := DEAD (fun h => by have := h.1; simp [cntB] at this; omega)
      go_wp2
      go_ret
      exact ⟨by first | rfl | (rw [hd]; rfl), HB⟩
     by_cases hc2 : 2147483647 < z1
     ·have hd : ans = false := DEAD (fun h => by have := h.1; simp [cntB] at this; omega)
      go_wp2
      go_ret
      exact ⟨by first | rfl | (rw [hd]; rfl), HB⟩
     have HCN : Hid (cntB z1 = true) := by show cntB z1 = true; simp [cntB]; omega
     cases fb
     ·have hd : ans = false := DEAD (fun h => by cases h.2.1)
      go_wp2_with (go_at_call 61; refine (CF _).mono ?_; rintro e w' ⟨rfl, hw⟩; have hw3 := hw.symm; clear hw; subst hw3)
      go_ret
      exact ⟨by first | rfl | (rw [hd]; rfl), HB⟩
     go_wp2_with (go_at_call 61; refine (CF _).mono ?_; rintro e w' ⟨rfl, hw⟩; have hw3 := hw.symm; clear hw; subst hw3)
     refine (CG _).mono ?_
     rintro e w2 ⟨rfl, hb1⟩
     have hz2 : w.heap.size < w2.heap.size := Nat.lt_of_lt_of_le hzr hb1.size
     have t5 : w2.cell? ⟨w.heap.size, 5, none⟩ = some (.slice (some ⟨b5, o5, none⟩) n5 c5) := (hb1.cell (p := ⟨w.heap.size, 5, none⟩) hzr).trans k5
     have t6 : w2.cell? ⟨b5, o5 + m, none⟩ = some (.slice ta tn tc) := (hb1.cell (p := ⟨b5, o5 + m, none⟩) hw5).trans p5
     have B2 : Hid (Below w.heap.size w w2 ∧ Below U.heap.size U w2) := ⟨below_more HB hb1 (Below.size HB), below_more HBU2 hb1 (Below.size HBU2)⟩
     clear hb1 p2 p3 p5 g0 g1 g2 g3 g4 k2 k3 k4 k5
     cases gb
     ·have hd : ans = false := DEAD (fun h => by cases h.2.2.1)
      go_wp2
      go_ret
      exact ⟨by first | rfl | (rw [hd]; rfl), B2.1⟩
     go_wp2_with fail
     refine (CT _ B2.1).mono ?_
     rintro e w3 ⟨rfl, hb1⟩
     have B3 : Hid (Below w.heap.size w w3 ∧ Below U.heap.size U w3) := ⟨below_more B2.1 hb1 (Below.size B2.1), below_more B2.2 hb1 (Below.size B2.2)⟩
     clear hb1
     cases tb
     ·have hd : ans = false := DEAD (fun h => by cases h.2.2.2)
      go_wp2
      go_ret
      exact ⟨by first | rfl | (rw [hd]; rfl), B3.1⟩
     go_wp2
     go_roundw
     case rel =>
      refine ⟨m + 1, by omega, by go_num, fun i hi => ?_, B3.2⟩
      by_cases him : i = m
      ·subst him; exact LIVE HCN (by first | rfl | trivial) (by first | rfl | trivial) (by first | rfl | trivial)
      ·exact HM i (by omega)
     case measure => simp [intOf]; omega
    ·have hmi : ¬ (m : Int) < 32 := by omega
     have hd : ans = true := by
      rw [show ans = levB x from HA.1]
      exact lev_yes HLs.1 HLs.2.1 HLs.2.2.1 HLs.2.2.2.1 HA.2 HLs.2.2.2.2 (fun i hi => HM i (by omega))
     clear k2 k3 k4 k5
     go_wp2
     go_ret
     exact ⟨by first | rfl | (rw [hd]; rfl), HB⟩
end Go.Proofs.YtbpidcfoldkhgaaGreat
