import Derived.Test.YtlohbaoigfaneaaGreatNdq
import Derived.Test.YtlohbaoigfaneaaGreatSst
import Derived.Deep.RegionWith
import Derived.Deep.RegionHeld3
namespace Go.Proofs.YtlohbaoigfaneaaGreat
open Go.RowKit
set_option linter.unusedVariables false
set_option linter.unusedSimpArgs false
theorem SPart.own {w : World} {g n : Nat} {xs : List Nd} (h : SPart 15 NdR Nd.none 61 w g n n xs) (hn : xs.length = n) (hm : n ≤ 1048576) : w.ownsRow g 61 15 (.slice (some ⟨g, 0, none⟩) n n) n (flatN xs) := by
 obtain ⟨cur, hg, hs, hc⟩ := h
 refine ⟨by rw [flatN_len, hn], .inr ⟨g, n, cur, rfl, Nat.le_refl _, hg, Nat.le_refl _, by unfold maxLen; omega, hs, ?_⟩⟩
 apply List.ext_getElem?
 intro j
 by_cases hj : j < n * 15
 ·rw [List.getElem?_take_of_lt hj, Array.getElem?_toList]
  obtain ⟨cs, _, hR, hcj⟩ := hc (j / 15) (by omega)
  have h1 := hcj (j % 15) (by omega)
  rw [show j / 15 * 15 + j % 15 = j by omega, show cs = _ from hR] at h1
  have h2 := flatN_get xs (j / 15) (by omega) (j % 15) (by omega)
  rw [show j / 15 * 15 + j % 15 = j by omega] at h2
  rw [h1, h2]
 ·rw [List.getElem?_eq_none (by simp; omega), List.getElem?_eq_none (by rw [flatN_len, hn]; omega)]
set_option maxHeartbeats 4000000 in
theorem toNodeS_own {v : Value} {xs : List Nd} {w : World} (h : NRow 0 w v xs) (hs : xs.length ≤ 1048576) :
 Calls Tryz.prog 8 #[v] w fun e w' => e = .returned (.slice (some ⟨w.heap.size, 0, none⟩) xs.length xs.length) ∧ w'.ownsRow w.heap.size 61 15 (.slice (some ⟨w.heap.size, 0, none⟩) xs.length xs.length) xs.length (flatN xs) ∧ Below w.heap.size w w' := by
 obtain ⟨ao, n, cap, rfl, hn, hr⟩ := h
 have hsz : n ≤ 1048576 := by rw [← hn]; exact hs
 have HL : Hid (xs.length = n) := hn
 obtain ⟨i0, hi, hz0, hz1, hz2⟩ := info_parts Tryz.info61
 have HI : Hid (i0.bytes = 128) := hz2
 have HR : Hid (0 < n → ∃ b off, ao = some ⟨b, off, none⟩ ∧ 0 ≤ b ∧ b < w.heap.size ∧ ∀ i, i < n → ∃ cs : List Value, cs.length = 15 ∧ NdR 0 w cs (xs.getD i Nd.none) ∧ ∀ j, j < 15 → w.cell? ⟨b, off + i * 15 + j, none⟩ = cs[j]?) := hr
 clear hr hs hn
 go_enter Tryz.func8, Tryz.ntmps8
 go_wp2_with (first
  | (refine wpList_make_full _ rfl _ _ 31 rfl w.heap.size 61 i0 (ndV Nd.none) 15 Tryz.underlying31 hi hz0 hz1 _ _ _ _ n rfl rfl rfl rfl (by rw [show i0.bytes = 128 from HI]; omega) (by unfold maxLen; omega) (Nat.le_refl _) ?_; intro w1 hown hgrow))
 have hbel : Below w.heap.size w w1 := Below.grown (Below.refl _ _) hgrow (Nat.le_refl _) (by simp)
 have HO : Hid (SPart 15 NdR Nd.none 61 w1 w.heap.size n 0 xs ∧ Below w.heap.size w w1) := by
  refine ⟨?_, hbel⟩
  rcases hown.2 with ⟨h', _⟩ | ⟨g', cap', cur, h', _, hg, _, _, hcs, _⟩
  ·simp at h'
  ·simp only [Value.slice.injEq, Option.some.injEq, Addr.mk.injEq, and_true, true_and] at h'
   obtain ⟨rfl, rfl⟩ := h'
   exact SPart.new hg hcs
 clear hown hgrow hbel
 go_wp2
 go_loopw [4] (fun i wr => ∃ k : Nat, k ≤ n ∧ i = .int .i64 k ∧ SPart 15 NdR Nd.none 61 wr w.heap.size n k xs ∧ Below w.heap.size w wr) (fun i _ => n - (intOf i).toNat)
 case atStart => exact ⟨0, by omega, rfl, HO.1, HO.2⟩
 case round =>
  obtain ⟨k, hk, rfl, hp, hbel⟩ := hrel
  by_cases hkn : k < n
  ·have hki : (k : Int) < (n : Int) := by omega
   obtain ⟨b, off, rfl, hlo, hb, hc⟩ := HR (by omega)
   obtain ⟨cs, hcl, hRel, hcj⟩ := hc k hkn
   obtain ⟨t, ht⟩ : ∃ t, t = xs.getD k Nd.none := ⟨_, rfl⟩
   rw [← ht] at hRel
   have HT : Hid (NdR (w.heap.size + 1) w t.cells (xs.getD k Nd.none)) := hideP (by rw [← ht]; rfl)
   have HC : Hid (∀ W : World, Calls Tryz.prog 28 #[ndV t] W fun r w' => r = .returned (ndV t) ∧ Below W.heap.size W w') := hideP (fun W => toNode_any t W)
   obtain ⟨kd, wd, hh, dp, sh, fo, ch, nn, gs, gp, gpo, gm, gmo, tx, kids⟩ := t
   rw [show cs = _ from hRel] at hcj
   simp only [Nd.cells] at hcj HT
   have g0 : wr.cell? ⟨b, off + k * 15, none⟩ = some (.int .i64 kd) := (hbel.cell (p := ⟨b, off + k * 15, none⟩) hb).trans (hcj 0 (by omega))
   have g1 : wr.cell? ⟨b, off + k * 15 + 1, none⟩ = some (.int .i64 wd) := (hbel.cell (p := ⟨b, off + k * 15 + 1, none⟩) hb).trans (hcj 1 (by omega))
   have g2 : wr.cell? ⟨b, off + k * 15 + 2, none⟩ = some (.int .i64 hh) := (hbel.cell (p := ⟨b, off + k * 15 + 2, none⟩) hb).trans (hcj 2 (by omega))
   have g3 : wr.cell? ⟨b, off + k * 15 + 3, none⟩ = some (.int .i64 dp) := (hbel.cell (p := ⟨b, off + k * 15 + 3, none⟩) hb).trans (hcj 3 (by omega))
   have g4 : wr.cell? ⟨b, off + k * 15 + 4, none⟩ = some (.int .i64 sh) := (hbel.cell (p := ⟨b, off + k * 15 + 4, none⟩) hb).trans (hcj 4 (by omega))
   have g5 : wr.cell? ⟨b, off + k * 15 + 5, none⟩ = some (.int .i64 fo) := (hbel.cell (p := ⟨b, off + k * 15 + 5, none⟩) hb).trans (hcj 5 (by omega))
   have g6 : wr.cell? ⟨b, off + k * 15 + 6, none⟩ = some (.int .i64 ch) := (hbel.cell (p := ⟨b, off + k * 15 + 6, none⟩) hb).trans (hcj 6 (by omega))
   have g7 : wr.cell? ⟨b, off + k * 15 + 7, none⟩ = some (.int .i64 nn) := (hbel.cell (p := ⟨b, off + k * 15 + 7, none⟩) hb).trans (hcj 7 (by omega))
   have g8 : wr.cell? ⟨b, off + k * 15 + 8, none⟩ = some (.int .i64 gs) := (hbel.cell (p := ⟨b, off + k * 15 + 8, none⟩) hb).trans (hcj 8 (by omega))
   have g9 : wr.cell? ⟨b, off + k * 15 + 9, none⟩ = some (.int .i64 gp) := (hbel.cell (p := ⟨b, off + k * 15 + 9, none⟩) hb).trans (hcj 9 (by omega))
   have g10 : wr.cell? ⟨b, off + k * 15 + 10, none⟩ = some (.int .i64 gpo) := (hbel.cell (p := ⟨b, off + k * 15 + 10, none⟩) hb).trans (hcj 10 (by omega))
   have g11 : wr.cell? ⟨b, off + k * 15 + 11, none⟩ = some (.int .i64 gm) := (hbel.cell (p := ⟨b, off + k * 15 + 11, none⟩) hb).trans (hcj 11 (by omega))
   have g12 : wr.cell? ⟨b, off + k * 15 + 12, none⟩ = some (.int .i64 gmo) := (hbel.cell (p := ⟨b, off + k * 15 + 12, none⟩) hb).trans (hcj 12 (by omega))
   have g13 : wr.cell? ⟨b, off + k * 15 + 13, none⟩ = some (.string tx) := (hbel.cell (p := ⟨b, off + k * 15 + 13, none⟩) hb).trans (hcj 13 (by omega))
   have g14 : wr.cell? ⟨b, off + k * 15 + 14, none⟩ = some (.int .i64 kids) := (hbel.cell (p := ⟨b, off + k * 15 + 14, none⟩) hb).trans (hcj 14 (by omega))
   have HB : Hid (Below w.heap.size w wr) := hbel
   have HP : Hid (SPart 15 NdR Nd.none 61 wr w.heap.size n k xs) := hp
   clear hc hcj hcl hbel ht hp hRel
   go_wp2_with (go_at_call 28; refine (HC.out _).mono ?_; rintro e w2 ⟨rfl, hb1⟩; simp only [ndV]; have hp2 := SPart.below ndStable HP hb1; have hfz := hp2.free; obtain ⟨x0, hx0⟩ := hp2.cells (k * 15) (by omega); obtain ⟨x1, hx1⟩ := hp2.cells (k * 15 + 1) (by omega); obtain ⟨x2, hx2⟩ := hp2.cells (k * 15 + 2) (by omega); obtain ⟨x3, hx3⟩ := hp2.cells (k * 15 + 3) (by omega); obtain ⟨x4, hx4⟩ := hp2.cells (k * 15 + 4) (by omega); obtain ⟨x5, hx5⟩ := hp2.cells (k * 15 + 5) (by omega); obtain ⟨x6, hx6⟩ := hp2.cells (k * 15 + 6) (by omega); obtain ⟨x7, hx7⟩ := hp2.cells (k * 15 + 7) (by omega); obtain ⟨x8, hx8⟩ := hp2.cells (k * 15 + 8) (by omega); obtain ⟨x9, hx9⟩ := hp2.cells (k * 15 + 9) (by omega); obtain ⟨x10, hx10⟩ := hp2.cells (k * 15 + 10) (by omega); obtain ⟨x11, hx11⟩ := hp2.cells (k * 15 + 11) (by omega); obtain ⟨x12, hx12⟩ := hp2.cells (k * 15 + 12) (by omega); obtain ⟨x13, hx13⟩ := hp2.cells (k * 15 + 13) (by omega); obtain ⟨x14, hx14⟩ := hp2.cells (k * 15 + 14) (by omega); have hlt2 := hp2.lt; have HP2 : Hid (SPart 15 NdR Nd.none 61 w2 w.heap.size n k xs ∧ Below w.heap.size w w2) := ⟨hp2, below_more HB hb1 (Below.size HB)⟩; clear hp2 hb1)
   go_roundw
   case rel => exact ⟨k + 1, by omega, by go_num, SPart.put ndStable HP2.1 hkn (cs := [.int .i64 kd, .int .i64 wd, .int .i64 hh, .int .i64 dp, .int .i64 sh, .int .i64 fo, .int .i64 ch, .int .i64 nn, .int .i64 gs, .int .i64 gp, .int .i64 gpo, .int .i64 gm, .int .i64 gmo, .string tx, .int .i64 kids]) rfl HT.out, putC_below (Nat.le_refl _) [.int .i64 kd, .int .i64 wd, .int .i64 hh, .int .i64 dp, .int .i64 sh, .int .i64 fo, .int .i64 ch, .int .i64 nn, .int .i64 gs, .int .i64 gp, .int .i64 gpo, .int .i64 gm, .int .i64 gmo, .string tx, .int .i64 kids] (k * 15) _ HP2.2⟩
   case measure => simp [intOf]; omega
  ·have hki : ¬ (k : Int) < (n : Int) := by omega
   obtain rfl : k = n := by omega
   have HP : Hid (SPart 15 NdR Nd.none 61 wr w.heap.size k k xs ∧ Below w.heap.size w wr) := ⟨hp, hbel⟩
   clear hp hbel
   go_wp2
   go_ret
   rw [HL.out]
   exact ⟨rfl, SPart.own HP.1 HL hsz, HP.2⟩
end Go.Proofs.YtlohbaoigfaneaaGreat
