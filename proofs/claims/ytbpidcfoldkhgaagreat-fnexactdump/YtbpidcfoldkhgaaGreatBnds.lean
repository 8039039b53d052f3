import Derived.Test.YtbpidcfoldkhgaaGreatBnd
import Derived.Deep.RegionWith
namespace Go.Proofs.YtbpidcfoldkhgaaGreat
open Go.RowKit
set_option linter.unusedVariables false
set_option linter.unusedSimpArgs false
theorem Tryz.info58 : (Tryz.prog.info? 58).map (fun i => (i.zero, i.size, i.bytes)) = some (some (.agg #[.string ByteArray.empty, .int .i64 0, .int .i64 0, .int .i64 0, .int .i64 0, .string ByteArray.empty, .slice none 0 0, .int .i64 0, .slice none 0 0]), 9, 120) := by kernel_rfl
set_option maxHeartbeats 4000000 in
theorem toBinds_any {v : Value} {xs : List Bd} {w : World} (h : SRow 9 BdR Bd.none 0 w v xs) (hs : xs.length ≤ 1048576 ∧ ∀ i, i < xs.length → SmB (xs.getD i Bd.none)) :
 Calls Tryz.prog 65 #[v] w fun e w' => ∃ v', e = .returned v' ∧ SRow 9 BdR Bd.none w.heap.size w' v' xs ∧ Below w.heap.size w w' := by
 obtain ⟨ao, n, cap, rfl, hn, hr⟩ := h
 have hsz : n ≤ 1048576 := by rw [← hn]; exact hs.1
 have HS : Hid (∀ i, i < xs.length → SmB (xs.getD i Bd.none)) := hs.2
 have HL : Hid (xs.length = n) := hn
 obtain ⟨i0, hi, hz0, hz1, hz2⟩ := info_parts Tryz.info58
 have HI : Hid (i0.bytes = 120) := hz2
 have HR : Hid (0 < n → ∃ b off, ao = some ⟨b, off, none⟩ ∧ 0 ≤ b ∧ b < w.heap.size ∧ ∀ i, i < n → ∃ cs : List Value, cs.length = 9 ∧ BdR 0 w cs (xs.getD i Bd.none) ∧ ∀ j, j < 9 → w.cell? ⟨b, off + i * 9 + j, none⟩ = cs[j]?) := hr
 clear hr hs hn
 go_enter Tryz.func65, Tryz.ntmps65
 go_wp2_with (first
  | (refine wpList_make_full _ rfl _ _ 41 rfl w.heap.size 58 i0 (.agg #[.string ByteArray.empty, .int .i64 0, .int .i64 0, .int .i64 0, .int .i64 0, .string ByteArray.empty, .slice none 0 0, .int .i64 0, .slice none 0 0]) 9 Tryz.underlying41 hi hz0 hz1 _ _ _ _ n rfl rfl rfl rfl (by rw [show i0.bytes = 120 from HI]; omega) (by unfold maxLen; omega) (Nat.le_refl _) ?_; intro w1 hown hgrow))
 have hbel : Below w.heap.size w w1 := Below.grown (Below.refl _ _) hgrow (Nat.le_refl _) (by simp)
 have HO : Hid (SPart 9 BdR Bd.none 58 w1 w.heap.size n 0 xs ∧ Below w.heap.size w w1) := by
  refine ⟨?_, hbel⟩
  rcases hown.2 with ⟨h', _⟩ | ⟨g', cap', cur, h', _, hg, _, _, hcs, _⟩
  ·simp at h'
  ·simp only [Value.slice.injEq, Option.some.injEq, Addr.mk.injEq, and_true, true_and] at h'
   obtain ⟨rfl, rfl⟩ := h'
   exact SPart.new hg hcs
 clear hown hgrow hbel
 go_wp2
 go_loopw [4] (fun i wr => ∃ k : Nat, k ≤ n ∧ i = .int .i64 k ∧ SPart 9 BdR Bd.none 58 wr w.heap.size n k xs ∧ Below w.heap.size w wr) (fun i _ => n - (intOf i).toNat)
 case atStart => exact ⟨0, by omega, rfl, HO.1, HO.2⟩
 case round =>
  obtain ⟨k, hk, rfl, hp, hbel⟩ := hrel
  by_cases hkn : k < n
  ·have hki : (k : Int) < (n : Int) := by omega
   obtain ⟨b, off, rfl, hlo, hb, hc⟩ := HR (by omega)
   have hfk : SmB (xs.getD k Bd.none) := HS k (by rw [show xs.length = n from HL]; exact hkn)
   obtain ⟨cs, hcl, hRel, hcj⟩ := hc k hkn
   obtain ⟨t, ht⟩ : ∃ t, t = xs.getD k Bd.none := ⟨_, rfl⟩
   rw [← ht] at hRel hfk
   have HT : Hid (t = xs.getD k Bd.none) := ht
   obtain ⟨nm, ⟨mk, mn, mt, mp, ms, mb⟩⟩ := t
   obtain ⟨u, z, rfl, hin, hjn⟩ := hRel
   obtain ⟨a, n0, c, rfl⟩ := hin.shape
   obtain ⟨a9, n9, c9, rfl⟩ := hjn.shape
   dsimp only at hin hjn hcj
   have g0 : wr.cell? ⟨b, off + k * 9, none⟩ = some (.string nm) := (hbel.cell (p := ⟨b, off + k * 9, none⟩) hb).trans (hcj 0 (by omega))
   have g1 : wr.cell? ⟨b, off + k * 9 + 1, none⟩ = some (.int .i64 mk) := (hbel.cell (p := ⟨b, off + k * 9 + 1, none⟩) hb).trans (hcj 1 (by omega))
   have g2 : wr.cell? ⟨b, off + k * 9 + 2, none⟩ = some (.int .i64 mn) := (hbel.cell (p := ⟨b, off + k * 9 + 2, none⟩) hb).trans (hcj 2 (by omega))
   have g3 : wr.cell? ⟨b, off + k * 9 + 3, none⟩ = some (.int .i64 mt.c) := (hbel.cell (p := ⟨b, off + k * 9 + 3, none⟩) hb).trans (hcj 3 (by omega))
   have g4 : wr.cell? ⟨b, off + k * 9 + 4, none⟩ = some (.int .i64 mt.h) := (hbel.cell (p := ⟨b, off + k * 9 + 4, none⟩) hb).trans (hcj 4 (by omega))
   have g5 : wr.cell? ⟨b, off + k * 9 + 5, none⟩ = some (.string mt.s) := (hbel.cell (p := ⟨b, off + k * 9 + 5, none⟩) hb).trans (hcj 5 (by omega))
   have g6 : wr.cell? ⟨b, off + k * 9 + 6, none⟩ = some (.slice a n0 c) := (hbel.cell (p := ⟨b, off + k * 9 + 6, none⟩) hb).trans (hcj 6 (by omega))
   have g7 : wr.cell? ⟨b, off + k * 9 + 7, none⟩ = some (.int .i64 ms) := (hbel.cell (p := ⟨b, off + k * 9 + 7, none⟩) hb).trans (hcj 7 (by omega))
   have g8 : wr.cell? ⟨b, off + k * 9 + 8, none⟩ = some (.slice a9 n9 c9) := (hbel.cell (p := ⟨b, off + k * 9 + 8, none⟩) hb).trans (hcj 8 (by omega))
   have HB : Hid (Below w.heap.size w wr) := hbel
   have HP : Hid (SPart 9 BdR Bd.none 58 wr w.heap.size n k xs) := hp
   have HX : Hid (SmB ⟨nm, ⟨mk, mn, mt, mp, ms, mb⟩⟩ ∧ TRow wr (.slice a n0 c) mp ∧ TRow wr (.slice a9 n9 c9) mb) := ⟨hfk, TIn.row_below hin hbel, TIn.row_below hjn hbel⟩
   clear hc hcj hcl hbel ht hfk hp hin hjn
   go_wp2_with (go_at_call 91; refine (toBind_any HX.2.1 HX.2.2 HX.1).mono ?_; rintro e w2 ⟨u2, z2, rfl, hin2, hjn2, hb1⟩; obtain ⟨a2, n2, c2, rfl⟩ := hin2.shape; obtain ⟨a8, n8, c8, rfl⟩ := hjn2.shape; have hp2 := SPart.below bdStable HP hb1; have hfz := hp2.free; obtain ⟨x0, hx0⟩ := hp2.cells (k * 9) (by omega); obtain ⟨x1, hx1⟩ := hp2.cells (k * 9 + 1) (by omega); obtain ⟨x2, hx2⟩ := hp2.cells (k * 9 + 2) (by omega); obtain ⟨x3, hx3⟩ := hp2.cells (k * 9 + 3) (by omega); obtain ⟨x4, hx4⟩ := hp2.cells (k * 9 + 4) (by omega); obtain ⟨x5, hx5⟩ := hp2.cells (k * 9 + 5) (by omega); obtain ⟨x6, hx6⟩ := hp2.cells (k * 9 + 6) (by omega); obtain ⟨x7, hx7⟩ := hp2.cells (k * 9 + 7) (by omega); obtain ⟨x8, hx8⟩ := hp2.cells (k * 9 + 8) (by omega); have HP2 : Hid (SPart 9 BdR Bd.none 58 w2 w.heap.size n k xs ∧ Below w.heap.size w w2 ∧ BdR (w.heap.size + 1) w2 [.string nm, .int .i64 mk, .int .i64 mn, .int .i64 mt.c, .int .i64 mt.h, .string mt.s, .slice a2 n2 c2, .int .i64 ms, .slice a8 n8 c8] ⟨nm, ⟨mk, mn, mt, mp, ms, mb⟩⟩) := ⟨hp2, Below.trans HB (hb1.mono (Below.size HB)), bdStable.mono ⟨_, _, rfl, hin2, hjn2⟩ (SPart.lt HP)⟩; clear hp2 hb1 hin2 hjn2)
   go_roundw
   case rel => exact ⟨k + 1, by omega, by go_num, SPart.put bdStable HP2.1 hkn (cs := [.string nm, .int .i64 mk, .int .i64 mn, .int .i64 mt.c, .int .i64 mt.h, .string mt.s, .slice a2 n2 c2, .int .i64 ms, .slice a8 n8 c8]) rfl (by rw [← show (⟨nm, ⟨mk, mn, mt, mp, ms, mb⟩⟩ : Bd) = xs.getD k Bd.none from HT]; exact HP2.2.2), putC_below (Nat.le_refl _) [.string nm, .int .i64 mk, .int .i64 mn, .int .i64 mt.c, .int .i64 mt.h, .string mt.s, .slice a2 n2 c2, .int .i64 ms, .slice a8 n8 c8] (k * 9) _ HP2.2.1⟩
   case measure => simp [intOf]; omega
  ·have hki : ¬ (k : Int) < (n : Int) := by omega
   obtain rfl : k = n := by omega
   have HP : Hid (SPart 9 BdR Bd.none 58 wr w.heap.size k k xs ∧ Below w.heap.size w wr) := ⟨hp, hbel⟩
   clear hp hbel
   go_wp2
   go_ret
   exact ⟨_, rfl, SPart.row bdStable HP.1 HL, HP.2⟩
set_option maxHeartbeats 4000000 in
theorem eqBinds_same {v1 v2 : Value} {xs : List Bd} {w : World} (h1 : SRow 9 BdR Bd.none 0 w v1 xs) (h2 : SRow 9 BdR Bd.none 0 w v2 xs) (hs : xs.length ≤ 1048576 ∧ ∀ i, i < xs.length → SmB (xs.getD i Bd.none)) :
 Calls Tryz.prog 80 #[v1, v2] w fun e w' => e = .returned (.bool true) ∧ Below w.heap.size w w' := by
 obtain ⟨ao1, n1, cap1, rfl, hn1, hr1⟩ := h1
 obtain ⟨ao2, n2, cap2, rfl, hn2, hr2⟩ := h2
 obtain rfl : n1 = n2 := by omega
 have hx : n1 ≤ 1048576 := by rw [← hn1]; exact hs.1
 have HS : Hid (∀ i, i < xs.length → SmB (xs.getD i Bd.none)) := hs.2
 have HL : Hid (xs.length = n1) := hn1
 have HR1 : Hid (0 < n1 → ∃ b off, ao1 = some ⟨b, off, none⟩ ∧ 0 ≤ b ∧ b < w.heap.size ∧ ∀ i, i < n1 → ∃ cs : List Value, cs.length = 9 ∧ BdR 0 w cs (xs.getD i Bd.none) ∧ ∀ j, j < 9 → w.cell? ⟨b, off + i * 9 + j, none⟩ = cs[j]?) := hr1
 have HR2 : Hid (0 < n1 → ∃ b off, ao2 = some ⟨b, off, none⟩ ∧ 0 ≤ b ∧ b < w.heap.size ∧ ∀ i, i < n1 → ∃ cs : List Value, cs.length = 9 ∧ BdR 0 w cs (xs.getD i Bd.none) ∧ ∀ j, j < 9 → w.cell? ⟨b, off + i * 9 + j, none⟩ = cs[j]?) := hr2
 clear hn1 hn2 hr1 hr2 hs
 go_enter Tryz.func80, Tryz.ntmps80
 go_wp2
 go_loopw [5] (fun i wr => ∃ k : Nat, k ≤ n1 ∧ i = .int .i64 k ∧ Below w.heap.size w wr) (fun i _ => n1 - (intOf i).toNat)
 case atStart => exact ⟨0, by omega, rfl, Below.refl _ _⟩
 case round =>
  obtain ⟨k, hk, rfl, hbel⟩ := hrel
  by_cases hkn : k < n1
  ·have hki : (k : Int) < (n1 : Int) := by omega
   obtain ⟨b, off, rfl, hlo, hb, hc⟩ := HR1 (by omega)
   obtain ⟨b', off', rfl, hlo', hb', hc'⟩ := HR2 (by omega)
   have hfk : SmB (xs.getD k Bd.none) := HS k (by rw [show xs.length = n1 from HL]; exact hkn)
   obtain ⟨cs, hcl, hRel, hcj⟩ := hc k hkn
   obtain ⟨cs', hcl', hRel', hcj'⟩ := hc' k hkn
   obtain ⟨t, ht⟩ : ∃ t, t = xs.getD k Bd.none := ⟨_, rfl⟩
   rw [← ht] at hRel hRel' hfk
   obtain ⟨nm, ⟨mk, mn, mt, mp, ms, mb⟩⟩ := t
   obtain ⟨u1, z1, rfl, hin1, hjn1⟩ := hRel
   obtain ⟨a1, m1, c1, rfl⟩ := hin1.shape
   obtain ⟨a3, m3, c3, rfl⟩ := hjn1.shape
   obtain ⟨u2, z2, rfl, hin2, hjn2⟩ := hRel'
   obtain ⟨a2, m2, c2, rfl⟩ := hin2.shape
   obtain ⟨a4, m4, c4, rfl⟩ := hjn2.shape
   dsimp only at hin1 hjn1 hin2 hjn2 hcj hcj'
   have g0 : wr.cell? ⟨b, off + k * 9, none⟩ = some (.string nm) := (hbel.cell (p := ⟨b, off + k * 9, none⟩) hb).trans (hcj 0 (by omega))
   have g1 : wr.cell? ⟨b, off + k * 9 + 1, none⟩ = some (.int .i64 mk) := (hbel.cell (p := ⟨b, off + k * 9 + 1, none⟩) hb).trans (hcj 1 (by omega))
   have g2 : wr.cell? ⟨b, off + k * 9 + 2, none⟩ = some (.int .i64 mn) := (hbel.cell (p := ⟨b, off + k * 9 + 2, none⟩) hb).trans (hcj 2 (by omega))
   have g3 : wr.cell? ⟨b, off + k * 9 + 3, none⟩ = some (.int .i64 mt.c) := (hbel.cell (p := ⟨b, off + k * 9 + 3, none⟩) hb).trans (hcj 3 (by omega))
   have g4 : wr.cell? ⟨b, off + k * 9 + 4, none⟩ = some (.int .i64 mt.h) := (hbel.cell (p := ⟨b, off + k * 9 + 4, none⟩) hb).trans (hcj 4 (by omega))
   have g5 : wr.cell? ⟨b, off + k * 9 + 5, none⟩ = some (.string mt.s) := (hbel.cell (p := ⟨b, off + k * 9 + 5, none⟩) hb).trans (hcj 5 (by omega))
   have g6 : wr.cell? ⟨b, off + k * 9 + 6, none⟩ = some (.slice a1 m1 c1) := (hbel.cell (p := ⟨b, off + k * 9 + 6, none⟩) hb).trans (hcj 6 (by omega))
   have g7 : wr.cell? ⟨b, off + k * 9 + 7, none⟩ = some (.int .i64 ms) := (hbel.cell (p := ⟨b, off + k * 9 + 7, none⟩) hb).trans (hcj 7 (by omega))
   have g8 : wr.cell? ⟨b, off + k * 9 + 8, none⟩ = some (.slice a3 m3 c3) := (hbel.cell (p := ⟨b, off + k * 9 + 8, none⟩) hb).trans (hcj 8 (by omega))
   have f0 : wr.cell? ⟨b', off' + k * 9, none⟩ = some (.string nm) := (hbel.cell (p := ⟨b', off' + k * 9, none⟩) hb').trans (hcj' 0 (by omega))
   have f1 : wr.cell? ⟨b', off' + k * 9 + 1, none⟩ = some (.int .i64 mk) := (hbel.cell (p := ⟨b', off' + k * 9 + 1, none⟩) hb').trans (hcj' 1 (by omega))
   have f2 : wr.cell? ⟨b', off' + k * 9 + 2, none⟩ = some (.int .i64 mn) := (hbel.cell (p := ⟨b', off' + k * 9 + 2, none⟩) hb').trans (hcj' 2 (by omega))
   have f3 : wr.cell? ⟨b', off' + k * 9 + 3, none⟩ = some (.int .i64 mt.c) := (hbel.cell (p := ⟨b', off' + k * 9 + 3, none⟩) hb').trans (hcj' 3 (by omega))
   have f4 : wr.cell? ⟨b', off' + k * 9 + 4, none⟩ = some (.int .i64 mt.h) := (hbel.cell (p := ⟨b', off' + k * 9 + 4, none⟩) hb').trans (hcj' 4 (by omega))
   have f5 : wr.cell? ⟨b', off' + k * 9 + 5, none⟩ = some (.string mt.s) := (hbel.cell (p := ⟨b', off' + k * 9 + 5, none⟩) hb').trans (hcj' 5 (by omega))
   have f6 : wr.cell? ⟨b', off' + k * 9 + 6, none⟩ = some (.slice a2 m2 c2) := (hbel.cell (p := ⟨b', off' + k * 9 + 6, none⟩) hb').trans (hcj' 6 (by omega))
   have f7 : wr.cell? ⟨b', off' + k * 9 + 7, none⟩ = some (.int .i64 ms) := (hbel.cell (p := ⟨b', off' + k * 9 + 7, none⟩) hb').trans (hcj' 7 (by omega))
   have f8 : wr.cell? ⟨b', off' + k * 9 + 8, none⟩ = some (.slice a4 m4 c4) := (hbel.cell (p := ⟨b', off' + k * 9 + 8, none⟩) hb').trans (hcj' 8 (by omega))
   have BD : Below w.heap.size w wr.drew := Below.drew hbel
   have HB : Hid (Below w.heap.size w wr) := hbel
   have HX : Hid (SmB ⟨nm, ⟨mk, mn, mt, mp, ms, mb⟩⟩ ∧ (TRow wr.drew (.slice a1 m1 c1) mp ∧ TRow wr.drew (.slice a3 m3 c3) mb) ∧ (TRow wr.drew (.slice a2 m2 c2) mp ∧ TRow wr.drew (.slice a4 m4 c4) mb)) := ⟨hfk, ⟨TIn.row_below hin1 BD, TIn.row_below hjn1 BD⟩, ⟨TIn.row_below hin2 BD, TIn.row_below hjn2 BD⟩⟩
   clear hc hc' hcl hcl' hcj hcj' hbel ht hfk BD hin1 hjn1 hin2 hjn2
   go_wp2
   go_region_with (go_at_call 112; refine (eqBind_same HX.2.1.1 HX.2.1.2 HX.2.2.1 HX.2.2.2 HX.1).mono ?_; rintro e w2 ⟨rfl, hb1⟩)
   all_goals
    have hb2 : Below w.heap.size w w2 := Below.trans (Below.drew HB) (‹Below _ _ w2›.mono (Below.size HB))
    go_wp2
    go_roundw
    case rel => exact ⟨k + 1, by omega, by go_num, hb2⟩
    case measure => simp [intOf]; omega
  ·have hki : ¬ (k : Int) < (n1 : Int) := by omega
   have HB : Hid (Below w.heap.size w wr) := hbel
   clear hbel
   go_wp2
   go_ret
   exact ⟨rfl, HB⟩
end Go.Proofs.YtbpidcfoldkhgaaGreat
