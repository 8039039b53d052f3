import Derived.Test.YtbpidcfoldkhgaaGreatLevt
import Derived.Deep.RegionWith
namespace Go.Proofs.YtbpidcfoldkhgaaGreat
open Go.RowKit
set_option linter.unusedVariables false
set_option linter.unusedSimpArgs false
theorem Tryz.info45 : (Tryz.prog.info? 45).map (fun i => (i.zero, i.size, i.bytes)) = some (some (.agg #[.slice none 0 0, .slice none 0 0, .slice none 0 0, .slice none 0 0, .slice none 0 0, .slice none 0 0]), 6, 144) := by kernel_rfl
set_option maxHeartbeats 4000000 in
theorem toLevels_any {v : Value} {xs : List Lv} {w : World} (h : SRow 6 LvR Lv.none 0 w v xs) (hs : xs.length ≤ 1048576 ∧ ∀ i, i < xs.length → SmL (xs.getD i Lv.none)) :
 Calls Tryz.prog 24 #[v] w fun e w' => ∃ v', e = .returned v' ∧ SRow 6 LvR Lv.none w.heap.size w' v' xs ∧ Below w.heap.size w w' := by
 obtain ⟨ao, n, cap, rfl, hn, hr⟩ := h
 have hsz : n ≤ 1048576 := by rw [← hn]; exact hs.1
 have HS : Hid (∀ i, i < xs.length → SmL (xs.getD i Lv.none)) := hs.2
 have HL : Hid (xs.length = n) := hn
 obtain ⟨i0, hi, hz0, hz1, hz2⟩ := info_parts Tryz.info45
 have HI : Hid (i0.bytes = 144) := hz2
 have HR : Hid (0 < n → ∃ b off, ao = some ⟨b, off, none⟩ ∧ 0 ≤ b ∧ b < w.heap.size ∧ ∀ i, i < n → ∃ cs : List Value, cs.length = 6 ∧ LvR 0 w cs (xs.getD i Lv.none) ∧ ∀ j, j < 6 → w.cell? ⟨b, off + i * 6 + j, none⟩ = cs[j]?) := hr
 clear hr hs hn
 go_enter Tryz.func24, Tryz.ntmps24
 go_wp2_with (first
  | (refine wpList_make_full _ rfl _ _ 28 rfl w.heap.size 45 i0 (.agg #[.slice none 0 0, .slice none 0 0, .slice none 0 0, .slice none 0 0, .slice none 0 0, .slice none 0 0]) 6 Tryz.underlying28 hi hz0 hz1 _ _ _ _ n rfl rfl rfl rfl (by rw [show i0.bytes = 144 from HI]; omega) (by unfold maxLen; omega) (Nat.le_refl _) ?_; intro w1 hown hgrow))
 have hbel : Below w.heap.size w w1 := Below.grown (Below.refl _ _) hgrow (Nat.le_refl _) (by simp)
 have HO : Hid (SPart 6 LvR Lv.none 45 w1 w.heap.size n 0 xs ∧ Below w.heap.size w w1) := by
  refine ⟨?_, hbel⟩
  rcases hown.2 with ⟨h', _⟩ | ⟨g', cap', cur, h', _, hg, _, _, hcs, _⟩
  ·simp at h'
  ·simp only [Value.slice.injEq, Option.some.injEq, Addr.mk.injEq, and_true, true_and] at h'
   obtain ⟨rfl, rfl⟩ := h'
   exact SPart.new hg hcs
 clear hown hgrow hbel
 go_wp2
 go_loopw [4] (fun i wr => ∃ k : Nat, k ≤ n ∧ i = .int .i64 k ∧ SPart 6 LvR Lv.none 45 wr w.heap.size n k xs ∧ Below w.heap.size w wr) (fun i _ => n - (intOf i).toNat)
 case atStart => exact ⟨0, by omega, rfl, HO.1, HO.2⟩
 case round =>
  obtain ⟨k, hk, rfl, hp, hbel⟩ := hrel
  by_cases hkn : k < n
  ·have hki : (k : Int) < (n : Int) := by omega
   obtain ⟨b, off, rfl, hlo, hb, hc⟩ := HR (by omega)
   have hfk : SmL (xs.getD k Lv.none) := HS k (by rw [show xs.length = n from HL]; exact hkn)
   obtain ⟨cs, hcl, hRel, hcj⟩ := hc k hkn
   obtain ⟨t, ht⟩ : ∃ t, t = xs.getD k Lv.none := ⟨_, rfl⟩
   rw [← ht] at hRel hfk
   have HT : Hid (t = xs.getD k Lv.none) := ht
   obtain ⟨e0, e1, e2, e3, e4, e5, rfl, i0, i1, i2, i3, i4, i5⟩ := hRel
   have hin : Six 0 w e0 e1 e2 e3 e4 e5 t := ⟨i0, i1, i2, i3, i4, i5⟩
   clear i0 i1 i2 i3 i4 i5
   obtain ⟨a0, c0, a1, c1, a2, c2, a3, c3, a4, c4, a5, c5, rfl, rfl, rfl, rfl, rfl, rfl⟩ := hin.shape
   have g0 : wr.cell? ⟨b, off + k * 6, none⟩ = some (.slice a0 t.cats.length c0) := (hbel.cell (p := ⟨b, off + k * 6, none⟩) hb).trans (hcj 0 (by omega))
   have g1 : wr.cell? ⟨b, off + k * 6 + 1, none⟩ = some (.slice a1 t.binds.length c1) := (hbel.cell (p := ⟨b, off + k * 6 + 1, none⟩) hb).trans (hcj 1 (by omega))
   have g2 : wr.cell? ⟨b, off + k * 6 + 2, none⟩ = some (.slice a2 t.counts.length c2) := (hbel.cell (p := ⟨b, off + k * 6 + 2, none⟩) hb).trans (hcj 2 (by omega))
   have g3 : wr.cell? ⟨b, off + k * 6 + 3, none⟩ = some (.slice a3 t.lens.length c3) := (hbel.cell (p := ⟨b, off + k * 6 + 3, none⟩) hb).trans (hcj 3 (by omega))
   have g4 : wr.cell? ⟨b, off + k * 6 + 4, none⟩ = some (.slice a4 t.glues.length c4) := (hbel.cell (p := ⟨b, off + k * 6 + 4, none⟩) hb).trans (hcj 4 (by omega))
   have g5 : wr.cell? ⟨b, off + k * 6 + 5, none⟩ = some (.slice a5 t.toks.length c5) := (hbel.cell (p := ⟨b, off + k * 6 + 5, none⟩) hb).trans (hcj 5 (by omega))
   have HB : Hid (Below w.heap.size w wr) := hbel
   have HP : Hid (SPart 6 LvR Lv.none 45 wr w.heap.size n k xs) := hp
   have HX : Hid (SmL t ∧ Six 0 wr (.slice a0 t.cats.length c0) (.slice a1 t.binds.length c1) (.slice a2 t.counts.length c2) (.slice a3 t.lens.length c3) (.slice a4 t.glues.length c4) (.slice a5 t.toks.length c5) t) := ⟨hfk, hin.below hbel⟩
   clear hc hcj hcl hbel ht hfk hp hin
   go_wp2_with (go_at_call 35; refine (toLevel_any HX.2 HX.1).mono ?_; rintro e w2 ⟨u0, u1, u2, u3, u4, u5, rfl, hin2, hb1⟩; obtain ⟨r0, d0, r1, d1, r2, d2, r3, d3, r4, d4, r5, d5, rfl, rfl, rfl, rfl, rfl, rfl⟩ := hin2.shape; have hp2 := SPart.below lvStable HP hb1; have hfz := hp2.free; obtain ⟨x0, hx0⟩ := hp2.cells (k * 6) (by omega); obtain ⟨x1, hx1⟩ := hp2.cells (k * 6 + 1) (by omega); obtain ⟨x2, hx2⟩ := hp2.cells (k * 6 + 2) (by omega); obtain ⟨x3, hx3⟩ := hp2.cells (k * 6 + 3) (by omega); obtain ⟨x4, hx4⟩ := hp2.cells (k * 6 + 4) (by omega); obtain ⟨x5, hx5⟩ := hp2.cells (k * 6 + 5) (by omega); have HP2 : Hid (SPart 6 LvR Lv.none 45 w2 w.heap.size n k xs ∧ Below w.heap.size w w2 ∧ LvR (w.heap.size + 1) w2 [.slice r0 t.cats.length d0, .slice r1 t.binds.length d1, .slice r2 t.counts.length d2, .slice r3 t.lens.length d3, .slice r4 t.glues.length d4, .slice r5 t.toks.length d5] t) := ⟨hp2, Below.trans HB (hb1.mono (Below.size HB)), lvStable.mono ⟨_, _, _, _, _, _, rfl, hin2.h0, hin2.h1, hin2.h2, hin2.h3, hin2.h4, hin2.h5⟩ (SPart.lt HP)⟩; clear hp2 hb1 hin2)
   go_roundw
   case rel => exact ⟨k + 1, by omega, by go_num, SPart.put lvStable HP2.1 hkn (cs := [.slice r0 t.cats.length d0, .slice r1 t.binds.length d1, .slice r2 t.counts.length d2, .slice r3 t.lens.length d3, .slice r4 t.glues.length d4, .slice r5 t.toks.length d5]) rfl (by rw [← show t = xs.getD k Lv.none from HT]; exact HP2.2.2), putC_below (Nat.le_refl _) [.slice r0 t.cats.length d0, .slice r1 t.binds.length d1, .slice r2 t.counts.length d2, .slice r3 t.lens.length d3, .slice r4 t.glues.length d4, .slice r5 t.toks.length d5] (k * 6) _ HP2.2.1⟩
   case measure => simp [intOf]; omega
  ·have hki : ¬ (k : Int) < (n : Int) := by omega
   obtain rfl : k = n := by omega
   have HP : Hid (SPart 6 LvR Lv.none 45 wr w.heap.size k k xs ∧ Below w.heap.size w wr) := ⟨hp, hbel⟩
   clear hp hbel
   go_wp2
   go_ret
   exact ⟨_, rfl, SPart.row lvStable HP.1 HL, HP.2⟩
set_option maxHeartbeats 4000000 in
theorem eqLevels_same {v1 v2 : Value} {xs : List Lv} {w : World} (h1 : SRow 6 LvR Lv.none 0 w v1 xs) (h2 : SRow 6 LvR Lv.none 0 w v2 xs) (hs : xs.length ≤ 1048576 ∧ ∀ i, i < xs.length → SmL (xs.getD i Lv.none)) :
 Calls Tryz.prog 28 #[v1, v2] w fun e w' => e = .returned (.bool true) ∧ Below w.heap.size w w' := by
 obtain ⟨ao1, n1, cap1, rfl, hn1, hr1⟩ := h1
 obtain ⟨ao2, n2, cap2, rfl, hn2, hr2⟩ := h2
 obtain rfl : n1 = n2 := by omega
 have hx : n1 ≤ 1048576 := by rw [← hn1]; exact hs.1
 have HS : Hid (∀ i, i < xs.length → SmL (xs.getD i Lv.none)) := hs.2
 have HL : Hid (xs.length = n1) := hn1
 have HR1 : Hid (0 < n1 → ∃ b off, ao1 = some ⟨b, off, none⟩ ∧ 0 ≤ b ∧ b < w.heap.size ∧ ∀ i, i < n1 → ∃ cs : List Value, cs.length = 6 ∧ LvR 0 w cs (xs.getD i Lv.none) ∧ ∀ j, j < 6 → w.cell? ⟨b, off + i * 6 + j, none⟩ = cs[j]?) := hr1
 have HR2 : Hid (0 < n1 → ∃ b off, ao2 = some ⟨b, off, none⟩ ∧ 0 ≤ b ∧ b < w.heap.size ∧ ∀ i, i < n1 → ∃ cs : List Value, cs.length = 6 ∧ LvR 0 w cs (xs.getD i Lv.none) ∧ ∀ j, j < 6 → w.cell? ⟨b, off + i * 6 + j, none⟩ = cs[j]?) := hr2
 clear hn1 hn2 hr1 hr2 hs
 go_enter Tryz.func28, Tryz.ntmps28
 go_wp2
 go_loopw [5] (fun i wr => ∃ k : Nat, k ≤ n1 ∧ i = .int .i64 k ∧ Below w.heap.size w wr) (fun i _ => n1 - (intOf i).toNat)
 case atStart => exact ⟨0, by omega, rfl, Below.refl _ _⟩
 case round =>
  obtain ⟨k, hk, rfl, hbel⟩ := hrel
  by_cases hkn : k < n1
  ·have hki : (k : Int) < (n1 : Int) := by omega
   obtain ⟨b, off, rfl, hlo, hb, hc⟩ := HR1 (by omega)
   obtain ⟨b', off', rfl, hlo', hb', hc'⟩ := HR2 (by omega)
   have hfk : SmL (xs.getD k Lv.none) := HS k (by rw [show xs.length = n1 from HL]; exact hkn)
   obtain ⟨cs, hcl, hRel, hcj⟩ := hc k hkn
   obtain ⟨cs', hcl', hRel', hcj'⟩ := hc' k hkn
   obtain ⟨t, ht⟩ : ∃ t, t = xs.getD k Lv.none := ⟨_, rfl⟩
   rw [← ht] at hRel hRel' hfk
   obtain ⟨e0, e1, e2, e3, e4, e5, rfl, i0, i1, i2, i3, i4, i5⟩ := hRel
   have hin1 : Six 0 w e0 e1 e2 e3 e4 e5 t := ⟨i0, i1, i2, i3, i4, i5⟩
   clear i0 i1 i2 i3 i4 i5
   obtain ⟨a0, c0, a1, c1, a2, c2, a3, c3, a4, c4, a5, c5, rfl, rfl, rfl, rfl, rfl, rfl⟩ := hin1.shape
   obtain ⟨e0, e1, e2, e3, e4, e5, rfl, i0, i1, i2, i3, i4, i5⟩ := hRel'
   have hin2 : Six 0 w e0 e1 e2 e3 e4 e5 t := ⟨i0, i1, i2, i3, i4, i5⟩
   clear i0 i1 i2 i3 i4 i5
   obtain ⟨r0, d0, r1, d1, r2, d2, r3, d3, r4, d4, r5, d5, rfl, rfl, rfl, rfl, rfl, rfl⟩ := hin2.shape
   have g0 : wr.cell? ⟨b, off + k * 6, none⟩ = some (.slice a0 t.cats.length c0) := (hbel.cell (p := ⟨b, off + k * 6, none⟩) hb).trans (hcj 0 (by omega))
   have g1 : wr.cell? ⟨b, off + k * 6 + 1, none⟩ = some (.slice a1 t.binds.length c1) := (hbel.cell (p := ⟨b, off + k * 6 + 1, none⟩) hb).trans (hcj 1 (by omega))
   have g2 : wr.cell? ⟨b, off + k * 6 + 2, none⟩ = some (.slice a2 t.counts.length c2) := (hbel.cell (p := ⟨b, off + k * 6 + 2, none⟩) hb).trans (hcj 2 (by omega))
   have g3 : wr.cell? ⟨b, off + k * 6 + 3, none⟩ = some (.slice a3 t.lens.length c3) := (hbel.cell (p := ⟨b, off + k * 6 + 3, none⟩) hb).trans (hcj 3 (by omega))
   have g4 : wr.cell? ⟨b, off + k * 6 + 4, none⟩ = some (.slice a4 t.glues.length c4) := (hbel.cell (p := ⟨b, off + k * 6 + 4, none⟩) hb).trans (hcj 4 (by omega))
   have g5 : wr.cell? ⟨b, off + k * 6 + 5, none⟩ = some (.slice a5 t.toks.length c5) := (hbel.cell (p := ⟨b, off + k * 6 + 5, none⟩) hb).trans (hcj 5 (by omega))
   have f0 : wr.cell? ⟨b', off' + k * 6, none⟩ = some (.slice r0 t.cats.length d0) := (hbel.cell (p := ⟨b', off' + k * 6, none⟩) hb').trans (hcj' 0 (by omega))
   have f1 : wr.cell? ⟨b', off' + k * 6 + 1, none⟩ = some (.slice r1 t.binds.length d1) := (hbel.cell (p := ⟨b', off' + k * 6 + 1, none⟩) hb').trans (hcj' 1 (by omega))
   have f2 : wr.cell? ⟨b', off' + k * 6 + 2, none⟩ = some (.slice r2 t.counts.length d2) := (hbel.cell (p := ⟨b', off' + k * 6 + 2, none⟩) hb').trans (hcj' 2 (by omega))
   have f3 : wr.cell? ⟨b', off' + k * 6 + 3, none⟩ = some (.slice r3 t.lens.length d3) := (hbel.cell (p := ⟨b', off' + k * 6 + 3, none⟩) hb').trans (hcj' 3 (by omega))
   have f4 : wr.cell? ⟨b', off' + k * 6 + 4, none⟩ = some (.slice r4 t.glues.length d4) := (hbel.cell (p := ⟨b', off' + k * 6 + 4, none⟩) hb').trans (hcj' 4 (by omega))
   have f5 : wr.cell? ⟨b', off' + k * 6 + 5, none⟩ = some (.slice r5 t.toks.length d5) := (hbel.cell (p := ⟨b', off' + k * 6 + 5, none⟩) hb').trans (hcj' 5 (by omega))
   have BD : Below w.heap.size w wr.drew := Below.drew hbel
   have HB : Hid (Below w.heap.size w wr) := hbel
   have HX : Hid (SmL t ∧ Six 0 wr.drew (.slice a0 t.cats.length c0) (.slice a1 t.binds.length c1) (.slice a2 t.counts.length c2) (.slice a3 t.lens.length c3) (.slice a4 t.glues.length c4) (.slice a5 t.toks.length c5) t ∧ Six 0 wr.drew (.slice r0 t.cats.length d0) (.slice r1 t.binds.length d1) (.slice r2 t.counts.length d2) (.slice r3 t.lens.length d3) (.slice r4 t.glues.length d4) (.slice r5 t.toks.length d5) t) := ⟨hfk, hin1.below BD, hin2.below BD⟩
   clear hc hc' hcl hcl' hcj hcj' hbel ht hfk BD hin1 hin2
   go_wp2
   go_region_with (go_at_call 50; refine (eqLevel_same HX.2.1 HX.2.2 HX.1).mono ?_; rintro e w2 ⟨rfl, hb1⟩)
   all_goals
    have hb2 : Below w.heap.size w w2 := Below.trans (Below.drew HB) (‹Below _ _ w2›.mono (Below.size HB))
    go_wp2
    go_roundw
    case rel => exact ⟨k + 1, by omega, by go_num, hb2⟩
    case measure => simp [intOf]; omega
  ·have hki : ¬ (k : Int) < (n1 : Int) := by omega
   have HB : Hid (Below w.heap.size w wr) := hbel
   clear hbel
   go_wp2
   go_ret
   exact ⟨rfl, HB⟩
end Go.Proofs.YtbpidcfoldkhgaaGreat
