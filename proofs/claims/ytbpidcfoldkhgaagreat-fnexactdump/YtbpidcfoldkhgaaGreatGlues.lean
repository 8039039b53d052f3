import Derived.Test.YtbpidcfoldkhgaaGreatToks
import Derived.Test.YtbpidcfoldkhgaaGreatGlue
import Derived.Deep.RegionWith
namespace Go.Proofs.YtbpidcfoldkhgaaGreat
open Go.RowKit
set_option linter.unusedVariables false
set_option linter.unusedSimpArgs false
structure Gl where
 s : Int
 p : Int
 po : Int
 m : Int
 mo : Int
abbrev Gl.v (g : Gl) : Value := glueV g.s g.p g.po g.m g.mo
def Gl.none : Gl := ⟨0, 0, 0, 0, 0⟩
def GRow (w : World) (v : Value) (gs : List Gl) : Prop :=
 ∃ ao n cap, v = .slice ao n cap ∧ gs.length = n ∧ (0 < n → ∃ b off, ao = some ⟨b, off, none⟩ ∧ b < w.heap.size ∧ ∀ i, i < n → w.cell? ⟨b, off + i * 5, none⟩ = some (.int .i64 (gs.getD i Gl.none).s) ∧ w.cell? ⟨b, off + i * 5 + 1, none⟩ = some (.int .i64 (gs.getD i Gl.none).p) ∧ w.cell? ⟨b, off + i * 5 + 2, none⟩ = some (.int .i64 (gs.getD i Gl.none).po) ∧ w.cell? ⟨b, off + i * 5 + 3, none⟩ = some (.int .i64 (gs.getD i Gl.none).m) ∧ w.cell? ⟨b, off + i * 5 + 4, none⟩ = some (.int .i64 (gs.getD i Gl.none).mo))
theorem GRow.below {w w' : World} {v : Value} {gs : List Gl} (h : GRow w v gs) (hb : Below w.heap.size w w') : GRow w' v gs := by
 obtain ⟨ao, n, cap, rfl, hn, hc⟩ := h
 refine ⟨ao, n, cap, rfl, hn, fun hp => ?_⟩
 obtain ⟨b, off, rfl, hlt, hcell⟩ := hc hp
 refine ⟨b, off, rfl, Nat.lt_of_lt_of_le hlt hb.size, fun i hi => ?_⟩
 obtain ⟨h0, h1, h2, h3, h4⟩ := hcell i hi
 exact ⟨(hb.cell (p := ⟨b, off + i * 5, none⟩) hlt).trans h0, (hb.cell (p := ⟨b, off + i * 5 + 1, none⟩) hlt).trans h1, (hb.cell (p := ⟨b, off + i * 5 + 2, none⟩) hlt).trans h2, (hb.cell (p := ⟨b, off + i * 5 + 3, none⟩) hlt).trans h3, (hb.cell (p := ⟨b, off + i * 5 + 4, none⟩) hlt).trans h4⟩
theorem Tryz.info61 : (Tryz.prog.info? 61).map (fun i => (i.zero, i.size, i.bytes)) = some (some (.agg #[.int .i64 0, .int .i64 0, .int .i64 0, .int .i64 0, .int .i64 0]), 5, 40) := by kernel_rfl
def GPart (w : World) (g n k : Nat) (gs : List Gl) : Prop :=
 ∃ cur : Array Value, w.heap[g]? = some (.cells cur 61 (0, 0)) ∧ cur.size = n * 5 ∧ ∀ i, i < k → cur[i * 5]? = some (.int .i64 (gs.getD i Gl.none).s) ∧ cur[i * 5 + 1]? = some (.int .i64 (gs.getD i Gl.none).p) ∧ cur[i * 5 + 2]? = some (.int .i64 (gs.getD i Gl.none).po) ∧ cur[i * 5 + 3]? = some (.int .i64 (gs.getD i Gl.none).m) ∧ cur[i * 5 + 4]? = some (.int .i64 (gs.getD i Gl.none).mo)
theorem GPart.row {w : World} {g n cap : Nat} {gs : List Gl} (h : GPart w g n n gs) (hn : gs.length = n) : GRow w (.slice (some ⟨g, 0, none⟩) n cap) gs := by
 obtain ⟨cur, hg, hs, hc⟩ := h
 refine ⟨_, n, cap, rfl, hn, fun _ => ⟨g, 0, rfl, (Array.getElem?_eq_some_iff.1 hg).1, fun i hi => ?_⟩⟩
 obtain ⟨h0, h1, h2, h3, h4⟩ := hc i hi
 rw [Nat.zero_add, cell_of_row w g _ cur 61 _ hg, cell_of_row w g _ cur 61 _ hg, cell_of_row w g _ cur 61 _ hg, cell_of_row w g _ cur 61 _ hg, cell_of_row w g _ cur 61 _ hg]
 exact ⟨h0, h1, h2, h3, h4⟩
theorem GPart.put {w : World} {g n k : Nat} {gs : List Gl} (h : GPart w g n k gs) (hk : k < n) {t : Gl} (ht : t = gs.getD k Gl.none) :
 GPart ((((((w.setCell ⟨g, k * 5, none⟩ (.int .i64 t.s)).setCell ⟨g, k * 5 + 1, none⟩ (.int .i64 t.p)).setCell ⟨g, k * 5 + 2, none⟩ (.int .i64 t.po)).setCell ⟨g, k * 5 + 3, none⟩ (.int .i64 t.m)).setCell ⟨g, k * 5 + 4, none⟩ (.int .i64 t.mo))) g n (k + 1) gs := by
 obtain ⟨cur, hg, hs, hc⟩ := h
 have e0 := heap_setCell_same w g (k * 5) cur 61 (.int .i64 t.s) hg
 have e1 := heap_setCell_same _ g (k * 5 + 1) _ 61 (.int .i64 t.p) e0
 have e2 := heap_setCell_same _ g (k * 5 + 2) _ 61 (.int .i64 t.po) e1
 have e3 := heap_setCell_same _ g (k * 5 + 3) _ 61 (.int .i64 t.m) e2
 have e4 := heap_setCell_same _ g (k * 5 + 4) _ 61 (.int .i64 t.mo) e3
 refine ⟨_, e4, by simp [hs], fun i hi => ?_⟩
 by_cases hik : i = k
 ·subst hik
  subst ht
  simp only [Array.getElem?_setIfInBounds, Array.size_setIfInBounds, hs]
  refine ⟨?_, ?_, ?_, ?_, ?_⟩ <;> (simp; omega)
 ·obtain ⟨h0, h1, h2, h3, h4⟩ := hc i (by omega)
  simp only [Array.getElem?_setIfInBounds, Array.size_setIfInBounds]
  refine ⟨?_, ?_, ?_, ?_, ?_⟩
  ·rw [if_neg (by omega), if_neg (by omega), if_neg (by omega), if_neg (by omega), if_neg (by omega)]; exact h0
  ·rw [if_neg (by omega), if_neg (by omega), if_neg (by omega), if_neg (by omega), if_neg (by omega)]; exact h1
  ·rw [if_neg (by omega), if_neg (by omega), if_neg (by omega), if_neg (by omega), if_neg (by omega)]; exact h2
  ·rw [if_neg (by omega), if_neg (by omega), if_neg (by omega), if_neg (by omega), if_neg (by omega)]; exact h3
  ·rw [if_neg (by omega), if_neg (by omega), if_neg (by omega), if_neg (by omega), if_neg (by omega)]; exact h4
theorem GPart.cells {w : World} {g n k : Nat} {gs : List Gl} (h : GPart w g n k gs) (j : Nat) (hj : j < n * 5) : ∃ x, w.cell? ⟨g, j, none⟩ = some x := by
 obtain ⟨cur, hg, hs, _⟩ := h
 rw [cell_of_row w g _ cur 61 _ hg]
 exact ⟨_, Array.getElem?_eq_getElem (by omega)⟩
theorem GPart.free {w : World} {g n k : Nat} {gs : List Gl} (h : GPart w g n k gs) (j : Nat) : w.frozen? ⟨g, j, none⟩ = false := by
 obtain ⟨cur, hg, hs, _⟩ := h
 exact frozen_of_row w g j cur 61 hg
theorem GPart.below {w w' : World} {g n k : Nat} {gs : List Gl} (h : GPart w g n k gs) (hb : Below w.heap.size w w') : GPart w' g n k gs := by
 obtain ⟨cur, hg, hs, hc⟩ := h
 exact ⟨cur, (hb.block g (Array.getElem?_eq_some_iff.1 hg).1).trans hg, hs, hc⟩
theorem GPart.lt {w : World} {g n k : Nat} {gs : List Gl} (h : GPart w g n k gs) : g < w.heap.size := by
 obtain ⟨cur, hg, _⟩ := h
 exact (Array.getElem?_eq_some_iff.1 hg).1
set_option maxHeartbeats 1000000 in
theorem toGlues_any {v : Value} {gs : List Gl} {w : World} (h : GRow w v gs) (hsz : gs.length ≤ 1048576) :
 Calls Tryz.prog 66 #[v] w fun e w' => e = .returned (.slice (some ⟨w.heap.size, 0, none⟩) gs.length gs.length) ∧ GPart w' w.heap.size gs.length gs.length gs ∧ Below w.heap.size w w' := by
 obtain ⟨ao, n, cap, rfl, hn, hr⟩ := h
 rw [hn] at hsz
 rw [hn]
 obtain ⟨i0, hi, hz0, hz1, hz2⟩ := info_parts Tryz.info61
 have HI : Hid (i0.bytes = 40) := hz2
 have HR : Hid (0 < n → ∃ b off, ao = some ⟨b, off, none⟩ ∧ b < w.heap.size ∧ ∀ i, i < n → w.cell? ⟨b, off + i * 5, none⟩ = some (.int .i64 (gs.getD i Gl.none).s) ∧ w.cell? ⟨b, off + i * 5 + 1, none⟩ = some (.int .i64 (gs.getD i Gl.none).p) ∧ w.cell? ⟨b, off + i * 5 + 2, none⟩ = some (.int .i64 (gs.getD i Gl.none).po) ∧ w.cell? ⟨b, off + i * 5 + 3, none⟩ = some (.int .i64 (gs.getD i Gl.none).m) ∧ w.cell? ⟨b, off + i * 5 + 4, none⟩ = some (.int .i64 (gs.getD i Gl.none).mo)) := hr
 clear hr
 go_enter Tryz.func66, Tryz.ntmps66
 go_wp2_with (first
  | (refine wpList_make_full _ rfl _ _ 42 rfl w.heap.size 61 i0 (.agg #[.int .i64 0, .int .i64 0, .int .i64 0, .int .i64 0, .int .i64 0]) 5 Tryz.underlying42 hi hz0 hz1 _ _ _ _ n rfl rfl rfl rfl (by rw [show i0.bytes = 40 from HI]; omega) (by unfold maxLen; omega) (Nat.le_refl _) ?_; intro w1 hown hgrow))
 have hbel : Below w.heap.size w w1 := Below.grown (Below.refl _ _) hgrow (Nat.le_refl _) (by simp)
 have HO : Hid (GPart w1 w.heap.size n 0 gs ∧ Below w.heap.size w w1) := by
  refine ⟨?_, hbel⟩
  rcases hown.2 with ⟨h', _⟩ | ⟨g', cap', cur, h', _, hg, _, _, hcs, _⟩
  ·simp at h'
  ·simp only [Value.slice.injEq, Option.some.injEq, Addr.mk.injEq, and_true, true_and] at h'
   obtain ⟨rfl, rfl⟩ := h'
   exact ⟨cur, hg, hcs, fun i hi => by omega⟩
 clear hown hgrow hbel
 go_wp2
 go_loopw [4] (fun i wr => ∃ k : Nat, k ≤ n ∧ i = .int .i64 k ∧ GPart wr w.heap.size n k gs ∧ Below w.heap.size w wr) (fun i _ => n - (intOf i).toNat)
 case atStart => exact ⟨0, by omega, rfl, HO.1, HO.2⟩
 case round =>
  obtain ⟨k, hk, rfl, hp, hbel⟩ := hrel
  by_cases hkn : k < n
  ·have hki : (k : Int) < (n : Int) := by omega
   obtain ⟨b, off, rfl, hb, hc⟩ := HR (by omega)
   obtain ⟨t, ht⟩ : ∃ t, t = gs.getD k Gl.none := ⟨_, rfl⟩
   obtain ⟨hc0, hc1, hc2, hc3, hc4⟩ := hc k hkn
   rw [← ht] at hc0 hc1 hc2 hc3 hc4
   have g0 := (hbel.cell (p := ⟨b, off + k * 5, none⟩) hb).trans hc0
   have g1 := (hbel.cell (p := ⟨b, off + k * 5 + 1, none⟩) hb).trans hc1
   have g2 := (hbel.cell (p := ⟨b, off + k * 5 + 2, none⟩) hb).trans hc2
   have g3 := (hbel.cell (p := ⟨b, off + k * 5 + 3, none⟩) hb).trans hc3
   have g4 := (hbel.cell (p := ⟨b, off + k * 5 + 4, none⟩) hb).trans hc4
   have HB : Hid (Below w.heap.size w wr) := hbel
   have HT : Hid (t = gs.getD k Gl.none) := ht
   have HP : Hid (GPart wr w.heap.size n k gs) := hp
   clear hc hc0 hc1 hc2 hc3 hc4 hbel ht hp
   go_wp2_with (go_at_call 92; refine (toGlue_any _ _ _ _ _ _).mono ?_; rintro e w2 ⟨rfl, hb1⟩; have hp2 := GPart.below HP hb1; have hfz := hp2.free; obtain ⟨x0, hx0⟩ := hp2.cells (k * 5) (by omega); obtain ⟨x1, hx1⟩ := hp2.cells (k * 5 + 1) (by omega); obtain ⟨x2, hx2⟩ := hp2.cells (k * 5 + 2) (by omega); obtain ⟨x3, hx3⟩ := hp2.cells (k * 5 + 3) (by omega); obtain ⟨x4, hx4⟩ := hp2.cells (k * 5 + 4) (by omega); have HP2 : Hid (GPart w2 w.heap.size n k gs ∧ Below w.heap.size w w2) := ⟨hp2, Below.trans HB (hb1.mono (Below.size HB))⟩; clear hp2 hb1)
   go_roundw
   case rel => exact ⟨k + 1, by omega, by go_num, GPart.put HP2.1 hkn HT, ((((HP2.2.setCell (Nat.le_refl _) _).setCell (Nat.le_refl _) _).setCell (Nat.le_refl _) _).setCell (Nat.le_refl _) _).setCell (Nat.le_refl _) _⟩
   case measure => simp [intOf]; omega
  ·have hki : ¬ (k : Int) < (n : Int) := by omega
   obtain rfl : k = n := by omega
   have HP : Hid (GPart wr w.heap.size k k gs ∧ Below w.heap.size w wr) := ⟨hp, hbel⟩
   clear hp hbel
   go_wp2
   go_ret
   exact ⟨rfl, HP⟩
set_option maxHeartbeats 1000000 in
theorem eqGlue_same (s p po m mo : Int) (w : World) : Calls Tryz.prog 113 #[glueV s p po m mo, glueV s p po m mo] w fun e w' => e = .returned (.bool true) ∧ Below w.heap.size w w' := by
 go_enter Tryz.func113, Tryz.ntmps113
 go_wp2
 go_ret
 exact ⟨rfl, ((Below.refl _ _).alloc (Nat.le_refl _) _).alloc (by simp) _⟩
set_option maxHeartbeats 2000000 in
theorem eqGlues_same {v1 v2 : Value} {gs : List Gl} {w : World} (h1 : GRow w v1 gs) (h2 : GRow w v2 gs) (hx : gs.length ≤ 1048576) :
 Calls Tryz.prog 81 #[v1, v2] w fun e w' => e = .returned (.bool true) ∧ Below w.heap.size w w' := by
 obtain ⟨ao1, n1, cap1, rfl, hn1, hr1⟩ := h1
 obtain ⟨ao2, n2, cap2, rfl, hn2, hr2⟩ := h2
 obtain rfl : n1 = n2 := by omega
 rw [hn1] at hx
 have HR1 : Hid (0 < n1 → ∃ b off, ao1 = some ⟨b, off, none⟩ ∧ b < w.heap.size ∧ ∀ i, i < n1 → w.cell? ⟨b, off + i * 5, none⟩ = some (.int .i64 (gs.getD i Gl.none).s) ∧ w.cell? ⟨b, off + i * 5 + 1, none⟩ = some (.int .i64 (gs.getD i Gl.none).p) ∧ w.cell? ⟨b, off + i * 5 + 2, none⟩ = some (.int .i64 (gs.getD i Gl.none).po) ∧ w.cell? ⟨b, off + i * 5 + 3, none⟩ = some (.int .i64 (gs.getD i Gl.none).m) ∧ w.cell? ⟨b, off + i * 5 + 4, none⟩ = some (.int .i64 (gs.getD i Gl.none).mo)) := hr1
 have HR2 : Hid (0 < n1 → ∃ b off, ao2 = some ⟨b, off, none⟩ ∧ b < w.heap.size ∧ ∀ i, i < n1 → w.cell? ⟨b, off + i * 5, none⟩ = some (.int .i64 (gs.getD i Gl.none).s) ∧ w.cell? ⟨b, off + i * 5 + 1, none⟩ = some (.int .i64 (gs.getD i Gl.none).p) ∧ w.cell? ⟨b, off + i * 5 + 2, none⟩ = some (.int .i64 (gs.getD i Gl.none).po) ∧ w.cell? ⟨b, off + i * 5 + 3, none⟩ = some (.int .i64 (gs.getD i Gl.none).m) ∧ w.cell? ⟨b, off + i * 5 + 4, none⟩ = some (.int .i64 (gs.getD i Gl.none).mo)) := hr2
 clear hn1 hn2 hr1 hr2
 go_enter Tryz.func81, Tryz.ntmps81
 go_wp2
 go_loopw [5] (fun i wr => ∃ k : Nat, k ≤ n1 ∧ i = .int .i64 k ∧ Below w.heap.size w wr) (fun i _ => n1 - (intOf i).toNat)
 case atStart => exact ⟨0, by omega, rfl, Below.refl _ _⟩
 case round =>
  obtain ⟨k, hk, rfl, hbel⟩ := hrel
  by_cases hkn : k < n1
  ·have hki : (k : Int) < (n1 : Int) := by omega
   obtain ⟨b, off, rfl, hb, hc⟩ := HR1 (by omega)
   obtain ⟨b', off', rfl, hb', hc'⟩ := HR2 (by omega)
   obtain ⟨t, ht⟩ : ∃ t, t = gs.getD k Gl.none := ⟨_, rfl⟩
   obtain ⟨hc0, hc1, hc2, hc3, hc4⟩ := hc k hkn
   obtain ⟨hd0, hd1, hd2, hd3, hd4⟩ := hc' k hkn
   rw [← ht] at hc0 hc1 hc2 hc3 hc4 hd0 hd1 hd2 hd3 hd4
   have g0 := (hbel.cell (p := ⟨b, off + k * 5, none⟩) hb).trans hc0
   have g1 := (hbel.cell (p := ⟨b, off + k * 5 + 1, none⟩) hb).trans hc1
   have g2 := (hbel.cell (p := ⟨b, off + k * 5 + 2, none⟩) hb).trans hc2
   have g3 := (hbel.cell (p := ⟨b, off + k * 5 + 3, none⟩) hb).trans hc3
   have g4 := (hbel.cell (p := ⟨b, off + k * 5 + 4, none⟩) hb).trans hc4
   have f0 := (hbel.cell (p := ⟨b', off' + k * 5, none⟩) hb').trans hd0
   have f1 := (hbel.cell (p := ⟨b', off' + k * 5 + 1, none⟩) hb').trans hd1
   have f2 := (hbel.cell (p := ⟨b', off' + k * 5 + 2, none⟩) hb').trans hd2
   have f3 := (hbel.cell (p := ⟨b', off' + k * 5 + 3, none⟩) hb').trans hd3
   have f4 := (hbel.cell (p := ⟨b', off' + k * 5 + 4, none⟩) hb').trans hd4
   have HB : Hid (Below w.heap.size w wr) := hbel
   clear hc hc' hc0 hc1 hc2 hc3 hc4 hd0 hd1 hd2 hd3 hd4 hbel ht
   go_wp2
   go_region_with (go_at_call 113; refine (eqGlue_same _ _ _ _ _ _).mono ?_; rintro e w2 ⟨rfl, hb1⟩)
   all_goals
    have hb2 : Below w.heap.size w w2 := Below.trans (Below.drew HB) (‹Below _ _ w2›.mono (Below.size HB))
    go_wp2
    go_roundw
    case rel => exact ⟨k + 1, by omega, by go_num, hb2⟩
    case measure => simp [intOf]; omega
  ·have hki : ¬ (k : Int) < (n1 : Int) := by omega
   have HB : Hid (Below w.heap.size w wr) := hbel
   clear hbel
   go_wp2
   go_ret
   exact ⟨rfl, HB⟩
end Go.Proofs.YtbpidcfoldkhgaaGreat
