import Derived.Test.YtbpidcfoldkhgaaGreatInts
import Derived.Deep.RegionHeld3
namespace Go.Proofs.YtbpidcfoldkhgaaGreat
open Go.RowKit
set_option linter.unusedVariables false
set_option linter.unusedSimpArgs false
structure Tk where
 c : Int
 h : Int
 s : ByteArray
abbrev Tk.v (t : Tk) : Value := tokV t.c t.h t.s
def Tk.none : Tk := ⟨0, 0, ByteArray.empty⟩
def TRow (w : World) (v : Value) (ts : List Tk) : Prop :=
 ∃ ao n cap, v = .slice ao n cap ∧ ts.length = n ∧ (0 < n → ∃ b off, ao = some ⟨b, off, none⟩ ∧ b < w.heap.size ∧ ∀ i, i < n →
  w.cell? ⟨b, off + i * 3, none⟩ = some (.int .i64 (ts.getD i Tk.none).c) ∧ w.cell? ⟨b, off + i * 3 + 1, none⟩ = some (.int .i64 (ts.getD i Tk.none).h) ∧ w.cell? ⟨b, off + i * 3 + 2, none⟩ = some (.string (ts.getD i Tk.none).s))
theorem TRow.below {w w' : World} {v : Value} {ts : List Tk} (h : TRow w v ts) (hb : Below w.heap.size w w') : TRow w' v ts := by
 obtain ⟨ao, n, cap, rfl, hn, hc⟩ := h
 refine ⟨ao, n, cap, rfl, hn, fun hp => ?_⟩
 obtain ⟨b, off, rfl, hlt, hcell⟩ := hc hp
 refine ⟨b, off, rfl, Nat.lt_of_lt_of_le hlt hb.size, fun i hi => ?_⟩
 obtain ⟨h1, h2, h3⟩ := hcell i hi
 exact ⟨(hb.cell (p := ⟨b, off + i * 3, none⟩) hlt).trans h1, (hb.cell (p := ⟨b, off + i * 3 + 1, none⟩) hlt).trans h2, (hb.cell (p := ⟨b, off + i * 3 + 2, none⟩) hlt).trans h3⟩
def weight (ts : List Tk) : Nat := ts.length + (ts.map (fun t => t.s.size)).sum
theorem szToken_val (c h : Int) (s : ByteArray) (n : Int) (w : World) (h0 : 0 ≤ n) (h1 : n ≤ 1048576) (hs : s.size ≤ 9223372036854775807) :
 Calls Tryz.prog 116 #[tokV c h s, .int .i64 n] w fun e w' => e = .returned (.int .i64 (if n - s.size < 0 then -1 else n - s.size)) ∧ Below w.heap.size w w' := by
 by_cases hlt : n - s.size < 0
 ·rw [if_pos hlt]
  go_enter Tryz.func116, Tryz.ntmps116
  go_wp2
  go_ret
  exact ⟨rfl, (Below.refl _ _).alloc (Nat.le_refl _) _⟩
 ·rw [if_neg hlt]
  go_enter Tryz.func116, Tryz.ntmps116
  go_wp2
  go_ret
  exact ⟨rfl, (Below.refl _ _).alloc (Nat.le_refl _) _⟩
theorem take_sum {ts : List Tk} {k : Nat} (h : k < ts.length) : ((ts.take (k + 1)).map (fun t => t.s.size)).sum = ((ts.take k).map (fun t => t.s.size)).sum + (ts.getD k Tk.none).s.size := by
 rw [List.take_succ_eq_append_getElem h, List.map_append, List.sum_append]
 simp [List.getD, List.getElem?_eq_getElem h]
set_option maxHeartbeats 1000000 in
theorem szTokens_any {v : Value} {ts : List Tk} {w : World} {l : Int} (h : TRow w v ts) (hn : ts.length ≤ 9223372036854775807) (hs : ∀ i, i < ts.length → (ts.getD i Tk.none).s.size ≤ 9223372036854775807) (hl0 : 0 ≤ l) (hl1 : l ≤ 1048576) :
 Calls Tryz.prog 86 #[v, .int .i64 l] w fun e w' => (∃ m : Int, e = .returned (.int .i64 m) ∧ m ≤ l ∧ (0 ≤ m → m = l - weight ts)) ∧ Below w.heap.size w w' := by
 obtain ⟨ao, n, cap, rfl, hl, hr⟩ := h
 rw [hl] at hn
 by_cases hbig : l - (n : Int) < 0
 ·go_enter Tryz.func86, Tryz.ntmps86
  go_wp2
  go_ret
  exact ⟨⟨-1, rfl, by omega, fun h => by omega⟩, Below.refl _ _⟩
 ·have HR : Hid (0 < n → ∃ b off, ao = some ⟨b, off, none⟩ ∧ b < w.heap.size ∧ ∀ i, i < n →
   w.cell? ⟨b, off + i * 3, none⟩ = some (.int .i64 (ts.getD i Tk.none).c) ∧ w.cell? ⟨b, off + i * 3 + 1, none⟩ = some (.int .i64 (ts.getD i Tk.none).h) ∧ w.cell? ⟨b, off + i * 3 + 2, none⟩ = some (.string (ts.getD i Tk.none).s)) := hr
  have HS : Hid (∀ i, i < ts.length → (ts.getD i Tk.none).s.size ≤ 9223372036854775807) := hs
  have HL : Hid (ts.length = n) := hl
  clear hr hs hl
  go_enter Tryz.func86, Tryz.ntmps86
  go_wp2
  go_loopw [1, 5] (fun s i wr => ∃ (k : Nat) (m : Int), k ≤ n ∧ i = .int .i64 k ∧ s = .int .i64 m ∧ 0 ≤ m ∧ m ≤ l ∧ m = l - n - ((ts.take k).map (fun t => t.s.size)).sum ∧ Below w.heap.size w wr)
   (fun _ i _ => n - (intOf i).toNat)
  case atStart => exact ⟨0, l - n, by omega, rfl, rfl, by omega, by omega, by simp, Below.refl _ _⟩
  case round =>
   obtain ⟨k, m, hk, rfl, rfl, hm0, hm1, hm, hbel⟩ := hrel
   have hm2 : m ≤ 1048576 := by omega
   by_cases hkn : k < n
   ·have hki : (k : Int) < (n : Int) := by omega
    obtain ⟨b, off, rfl, hb, hc⟩ := HR (by omega)
    obtain ⟨t, ht⟩ : ∃ t, t = ts.getD k Tk.none := ⟨_, rfl⟩
    obtain ⟨hc0, hc1, hc2⟩ := hc k hkn
    rw [← ht] at hc0 hc1 hc2
    have g0 := (hbel.cell (p := ⟨b, off + k * 3, none⟩) hb).trans hc0
    have g1 := (hbel.cell (p := ⟨b, off + k * 3 + 1, none⟩) hb).trans hc1
    have g2 := (hbel.cell (p := ⟨b, off + k * 3 + 2, none⟩) hb).trans hc2
    have hts : t.s.size ≤ 9223372036854775807 := by rw [ht]; exact HS k (by rw [show ts.length = n from HL]; exact hkn)
    have HB : Hid (Below w.heap.size w wr) := hbel
    have HT : Hid (t = ts.getD k Tk.none) := ht
    have HM : Hid (m = l - n - ((ts.take k).map (fun t => t.s.size)).sum) := hm
    clear hc hc0 hc1 hc2 hbel ht hm
    by_cases hneg : m - t.s.size < 0
    ·go_wp2_with (go_at_call 116; refine (szToken_val _ _ _ _ _ hm0 hm2 hts).mono ?_; rw [if_pos hneg]; rintro e w' ⟨rfl, hb1⟩)
     go_ret
     exact ⟨⟨-1, rfl, by omega, fun h => by omega⟩, Below.trans HB (‹Below wr.heap.size wr _›.mono (Below.size HB))⟩
    ·go_wp2_with (go_at_call 116; refine (szToken_val _ _ _ _ _ hm0 hm2 hts).mono ?_; rw [if_neg hneg]; rintro e w' ⟨rfl, hb1⟩)
     have HB2 : Below w.heap.size w w' := Below.trans HB (‹Below wr.heap.size wr _›.mono (Below.size HB))
     go_roundw
     case rel =>
      refine ⟨k + 1, m - t.s.size, by omega, by go_num, rfl, by omega, by omega, ?_, HB2⟩
      rw [show m = l - n - ((ts.take k).map (fun t => t.s.size)).sum from HM, take_sum (by rw [show ts.length = n from HL]; exact hkn), ← show t = ts.getD k Tk.none from HT]
      omega
     case measure => simp [intOf]; omega
   ·have hki : ¬ (k : Int) < (n : Int) := by omega
    obtain rfl : k = n := by omega
    have HB : Hid (Below w.heap.size w wr) := hbel
    have HM : Hid (m = l - k - ((ts.take k).map (fun t => t.s.size)).sum) := hm
    clear hbel hm
    go_wp2
    go_ret
    refine ⟨⟨m, rfl, hm1, fun _ => ?_⟩, HB⟩
    have hl : ts.length = k := HL
    have hm : m = l - k - ((ts.take k).map (fun t => t.s.size)).sum := HM
    rw [← hl, List.take_length] at hm
    unfold weight
    omega
theorem Tryz.info51 : (Tryz.prog.info? 51).map (fun i => (i.zero, i.size, i.bytes)) = some (some (.agg #[.int .i64 0, .int .i64 0, .string ByteArray.empty]), 3, 32) := by kernel_rfl
def TPart (w : World) (g n k : Nat) (ts : List Tk) : Prop :=
 ∃ cur : Array Value, w.heap[g]? = some (.cells cur 51 (0, 0)) ∧ cur.size = n * 3 ∧ ∀ i, i < k → cur[i * 3]? = some (.int .i64 (ts.getD i Tk.none).c) ∧ cur[i * 3 + 1]? = some (.int .i64 (ts.getD i Tk.none).h) ∧ cur[i * 3 + 2]? = some (.string (ts.getD i Tk.none).s)
theorem TPart.row {w : World} {g n cap : Nat} {ts : List Tk} (h : TPart w g n n ts) (hn : ts.length = n) : TRow w (.slice (some ⟨g, 0, none⟩) n cap) ts := by
 obtain ⟨cur, hg, hs, hc⟩ := h
 refine ⟨_, n, cap, rfl, hn, fun _ => ⟨g, 0, rfl, (Array.getElem?_eq_some_iff.1 hg).1, fun i hi => ?_⟩⟩
 obtain ⟨h1, h2, h3⟩ := hc i hi
 rw [Nat.zero_add, cell_of_row w g _ cur 51 _ hg, cell_of_row w g _ cur 51 _ hg, cell_of_row w g _ cur 51 _ hg]
 exact ⟨h1, h2, h3⟩
theorem TPart.put {w : World} {g n k : Nat} {ts : List Tk} (h : TPart w g n k ts) (hk : k < n) {t : Tk} (ht : t = ts.getD k Tk.none) :
 TPart (((w.setCell ⟨g, k * 3, none⟩ (.int .i64 t.c)).setCell ⟨g, k * 3 + 1, none⟩ (.int .i64 t.h)).setCell ⟨g, k * 3 + 2, none⟩ (.string t.s)) g n (k + 1) ts := by
 obtain ⟨cur, hg, hs, hc⟩ := h
 have e1 := heap_setCell_same w g (k * 3) cur 51 (.int .i64 t.c) hg
 have e2 := heap_setCell_same _ g (k * 3 + 1) _ 51 (.int .i64 t.h) e1
 have e3 := heap_setCell_same _ g (k * 3 + 2) _ 51 (.string t.s) e2
 refine ⟨_, e3, by simp [hs], fun i hi => ?_⟩
 by_cases hik : i = k
 ·subst hik
  subst ht
  simp only [Array.getElem?_setIfInBounds, Array.size_setIfInBounds, hs]
  refine ⟨?_, ?_, ?_⟩
  ·simp; omega
  ·simp; omega
  ·simp; omega
 ·obtain ⟨h1, h2, h3⟩ := hc i (by omega)
  simp only [Array.getElem?_setIfInBounds, Array.size_setIfInBounds]
  refine ⟨?_, ?_, ?_⟩
  ·rw [if_neg (by omega), if_neg (by omega), if_neg (by omega)]; exact h1
  ·rw [if_neg (by omega), if_neg (by omega), if_neg (by omega)]; exact h2
  ·rw [if_neg (by omega), if_neg (by omega), if_neg (by omega)]; exact h3
theorem TPart.cells {w : World} {g n k : Nat} {ts : List Tk} (h : TPart w g n k ts) (j : Nat) (hj : j < n * 3) : ∃ x, w.cell? ⟨g, j, none⟩ = some x := by
 obtain ⟨cur, hg, hs, _⟩ := h
 rw [cell_of_row w g _ cur 51 _ hg]
 exact ⟨_, Array.getElem?_eq_getElem (by omega)⟩
theorem TPart.free {w : World} {g n k : Nat} {ts : List Tk} (h : TPart w g n k ts) (j : Nat) : w.frozen? ⟨g, j, none⟩ = false := by
 obtain ⟨cur, hg, hs, _⟩ := h
 exact frozen_of_row w g j cur 51 hg
theorem TPart.below {w w' : World} {g n k : Nat} {ts : List Tk} (h : TPart w g n k ts) (hb : Below w.heap.size w w') : TPart w' g n k ts := by
 obtain ⟨cur, hg, hs, hc⟩ := h
 exact ⟨cur, (hb.block g (Array.getElem?_eq_some_iff.1 hg).1).trans hg, hs, hc⟩
theorem TPart.lt {w : World} {g n k : Nat} {ts : List Tk} (h : TPart w g n k ts) : g < w.heap.size := by
 obtain ⟨cur, hg, _⟩ := h
 exact (Array.getElem?_eq_some_iff.1 hg).1
set_option maxHeartbeats 1000000 in
theorem toTokens_any {v : Value} {ts : List Tk} {w : World} (h : TRow w v ts) (hsz : ts.length ≤ 1048576) :
 Calls Tryz.prog 93 #[v] w fun e w' => e = .returned (.slice (some ⟨w.heap.size, 0, none⟩) ts.length ts.length) ∧ TPart w' w.heap.size ts.length ts.length ts ∧ Below w.heap.size w w' := by
 obtain ⟨ao, n, cap, rfl, hn, hr⟩ := h
 rw [hn] at hsz
 rw [hn]
 obtain ⟨i0, hi, hz0, hz1, hz2⟩ := info_parts Tryz.info51
 have HI : Hid (i0.bytes = 32) := hz2
 have HR : Hid (0 < n → ∃ b off, ao = some ⟨b, off, none⟩ ∧ b < w.heap.size ∧ ∀ i, i < n →
  w.cell? ⟨b, off + i * 3, none⟩ = some (.int .i64 (ts.getD i Tk.none).c) ∧ w.cell? ⟨b, off + i * 3 + 1, none⟩ = some (.int .i64 (ts.getD i Tk.none).h) ∧ w.cell? ⟨b, off + i * 3 + 2, none⟩ = some (.string (ts.getD i Tk.none).s)) := hr
 clear hr
 go_enter Tryz.func93, Tryz.ntmps93
 go_wp2_with (first
  | (refine wpList_make_full _ rfl _ _ 52 rfl w.heap.size 51 i0 (.agg #[.int .i64 0, .int .i64 0, .string ByteArray.empty]) 3 Tryz.underlying52 hi hz0 hz1 _ _ _ _ n rfl rfl rfl rfl (by rw [show i0.bytes = 32 from HI]; omega) (by unfold maxLen; omega) (Nat.le_refl _) ?_; intro w1 hown hgrow))
 have hbel : Below w.heap.size w w1 := Below.grown (Below.refl _ _) hgrow (Nat.le_refl _) (by simp)
 have HO : Hid (TPart w1 w.heap.size n 0 ts ∧ Below w.heap.size w w1) := by
  refine ⟨?_, hbel⟩
  rcases hown.2 with ⟨h', _⟩ | ⟨g', cap', cur, h', _, hg, _, _, hcs, _⟩
  ·simp at h'
  ·simp only [Value.slice.injEq, Option.some.injEq, Addr.mk.injEq, and_true, true_and] at h'
   obtain ⟨rfl, rfl⟩ := h'
   exact ⟨cur, hg, hcs, fun i hi => by omega⟩
 clear hown hgrow hbel
 go_wp2
 go_loopw [4] (fun i wr => ∃ k : Nat, k ≤ n ∧ i = .int .i64 k ∧ TPart wr w.heap.size n k ts ∧ Below w.heap.size w wr) (fun i _ => n - (intOf i).toNat)
 case atStart => exact ⟨0, by omega, rfl, HO.1, HO.2⟩
 case round =>
  obtain ⟨k, hk, rfl, hp, hbel⟩ := hrel
  by_cases hkn : k < n
  ·have hki : (k : Int) < (n : Int) := by omega
   obtain ⟨b, off, rfl, hb, hc⟩ := HR (by omega)
   obtain ⟨t, ht⟩ : ∃ t, t = ts.getD k Tk.none := ⟨_, rfl⟩
   obtain ⟨hc0, hc1, hc2⟩ := hc k hkn
   rw [← ht] at hc0 hc1 hc2
   have g0 := (hbel.cell (p := ⟨b, off + k * 3, none⟩) hb).trans hc0
   have g1 := (hbel.cell (p := ⟨b, off + k * 3 + 1, none⟩) hb).trans hc1
   have g2 := (hbel.cell (p := ⟨b, off + k * 3 + 2, none⟩) hb).trans hc2
   have HB : Hid (Below w.heap.size w wr) := hbel
   have HT : Hid (t = ts.getD k Tk.none) := ht
   have HP : Hid (TPart wr w.heap.size n k ts) := hp
   clear hc hc0 hc1 hc2 hbel ht hp
   go_wp2_with (go_at_call 118; refine (toToken_any _ _ _ _).mono ?_; rintro e w2 ⟨rfl, hb1⟩; have hp2 := TPart.below HP hb1; have hfz := hp2.free; obtain ⟨x0, hx0⟩ := hp2.cells (k * 3) (by omega); obtain ⟨x1, hx1⟩ := hp2.cells (k * 3 + 1) (by omega); obtain ⟨x2, hx2⟩ := hp2.cells (k * 3 + 2) (by omega); have HP2 : Hid (TPart w2 w.heap.size n k ts ∧ Below w.heap.size w w2) := ⟨hp2, Below.trans HB (hb1.mono (Below.size HB))⟩; clear hp2 hb1)
   go_roundw
   case rel => exact ⟨k + 1, by omega, by go_num, TPart.put HP2.1 hkn HT, ((HP2.2.setCell (Nat.le_refl _) _).setCell (Nat.le_refl _) _).setCell (Nat.le_refl _) _⟩
   case measure => simp [intOf]; omega
  ·have hki : ¬ (k : Int) < (n : Int) := by omega
   obtain rfl : k = n := by omega
   have HP : Hid (TPart wr w.heap.size k k ts ∧ Below w.heap.size w wr) := ⟨hp, hbel⟩
   clear hp hbel
   go_wp2
   go_ret
   exact ⟨rfl, HP⟩
end Go.Proofs.YtbpidcfoldkhgaaGreat
