import Derived.Test.YtbpidcfoldkhgaaGreatTok
import Derived.Deep.QuietTactic
import Derived.BigQuiet
import Derived.WalkSmall
import Derived.LoopTactic
import Derived.Deep.RegionHeld3
namespace Go.Proofs.YtbpidcfoldkhgaaGreat
open Go.RowKit
set_option linter.unusedVariables false
set_option linter.unusedSimpArgs false
def Row (w : World) (v : Value) (zs : List Int) : Prop :=
 ∃ ao n cap, v = .slice ao n cap ∧ zs.length = n ∧ (0 < n → ∃ b off, ao = some ⟨b, off, none⟩ ∧ b < w.heap.size ∧ ∀ i, i < n → w.cell? ⟨b, off + i, none⟩ = some (.int .i64 (zs.getD i 0)))
theorem Row.below {w w' : World} {v : Value} {zs : List Int} (h : Row w v zs) (hb : Below w.heap.size w w') : Row w' v zs := by
 obtain ⟨ao, n, cap, rfl, hn, hc⟩ := h
 refine ⟨ao, n, cap, rfl, hn, fun hp => ?_⟩
 obtain ⟨b, off, rfl, hlt, hcell⟩ := hc hp
 exact ⟨b, off, rfl, Nat.lt_of_lt_of_le hlt hb.size, fun i hi => (hb.cell (p := ⟨b, off + i, none⟩) hlt).trans (hcell i hi)⟩
theorem Row.own {w : World} {base g n cap : Nat} {zs : List Int} (h : w.ownsRow base 2 1 (.slice (some ⟨g, 0, none⟩) n cap) n (zs.map (Value.int .i64))) (hn : zs.length = n) (hg : g < w.heap.size) :
 Row w (.slice (some ⟨g, 0, none⟩) n cap) zs := by
 refine ⟨_, n, cap, rfl, hn, fun hp => ⟨g, 0, rfl, hg, fun i hi => ?_⟩⟩
 have := World.ownsRow.cellAt h i (by omega)
 simp only [Nat.zero_add]
 rw [this]
 simp [List.getElem?_map, List.getD, List.getElem?_eq_getElem (show i < zs.length by omega)]
theorem retB {a b : Bool} (h : a = b) : Ending.returned (Value.bool a) = Ending.returned (Value.bool b) := by rw [h]
def catsB (zs : List Int) : Bool := decide (zs.length = 256) && zs.all (fun z => decide (0 ≤ z ∧ z ≤ 15))
theorem catsB_len {zs : List Int} (h : zs.length ≠ 256) : catsB zs = false := by simp [catsB, h]
theorem catsB_yes {zs : List Int} (h : zs.length = 256) (hz : ∀ j, j < 256 → 0 ≤ zs.getD j 0 ∧ zs.getD j 0 ≤ 15) : catsB zs = true := by
 simp only [catsB, h, decide_true, Bool.true_and, List.all_eq_true, decide_eq_true_eq]
 intro z hm
 obtain ⟨i, hi, rfl⟩ := List.getElem_of_mem hm
 have := hz i (by omega)
 simpa [List.getD, List.getElem?_eq_getElem hi] using this
theorem catsB_no {zs : List Int} {j : Nat} (h : zs.length = 256) (hj : j < 256) (hz : ¬ (0 ≤ zs.getD j 0 ∧ zs.getD j 0 ≤ 15)) : catsB zs = false := by
 cases hc : catsB zs with
 | false => rfl
 | true =>
  exfalso
  simp only [catsB, Bool.and_eq_true, List.all_eq_true, decide_eq_true_eq] at hc
  have hm := List.getElem_mem (l := zs) (n := j) (by omega)
  have := hc.2 _ hm
  simp [List.getD, List.getElem?_eq_getElem (show j < zs.length by omega)] at hz
  omega
set_option maxRecDepth 20000 in
set_option maxHeartbeats 1000000 in
theorem specCatsOk_any {v : Value} {zs : List Int} {w : World} (h : Row w v zs) : Calls Tryz.prog 59 #[v] w fun e w' => e = .returned (.bool (catsB zs)) ∧ w' = w := by
 obtain ⟨ao, n, cap, rfl, hn, hr⟩ := h
 by_cases hl : n = 256
 ·subst hl
  obtain ⟨b, off, rfl, hb, hc⟩ := hr (by omega)
  have HC : Hid (∀ i, i < 256 → w.cell? ⟨b, off + i, none⟩ = some (.int .i64 (zs.getD i 0))) := hc
  clear hc hr
  have HN : Hid (zs.length = 256) := hn
  clear hn
  go_enter Tryz.func59, Tryz.ntmps59
  go_wp2
  go_loop [3] (fun i => ∃ k : Nat, k ≤ 256 ∧ i = .int .i64 k ∧ ∀ j, j < k → 0 ≤ zs.getD j 0 ∧ zs.getD j 0 ≤ 15) (fun i => 256 - (intOf i).toNat)
  case atStart => exact ⟨0, by omega, rfl, fun j hj => by omega⟩
  case round =>
   obtain ⟨k, hk, rfl, hj⟩ := hrel
   have HJ : Hid (∀ j, j < k → 0 ≤ zs.getD j 0 ∧ zs.getD j 0 ≤ 15) := hj
   clear hj
   by_cases hlt : k < 256
   ·obtain ⟨z, hz⟩ : ∃ z, z = zs.getD k 0 := ⟨_, rfl⟩
    have hcell : w.cell? ⟨b, off + k, none⟩ = some (.int .i64 z) := by rw [hz]; exact HC k hlt
    have HZ : Hid (z = zs.getD k 0) := hz
    clear hz
    by_cases h0 : 0 ≤ z
    ·by_cases h1 : z ≤ 15
     ·go_wp2
      go_round
      case rel =>
       refine ⟨k + 1, by omega, by go_num, fun j hj => ?_⟩
       by_cases hjk : j = k
       ·subst hjk; rw [← show z = zs.getD j 0 from HZ]; exact ⟨h0, h1⟩
       ·exact HJ j (by omega)
      case measure => simp [intOf]; omega
     ·go_wp2
      go_ret
      exact ⟨retB (catsB_no HN hlt (by rw [← show z = zs.getD k 0 from HZ]; omega)).symm, rfl⟩
    ·go_wp2
     go_ret
     exact ⟨retB (catsB_no HN hlt (by rw [← show z = zs.getD k 0 from HZ]; omega)).symm, rfl⟩
   ·have hge : ¬ ((k : Int) < 256) := by omega
    go_wp2
    go_ret
    exact ⟨retB (catsB_yes HN (fun j hj => HJ j (by omega))).symm, rfl⟩
 ·have hn' : ((n : Int) == 256) = false := by simp; omega
  go_enter Tryz.func59, Tryz.ntmps59
  go_wp2
  go_ret
  exact ⟨retB (catsB_len (by omega)).symm, rfl⟩
theorem Tryz.info2 : (Tryz.prog.info? 2).map (fun i => (i.zero, i.size, i.bytes)) = some (some (.int .i64 0), 1, 8) := by kernel_rfl
def Copied (B n : Nat) (w w' : World) (zs : List Int) : Prop :=
 w'.ownsRow B 2 1 (.slice (some ⟨B, 0, none⟩) n n) n (zs.map (Value.int .i64)) ∧ zs.length = n ∧ Below B w w' ∧ B < w'.heap.size
theorem made_ints (n : Nat) : (madeCells (Value.cells (.int .i64 0)) (n * 1)).toList = (List.replicate n (0 : Int)).map (Value.int .i64) := by
 rw [Nat.mul_one]
 show (madeCells #[Value.int .i64 0] n).toList = _
 rw [toList_madeCells_one]
 simp
theorem ownsRow_block {w : World} {base e size g n cap : Nat} {xs : List Value} (h : w.ownsRow base e size (.slice (some ⟨g, 0, none⟩) n cap) n xs) : g < w.heap.size := by
 rcases h.2 with ⟨h', _⟩ | ⟨g', cap', cur, h', _, hg, _⟩
 ·simp at h'
 ·simp only [Value.slice.injEq, Option.some.injEq, Addr.mk.injEq, and_true, true_and] at h'
  obtain ⟨rfl, rfl⟩ := h'
  by_cases hb : g < w.heap.size
  ·exact hb
  ·simp [Array.getElem?_eq_none (show w.heap.size ≤ g by omega)] at hg
set_option maxHeartbeats 1000000 in
theorem toInts_any {v : Value} {zs : List Int} {w : World} (h : Row w v zs) (hsz : zs.length ≤ 1048576) :
 Calls Tryz.prog 64 #[v] w fun e w' => e = .returned (.slice (some ⟨w.heap.size, 0, none⟩) zs.length zs.length) ∧ Copied w.heap.size zs.length w w' zs := by
 obtain ⟨ao, n, cap, rfl, hn, hr⟩ := h
 rw [hn] at hsz
 rw [hn]
 obtain ⟨B, hB⟩ : ∃ B, B = w.heap.size := ⟨_, rfl⟩
 obtain ⟨i0, hi, hz0, hz1, hz2⟩ := info_parts Tryz.info2
 have HI : Hid (i0.bytes = 8) := hz2
 have HR : Hid (0 < n → ∃ b off, ao = some ⟨b, off, none⟩ ∧ b < w.heap.size ∧ ∀ i, i < n → w.cell? ⟨b, off + i, none⟩ = some (.int .i64 (zs.getD i 0))) := hr
 clear hr
 have HN : Hid (zs.length = n) := hn
 clear hn
 go_enter Tryz.func64, Tryz.ntmps64
 go_wp2_with (first
  | (refine wpList_make_full _ rfl _ _ 40 rfl w.heap.size 2 i0 (.int .i64 0) 1 Tryz.underlying40 hi hz0 hz1 _ _ _ _ n rfl rfl rfl rfl (by rw [show i0.bytes = 8 from HI]; omega) (by unfold maxLen; omega) (Nat.le_refl _) ?_; intro w1 hown hgrow))
 have hn1 : w.heap.size < w1.heap.size := ownsRow_block hown
 have hown0 : w1.ownsRow w.heap.size 2 1 (.slice (some ⟨w.heap.size, 0, none⟩) n n) n ((List.replicate n (0 : Int)).map (Value.int .i64)) := by rw [← made_ints]; exact hown
 have hbel : Below w.heap.size w w1 := Below.grown (Below.refl _ _) hgrow (Nat.le_refl _) (by simp)
 have HO : Hid (w1.ownsRow w.heap.size 2 1 (.slice (some ⟨w.heap.size, 0, none⟩) n n) n ((List.replicate n (0 : Int)).map (Value.int .i64)) ∧ Below w.heap.size w w1 ∧ w.heap.size < w1.heap.size) := ⟨hown0, hbel, hn1⟩
 clear hown hown0 hgrow hbel hn1
 go_wp2
 go_loopw [4] (fun i wr => ∃ (k : Nat) (ys : List Int), k ≤ n ∧ i = .int .i64 k ∧ ys.length = n ∧ (∀ j, j < k → ys.getD j 0 = zs.getD j 0) ∧
  wr.ownsRow w.heap.size 2 1 (.slice (some ⟨w.heap.size, 0, none⟩) n n) n (ys.map (Value.int .i64)) ∧ Below w.heap.size w wr ∧ w.heap.size < wr.heap.size)
  (fun i _ => n - (intOf i).toNat)
 case atStart => exact ⟨0, List.replicate n 0, by omega, rfl, by simp, fun j hj => by omega, HO.1, HO.2.1, HO.2.2⟩
 case round =>
  obtain ⟨k, ys, hk, rfl, hys, hj, hown, hbel, hlt⟩ := hrel
  by_cases hkn : k < n
  ·obtain ⟨b, off, rfl, hb, hc⟩ := HR (by omega)
   have hcell : wr.cell? ⟨b, off + k, none⟩ = some (.int .i64 (zs.getD k 0)) := (hbel.cell (p := ⟨b, off + k, none⟩) hb).trans (hc k hkn)
   obtain ⟨z, hz⟩ : ∃ z, z = zs.getD k 0 := ⟨_, rfl⟩
   rw [← hz] at hcell
   have hfz : wr.frozen? ⟨w.heap.size, k, none⟩ = false := World.ownsRow.frozenAt hown k
   have hco : wr.cell? ⟨w.heap.size, k, none⟩ = some (.int .i64 (ys.getD k 0)) := by
    rw [World.ownsRow.cellAt hown k (by omega)]
    simp [List.getElem?_map, List.getD, List.getElem?_eq_getElem (show k < ys.length by omega)]
   have hown2 := (World.ownsRow.stored hown k (.int .i64 z)).1
   have hbel2 := hbel.setCell (Nat.le_refl _) (p := ⟨w.heap.size, k, none⟩) (.int .i64 z)
   have HR2 : Hid ((wr.setCell ⟨w.heap.size, k, none⟩ (.int .i64 z)).ownsRow w.heap.size 2 1 (.slice (some ⟨w.heap.size, 0, none⟩) n n) n ((ys.set k z).map (Value.int .i64)) ∧ Below w.heap.size w (wr.setCell ⟨w.heap.size, k, none⟩ (.int .i64 z)) ∧ w.heap.size < (wr.setCell ⟨w.heap.size, k, none⟩ (.int .i64 z)).heap.size) :=
    ⟨by simpa using hown2, hbel2, by simpa using hlt⟩
   have HZ : Hid (z = zs.getD k 0) := hz
   have HJ : Hid (∀ j, j < k → ys.getD j 0 = zs.getD j 0) := hj
   clear hz hown hbel hown2 hbel2 hc hj
   go_wp2
   go_roundw
   case rel =>
    refine ⟨k + 1, ys.set k z, by omega, by go_num, by simp [hys], fun j hj => ?_, HR2.1, HR2.2.1, HR2.2.2⟩
    by_cases hjk : j = k
    ·subst hjk; rw [← show z = zs.getD j 0 from HZ]; simp [List.getD, hys, hkn]
    ·rw [← HJ j (by omega)]; simp [List.getD, List.getElem?_set, Ne.symm hjk]
   case measure => simp [intOf]; omega
  ·obtain rfl : k = n := by omega
   have hyz : ys = zs := by
    refine List.ext_getElem (by rw [hys]; exact (show zs.length = k from HN).symm) fun i h1 h2 => ?_
    have := hj i (by omega)
    simpa [List.getD, List.getElem?_eq_getElem h1, List.getElem?_eq_getElem h2] using this
   subst hyz
   have HR2 : Hid (Copied w.heap.size k w wr ys) := ⟨hown, HN, hbel, hlt⟩
   clear hown hbel hlt hj
   go_wp2
   go_ret
   exact ⟨rfl, HR2⟩
structure Tk where
 c : Int
 h : Int
 s : ByteArray
abbrev Tk.v (t : Tk) : Value := tokV t.c t.h t.s
def Tk.none : Tk := ⟨0, 0, ByteArray.empty⟩
def TRow (w : World) (v : Value) (ts : List Tk) : Prop :=
 ∃ ao n cap, v = .slice ao n cap ∧ ts.length = n ∧ (0 < n → ∃ b off, ao = some ⟨b, off, none⟩ ∧ b < w.heap.size ∧ ∀ i, i < n →
  w.cell? ⟨b, off + i * 3, none⟩ = some (.int .i64 (ts.getD i Tk.none).c) ∧ w.cell? ⟨b, off + i * 3 + 1, none⟩ = some (.int .i64 (ts.getD i Tk.none).h) ∧ w.cell? ⟨b, off + i * 3 + 2, none⟩ = some (.string (ts.getD i Tk.none).s))
theorem TRow.below {w w' : World} {v : Value} {ts : List Tk} (h : TRow w v ts) (hb : Below w.heap.size w w') : TRow w' v ts := by
 obtain ⟨ao, n, cap, rfl, hn, hc⟩ := h
 refine ⟨ao, n, cap, rfl, hn, fun hp => ?_⟩
 obtain ⟨b, off, rfl, hlt, hcell⟩ := hc hp
 refine ⟨b, off, rfl, Nat.lt_of_lt_of_le hlt hb.size, fun i hi => ?_⟩
 obtain ⟨h1, h2, h3⟩ := hcell i hi
 exact ⟨(hb.cell (p := ⟨b, off + i * 3, none⟩) hlt).trans h1, (hb.cell (p := ⟨b, off + i * 3 + 1, none⟩) hlt).trans h2, (hb.cell (p := ⟨b, off + i * 3 + 2, none⟩) hlt).trans h3⟩
def weight (ts : List Tk) : Nat := ts.length + (ts.map (fun t => t.s.size)).sum
theorem szToken_val (c h : Int) (s : ByteArray) (n : Int) (w : World) (h0 : 0 ≤ n) (h1 : n ≤ 1048576) (hs : s.size ≤ 9223372036854775807) :
 Calls Tryz.prog 116 #[tokV c h s, .int .i64 n] w fun e w' => e = .returned (.int .i64 (if n - s.size < 0 then -1 else n - s.size)) ∧ Below w.heap.size w w' := by
 by_cases hlt : n - s.size < 0
 ·rw [if_pos hlt]
  go_enter Tryz.func116, Tryz.ntmps116
  go_wp2
  go_ret
  exact ⟨rfl, (Below.refl _ _).alloc (Nat.le_refl _) _⟩
 ·rw [if_neg hlt]
  go_enter Tryz.func116, Tryz.ntmps116
  go_wp2
  go_ret
  exact ⟨rfl, (Below.refl _ _).alloc (Nat.le_refl _) _⟩
theorem take_sum {ts : List Tk} {k : Nat} (h : k < ts.length) : ((ts.take (k + 1)).map (fun t => t.s.size)).sum = ((ts.take k).map (fun t => t.s.size)).sum + (ts.getD k Tk.none).s.size := by
 rw [List.take_succ_eq_append_getElem h, List.map_append, List.sum_append]
 simp [List.getD, List.getElem?_eq_getElem h]
set_option maxHeartbeats 1000000 in
theorem szTokens_any {v : Value} {ts : List Tk} {w : World} {l : Int} (h : TRow w v ts) (hn : ts.length ≤ 9223372036854775807) (hs : ∀ i, i < ts.length → (ts.getD i Tk.none).s.size ≤ 9223372036854775807) (hl0 : 0 ≤ l) (hl1 : l ≤ 1048576) :
 Calls Tryz.prog 86 #[v, .int .i64 l] w fun e w' => (∃ m : Int, e = .returned (.int .i64 m) ∧ m ≤ l ∧ (0 ≤ m → m = l - weight ts)) ∧ Below w.heap.size w w' := by
 obtain ⟨ao, n, cap, rfl, hl, hr⟩ := h
 rw [hl] at hn
 by_cases hbig : l - (n : Int) < 0
 ·go_enter Tryz.func86, Tryz.ntmps86
  go_wp2
  go_ret
  exact ⟨⟨-1, rfl, by omega, fun h => by omega⟩, Below.refl _ _⟩
 ·have HR : Hid (0 < n → ∃ b off, ao = some ⟨b, off, none⟩ ∧ b < w.heap.size ∧ ∀ i, i < n →
   w.cell? ⟨b, off + i * 3, none⟩ = some (.int .i64 (ts.getD i Tk.none).c) ∧ w.cell? ⟨b, off + i * 3 + 1, none⟩ = some (.int .i64 (ts.getD i Tk.none).h) ∧ w.cell? ⟨b, off + i * 3 + 2, none⟩ = some (.string (ts.getD i Tk.none).s)) := hr
  have HS : Hid (∀ i, i < ts.length → (ts.getD i Tk.none).s.size ≤ 9223372036854775807) := hs
  have HL : Hid (ts.length = n) := hl
  clear hr hs hl
  go_enter Tryz.func86, Tryz.ntmps86
  go_wp2
  go_loopw [1, 5] (fun s i wr => ∃ (k : Nat) (m : Int), k ≤ n ∧ i = .int .i64 k ∧ s = .int .i64 m ∧ 0 ≤ m ∧ m ≤ l ∧ m = l - n - ((ts.take k).map (fun t => t.s.size)).sum ∧ Below w.heap.size w wr)
   (fun _ i _ => n - (intOf i).toNat)
  case atStart => exact ⟨0, l - n, by omega, rfl, rfl, by omega, by omega, by simp, Below.refl _ _⟩
  case round =>
   obtain ⟨k, m, hk, rfl, rfl, hm0, hm1, hm, hbel⟩ := hrel
   have hm2 : m ≤ 1048576 := by omega
   by_cases hkn : k < n
   ·have hki : (k : Int) < (n : Int) := by omega
    obtain ⟨b, off, rfl, hb, hc⟩ := HR (by omega)
    obtain ⟨t, ht⟩ : ∃ t, t = ts.getD k Tk.none := ⟨_, rfl⟩
    obtain ⟨hc0, hc1, hc2⟩ := hc k hkn
    rw [← ht] at hc0 hc1 hc2
    have g0 := (hbel.cell (p := ⟨b, off + k * 3, none⟩) hb).trans hc0
    have g1 := (hbel.cell (p := ⟨b, off + k * 3 + 1, none⟩) hb).trans hc1
    have g2 := (hbel.cell (p := ⟨b, off + k * 3 + 2, none⟩) hb).trans hc2
    have hts : t.s.size ≤ 9223372036854775807 := by rw [ht]; exact HS k (by rw [show ts.length = n from HL]; exact hkn)
    have HB : Hid (Below w.heap.size w wr) := hbel
    have HT : Hid (t = ts.getD k Tk.none) := ht
    have HM : Hid (m = l - n - ((ts.take k).map (fun t => t.s.size)).sum) := hm
    clear hc hc0 hc1 hc2 hbel ht hm
    by_cases hneg : m - t.s.size < 0
    ·go_wp2_with (go_at_call 116; refine (szToken_val _ _ _ _ _ hm0 hm2 hts).mono ?_; rw [if_pos hneg]; rintro e w' ⟨rfl, hb1⟩)
     go_ret
     exact ⟨⟨-1, rfl, by omega, fun h => by omega⟩, Below.trans HB (‹Below wr.heap.size wr _›.mono (Below.size HB))⟩
    ·go_wp2_with (go_at_call 116; refine (szToken_val _ _ _ _ _ hm0 hm2 hts).mono ?_; rw [if_neg hneg]; rintro e w' ⟨rfl, hb1⟩)
     have HB2 : Below w.heap.size w w' := Below.trans HB (‹Below wr.heap.size wr _›.mono (Below.size HB))
     go_roundw
     case rel =>
      refine ⟨k + 1, m - t.s.size, by omega, by go_num, rfl, by omega, by omega, ?_, HB2⟩
      rw [show m = l - n - ((ts.take k).map (fun t => t.s.size)).sum from HM, take_sum (by rw [show ts.length = n from HL]; exact hkn), ← show t = ts.getD k Tk.none from HT]
      omega
     case measure => simp [intOf]; omega
   ·have hki : ¬ (k : Int) < (n : Int) := by omega
    obtain rfl : k = n := by omega
    have HB : Hid (Below w.heap.size w wr) := hbel
    have HM : Hid (m = l - k - ((ts.take k).map (fun t => t.s.size)).sum) := hm
    clear hbel hm
    go_wp2
    go_ret
    refine ⟨⟨m, rfl, hm1, fun _ => ?_⟩, HB⟩
    have hl : ts.length = k := HL
    have hm : m = l - k - ((ts.take k).map (fun t => t.s.size)).sum := HM
    rw [← hl, List.take_length] at hm
    unfold weight
    omega
theorem Tryz.info51 : (Tryz.prog.info? 51).map (fun i => (i.zero, i.size, i.bytes)) = some (some (.agg #[.int .i64 0, .int .i64 0, .string ByteArray.empty]), 3, 32) := by kernel_rfl
def TPart (w : World) (g n k : Nat) (ts : List Tk) : Prop :=
 ∃ cur : Array Value, w.heap[g]? = some (.cells cur 51 (0, 0)) ∧ cur.size = n * 3 ∧ ∀ i, i < k → cur[i * 3]? = some (.int .i64 (ts.getD i Tk.none).c) ∧ cur[i * 3 + 1]? = some (.int .i64 (ts.getD i Tk.none).h) ∧ cur[i * 3 + 2]? = some (.string (ts.getD i Tk.none).s)
theorem TPart.row {w : World} {g n cap : Nat} {ts : List Tk} (h : TPart w g n n ts) (hn : ts.length = n) : TRow w (.slice (some ⟨g, 0, none⟩) n cap) ts := by
 obtain ⟨cur, hg, hs, hc⟩ := h
 refine ⟨_, n, cap, rfl, hn, fun _ => ⟨g, 0, rfl, (Array.getElem?_eq_some_iff.1 hg).1, fun i hi => ?_⟩⟩
 obtain ⟨h1, h2, h3⟩ := hc i hi
 rw [Nat.zero_add, cell_of_row w g _ cur 51 _ hg, cell_of_row w g _ cur 51 _ hg, cell_of_row w g _ cur 51 _ hg]
 exact ⟨h1, h2, h3⟩
theorem TPart.put {w : World} {g n k : Nat} {ts : List Tk} (h : TPart w g n k ts) (hk : k < n) {t : Tk} (ht : t = ts.getD k Tk.none) :
 TPart (((w.setCell ⟨g, k * 3, none⟩ (.int .i64 t.c)).setCell ⟨g, k * 3 + 1, none⟩ (.int .i64 t.h)).setCell ⟨g, k * 3 + 2, none⟩ (.string t.s)) g n (k + 1) ts := by
 obtain ⟨cur, hg, hs, hc⟩ := h
 have e1 := heap_setCell_same w g (k * 3) cur 51 (.int .i64 t.c) hg
 have e2 := heap_setCell_same _ g (k * 3 + 1) _ 51 (.int .i64 t.h) e1
 have e3 := heap_setCell_same _ g (k * 3 + 2) _ 51 (.string t.s) e2
 refine ⟨_, e3, by simp [hs], fun i hi => ?_⟩
 by_cases hik : i = k
 ·subst hik
  subst ht
  simp only [Array.getElem?_setIfInBounds, Array.size_setIfInBounds, hs]
  refine ⟨?_, ?_, ?_⟩
  ·simp; omega
  ·simp; omega
  ·simp; omega
 ·obtain ⟨h1, h2, h3⟩ := hc i (by omega)
  simp only [Array.getElem?_setIfInBounds, Array.size_setIfInBounds]
  refine ⟨?_, ?_, ?_⟩
  ·rw [if_neg (by omega), if_neg (by omega), if_neg (by omega)]; exact h1
  ·rw [if_neg (by omega), if_neg (by omega), if_neg (by omega)]; exact h2
  ·rw [if_neg (by omega), if_neg (by omega), if_neg (by omega)]; exact h3
theorem TPart.cells {w : World} {g n k : Nat} {ts : List Tk} (h : TPart w g n k ts) (j : Nat) (hj : j < n * 3) : ∃ x, w.cell? ⟨g, j, none⟩ = some x := by
 obtain ⟨cur, hg, hs, _⟩ := h
 rw [cell_of_row w g _ cur 51 _ hg]
 exact ⟨_, Array.getElem?_eq_getElem (by omega)⟩
theorem TPart.free {w : World} {g n k : Nat} {ts : List Tk} (h : TPart w g n k ts) (j : Nat) : w.frozen? ⟨g, j, none⟩ = false := by
 obtain ⟨cur, hg, hs, _⟩ := h
 exact frozen_of_row w g j cur 51 hg
theorem TPart.below {w w' : World} {g n k : Nat} {ts : List Tk} (h : TPart w g n k ts) (hb : Below w.heap.size w w') : TPart w' g n k ts := by
 obtain ⟨cur, hg, hs, hc⟩ := h
 exact ⟨cur, (hb.block g (Array.getElem?_eq_some_iff.1 hg).1).trans hg, hs, hc⟩
theorem TPart.lt {w : World} {g n k : Nat} {ts : List Tk} (h : TPart w g n k ts) : g < w.heap.size := by
 obtain ⟨cur, hg, _⟩ := h
 exact (Array.getElem?_eq_some_iff.1 hg).1
set_option maxHeartbeats 1000000 in
theorem toTokens_any {v : Value} {ts : List Tk} {w : World} (h : TRow w v ts) (hsz : ts.length ≤ 1048576) :
 Calls Tryz.prog 93 #[v] w fun e w' => e = .returned (.slice (some ⟨w.heap.size, 0, none⟩) ts.length ts.length) ∧ TPart w' w.heap.size ts.length ts.length ts ∧ Below w.heap.size w w' := by
 obtain ⟨ao, n, cap, rfl, hn, hr⟩ := h
 rw [hn] at hsz
 rw [hn]
 obtain ⟨i0, hi, hz0, hz1, hz2⟩ := info_parts Tryz.info51
 have HI : Hid (i0.bytes = 32) := hz2
 have HR : Hid (0 < n → ∃ b off, ao = some ⟨b, off, none⟩ ∧ b < w.heap.size ∧ ∀ i, i < n →
  w.cell? ⟨b, off + i * 3, none⟩ = some (.int .i64 (ts.getD i Tk.none).c) ∧ w.cell? ⟨b, off + i * 3 + 1, none⟩ = some (.int .i64 (ts.getD i Tk.none).h) ∧ w.cell? ⟨b, off + i * 3 + 2, none⟩ = some (.string (ts.getD i Tk.none).s)) := hr
 clear hr
 go_enter Tryz.func93, Tryz.ntmps93
 go_wp2_with (first
  | (refine wpList_make_full _ rfl _ _ 52 rfl w.heap.size 51 i0 (.agg #[.int .i64 0, .int .i64 0, .string ByteArray.empty]) 3 Tryz.underlying52 hi hz0 hz1 _ _ _ _ n rfl rfl rfl rfl (by rw [show i0.bytes = 32 from HI]; omega) (by unfold maxLen; omega) (Nat.le_refl _) ?_; intro w1 hown hgrow))
 have hbel : Below w.heap.size w w1 := Below.grown (Below.refl _ _) hgrow (Nat.le_refl _) (by simp)
 have HO : Hid (TPart w1 w.heap.size n 0 ts ∧ Below w.heap.size w w1) := by
  refine ⟨?_, hbel⟩
  rcases hown.2 with ⟨h', _⟩ | ⟨g', cap', cur, h', _, hg, _, _, hcs, _⟩
  ·simp at h'
  ·simp only [Value.slice.injEq, Option.some.injEq, Addr.mk.injEq, and_true, true_and] at h'
   obtain ⟨rfl, rfl⟩ := h'
   exact ⟨cur, hg, hcs, fun i hi => by omega⟩
 clear hown hgrow hbel
 go_wp2
 go_loopw [4] (fun i wr => ∃ k : Nat, k ≤ n ∧ i = .int .i64 k ∧ TPart wr w.heap.size n k ts ∧ Below w.heap.size w wr) (fun i _ => n - (intOf i).toNat)
 case atStart => exact ⟨0, by omega, rfl, HO.1, HO.2⟩
 case round =>
  obtain ⟨k, hk, rfl, hp, hbel⟩ := hrel
  by_cases hkn : k < n
  ·have hki : (k : Int) < (n : Int) := by omega
   obtain ⟨b, off, rfl, hb, hc⟩ := HR (by omega)
   obtain ⟨t, ht⟩ : ∃ t, t = ts.getD k Tk.none := ⟨_, rfl⟩
   obtain ⟨hc0, hc1, hc2⟩ := hc k hkn
   rw [← ht] at hc0 hc1 hc2
   have g0 := (hbel.cell (p := ⟨b, off + k * 3, none⟩) hb).trans hc0
   have g1 := (hbel.cell (p := ⟨b, off + k * 3 + 1, none⟩) hb).trans hc1
   have g2 := (hbel.cell (p := ⟨b, off + k * 3 + 2, none⟩) hb).trans hc2
   have HB : Hid (Below w.heap.size w wr) := hbel
   have HT : Hid (t = ts.getD k Tk.none) := ht
   have HP : Hid (TPart wr w.heap.size n k ts) := hp
   clear hc hc0 hc1 hc2 hbel ht hp
   go_wp2_with (go_at_call 118; refine (toToken_any _ _ _ _).mono ?_; rintro e w2 ⟨rfl, hb1⟩; have hp2 := TPart.below HP hb1; have hfz := hp2.free; obtain ⟨x0, hx0⟩ := hp2.cells (k * 3) (by omega); obtain ⟨x1, hx1⟩ := hp2.cells (k * 3 + 1) (by omega); obtain ⟨x2, hx2⟩ := hp2.cells (k * 3 + 2) (by omega); have HP2 : Hid (TPart w2 w.heap.size n k ts ∧ Below w.heap.size w w2) := ⟨hp2, Below.trans HB (hb1.mono (Below.size HB))⟩; clear hp2 hb1)
   go_roundw
   case rel => exact ⟨k + 1, by omega, by go_num, TPart.put HP2.1 hkn HT, ((HP2.2.setCell (Nat.le_refl _) _).setCell (Nat.le_refl _) _).setCell (Nat.le_refl _) _⟩
   case measure => simp [intOf]; omega
  ·have hki : ¬ (k : Int) < (n : Int) := by omega
   obtain rfl : k = n := by omega
   have HP : Hid (TPart wr w.heap.size k k ts ∧ Below w.heap.size w wr) := ⟨hp, hbel⟩
   clear hp hbel
   go_wp2
   go_ret
   exact ⟨rfl, HP⟩
end Go.Proofs.YtbpidcfoldkhgaaGreat
