import Derived.Test.YtbpidcfoldkhgaaGreatTok
import Derived.Deep.QuietTactic
import Derived.BigQuiet
import Derived.WalkSmall
import Derived.LoopTactic
namespace Go.Proofs.YtbpidcfoldkhgaaGreat
open Go.RowKit
set_option linter.unusedVariables false
set_option linter.unusedSimpArgs false
def Row (w : World) (v : Value) (zs : List Int) : Prop :=
 ∃ ao n cap, v = .slice ao n cap ∧ zs.length = n ∧ (0 < n → ∃ b off, ao = some ⟨b, off, none⟩ ∧ b < w.heap.size ∧ ∀ i, i < n → w.cell? ⟨b, off + i, none⟩ = some (.int .i64 (zs.getD i 0)))
theorem Row.below {w w' : World} {v : Value} {zs : List Int} (h : Row w v zs) (hb : Below w.heap.size w w') : Row w' v zs := by
 obtain ⟨ao, n, cap, rfl, hn, hc⟩ := h
 refine ⟨ao, n, cap, rfl, hn, fun hp => ?_⟩
 obtain ⟨b, off, rfl, hlt, hcell⟩ := hc hp
 exact ⟨b, off, rfl, Nat.lt_of_lt_of_le hlt hb.size, fun i hi => (hb.cell (p := ⟨b, off + i, none⟩) hlt).trans (hcell i hi)⟩
theorem Row.own {w : World} {base g n cap : Nat} {zs : List Int} (h : w.ownsRow base 2 1 (.slice (some ⟨g, 0, none⟩) n cap) n (zs.map (Value.int .i64))) (hn : zs.length = n) (hg : g < w.heap.size) :
 Row w (.slice (some ⟨g, 0, none⟩) n cap) zs := by
 refine ⟨_, n, cap, rfl, hn, fun hp => ⟨g, 0, rfl, hg, fun i hi => ?_⟩⟩
 have := World.ownsRow.cellAt h i (by omega)
 simp only [Nat.zero_add]
 rw [this]
 simp [List.getElem?_map, List.getD, List.getElem?_eq_getElem (show i < zs.length by omega)]
theorem retB {a b : Bool} (h : a = b) : Ending.returned (Value.bool a) = Ending.returned (Value.bool b) := by rw [h]
def catsB (zs : List Int) : Bool := decide (zs.length = 256) && zs.all (fun z => decide (0 ≤ z ∧ z ≤ 15))
theorem catsB_len {zs : List Int} (h : zs.length ≠ 256) : catsB zs = false := by simp [catsB, h]
theorem catsB_yes {zs : List Int} (h : zs.length = 256) (hz : ∀ j, j < 256 → 0 ≤ zs.getD j 0 ∧ zs.getD j 0 ≤ 15) : catsB zs = true := by
 simp only [catsB, h, decide_true, Bool.true_and, List.all_eq_true, decide_eq_true_eq]
 intro z hm
 obtain ⟨i, hi, rfl⟩ := List.getElem_of_mem hm
 have := hz i (by omega)
 simpa [List.getD, List.getElem?_eq_getElem hi] using this
theorem catsB_no {zs : List Int} {j : Nat} (h : zs.length = 256) (hj : j < 256) (hz : ¬ (0 ≤ zs.getD j 0 ∧ zs.getD j 0 ≤ 15)) : catsB zs = false := by
 cases hc : catsB zs with
 | false => rfl
 | true =>
  exfalso
  simp only [catsB, Bool.and_eq_true, List.all_eq_true, decide_eq_true_eq] at hc
  have hm := List.getElem_mem (l := zs) (n := j) (by omega)
  have := hc.2 _ hm
  simp [List.getD, List.getElem?_eq_getElem (show j < zs.length by omega)] at hz
  omega
set_option maxRecDepth 20000 in
set_option maxHeartbeats 1000000 in
theorem specCatsOk_any {v : Value} {zs : List Int} {w : World} (h : Row w v zs) : Calls Tryz.prog 59 #[v] w fun e w' => e = .returned (.bool (catsB zs)) ∧ w' = w := by
 obtain ⟨ao, n, cap, rfl, hn, hr⟩ := h
 by_cases hl : n = 256
 ·subst hl
  obtain ⟨b, off, rfl, hb, hc⟩ := hr (by omega)
  have HC : Hid (∀ i, i < 256 → w.cell? ⟨b, off + i, none⟩ = some (.int .i64 (zs.getD i 0))) := hc
  clear hc hr
  have HN : Hid (zs.length = 256) := hn
  clear hn
  go_enter Tryz.func59, Tryz.ntmps59
  go_wp2
  go_loop [3] (fun i => ∃ k : Nat, k ≤ 256 ∧ i = .int .i64 k ∧ ∀ j, j < k → 0 ≤ zs.getD j 0 ∧ zs.getD j 0 ≤ 15) (fun i => 256 - (intOf i).toNat)
  case atStart => exact ⟨0, by omega, rfl, fun j hj => by omega⟩
  case round =>
   obtain ⟨k, hk, rfl, hj⟩ := hrel
   have HJ : Hid (∀ j, j < k → 0 ≤ zs.getD j 0 ∧ zs.getD j 0 ≤ 15) := hj
   clear hj
   by_cases hlt : k < 256
   ·obtain ⟨z, hz⟩ : ∃ z, z = zs.getD k 0 := ⟨_, rfl⟩
    have hcell : w.cell? ⟨b, off + k, none⟩ = some (.int .i64 z) := by rw [hz]; exact HC k hlt
    have HZ : Hid (z = zs.getD k 0) := hz
    clear hz
    by_cases h0 : 0 ≤ z
    ·by_cases h1 : z ≤ 15
     ·go_wp2
      go_round
      case rel =>
       refine ⟨k + 1, by omega, by go_num, fun j hj => ?_⟩
       by_cases hjk : j = k
       ·subst hjk; rw [← show z = zs.getD j 0 from HZ]; exact ⟨h0, h1⟩
       ·exact HJ j (by omega)
      case measure => simp [intOf]; omega
     ·go_wp2
      go_ret
      exact ⟨retB (catsB_no HN hlt (by rw [← show z = zs.getD k 0 from HZ]; omega)).symm, rfl⟩
    ·go_wp2
     go_ret
     exact ⟨retB (catsB_no HN hlt (by rw [← show z = zs.getD k 0 from HZ]; omega)).symm, rfl⟩
   ·have hge : ¬ ((k : Int) < 256) := by omega
    go_wp2
    go_ret
    exact ⟨retB (catsB_yes HN (fun j hj => HJ j (by omega))).symm, rfl⟩
 ·have hn' : ((n : Int) == 256) = false := by simp; omega
  go_enter Tryz.func59, Tryz.ntmps59
  go_wp2
  go_ret
  exact ⟨retB (catsB_len (by omega)).symm, rfl⟩
theorem Tryz.info2 : (Tryz.prog.info? 2).map (fun i => (i.zero, i.size, i.bytes)) = some (some (.int .i64 0), 1, 8) := by kernel_rfl
def Copied (B n : Nat) (w w' : World) (zs : List Int) : Prop :=
 w'.ownsRow B 2 1 (.slice (some ⟨B, 0, none⟩) n n) n (zs.map (Value.int .i64)) ∧ zs.length = n ∧ Below B w w' ∧ B < w'.heap.size
theorem made_ints (n : Nat) : (madeCells (Value.cells (.int .i64 0)) (n * 1)).toList = (List.replicate n (0 : Int)).map (Value.int .i64) := by
 rw [Nat.mul_one]
 show (madeCells #[Value.int .i64 0] n).toList = _
 rw [toList_madeCells_one]
 simp
theorem ownsRow_block {w : World} {base e size g n cap : Nat} {xs : List Value} (h : w.ownsRow base e size (.slice (some ⟨g, 0, none⟩) n cap) n xs) : g < w.heap.size := by
 rcases h.2 with ⟨h', _⟩ | ⟨g', cap', cur, h', _, hg, _⟩
 ·simp at h'
 ·simp only [Value.slice.injEq, Option.some.injEq, Addr.mk.injEq, and_true, true_and] at h'
  obtain ⟨rfl, rfl⟩ := h'
  by_cases hb : g < w.heap.size
  ·exact hb
  ·simp [Array.getElem?_eq_none (show w.heap.size ≤ g by omega)] at hg
set_option maxHeartbeats 1000000 in
theorem toInts_any {v : Value} {zs : List Int} {w : World} (h : Row w v zs) (hsz : zs.length ≤ 1048576) :
 Calls Tryz.prog 64 #[v] w fun e w' => e = .returned (.slice (some ⟨w.heap.size, 0, none⟩) zs.length zs.length) ∧ Copied w.heap.size zs.length w w' zs := by
 obtain ⟨ao, n, cap, rfl, hn, hr⟩ := h
 rw [hn] at hsz
 rw [hn]
 obtain ⟨B, hB⟩ : ∃ B, B = w.heap.size := ⟨_, rfl⟩
 obtain ⟨i0, hi, hz0, hz1, hz2⟩ := info_parts Tryz.info2
 have HI : Hid (i0.bytes = 8) := hz2
 have HR : Hid (0 < n → ∃ b off, ao = some ⟨b, off, none⟩ ∧ b < w.heap.size ∧ ∀ i, i < n → w.cell? ⟨b, off + i, none⟩ = some (.int .i64 (zs.getD i 0))) := hr
 clear hr
 have HN : Hid (zs.length = n) := hn
 clear hn
 go_enter Tryz.func64, Tryz.ntmps64
 go_wp2_with (first
  | (refine wpList_make_full _ rfl _ _ 40 rfl w.heap.size 2 i0 (.int .i64 0) 1 Tryz.underlying40 hi hz0 hz1 _ _ _ _ n rfl rfl rfl rfl (by rw [show i0.bytes = 8 from HI]; omega) (by unfold maxLen; omega) (Nat.le_refl _) ?_; intro w1 hown hgrow))
 have hn1 : w.heap.size < w1.heap.size := ownsRow_block hown
 have hown0 : w1.ownsRow w.heap.size 2 1 (.slice (some ⟨w.heap.size, 0, none⟩) n n) n ((List.replicate n (0 : Int)).map (Value.int .i64)) := by rw [← made_ints]; exact hown
 have hbel : Below w.heap.size w w1 := Below.grown (Below.refl _ _) hgrow (Nat.le_refl _) (by simp)
 have HO : Hid (w1.ownsRow w.heap.size 2 1 (.slice (some ⟨w.heap.size, 0, none⟩) n n) n ((List.replicate n (0 : Int)).map (Value.int .i64)) ∧ Below w.heap.size w w1 ∧ w.heap.size < w1.heap.size) := ⟨hown0, hbel, hn1⟩
 clear hown hown0 hgrow hbel hn1
 go_wp2
 go_loopw [4] (fun i wr => ∃ (k : Nat) (ys : List Int), k ≤ n ∧ i = .int .i64 k ∧ ys.length = n ∧ (∀ j, j < k → ys.getD j 0 = zs.getD j 0) ∧
  wr.ownsRow w.heap.size 2 1 (.slice (some ⟨w.heap.size, 0, none⟩) n n) n (ys.map (Value.int .i64)) ∧ Below w.heap.size w wr ∧ w.heap.size < wr.heap.size)
  (fun i _ => n - (intOf i).toNat)
 case atStart => exact ⟨0, List.replicate n 0, by omega, rfl, by simp, fun j hj => by omega, HO.1, HO.2.1, HO.2.2⟩
 case round =>
  obtain ⟨k, ys, hk, rfl, hys, hj, hown, hbel, hlt⟩ := hrel
  by_cases hkn : k < n
  ·obtain ⟨b, off, rfl, hb, hc⟩ := HR (by omega)
   have hcell : wr.cell? ⟨b, off + k, none⟩ = some (.int .i64 (zs.getD k 0)) := (hbel.cell (p := ⟨b, off + k, none⟩) hb).trans (hc k hkn)
   obtain ⟨z, hz⟩ : ∃ z, z = zs.getD k 0 := ⟨_, rfl⟩
   rw [← hz] at hcell
   have hfz : wr.frozen? ⟨w.heap.size, k, none⟩ = false := World.ownsRow.frozenAt hown k
   have hco : wr.cell? ⟨w.heap.size, k, none⟩ = some (.int .i64 (ys.getD k 0)) := by
    rw [World.ownsRow.cellAt hown k (by omega)]
    simp [List.getElem?_map, List.getD, List.getElem?_eq_getElem (show k < ys.length by omega)]
   have hown2 := (World.ownsRow.stored hown k (.int .i64 z)).1
   have hbel2 := hbel.setCell (Nat.le_refl _) (p := ⟨w.heap.size, k, none⟩) (.int .i64 z)
   have HR2 : Hid ((wr.setCell ⟨w.heap.size, k, none⟩ (.int .i64 z)).ownsRow w.heap.size 2 1 (.slice (some ⟨w.heap.size, 0, none⟩) n n) n ((ys.set k z).map (Value.int .i64)) ∧ Below w.heap.size w (wr.setCell ⟨w.heap.size, k, none⟩ (.int .i64 z)) ∧ w.heap.size < (wr.setCell ⟨w.heap.size, k, none⟩ (.int .i64 z)).heap.size) :=
    ⟨by simpa using hown2, hbel2, by simpa using hlt⟩
   have HZ : Hid (z = zs.getD k 0) := hz
   have HJ : Hid (∀ j, j < k → ys.getD j 0 = zs.getD j 0) := hj
   clear hz hown hbel hown2 hbel2 hc hj
   go_wp2
   go_roundw
   case rel =>
    refine ⟨k + 1, ys.set k z, by omega, by go_num, by simp [hys], fun j hj => ?_, HR2.1, HR2.2.1, HR2.2.2⟩
    by_cases hjk : j = k
    ·subst hjk; rw [← show z = zs.getD j 0 from HZ]; simp [List.getD, hys, hkn]
    ·rw [← HJ j (by omega)]; simp [List.getD, List.getElem?_set, Ne.symm hjk]
   case measure => simp [intOf]; omega
  ·obtain rfl : k = n := by omega
   have hyz : ys = zs := by
    refine List.ext_getElem (by rw [hys]; exact (show zs.length = k from HN).symm) fun i h1 h2 => ?_
    have := hj i (by omega)
    simpa [List.getD, List.getElem?_eq_getElem h1, List.getElem?_eq_getElem h2] using this
   subst hyz
   have HR2 : Hid (Copied w.heap.size k w wr ys) := ⟨hown, HN, hbel, hlt⟩
   clear hown hbel hlt hj
   go_wp2
   go_ret
   exact ⟨rfl, HR2⟩
end Go.Proofs.YtbpidcfoldkhgaaGreat
