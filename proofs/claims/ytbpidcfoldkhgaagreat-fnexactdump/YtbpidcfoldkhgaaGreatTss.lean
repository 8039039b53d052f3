import Derived.Test.YtbpidcfoldkhgaaGreatRowg
import Derived.Deep.RegionWith
namespace Go.Proofs.YtbpidcfoldkhgaaGreat
open Go.RowKit
set_option linter.unusedVariables false
set_option linter.unusedSimpArgs false
def Sml (ts : List Tk) : Prop := ts.length ≤ 1048576
theorem weight_len {ts : List Tk} {n : Int} (h : (weight ts : Int) ≤ n) (hn : n ≤ 1048576) : ts.length ≤ 1048576 := by unfold weight at h; omega
theorem TIn.row_below {lo : Nat} {w w' : World} {v : Value} {ts : List Tk} (h : TIn lo w v ts) (hb : Below w.heap.size w w') : TRow w' v ts := TRow.below h.1 hb
theorem Tryz.info52 : (Tryz.prog.info? 52).map (fun i => (i.zero, i.size, i.bytes)) = some (some (.slice none 0 0), 1, 24) := by kernel_rfl
set_option maxHeartbeats 4000000 in
theorem toTss_any {v : Value} {xs : List (List Tk)} {w : World} (h : SRow 1 TsR [] 0 w v xs) (hs : xs.length ≤ 1048576 ∧ ∀ i, i < xs.length → Sml (xs.getD i [])) :
 Calls Tryz.prog 67 #[v] w fun e w' => ∃ v', e = .returned v' ∧ SRow 1 TsR [] w.heap.size w' v' xs ∧ Below w.heap.size w w' := by
 obtain ⟨ao, n, cap, rfl, hn, hr⟩ := h
 have hsz : n ≤ 1048576 := by rw [← hn]; exact hs.1
 have HS : Hid (∀ i, i < xs.length → Sml (xs.getD i [])) := hs.2
 have HL : Hid (xs.length = n) := hn
 obtain ⟨i0, hi, hz0, hz1, hz2⟩ := info_parts Tryz.info52
 have HI : Hid (i0.bytes = 24) := hz2
 have HR : Hid (0 < n → ∃ b off, ao = some ⟨b, off, none⟩ ∧ 0 ≤ b ∧ b < w.heap.size ∧ ∀ i, i < n → ∃ cs : List Value, cs.length = 1 ∧ TsR 0 w cs (xs.getD i []) ∧ ∀ j, j < 1 → w.cell? ⟨b, off + i * 1 + j, none⟩ = cs[j]?) := hr
 clear hr hs hn
 go_enter Tryz.func67, Tryz.ntmps67
 go_wp2_with (first
  | (refine wpList_make_full _ rfl _ _ 43 rfl w.heap.size 52 i0 (.slice none 0 0) 1 Tryz.underlying43 hi hz0 hz1 _ _ _ _ n rfl rfl rfl rfl (by rw [show i0.bytes = 24 from HI]; omega) (by unfold maxLen; omega) (Nat.le_refl _) ?_; intro w1 hown hgrow))
 have hbel : Below w.heap.size w w1 := Below.grown (Below.refl _ _) hgrow (Nat.le_refl _) (by simp)
 have HO : Hid (SPart 1 TsR [] 52 w1 w.heap.size n 0 xs ∧ Below w.heap.size w w1) := by
  refine ⟨?_, hbel⟩
  rcases hown.2 with ⟨h', _⟩ | ⟨g', cap', cur, h', _, hg, _, _, hcs, _⟩
  ·simp at h'
  ·simp only [Value.slice.injEq, Option.some.injEq, Addr.mk.injEq, and_true, true_and] at h'
   obtain ⟨rfl, rfl⟩ := h'
   exact SPart.new hg hcs
 clear hown hgrow hbel
 go_wp2
 go_loopw [4] (fun i wr => ∃ k : Nat, k ≤ n ∧ i = .int .i64 k ∧ SPart 1 TsR [] 52 wr w.heap.size n k xs ∧ Below w.heap.size w wr) (fun i _ => n - (intOf i).toNat)
 case atStart => exact ⟨0, by omega, rfl, HO.1, HO.2⟩
 case round =>
  obtain ⟨k, hk, rfl, hp, hbel⟩ := hrel
  by_cases hkn : k < n
  ·have hki : (k : Int) < (n : Int) := by omega
   obtain ⟨b, off, rfl, hlo, hb, hc⟩ := HR (by omega)
   have hfk : Sml (xs.getD k []) := HS k (by rw [show xs.length = n from HL]; exact hkn)
   obtain ⟨cs, hcl, hRel, hcj⟩ := hc k hkn
   obtain ⟨t, ht⟩ : ∃ t, t = xs.getD k [] := ⟨_, rfl⟩
   rw [← ht] at hRel hfk
   have HT : Hid (t = xs.getD k []) := ht
   obtain ⟨u, rfl, hin⟩ := hRel
   obtain ⟨a, n0, c, rfl⟩ := hin.shape
   have g0 : wr.cell? ⟨b, off + k, none⟩ = some (.slice a n0 c) := by have h := (hbel.cell (p := ⟨b, off + k * 1 + 0, none⟩) hb).trans (hcj 0 (by omega)); simpa using h
   have HB : Hid (Below w.heap.size w wr) := hbel
   have HP : Hid (SPart 1 TsR [] 52 wr w.heap.size n k xs) := hp
   have HX : Hid (Sml t ∧ TRow wr (.slice a n0 c) t) := ⟨hfk, TIn.row_below hin hbel⟩
   clear hc hcj hcl hbel ht hfk hp hin
   go_wp2_with (go_at_call 93; refine (toTokens_in HX.2 HX.1).mono ?_; rintro e w2 ⟨u2, rfl, hin2, hb1⟩; obtain ⟨a2, n2, c2, rfl⟩ := hin2.shape; have hp2 := SPart.below tsStable HP hb1; have hfz := hp2.free; obtain ⟨x0, hx0⟩ := hp2.cells (k) (by omega); have HP2 : Hid (SPart 1 TsR [] 52 w2 w.heap.size n k xs ∧ Below w.heap.size w w2 ∧ TsR (w.heap.size + 1) w2 [.slice a2 n2 c2] t) := ⟨hp2, Below.trans HB (hb1.mono (Below.size HB)), tsStable.mono ⟨_, rfl, hin2⟩ (SPart.lt HP)⟩; clear hp2 hb1 hin2)
   go_roundw
   case rel => exact ⟨k + 1, by omega, by go_num, by have h := SPart.put tsStable HP2.1 hkn (cs := [.slice a2 n2 c2]) rfl (by rw [← show t = xs.getD k [] from HT]; exact HP2.2.2); rw [Nat.mul_one] at h; exact h, putC_below (Nat.le_refl _) [.slice a2 n2 c2] k _ HP2.2.1⟩
   case measure => simp [intOf]; omega
  ·have hki : ¬ (k : Int) < (n : Int) := by omega
   obtain rfl : k = n := by omega
   have HP : Hid (SPart 1 TsR [] 52 wr w.heap.size k k xs ∧ Below w.heap.size w wr) := ⟨hp, hbel⟩
   clear hp hbel
   go_wp2
   go_ret
   exact ⟨_, rfl, SPart.row tsStable HP.1 HL, HP.2⟩
set_option maxHeartbeats 4000000 in
theorem eqTss_same {v1 v2 : Value} {xs : List (List Tk)} {w : World} (h1 : SRow 1 TsR [] 0 w v1 xs) (h2 : SRow 1 TsR [] 0 w v2 xs) (hs : xs.length ≤ 1048576 ∧ ∀ i, i < xs.length → Sml (xs.getD i [])) :
 Calls Tryz.prog 82 #[v1, v2] w fun e w' => e = .returned (.bool true) ∧ Below w.heap.size w w' := by
 obtain ⟨ao1, n1, cap1, rfl, hn1, hr1⟩ := h1
 obtain ⟨ao2, n2, cap2, rfl, hn2, hr2⟩ := h2
 obtain rfl : n1 = n2 := by omega
 have hx : n1 ≤ 1048576 := by rw [← hn1]; exact hs.1
 have HS : Hid (∀ i, i < xs.length → Sml (xs.getD i [])) := hs.2
 have HL : Hid (xs.length = n1) := hn1
 have HR1 : Hid (0 < n1 → ∃ b off, ao1 = some ⟨b, off, none⟩ ∧ 0 ≤ b ∧ b < w.heap.size ∧ ∀ i, i < n1 → ∃ cs : List Value, cs.length = 1 ∧ TsR 0 w cs (xs.getD i []) ∧ ∀ j, j < 1 → w.cell? ⟨b, off + i * 1 + j, none⟩ = cs[j]?) := hr1
 have HR2 : Hid (0 < n1 → ∃ b off, ao2 = some ⟨b, off, none⟩ ∧ 0 ≤ b ∧ b < w.heap.size ∧ ∀ i, i < n1 → ∃ cs : List Value, cs.length = 1 ∧ TsR 0 w cs (xs.getD i []) ∧ ∀ j, j < 1 → w.cell? ⟨b, off + i * 1 + j, none⟩ = cs[j]?) := hr2
 clear hn1 hn2 hr1 hr2 hs
 go_enter Tryz.func82, Tryz.ntmps82
 go_wp2
 go_loopw [5] (fun i wr => ∃ k : Nat, k ≤ n1 ∧ i = .int .i64 k ∧ Below w.heap.size w wr) (fun i _ => n1 - (intOf i).toNat)
 case atStart => exact ⟨0, by omega, rfl, Below.refl _ _⟩
 case round =>
  obtain ⟨k, hk, rfl, hbel⟩ := hrel
  by_cases hkn : k < n1
  ·have hki : (k : Int) < (n1 : Int) := by omega
   obtain ⟨b, off, rfl, hlo, hb, hc⟩ := HR1 (by omega)
   obtain ⟨b', off', rfl, hlo', hb', hc'⟩ := HR2 (by omega)
   have hfk : Sml (xs.getD k []) := HS k (by rw [show xs.length = n1 from HL]; exact hkn)
   obtain ⟨cs, hcl, hRel, hcj⟩ := hc k hkn
   obtain ⟨cs', hcl', hRel', hcj'⟩ := hc' k hkn
   obtain ⟨t, ht⟩ : ∃ t, t = xs.getD k [] := ⟨_, rfl⟩
   rw [← ht] at hRel hRel' hfk
   obtain ⟨u1, rfl, hin1⟩ := hRel
   obtain ⟨a1, m1, c1, rfl⟩ := hin1.shape
   obtain ⟨u2, rfl, hin2⟩ := hRel'
   obtain ⟨a2, m2, c2, rfl⟩ := hin2.shape
   have g0 : wr.cell? ⟨b, off + k, none⟩ = some (.slice a1 m1 c1) := by have h := (hbel.cell (p := ⟨b, off + k * 1 + 0, none⟩) hb).trans (hcj 0 (by omega)); simpa using h
   have f0 : wr.cell? ⟨b', off' + k, none⟩ = some (.slice a2 m2 c2) := by have h := (hbel.cell (p := ⟨b', off' + k * 1 + 0, none⟩) hb').trans (hcj' 0 (by omega)); simpa using h
   have BD : Below w.heap.size w wr.drew := Below.drew hbel
   have HB : Hid (Below w.heap.size w wr) := hbel
   have HX : Hid (Sml t ∧ TRow wr.drew (.slice a1 m1 c1) t ∧ TRow wr.drew (.slice a2 m2 c2) t) := ⟨hfk, TIn.row_below hin1 BD, TIn.row_below hin2 BD⟩
   clear hc hc' hcl hcl' hcj hcj' hbel ht hfk BD hin1 hin2
   go_wp2
   go_region_with (go_at_call 114; refine (eqTokens_same HX.2.1 HX.2.2 HX.1).mono ?_; rintro e w2 ⟨rfl, hb1⟩)
   all_goals
    have hb2 : Below w.heap.size w w2 := Below.trans (Below.drew HB) (‹Below _ _ w2›.mono (Below.size HB))
    go_wp2
    go_roundw
    case rel => exact ⟨k + 1, by omega, by go_num, hb2⟩
    case measure => simp [intOf]; omega
  ·have hki : ¬ (k : Int) < (n1 : Int) := by omega
   have HB : Hid (Below w.heap.size w wr) := hbel
   clear hbel
   go_wp2
   go_ret
   exact ⟨rfl, HB⟩
end Go.Proofs.YtbpidcfoldkhgaaGreat
