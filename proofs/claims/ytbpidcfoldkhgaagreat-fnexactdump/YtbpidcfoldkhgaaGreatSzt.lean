import Derived.Test.YtbpidcfoldkhgaaGreatPrp
namespace Go.Proofs.YtbpidcfoldkhgaaGreat
open Go.RowKit
set_option linter.unusedVariables false
set_option linter.unusedSimpArgs false
def bcost (bs : List Bd) : Nat := (bs.map (fun x => x.m.p.length + x.m.b.length)).sum
theorem bcost_take {bs : List Bd} {k : Nat} (h : k < bs.length) : bcost (bs.take (k + 1)) = bcost (bs.take k) + ((bs.getD k Bd.none).m.p.length + (bs.getD k Bd.none).m.b.length) := by
 unfold bcost
 rw [List.take_succ_eq_append_getElem h, List.map_append, List.sum_append]
 simp [List.getD, List.getElem?_eq_getElem h]
theorem total_take {xs : List (List Tk)} {k : Nat} (h : k < xs.length) : total (xs.take (k + 1)) = total (xs.take k) + (xs.getD k []).length := by
 unfold total
 rw [List.take_succ_eq_append_getElem h, List.flatten_append, List.length_append]
 simp [List.getD, List.getElem?_eq_getElem h]
def SmL2 (x : Lv) : Prop := SmL x ∧ bcost x.binds ≤ 1048576 ∧ total x.toks ≤ 1048576
abbrev SmE2 (xs : List Lv) : Prop := xs.length ≤ 1048576 ∧ ∀ i, i < xs.length → SmL2 (xs.getD i Lv.none)
theorem SmE2.old {xs : List Lv} (h : SmE2 xs) : SmE xs := ⟨h.1, fun i hi => (h.2 i hi).1⟩
set_option maxHeartbeats 2000000 in
theorem szTss_t {v : Value} {xs : List (List Tk)} {w : World} {l : Int} (h : SRow 1 TsR [] 0 w v xs) (hf : xs.length ≤ 9223372036854775807 ∧ ∀ i, i < xs.length → Fine (xs.getD i [])) (hl0 : 0 ≤ l) (hl1 : l ≤ 1048576) :
 Calls Tryz.prog 58 #[v, .int .i64 l] w fun e w' => (∃ m : Int, e = .returned (.int .i64 m) ∧ m ≤ l ∧ (0 ≤ m → (xs.length ≤ 1048576 ∧ ∀ i, i < xs.length → Sml (xs.getD i [])) ∧ total xs ≤ 1048576)) ∧ Below w.heap.size w w' := by
 obtain ⟨ao, n, cap, rfl, hl, hr⟩ := h
 have hn : n ≤ 9223372036854775807 := by rw [← hl]; exact hf.1
 by_cases hbig : l - (n : Int) < 0
 ·go_enter Tryz.func58, Tryz.ntmps58
  go_wp2
  go_ret
  exact ⟨⟨-1, rfl, by omega, fun h => by omega⟩, Below.refl _ _⟩
 ·have HR : Hid (0 < n → ∃ b off, ao = some ⟨b, off, none⟩ ∧ 0 ≤ b ∧ b < w.heap.size ∧ ∀ i, i < n → ∃ cs : List Value, cs.length = 1 ∧ TsR 0 w cs (xs.getD i []) ∧ ∀ j, j < 1 → w.cell? ⟨b, off + i * 1 + j, none⟩ = cs[j]?) := hr
  have HS : Hid (∀ i, i < xs.length → Fine (xs.getD i [])) := hf.2
  have HL : Hid (xs.length = n) := hl
  clear hr hf hl
  go_enter Tryz.func58, Tryz.ntmps58
  go_wp2
  go_loopw [1, 5] (fun s i wr => ∃ (k : Nat) (m : Int), k ≤ n ∧ i = .int .i64 k ∧ s = .int .i64 m ∧ 0 ≤ m ∧ m ≤ l ∧ Hid ((∀ i, i < k → Sml (xs.getD i [])) ∧ m + total (xs.take k) ≤ l) ∧ Below w.heap.size w wr)
   (fun _ i _ => n - (intOf i).toNat)
  case atStart => exact ⟨0, l - n, by omega, rfl, rfl, by omega, by omega, ⟨fun i hi => absurd hi (by omega), by show l - (n : Int) + ((total (xs.take 0) : Nat) : Int) ≤ l; simp [total]; omega⟩, Below.refl _ _⟩
  case round =>
   obtain ⟨k, m, hk, rfl, rfl, hm0, hm1, HM, hbel⟩ := hrel
   by_cases hkn : k < n
   ·have hki : (k : Int) < (n : Int) := by omega
    obtain ⟨b, off, rfl, hlo, hb, hc⟩ := HR (by omega)
    have hfk : Fine (xs.getD k []) := HS k (by rw [show xs.length = n from HL]; exact hkn)
    obtain ⟨cs, hcl, hRel, hcj⟩ := hc k hkn
    obtain ⟨t, ht⟩ : ∃ t, t = xs.getD k [] := ⟨_, rfl⟩
    rw [← ht] at hRel hfk
    have HT : Hid (t = xs.getD k []) := ht
    obtain ⟨u, rfl, hin⟩ := hRel
    obtain ⟨a, n0, c, rfl⟩ := hin.shape
    have g0 : wr.cell? ⟨b, off + k, none⟩ = some (.slice a n0 c) := by have h := (hbel.cell (p := ⟨b, off + k * 1 + 0, none⟩) hb).trans (hcj 0 (by omega)); simpa using h
    have HB : Hid (Below w.heap.size w wr) := hbel
    have HX : Hid (Fine t ∧ TRow wr (.slice a n0 c) t) := ⟨hfk, TIn.row_below hin hbel⟩
    clear hc hcj hcl hbel ht hfk hin
    go_wp2_with fail
    refine (szTokens_any HX.2 HX.1.1 HX.1.2 hm0 (by omega)).mono ?_
    rintro e w2 ⟨⟨m2, rfl, hm2l, hm2⟩, hb1⟩
    have B2 : Hid (Below w.heap.size w w2) := below_more HB hb1 (Below.size HB)
    have HM2 : Hid (0 ≤ m2 → Sml t ∧ m2 + t.length ≤ m) := fun h => ⟨weight_len (n := m) (by have := hm2 h; omega) (by omega), by have := hm2 h; unfold weight at this; omega⟩
    clear hb1 hm2
    by_cases hneg : m2 < 0
    ·go_wp2
     go_ret
     exact ⟨⟨-1, rfl, by omega, fun h => by omega⟩, B2⟩
    ·go_wp2
     go_roundw
     case rel =>
      refine ⟨k + 1, m2, by omega, by go_num, rfl, by omega, by omega, ⟨fun i hi => ?_, ?_⟩, B2⟩
      rotate_left
      ·have h1 := HM.2
       have h2 := (HM2 (by omega)).2
       rw [total_take (by rw [show xs.length = n from HL]; exact hkn), ← show t = xs.getD k [] from HT]
       omega
      by_cases hik : i = k
      ·subst hik; rw [← show t = xs.getD i [] from HT]; exact (HM2 (by omega)).1
      ·exact HM.1 i (by omega)
     case measure => simp [intOf]; omega
   ·have hki : ¬ (k : Int) < (n : Int) := by omega
    obtain rfl : k = n := by omega
    have HB : Hid (Below w.heap.size w wr) := hbel
    clear hbel
    go_wp2
    go_ret
    refine ⟨⟨m, rfl, hm1, fun _ => ⟨⟨?_, fun i hi => HM.1 i ?_⟩, ?_⟩⟩, HB⟩
    rotate_left
    rotate_left
    ·have h1 := HM.2
     rw [← show xs.length = k from HL, List.take_length] at h1
     omega
    ·have hl : xs.length = k := HL
     omega
    ·have hl : xs.length = k := HL
     omega
set_option maxHeartbeats 2000000 in
theorem szBind_t {nm : ByteArray} {k n : Int} {t : Tk} {vp vb : Value} {p b : List Tk} {sl : Int} {w : World} {l : Int} (hp : TRow w vp p) (hb : TRow w vb b) (hf : FnB ⟨nm, ⟨k, n, t, p, sl, b⟩⟩) (hl0 : 0 ≤ l) (hl1 : l ≤ 1048576) :
 Calls Tryz.prog 85 #[bindV nm k n t vp sl vb, .int .i64 l] w fun e w' => (∃ m : Int, e = .returned (.int .i64 m) ∧ m ≤ l ∧ (0 ≤ m → SmB ⟨nm, ⟨k, n, t, p, sl, b⟩⟩ ∧ m + ((p.length : Int) + b.length) ≤ l)) ∧ Below w.heap.size w w' := by
 have HP : Hid (TRow w vp p) := hp
 have HB : Hid (TRow w vb b) := hb
 obtain ⟨ao, n1, cap, rfl, hx, hy⟩ := hp
 obtain ⟨ao2, n2, cap2, rfl, hx2, hy2⟩ := hb
 clear hx hy hx2 hy2
 have hnm : nm.size ≤ 9223372036854775807 := hf.1
 have HF : Hid (t.s.size ≤ 9223372036854775807 ∧ Fine p ∧ Fine b) := hf.2
 clear hf
 by_cases hneg : l - (nm.size : Int) < 0
 ·go_enter Tryz.func85, Tryz.ntmps85
  go_wp2
  go_ret
  exact ⟨⟨-1, rfl, by omega, fun h => by omega⟩, below1 _ _⟩
 ·obtain ⟨l2, hl2⟩ : ∃ l2 : Int, l2 = l - (nm.size : Int) := ⟨_, rfl⟩
  go_enter Tryz.func85, Tryz.ntmps85
  go_wp2_with fail
  rw [← hl2]
  refine (szMean_any (TRow.below HP (below1 _ _)) (TRow.below HB (below1 _ _)) HF.2.1 HF.2.2 HF.1 (by omega) (by omega)).mono ?_
  rintro e w1 ⟨⟨m, rfl, hml, hm⟩, hb1⟩
  have B1 : Hid (Below w.heap.size w w1) := (below1 _ _).trans (hb1.mono (by simp))
  have HM : Hid (0 ≤ m → m = l2 - t.s.size - weight p - weight b) := hm
  clear hb1 hm
  by_cases hm0 : m < 0
  ·go_wp2
   go_ret
   exact ⟨⟨-1, rfl, by omega, fun h => by omega⟩, B1⟩
  ·go_wp2
   go_ret
   refine ⟨⟨m, rfl, by omega, fun h => ?_⟩, B1⟩
   have h1 := HM h
   refine ⟨?_, by unfold weight at h1; omega⟩
   show p.length ≤ 1048576 ∧ b.length ≤ 1048576
   exact ⟨weight_len (n := 1048576) (by omega) (by omega), weight_len (n := 1048576) (by omega) (by omega)⟩
set_option maxHeartbeats 2000000 in
theorem szBinds_t {v : Value} {xs : List Bd} {w : World} {l : Int} (h : SRow 9 BdR Bd.none 0 w v xs) (hf : xs.length ≤ 9223372036854775807 ∧ ∀ i, i < xs.length → FnB (xs.getD i Bd.none)) (hl0 : 0 ≤ l) (hl1 : l ≤ 1048576) :
 Calls Tryz.prog 56 #[v, .int .i64 l] w fun e w' => (∃ m : Int, e = .returned (.int .i64 m) ∧ m ≤ l ∧ (0 ≤ m → (xs.length ≤ 1048576 ∧ ∀ i, i < xs.length → SmB (xs.getD i Bd.none)) ∧ bcost xs ≤ 1048576)) ∧ Below w.heap.size w w' := by
 obtain ⟨ao, n, cap, rfl, hl, hr⟩ := h
 have hn : n ≤ 9223372036854775807 := by rw [← hl]; exact hf.1
 by_cases hbig : l - (n : Int) < 0
 ·go_enter Tryz.func56, Tryz.ntmps56
  go_wp2
  go_ret
  exact ⟨⟨-1, rfl, by omega, fun h => by omega⟩, Below.refl _ _⟩
 ·have HR : Hid (0 < n → ∃ b off, ao = some ⟨b, off, none⟩ ∧ 0 ≤ b ∧ b < w.heap.size ∧ ∀ i, i < n → ∃ cs : List Value, cs.length = 9 ∧ BdR 0 w cs (xs.getD i Bd.none) ∧ ∀ j, j < 9 → w.cell? ⟨b, off + i * 9 + j, none⟩ = cs[j]?) := hr
  have HS : Hid (∀ i, i < xs.length → FnB (xs.getD i Bd.none)) := hf.2
  have HL : Hid (xs.length = n) := hl
  clear hr hf hl
  go_enter Tryz.func56, Tryz.ntmps56
  go_wp2
  go_loopw [1, 5] (fun s i wr => ∃ (k : Nat) (m : Int), k ≤ n ∧ i = .int .i64 k ∧ s = .int .i64 m ∧ 0 ≤ m ∧ m ≤ l ∧ Hid ((∀ i, i < k → SmB (xs.getD i Bd.none)) ∧ m + bcost (xs.take k) ≤ l) ∧ Below w.heap.size w wr)
   (fun _ i _ => n - (intOf i).toNat)
  case atStart => exact ⟨0, l - n, by omega, rfl, rfl, by omega, by omega, ⟨fun i hi => absurd hi (by omega), by show l - (n : Int) + ((bcost (xs.take 0) : Nat) : Int) ≤ l; simp [bcost]; omega⟩, Below.refl _ _⟩
  case round =>
   obtain ⟨k, m, hk, rfl, rfl, hm0, hm1, HM, hbel⟩ := hrel
   by_cases hkn : k < n
   ·have hki : (k : Int) < (n : Int) := by omega
    obtain ⟨b, off, rfl, hlo, hb, hc⟩ := HR (by omega)
    have hfk : FnB (xs.getD k Bd.none) := HS k (by rw [show xs.length = n from HL]; exact hkn)
    obtain ⟨cs, hcl, hRel, hcj⟩ := hc k hkn
    obtain ⟨t, ht⟩ : ∃ t, t = xs.getD k Bd.none := ⟨_, rfl⟩
    rw [← ht] at hRel hfk
    have HT : Hid (t = xs.getD k Bd.none) := ht
    obtain ⟨nm, ⟨mk, mn, mt, mp, ms, mb⟩⟩ := t
    obtain ⟨u, z, rfl, hin, hjn⟩ := hRel
    obtain ⟨a, n0, c, rfl⟩ := hin.shape
    obtain ⟨a9, n9, c9, rfl⟩ := hjn.shape
    dsimp only at hin hjn hcj
    have g0 : wr.cell? ⟨b, off + k * 9, none⟩ = some (.string nm) := (hbel.cell (p := ⟨b, off + k * 9, none⟩) hb).trans (hcj 0 (by omega))
    have g1 : wr.cell? ⟨b, off + k * 9 + 1, none⟩ = some (.int .i64 mk) := (hbel.cell (p := ⟨b, off + k * 9 + 1, none⟩) hb).trans (hcj 1 (by omega))
    have g2 : wr.cell? ⟨b, off + k * 9 + 2, none⟩ = some (.int .i64 mn) := (hbel.cell (p := ⟨b, off + k * 9 + 2, none⟩) hb).trans (hcj 2 (by omega))
    have g3 : wr.cell? ⟨b, off + k * 9 + 3, none⟩ = some (.int .i64 mt.c) := (hbel.cell (p := ⟨b, off + k * 9 + 3, none⟩) hb).trans (hcj 3 (by omega))
    have g4 : wr.cell? ⟨b, off + k * 9 + 4, none⟩ = some (.int .i64 mt.h) := (hbel.cell (p := ⟨b, off + k * 9 + 4, none⟩) hb).trans (hcj 4 (by omega))
    have g5 : wr.cell? ⟨b, off + k * 9 + 5, none⟩ = some (.string mt.s) := (hbel.cell (p := ⟨b, off + k * 9 + 5, none⟩) hb).trans (hcj 5 (by omega))
    have g6 : wr.cell? ⟨b, off + k * 9 + 6, none⟩ = some (.slice a n0 c) := (hbel.cell (p := ⟨b, off + k * 9 + 6, none⟩) hb).trans (hcj 6 (by omega))
    have g7 : wr.cell? ⟨b, off + k * 9 + 7, none⟩ = some (.int .i64 ms) := (hbel.cell (p := ⟨b, off + k * 9 + 7, none⟩) hb).trans (hcj 7 (by omega))
    have g8 : wr.cell? ⟨b, off + k * 9 + 8, none⟩ = some (.slice a9 n9 c9) := (hbel.cell (p := ⟨b, off + k * 9 + 8, none⟩) hb).trans (hcj 8 (by omega))
    have HB : Hid (Below w.heap.size w wr) := hbel
    have HX : Hid (FnB ⟨nm, ⟨mk, mn, mt, mp, ms, mb⟩⟩ ∧ TRow wr (.slice a n0 c) mp ∧ TRow wr (.slice a9 n9 c9) mb) := ⟨hfk, TIn.row_below hin hbel, TIn.row_below hjn hbel⟩
    clear hc hcj hcl hbel ht hfk hin hjn
    go_wp2_with fail
    refine (szBind_t HX.2.1 HX.2.2 HX.1 hm0 (by omega)).mono ?_
    rintro e w2 ⟨⟨m2, rfl, hm2l, hm2⟩, hb1⟩
    have B2 : Hid (Below w.heap.size w w2) := below_more HB hb1 (Below.size HB)
    have HM2 : Hid (0 ≤ m2 → SmB ⟨nm, ⟨mk, mn, mt, mp, ms, mb⟩⟩ ∧ m2 + ((mp.length : Int) + mb.length) ≤ m) := fun h => hm2 h
    clear hb1 hm2
    by_cases hneg : m2 < 0
    ·go_wp2
     go_ret
     exact ⟨⟨-1, rfl, by omega, fun h => by omega⟩, B2⟩
    ·go_wp2
     go_roundw
     case rel =>
      refine ⟨k + 1, m2, by omega, by go_num, rfl, by omega, by omega, ⟨fun i hi => ?_, ?_⟩, B2⟩
      rotate_left
      ·have h1 := HM.2
       have h2 := (HM2 (by omega)).2
       rw [bcost_take (by rw [show xs.length = n from HL]; exact hkn), ← show (⟨nm, ⟨mk, mn, mt, mp, ms, mb⟩⟩ : Bd) = xs.getD k Bd.none from HT]
       dsimp only
       omega
      by_cases hik : i = k
      ·subst hik; rw [← show (⟨nm, ⟨mk, mn, mt, mp, ms, mb⟩⟩ : Bd) = xs.getD i Bd.none from HT]; exact (HM2 (by omega)).1
      ·exact HM.1 i (by omega)
     case measure => simp [intOf]; omega
   ·have hki : ¬ (k : Int) < (n : Int) := by omega
    obtain rfl : k = n := by omega
    have HB : Hid (Below w.heap.size w wr) := hbel
    clear hbel
    go_wp2
    go_ret
    refine ⟨⟨m, rfl, hm1, fun _ => ⟨⟨?_, fun i hi => HM.1 i ?_⟩, ?_⟩⟩, HB⟩
    rotate_left
    rotate_left
    ·have h1 := HM.2
     rw [← show xs.length = k from HL, List.take_length] at h1
     omega
    ·have hl : xs.length = k := HL
     omega
    ·have hl : xs.length = k := HL
     omega
set_option maxHeartbeats 4000000 in
theorem szLevel_t {v0 v1 v2 v3 v4 v5 : Value} {x : Lv} {w : World} {l : Int} (h : Six 0 w v0 v1 v2 v3 v4 v5 x) (hf : FnL x) (hl0 : 0 ≤ l) (hl1 : l ≤ 1048576) :
 Calls Tryz.prog 31 #[levV v0 v1 v2 v3 v4 v5, .int .i64 l] w fun e w' => (∃ m : Int, e = .returned (.int .i64 m) ∧ m ≤ l ∧ (0 ≤ m → SmL2 x)) ∧ Below w.heap.size w w' := by
 have HX : Hid (Six 0 w v0 v1 v2 v3 v4 v5 x) := h
 obtain ⟨a0, c0, a1, c1, a2, c2, a3, c3, a4, c4, a5, c5, rfl, rfl, rfl, rfl, rfl, rfl⟩ := h.shape
 have HF : Hid (FnL x) := hf
 clear h hf
 have K0 : Hid (Cells6 (w.alloc (.cells #[.slice a0 x.cats.length c0, .slice a1 x.binds.length c1, .slice a2 x.counts.length c2, .slice a3 x.lens.length c3, .slice a4 x.glues.length c4, .slice a5 x.toks.length c5] 76)) w.heap.size (.slice a0 x.cats.length c0) (.slice a1 x.binds.length c1) (.slice a2 x.counts.length c2) (.slice a3 x.lens.length c3) (.slice a4 x.glues.length c4) (.slice a5 x.toks.length c5)) := Cells6.new _ _ _ _ _ _ _ _
 go_enter Tryz.func31, Tryz.ntmps31
 go_wp2_with fail
 refine (szInts_any _ HF.1 hl0 hl1).mono ?_
 rintro e w1 ⟨⟨m1, rfl, hml1, hm1⟩, hb1⟩
 have K1 : Hid (Cells6 w1 w.heap.size (.slice a0 x.cats.length c0) (.slice a1 x.binds.length c1) (.slice a2 x.counts.length c2) (.slice a3 x.lens.length c3) (.slice a4 x.glues.length c4) (.slice a5 x.toks.length c5)) := Cells6.below K0 hb1
 have B1 : Hid (Below w.heap.size w w1) := below_more (below1 _ _) hb1 (by simp)
 have M1 : Hid (0 ≤ m1 → x.cats.length ≤ 1048576) := hm1
 obtain ⟨hz1, q10, q11, q12, q13, q14, q15⟩ := (show Cells6 w1 w.heap.size _ _ _ _ _ _ from K1)
 clear hb1 hm1
 by_cases hn1 : m1 < 0
 ·go_wp2
  go_ret
  exact ⟨⟨-1, rfl, by omega, fun h => by omega⟩, B1⟩
 go_wp2_with fail
 refine (szBinds_t ((show Six 0 w _ _ _ _ _ _ x from HX).h1.below bdStable B1) HF.2.1 (by omega) (by omega)).mono ?_
 rintro e w2 ⟨⟨m2, rfl, hml2, hm2⟩, hb2⟩
 have K2 : Hid (Cells6 w2 w.heap.size (.slice a0 x.cats.length c0) (.slice a1 x.binds.length c1) (.slice a2 x.counts.length c2) (.slice a3 x.lens.length c3) (.slice a4 x.glues.length c4) (.slice a5 x.toks.length c5)) := Cells6.below K1 hb2
 have B2 : Hid (Below w.heap.size w w2) := below_more (B1) hb2 (Below.size B1)
 have M2 : Hid (0 ≤ m2 → (x.binds.length ≤ 1048576 ∧ ∀ i, i < x.binds.length → SmB (x.binds.getD i Bd.none)) ∧ bcost x.binds ≤ 1048576) := hm2
 obtain ⟨hz2, q20, q21, q22, q23, q24, q25⟩ := (show Cells6 w2 w.heap.size _ _ _ _ _ _ from K2)
 clear hb2 hm2
 clear q10 q11 q12 q13 q14 q15
 by_cases hn2 : m2 < 0
 ·go_wp2
  go_ret
  exact ⟨⟨-1, rfl, by omega, fun h => by omega⟩, B2⟩
 go_wp2_with fail
 refine (szInts_any _ HF.2.2.1 (by omega) (by omega)).mono ?_
 rintro e w3 ⟨⟨m3, rfl, hml3, hm3⟩, hb3⟩
 have K3 : Hid (Cells6 w3 w.heap.size (.slice a0 x.cats.length c0) (.slice a1 x.binds.length c1) (.slice a2 x.counts.length c2) (.slice a3 x.lens.length c3) (.slice a4 x.glues.length c4) (.slice a5 x.toks.length c5)) := Cells6.below K2 hb3
 have B3 : Hid (Below w.heap.size w w3) := below_more (B2) hb3 (Below.size B2)
 have M3 : Hid (0 ≤ m3 → x.counts.length ≤ 1048576) := hm3
 obtain ⟨hz3, q30, q31, q32, q33, q34, q35⟩ := (show Cells6 w3 w.heap.size _ _ _ _ _ _ from K3)
 clear hb3 hm3
 clear q20 q21 q22 q23 q24 q25
 by_cases hn3 : m3 < 0
 ·go_wp2
  go_ret
  exact ⟨⟨-1, rfl, by omega, fun h => by omega⟩, B3⟩
 go_wp2_with fail
 refine (szInts_any _ HF.2.2.2.1 (by omega) (by omega)).mono ?_
 rintro e w4 ⟨⟨m4, rfl, hml4, hm4⟩, hb4⟩
 have K4 : Hid (Cells6 w4 w.heap.size (.slice a0 x.cats.length c0) (.slice a1 x.binds.length c1) (.slice a2 x.counts.length c2) (.slice a3 x.lens.length c3) (.slice a4 x.glues.length c4) (.slice a5 x.toks.length c5)) := Cells6.below K3 hb4
 have B4 : Hid (Below w.heap.size w w4) := below_more (B3) hb4 (Below.size B3)
 have M4 : Hid (0 ≤ m4 → x.lens.length ≤ 1048576) := hm4
 obtain ⟨hz4, q40, q41, q42, q43, q44, q45⟩ := (show Cells6 w4 w.heap.size _ _ _ _ _ _ from K4)
 clear hb4 hm4
 clear q30 q31 q32 q33 q34 q35
 by_cases hn4 : m4 < 0
 ·go_wp2
  go_ret
  exact ⟨⟨-1, rfl, by omega, fun h => by omega⟩, B4⟩
 go_wp2_with fail
 refine (szGls_any _ HF.2.2.2.2.1 (by omega) (by omega)).mono ?_
 rintro e w5 ⟨⟨m5, rfl, hml5, hm5⟩, hb5⟩
 have K5 : Hid (Cells6 w5 w.heap.size (.slice a0 x.cats.length c0) (.slice a1 x.binds.length c1) (.slice a2 x.counts.length c2) (.slice a3 x.lens.length c3) (.slice a4 x.glues.length c4) (.slice a5 x.toks.length c5)) := Cells6.below K4 hb5
 have B5 : Hid (Below w.heap.size w w5) := below_more (B4) hb5 (Below.size B4)
 have M5 : Hid (0 ≤ m5 → x.glues.length ≤ 1048576) := hm5
 obtain ⟨hz5, q50, q51, q52, q53, q54, q55⟩ := (show Cells6 w5 w.heap.size _ _ _ _ _ _ from K5)
 clear hb5 hm5
 clear q40 q41 q42 q43 q44 q45
 by_cases hn5 : m5 < 0
 ·go_wp2
  go_ret
  exact ⟨⟨-1, rfl, by omega, fun h => by omega⟩, B5⟩
 go_wp2_with fail
 refine (szTss_t ((show Six 0 w _ _ _ _ _ _ x from HX).h5.below tsStable B5) HF.2.2.2.2.2 (by omega) (by omega)).mono ?_
 rintro e w6 ⟨⟨m6, rfl, hml6, hm6⟩, hb6⟩
 have K6 : Hid (Cells6 w6 w.heap.size (.slice a0 x.cats.length c0) (.slice a1 x.binds.length c1) (.slice a2 x.counts.length c2) (.slice a3 x.lens.length c3) (.slice a4 x.glues.length c4) (.slice a5 x.toks.length c5)) := Cells6.below K5 hb6
 have B6 : Hid (Below w.heap.size w w6) := below_more (B5) hb6 (Below.size B5)
 have M6 : Hid (0 ≤ m6 → (x.toks.length ≤ 1048576 ∧ ∀ i, i < x.toks.length → Sml (x.toks.getD i [])) ∧ total x.toks ≤ 1048576) := hm6
 obtain ⟨hz6, q60, q61, q62, q63, q64, q65⟩ := (show Cells6 w6 w.heap.size _ _ _ _ _ _ from K6)
 clear hb6 hm6
 clear q50 q51 q52 q53 q54 q55
 by_cases hn6 : m6 < 0
 ·go_wp2
  go_ret
  exact ⟨⟨-1, rfl, by omega, fun h => by omega⟩, B6⟩
 go_wp2
 go_ret
 exact ⟨⟨m6, rfl, by omega, fun h => ⟨⟨M1 (by omega), (M2 (by omega)).1, M3 (by omega), M4 (by omega), M5 (by omega), (M6 (by omega)).1⟩, (M2 (by omega)).2, (M6 (by omega)).2⟩⟩, B6⟩
set_option maxHeartbeats 2000000 in
theorem szLevels_t {v : Value} {xs : List Lv} {w : World} {l : Int} (h : SRow 6 LvR Lv.none 0 w v xs) (hf : xs.length ≤ 9223372036854775807 ∧ ∀ i, i < xs.length → FnL (xs.getD i Lv.none)) (hl0 : 0 ≤ l) (hl1 : l ≤ 1048576) :
 Calls Tryz.prog 16 #[v, .int .i64 l] w fun e w' => (∃ m : Int, e = .returned (.int .i64 m) ∧ m ≤ l ∧ (0 ≤ m → xs.length ≤ 1048576 ∧ ∀ i, i < xs.length → SmL2 (xs.getD i Lv.none))) ∧ Below w.heap.size w w' := by
 obtain ⟨ao, n, cap, rfl, hl, hr⟩ := h
 have hn : n ≤ 9223372036854775807 := by rw [← hl]; exact hf.1
 by_cases hbig : l - (n : Int) < 0
 ·go_enter Tryz.func16, Tryz.ntmps16
  go_wp2
  go_ret
  exact ⟨⟨-1, rfl, by omega, fun h => by omega⟩, Below.refl _ _⟩
 ·have HR : Hid (0 < n → ∃ b off, ao = some ⟨b, off, none⟩ ∧ 0 ≤ b ∧ b < w.heap.size ∧ ∀ i, i < n → ∃ cs : List Value, cs.length = 6 ∧ LvR 0 w cs (xs.getD i Lv.none) ∧ ∀ j, j < 6 → w.cell? ⟨b, off + i * 6 + j, none⟩ = cs[j]?) := hr
  have HS : Hid (∀ i, i < xs.length → FnL (xs.getD i Lv.none)) := hf.2
  have HL : Hid (xs.length = n) := hl
  clear hr hf hl
  go_enter Tryz.func16, Tryz.ntmps16
  go_wp2
  go_loopw [1, 5] (fun s i wr => ∃ (k : Nat) (m : Int), k ≤ n ∧ i = .int .i64 k ∧ s = .int .i64 m ∧ 0 ≤ m ∧ m ≤ l ∧ Hid (∀ i, i < k → SmL2 (xs.getD i Lv.none)) ∧ Below w.heap.size w wr)
   (fun _ i _ => n - (intOf i).toNat)
  case atStart => exact ⟨0, l - n, by omega, rfl, rfl, by omega, by omega, fun i hi => absurd hi (by omega), Below.refl _ _⟩
  case round =>
   obtain ⟨k, m, hk, rfl, rfl, hm0, hm1, HM, hbel⟩ := hrel
   by_cases hkn : k < n
   ·have hki : (k : Int) < (n : Int) := by omega
    obtain ⟨b, off, rfl, hlo, hb, hc⟩ := HR (by omega)
    have hfk : FnL (xs.getD k Lv.none) := HS k (by rw [show xs.length = n from HL]; exact hkn)
    obtain ⟨cs, hcl, hRel, hcj⟩ := hc k hkn
    obtain ⟨t, ht⟩ : ∃ t, t = xs.getD k Lv.none := ⟨_, rfl⟩
    rw [← ht] at hRel hfk
    have HT : Hid (t = xs.getD k Lv.none) := ht
    obtain ⟨e0, e1, e2, e3, e4, e5, rfl, i0, i1, i2, i3, i4, i5⟩ := hRel
    have hin : Six 0 w e0 e1 e2 e3 e4 e5 t := ⟨i0, i1, i2, i3, i4, i5⟩
    clear i0 i1 i2 i3 i4 i5
    obtain ⟨a0, c0, a1, c1, a2, c2, a3, c3, a4, c4, a5, c5, rfl, rfl, rfl, rfl, rfl, rfl⟩ := hin.shape
    have g0 : wr.cell? ⟨b, off + k * 6, none⟩ = some (.slice a0 t.cats.length c0) := (hbel.cell (p := ⟨b, off + k * 6, none⟩) hb).trans (hcj 0 (by omega))
    have g1 : wr.cell? ⟨b, off + k * 6 + 1, none⟩ = some (.slice a1 t.binds.length c1) := (hbel.cell (p := ⟨b, off + k * 6 + 1, none⟩) hb).trans (hcj 1 (by omega))
    have g2 : wr.cell? ⟨b, off + k * 6 + 2, none⟩ = some (.slice a2 t.counts.length c2) := (hbel.cell (p := ⟨b, off + k * 6 + 2, none⟩) hb).trans (hcj 2 (by omega))
    have g3 : wr.cell? ⟨b, off + k * 6 + 3, none⟩ = some (.slice a3 t.lens.length c3) := (hbel.cell (p := ⟨b, off + k * 6 + 3, none⟩) hb).trans (hcj 3 (by omega))
    have g4 : wr.cell? ⟨b, off + k * 6 + 4, none⟩ = some (.slice a4 t.glues.length c4) := (hbel.cell (p := ⟨b, off + k * 6 + 4, none⟩) hb).trans (hcj 4 (by omega))
    have g5 : wr.cell? ⟨b, off + k * 6 + 5, none⟩ = some (.slice a5 t.toks.length c5) := (hbel.cell (p := ⟨b, off + k * 6 + 5, none⟩) hb).trans (hcj 5 (by omega))
    have HB : Hid (Below w.heap.size w wr) := hbel
    have HX : Hid (FnL t ∧ Six 0 wr (.slice a0 t.cats.length c0) (.slice a1 t.binds.length c1) (.slice a2 t.counts.length c2) (.slice a3 t.lens.length c3) (.slice a4 t.glues.length c4) (.slice a5 t.toks.length c5) t) := ⟨hfk, hin.below hbel⟩
    clear hc hcj hcl hbel ht hfk hin
    go_wp2_with fail
    refine (szLevel_t HX.2 HX.1 hm0 (by omega)).mono ?_
    rintro e w2 ⟨⟨m2, rfl, hm2l, hm2⟩, hb1⟩
    have B2 : Hid (Below w.heap.size w w2) := below_more HB hb1 (Below.size HB)
    have HM2 : Hid (0 ≤ m2 → SmL2 t) := fun h => hm2 h
    clear hb1 hm2
    by_cases hneg : m2 < 0
    ·go_wp2
     go_ret
     exact ⟨⟨-1, rfl, by omega, fun h => by omega⟩, B2⟩
    ·go_wp2
     go_roundw
     case rel =>
      refine ⟨k + 1, m2, by omega, by go_num, rfl, by omega, by omega, fun i hi => ?_, B2⟩
      by_cases hik : i = k
      ·subst hik; rw [← show t = xs.getD i Lv.none from HT]; exact HM2 (by omega)
      ·exact HM i (by omega)
     case measure => simp [intOf]; omega
   ·have hki : ¬ (k : Int) < (n : Int) := by omega
    obtain rfl : k = n := by omega
    have HB : Hid (Below w.heap.size w wr) := hbel
    clear hbel
    go_wp2
    go_ret
    refine ⟨⟨m, rfl, hm1, fun _ => ⟨?_, fun i hi => HM i ?_⟩⟩, HB⟩
    ·have hl : xs.length = k := HL
     omega
    ·have hl : xs.length = k := HL
     omega
set_option maxHeartbeats 2000000 in
theorem szEnv_t {v : Value} {xs : List Lv} {w : World} {l : Int} (h : LRow 0 w v xs) (hf : FnE xs) (hl0 : 0 ≤ l) (hl1 : l ≤ 1048576) :
 Calls Tryz.prog 5 #[.agg #[v], .int .i64 l] w fun e w' => (∃ m : Int, e = .returned (.int .i64 m) ∧ m ≤ l ∧ (0 ≤ m → SmE2 xs)) ∧ Below w.heap.size w w' := by
 have HX : Hid (LRow 0 w v xs) := h
 obtain ⟨ao, cap, rfl⟩ := h.shape
 have HF : Hid (FnE xs) := hf
 clear h hf
 go_enter Tryz.func5, Tryz.ntmps5
 go_wp2_with fail
 refine (szLevels_t (SRow.below lvStable HX (below1 _ _)) HF hl0 hl1).mono ?_
 rintro e w1 ⟨⟨m, rfl, hml, hm⟩, hb1⟩
 have B1 : Hid (Below w.heap.size w w1) := below_more (below1 _ _) hb1 (by simp)
 have HM : Hid (0 ≤ m → SmE2 xs) := hm
 clear hb1 hm
 by_cases hneg : m < 0
 ·go_wp2
  go_ret
  exact ⟨⟨-1, rfl, by omega, fun h => by omega⟩, B1⟩
 ·go_wp2
  go_ret
  exact ⟨⟨m, rfl, by omega, HM⟩, B1⟩
end Go.Proofs.YtbpidcfoldkhgaaGreat
