import Derived.Test.YtojoehdmjkgnnaaGreatTmp
import Derived.Test.YtojoehdmjkgnnaaGreatFit
import Derived.Test.YtojoehdmjkgnnaaGreatNdq
namespace Go.Proofs.YtojoehdmjkgnnaaGreat
open Go.RowKit
set_option linter.unusedVariables false
set_option linter.unusedSimpArgs false
set_option maxHeartbeats 4000000 in
theorem szNodeS_w {v : Value} {xs : List Nd} {w : World} {l : Int} (h : NRow 0 w v xs) (hf : xs.length ≤ 9223372036854775807 ∧ ∀ i, i < xs.length → FnN (xs.getD i Nd.none)) (hl0 : 0 ≤ l) (hl1 : l ≤ 1048576) :
 Calls Tryz.prog 162 #[v, .int .i64 l] w fun e w' => (∃ m : Int, e = .returned (.int .i64 m) ∧ (0 ≤ m → m + xs.length ≤ l ∧ xs.length ≤ 1048576 ∧ ∀ i, i < xs.length → SmN (xs.getD i Nd.none))) ∧ Below w.heap.size w w' := by
 obtain ⟨ao, n, cap, rfl, hl, hr⟩ := h
 have hn : n ≤ 9223372036854775807 := by rw [← hl]; exact hf.1
 by_cases hbig : l - (n : Int) < 0
 ·go_enter Tryz.func162, Tryz.ntmps162
  go_wp2
  go_ret
  exact ⟨⟨-1, rfl, fun h => by omega⟩, Below.refl _ _⟩
 ·have HR : Hid (0 < n → ∃ b off, ao = some ⟨b, off, none⟩ ∧ 0 ≤ b ∧ b < w.heap.size ∧ ∀ i, i < n → ∃ cs : List Value, cs.length = 15 ∧ NdR 0 w cs (xs.getD i Nd.none) ∧ ∀ j, j < 15 → w.cell? ⟨b, off + i * 15 + j, none⟩ = cs[j]?) := hr
  have HS : Hid (∀ i, i < xs.length → FnN (xs.getD i Nd.none)) := hf.2
  have HL : Hid (xs.length = n) := hl
  clear hr hf hl
  go_enter Tryz.func162, Tryz.ntmps162
  go_wp2
  go_loopw [1, 5] (fun s i wr => ∃ (k : Nat) (m : Int), k ≤ n ∧ i = .int .i64 k ∧ s = .int .i64 m ∧ 0 ≤ m ∧ m + n ≤ l ∧ Hid (∀ i, i < k → SmN (xs.getD i Nd.none)) ∧ Below w.heap.size w wr)
   (fun _ i _ => n - (intOf i).toNat)
  case atStart => exact ⟨0, l - n, by omega, rfl, rfl, by omega, by omega, fun i hi => absurd hi (by omega), Below.refl _ _⟩
  case round =>
   obtain ⟨k, m, hk, rfl, rfl, hm0, hm1, HM, hbel⟩ := hrel
   by_cases hkn : k < n
   ·have hki : (k : Int) < (n : Int) := by omega
    obtain ⟨b, off, rfl, hlo, hb, hc⟩ := HR (by omega)
    have hfk : FnN (xs.getD k Nd.none) := HS k (by rw [show xs.length = n from HL]; exact hkn)
    obtain ⟨cs, hcl, hRel, hcj⟩ := hc k hkn
    obtain ⟨t, ht⟩ := exq (xs.getD k Nd.none)
    rw [← ht] at hRel hfk
    have HT : Hid (t = xs.getD k Nd.none) := ht
    have HC : Hid (∀ (l : Int) (w : World), 0 ≤ l → l ≤ 1048576 → Calls Tryz.prog 178 #[ndV t, .int .i64 l] w fun r w' => (∃ m : Int, r = .returned (.int .i64 m) ∧ m ≤ l ∧ (0 ≤ m → SmN t)) ∧ Below w.heap.size w w') := hideP (fun l w a b => szNode_any t l w a b hfk)
    obtain ⟨kd, wd, hh, dp, sh, fo, ch, nn, gs, gp, gpo, gm, gmo, tx, kids⟩ := t
    rw [show cs = _ from hRel] at hcj
    simp only [Nd.cells] at hcj
    have g0 : wr.cell? ⟨b, off + k * 15, none⟩ = some (.int .i64 kd) := (hbel.cell (p := ⟨b, off + k * 15, none⟩) hb).trans (hcj 0 (by omega))
    have g1 : wr.cell? ⟨b, off + k * 15 + 1, none⟩ = some (.int .i64 wd) := (hbel.cell (p := ⟨b, off + k * 15 + 1, none⟩) hb).trans (hcj 1 (by omega))
    have g2 : wr.cell? ⟨b, off + k * 15 + 2, none⟩ = some (.int .i64 hh) := (hbel.cell (p := ⟨b, off + k * 15 + 2, none⟩) hb).trans (hcj 2 (by omega))
    have g3 : wr.cell? ⟨b, off + k * 15 + 3, none⟩ = some (.int .i64 dp) := (hbel.cell (p := ⟨b, off + k * 15 + 3, none⟩) hb).trans (hcj 3 (by omega))
    have g4 : wr.cell? ⟨b, off + k * 15 + 4, none⟩ = some (.int .i64 sh) := (hbel.cell (p := ⟨b, off + k * 15 + 4, none⟩) hb).trans (hcj 4 (by omega))
    have g5 : wr.cell? ⟨b, off + k * 15 + 5, none⟩ = some (.int .i64 fo) := (hbel.cell (p := ⟨b, off + k * 15 + 5, none⟩) hb).trans (hcj 5 (by omega))
    have g6 : wr.cell? ⟨b, off + k * 15 + 6, none⟩ = some (.int .i64 ch) := (hbel.cell (p := ⟨b, off + k * 15 + 6, none⟩) hb).trans (hcj 6 (by omega))
    have g7 : wr.cell? ⟨b, off + k * 15 + 7, none⟩ = some (.int .i64 nn) := (hbel.cell (p := ⟨b, off + k * 15 + 7, none⟩) hb).trans (hcj 7 (by omega))
    have g8 : wr.cell? ⟨b, off + k * 15 + 8, none⟩ = some (.int .i64 gs) := (hbel.cell (p := ⟨b, off + k * 15 + 8, none⟩) hb).trans (hcj 8 (by omega))
    have g9 : wr.cell? ⟨b, off + k * 15 + 9, none⟩ = some (.int .i64 gp) := (hbel.cell (p := ⟨b, off + k * 15 + 9, none⟩) hb).trans (hcj 9 (by omega))
    have g10 : wr.cell? ⟨b, off + k * 15 + 10, none⟩ = some (.int .i64 gpo) := (hbel.cell (p := ⟨b, off + k * 15 + 10, none⟩) hb).trans (hcj 10 (by omega))
    have g11 : wr.cell? ⟨b, off + k * 15 + 11, none⟩ = some (.int .i64 gm) := (hbel.cell (p := ⟨b, off + k * 15 + 11, none⟩) hb).trans (hcj 11 (by omega))
    have g12 : wr.cell? ⟨b, off + k * 15 + 12, none⟩ = some (.int .i64 gmo) := (hbel.cell (p := ⟨b, off + k * 15 + 12, none⟩) hb).trans (hcj 12 (by omega))
    have g13 : wr.cell? ⟨b, off + k * 15 + 13, none⟩ = some (.string tx) := (hbel.cell (p := ⟨b, off + k * 15 + 13, none⟩) hb).trans (hcj 13 (by omega))
    have g14 : wr.cell? ⟨b, off + k * 15 + 14, none⟩ = some (.int .i64 kids) := (hbel.cell (p := ⟨b, off + k * 15 + 14, none⟩) hb).trans (hcj 14 (by omega))
    have HB : Hid (Below w.heap.size w wr) := hbel
    clear hc hcj hcl hbel ht hfk hRel
    go_wp2_with fail
    refine (HC.out _ _ hm0 (by omega)).mono ?_
    rintro e w2 ⟨⟨m2, rfl, hm2l, hm2⟩, hb1⟩
    have B2 : Hid (Below w.heap.size w w2) := below_more HB hb1 (Below.size HB)
    have HM2 := hideP hm2
    clear hb1 hm2
    by_cases hneg : m2 < 0
    ·go_wp2
     go_ret
     exact ⟨⟨-1, rfl, fun h => by omega⟩, B2⟩
    ·go_wp2
     go_roundw
     case rel =>
      refine ⟨k + 1, m2, by omega, by go_num, rfl, by omega, by omega, fun i hi => ?_, B2⟩
      by_cases hik : i = k
      ·subst hik; rw [← HT.out]; exact HM2.out (by omega)
      ·exact HM i (by omega)
     case measure => simp [intOf]; omega
   ·have hki : ¬ (k : Int) < (n : Int) := by omega
    obtain rfl : k = n := by omega
    have HB : Hid (Below w.heap.size w wr) := hbel
    clear hbel
    go_wp2
    go_ret
    refine ⟨⟨m, rfl, fun _ => ⟨?_, ?_, fun i hi => HM i ?_⟩⟩, HB⟩
    ·have hl : xs.length = k := HL
     rw [hl]; exact hm1
    ·have hl : xs.length = k := HL
     omega
    ·have hl : xs.length = k := HL
     omega
set_option maxHeartbeats 1000000 in
theorem szCell_w (x : Cl) {v : Value} {w : World} {l : Int} (h : NRow 0 w v x.ns) (hf : FnC x) (hl0 : 0 ≤ l) (hl1 : l ≤ 1048576) :
 Calls Tryz.prog 145 #[clV x v, .int .i64 l] w fun r w' => (∃ m : Int, r = .returned (.int .i64 m) ∧ (0 ≤ m → m + x.ns.length ≤ l ∧ SmC x)) ∧ Below w.heap.size w w' := by
 obtain ⟨ua, un, uc, rfl⟩ : ∃ a n c, v = .slice a n c := by obtain ⟨a, c, rfl⟩ := h.shape; exact ⟨_, _, _, rfl⟩
 have HC : Hid (∀ (W : World), Below w.heap.size w W → Calls Tryz.prog 162 #[.slice ua un uc, .int .i64 l] W fun r w' => (∃ m : Int, r = .returned (.int .i64 m) ∧ (0 ≤ m → m + x.ns.length ≤ l ∧ SmC x)) ∧ Below W.heap.size W w') := hideP (fun W hW => szNodeS_w (h.below ndStable hW) hf hl0 hl1)
 clear h hf
 obtain ⟨sp, al, ns⟩ := x
 simp only [clV, rwV, tbV]
 go_enter Tryz.func145, Tryz.ntmps145
 go_wp2_with fail
 refine (HC.out _ (below1 _ _)).mono ?_
 rintro e w1 ⟨⟨m, rfl, hm⟩, hb1⟩
 have B1 : Hid (Below w.heap.size w w1) := hideP (below_more (below1 _ _) hb1 (by simp))
 have HM := hideP hm
 clear hb1 hm
 by_cases hneg : m < 0
 ·go_wp2
  go_ret
  exact ⟨⟨-1, rfl, fun h => by omega⟩, B1⟩
 ·go_wp2
  go_ret
  exact ⟨⟨m, rfl, HM.out⟩, B1⟩
set_option maxHeartbeats 4000000 in
theorem szCellS_w {v : Value} {xs : List Cl} {w : World} {l : Int} (h : CRow 0 w v xs) (hf : xs.length ≤ 9223372036854775807 ∧ ∀ i, i < xs.length → FnC (xs.getD i Cl.none)) (hl0 : 0 ≤ l) (hl1 : l ≤ 1048576) :
 Calls Tryz.prog 125 #[v, .int .i64 l] w fun e w' => (∃ m : Int, e = .returned (.int .i64 m) ∧ (0 ≤ m → m + xs.length + nsK xs xs.length ≤ l ∧ xs.length ≤ 1048576 ∧ ∀ i, i < xs.length → SmC (xs.getD i Cl.none))) ∧ Below w.heap.size w w' := by
 obtain ⟨ao, n, cap, rfl, hl, hr⟩ := h
 have hn : n ≤ 9223372036854775807 := by rw [← hl]; exact hf.1
 by_cases hbig : l - (n : Int) < 0
 ·go_enter Tryz.func125, Tryz.ntmps125
  go_wp2
  go_ret
  exact ⟨⟨-1, rfl, fun h => by omega⟩, Below.refl _ _⟩
 ·have HR : Hid (0 < n → ∃ b off, ao = some ⟨b, off, none⟩ ∧ 0 ≤ b ∧ b < w.heap.size ∧ ∀ i, i < n → ∃ cs : List Value, cs.length = 3 ∧ ClR 0 w cs (xs.getD i Cl.none) ∧ ∀ j, j < 3 → w.cell? ⟨b, off + i * 3 + j, none⟩ = cs[j]?) := hr
  have HS : Hid (∀ i, i < xs.length → FnC (xs.getD i Cl.none)) := hf.2
  have HL : Hid (xs.length = n) := hl
  clear hr hf hl
  go_enter Tryz.func125, Tryz.ntmps125
  go_wp2
  go_loopw [1, 5] (fun s i wr => ∃ (k : Nat) (m : Int), k ≤ n ∧ i = .int .i64 k ∧ s = .int .i64 m ∧ 0 ≤ m ∧ m ≤ l ∧ Hid (m + n + nsK xs k ≤ l) ∧ Hid (∀ i, i < k → SmC (xs.getD i Cl.none)) ∧ Below w.heap.size w wr)
   (fun _ i _ => n - (intOf i).toNat)
  case atStart => exact ⟨0, l - n, by omega, rfl, rfl, by omega, by omega, hideP (by show l - (n : Int) + n + ((0 : Nat) : Int) ≤ l; omega), fun i hi => absurd hi (by omega), Below.refl _ _⟩
  case round =>
   obtain ⟨k, m, hk, rfl, rfl, hm0, hm1, HWT, HM, hbel⟩ := hrel
   by_cases hkn : k < n
   ·have hki : (k : Int) < (n : Int) := by omega
    obtain ⟨b, off, rfl, hlo, hb, hc⟩ := HR (by omega)
    have hfk : FnC (xs.getD k Cl.none) := HS k (by rw [show xs.length = n from HL]; exact hkn)
    obtain ⟨cs, hcl, hRel, hcj⟩ := hc k hkn
    obtain ⟨t, ht⟩ := exq (xs.getD k Cl.none)
    rw [← ht] at hRel hfk
    have HT : Hid (t = xs.getD k Cl.none) := ht
    obtain ⟨u, hcs, hu⟩ := hRel
    obtain ⟨ua, un, uc, rfl⟩ : ∃ a n c, u = .slice a n c := by obtain ⟨a, c, rfl⟩ := hu.shape; exact ⟨_, _, _, rfl⟩
    have HC : Hid (∀ (l : Int) (W : World), Below w.heap.size w W → 0 ≤ l → l ≤ 1048576 → Calls Tryz.prog 145 #[clV t (.slice ua un uc), .int .i64 l] W fun r w' => (∃ m : Int, r = .returned (.int .i64 m) ∧ (0 ≤ m → m + t.ns.length ≤ l ∧ SmC t)) ∧ Below W.heap.size W w') := hideP (fun l W hW a b => szCell_w t (hu.below ndStable hW) hfk a b)
    clear hu
    obtain ⟨sp, al, ns⟩ := t
    rw [show cs = _ from hcs] at hcj
    dsimp only at hcj
    simp only [clV, rwV, tbV] at HC
    have g0 : wr.cell? ⟨b, off + k * 3, none⟩ = some (.int .i64 sp) := (hbel.cell (p := ⟨b, off + k * 3, none⟩) hb).trans (hcj 0 (by omega))
    have g1 : wr.cell? ⟨b, off + k * 3 + 1, none⟩ = some (.int .i64 al) := (hbel.cell (p := ⟨b, off + k * 3 + 1, none⟩) hb).trans (hcj 1 (by omega))
    have g2 : wr.cell? ⟨b, off + k * 3 + 2, none⟩ = some (.slice ua un uc) := (hbel.cell (p := ⟨b, off + k * 3 + 2, none⟩) hb).trans (hcj 2 (by omega))
    have HB : Hid (Below w.heap.size w wr) := hbel
    clear hc hcj hcl hbel ht hfk hcs
    go_wp2_with fail
    refine (HC.out _ _ HB.out hm0 (by omega)).mono ?_
    rintro e w2 ⟨⟨m2, rfl, hm2⟩, hb1⟩
    have B2 : Hid (Below w.heap.size w w2) := below_more HB hb1 (Below.size HB)
    have HM2 := hideP hm2
    clear hb1 hm2
    by_cases hneg : m2 < 0
    ·go_wp2
     go_ret
     exact ⟨⟨-1, rfl, fun h => by omega⟩, B2⟩
    ·go_wp2
     go_roundw
     case rel =>
      refine ⟨k + 1, m2, by omega, by go_num, rfl, by omega, by have := (HM2.out (by omega)).1; (try dsimp only at this); omega, hideP (by have h1 := (HM2.out (by omega)).1; have h2 := HWT.out; rw [nsK_succ, ← HT.out]; (try dsimp only at h1 ⊢); omega), fun i hi => ?_, B2⟩
      by_cases hik : i = k
      ·subst hik; rw [← HT.out]; exact (HM2.out (by omega)).2
      ·exact HM i (by omega)
     case measure => simp [intOf]; omega
   ·have hki : ¬ (k : Int) < (n : Int) := by omega
    obtain rfl : k = n := by omega
    have HB : Hid (Below w.heap.size w wr) := hbel
    clear hbel
    go_wp2
    go_ret
    refine ⟨⟨m, rfl, fun _ => ⟨?_, ?_, fun i hi => HM i ?_⟩⟩, HB⟩
    ·have hl : xs.length = k := HL
     have := HWT.out
     rw [hl]; exact this
    ·have hl : xs.length = k := HL
     omega
    ·have hl : xs.length = k := HL
     omega
set_option maxHeartbeats 1000000 in
theorem szRow_w (x : Rw) {v : Value} {w : World} {l : Int} (h : CRow 0 w v x.cs) (hf : FnW x) (hl0 : 0 ≤ l) (hl1 : l ≤ 1048576) :
 Calls Tryz.prog 99 #[rwV x v, .int .i64 l] w fun r w' => (∃ m : Int, r = .returned (.int .i64 m) ∧ (0 ≤ m → m + x.cs.length + nsK x.cs x.cs.length ≤ l ∧ SmW x)) ∧ Below w.heap.size w w' := by
 obtain ⟨ua, un, uc, rfl⟩ : ∃ a n c, v = .slice a n c := by obtain ⟨a, c, rfl⟩ := h.shape; exact ⟨_, _, _, rfl⟩
 have HC : Hid (∀ (W : World), Below w.heap.size w W → Calls Tryz.prog 125 #[.slice ua un uc, .int .i64 l] W fun r w' => (∃ m : Int, r = .returned (.int .i64 m) ∧ (0 ≤ m → m + x.cs.length + nsK x.cs x.cs.length ≤ l ∧ SmW x)) ∧ Below W.heap.size W w') := hideP (fun W hW => szCellS_w (h.below clStable hW) hf hl0 hl1)
 clear h hf
 obtain ⟨rcs, ru⟩ := x
 simp only [clV, rwV, tbV]
 go_enter Tryz.func99, Tryz.ntmps99
 go_wp2_with fail
 refine (HC.out _ (below1 _ _)).mono ?_
 rintro e w1 ⟨⟨m, rfl, hm⟩, hb1⟩
 have B1 : Hid (Below w.heap.size w w1) := hideP (below_more (below1 _ _) hb1 (by simp))
 have HM := hideP hm
 clear hb1 hm
 by_cases hneg : m < 0
 ·go_wp2
  go_ret
  exact ⟨⟨-1, rfl, fun h => by omega⟩, B1⟩
 ·go_wp2
  go_ret
  exact ⟨⟨m, rfl, HM.out⟩, B1⟩
set_option maxHeartbeats 4000000 in
theorem szRowS_w {v : Value} {xs : List Rw} {w : World} {l : Int} (h : RRow 0 w v xs) (hf : xs.length ≤ 9223372036854775807 ∧ ∀ i, i < xs.length → FnW (xs.getD i Rw.none)) (hl0 : 0 ≤ l) (hl1 : l ≤ 1048576) :
 Calls Tryz.prog 59 #[v, .int .i64 l] w fun e w' => (∃ m : Int, e = .returned (.int .i64 m) ∧ (0 ≤ m → 15 * m + mkK xs xs.length ≤ 15 * l ∧ xs.length ≤ 1048576 ∧ ∀ i, i < xs.length → SmW (xs.getD i Rw.none))) ∧ Below w.heap.size w w' := by
 obtain ⟨ao, n, cap, rfl, hl, hr⟩ := h
 have hn : n ≤ 9223372036854775807 := by rw [← hl]; exact hf.1
 by_cases hbig : l - (n : Int) < 0
 ·go_enter Tryz.func59, Tryz.ntmps59
  go_wp2
  go_ret
  exact ⟨⟨-1, rfl, fun h => by omega⟩, Below.refl _ _⟩
 ·have HR : Hid (0 < n → ∃ b off, ao = some ⟨b, off, none⟩ ∧ 0 ≤ b ∧ b < w.heap.size ∧ ∀ i, i < n → ∃ cs : List Value, cs.length = 2 ∧ RwR 0 w cs (xs.getD i Rw.none) ∧ ∀ j, j < 2 → w.cell? ⟨b, off + i * 2 + j, none⟩ = cs[j]?) := hr
  have HS : Hid (∀ i, i < xs.length → FnW (xs.getD i Rw.none)) := hf.2
  have HL : Hid (xs.length = n) := hl
  clear hr hf hl
  go_enter Tryz.func59, Tryz.ntmps59
  go_wp2
  go_loopw [1, 5] (fun s i wr => ∃ (k : Nat) (m : Int), k ≤ n ∧ i = .int .i64 k ∧ s = .int .i64 m ∧ 0 ≤ m ∧ m ≤ l ∧ Hid (15 * m + mkK xs k ≤ 15 * (l - n) + k) ∧ Hid (∀ i, i < k → SmW (xs.getD i Rw.none)) ∧ Below w.heap.size w wr)
   (fun _ i _ => n - (intOf i).toNat)
  case atStart => exact ⟨0, l - n, by omega, rfl, rfl, by omega, by omega, hideP (by show 15 * (l - (n : Int)) + ((0 : Nat) : Int) ≤ 15 * (l - n) + ((0 : Nat) : Int); omega), fun i hi => absurd hi (by omega), Below.refl _ _⟩
  case round =>
   obtain ⟨k, m, hk, rfl, rfl, hm0, hm1, HWT, HM, hbel⟩ := hrel
   by_cases hkn : k < n
   ·have hki : (k : Int) < (n : Int) := by omega
    obtain ⟨b, off, rfl, hlo, hb, hc⟩ := HR (by omega)
    have hfk : FnW (xs.getD k Rw.none) := HS k (by rw [show xs.length = n from HL]; exact hkn)
    obtain ⟨cs, hcl, hRel, hcj⟩ := hc k hkn
    obtain ⟨t, ht⟩ := exq (xs.getD k Rw.none)
    rw [← ht] at hRel hfk
    have HT : Hid (t = xs.getD k Rw.none) := ht
    obtain ⟨u, hcs, hu⟩ := hRel
    obtain ⟨ua, un, uc, rfl⟩ : ∃ a n c, u = .slice a n c := by obtain ⟨a, c, rfl⟩ := hu.shape; exact ⟨_, _, _, rfl⟩
    have HC : Hid (∀ (l : Int) (W : World), Below w.heap.size w W → 0 ≤ l → l ≤ 1048576 → Calls Tryz.prog 99 #[rwV t (.slice ua un uc), .int .i64 l] W fun r w' => (∃ m : Int, r = .returned (.int .i64 m) ∧ (0 ≤ m → m + t.cs.length + nsK t.cs t.cs.length ≤ l ∧ SmW t)) ∧ Below W.heap.size W w') := hideP (fun l W hW a b => szRow_w t (hu.below clStable hW) hfk a b)
    clear hu
    obtain ⟨rcs, ru⟩ := t
    rw [show cs = _ from hcs] at hcj
    dsimp only at hcj
    simp only [clV, rwV, tbV] at HC
    have g0 : wr.cell? ⟨b, off + k * 2, none⟩ = some (.slice ua un uc) := (hbel.cell (p := ⟨b, off + k * 2, none⟩) hb).trans (hcj 0 (by omega))
    have g1 : wr.cell? ⟨b, off + k * 2 + 1, none⟩ = some (.int .i64 ru) := (hbel.cell (p := ⟨b, off + k * 2 + 1, none⟩) hb).trans (hcj 1 (by omega))
    have HB : Hid (Below w.heap.size w wr) := hbel
    clear hc hcj hcl hbel ht hfk hcs
    go_wp2_with fail
    refine (HC.out _ _ HB.out hm0 (by omega)).mono ?_
    rintro e w2 ⟨⟨m2, rfl, hm2⟩, hb1⟩
    have B2 : Hid (Below w.heap.size w w2) := below_more HB hb1 (Below.size HB)
    have HM2 := hideP hm2
    clear hb1 hm2
    by_cases hneg : m2 < 0
    ·go_wp2
     go_ret
     exact ⟨⟨-1, rfl, fun h => by omega⟩, B2⟩
    ·go_wp2
     go_roundw
     case rel =>
      refine ⟨k + 1, m2, by omega, by go_num, rfl, by omega, by have := (HM2.out (by omega)).1; (try dsimp only at this); omega, hideP (by have h1 := (HM2.out (by omega)).1; have h2 := HWT.out; rw [mkK_succ, ← HT.out]; unfold mkW; (try dsimp only at h1 ⊢); omega), fun i hi => ?_, B2⟩
      by_cases hik : i = k
      ·subst hik; rw [← HT.out]; exact (HM2.out (by omega)).2
      ·exact HM i (by omega)
     case measure => simp [intOf]; omega
   ·have hki : ¬ (k : Int) < (n : Int) := by omega
    obtain rfl : k = n := by omega
    have HB : Hid (Below w.heap.size w wr) := hbel
    clear hbel
    go_wp2
    go_ret
    refine ⟨⟨m, rfl, fun _ => ⟨?_, ?_, fun i hi => HM i ?_⟩⟩, HB⟩
    ·have hl : xs.length = k := HL
     have := HWT.out
     rw [hl]; omega
    ·have hl : xs.length = k := HL
     omega
    ·have hl : xs.length = k := HL
     omega
set_option maxHeartbeats 1000000 in
theorem szTable_w (x : Tb) {v : Value} {w : World} {l : Int} (h : RRow 0 w v x.rs) (hf : FnT x) (hl0 : 0 ≤ l) (hl1 : l ≤ 1048576) :
 Calls Tryz.prog 23 #[tbV x v, .int .i64 l] w fun r w' => (∃ m : Int, r = .returned (.int .i64 m) ∧ (0 ≤ m → 15 * m + mkK x.rs x.rs.length ≤ 15 * l ∧ SmT x)) ∧ Below w.heap.size w w' := by
 obtain ⟨ua, un, uc, rfl⟩ : ∃ a n c, v = .slice a n c := by obtain ⟨a, c, rfl⟩ := h.shape; exact ⟨_, _, _, rfl⟩
 have HC : Hid (∀ (W : World), Below w.heap.size w W → Calls Tryz.prog 59 #[.slice ua un uc, .int .i64 l] W fun r w' => (∃ m : Int, r = .returned (.int .i64 m) ∧ (0 ≤ m → 15 * m + mkK x.rs x.rs.length ≤ 15 * l ∧ SmT x)) ∧ Below W.heap.size W w') := hideP (fun W hW => szRowS_w (h.below rwStable hW) hf hl0 hl1)
 clear h hf
 obtain ⟨co, gs, gp, gpo, gm, gmo, rs⟩ := x
 simp only [clV, rwV, tbV]
 go_enter Tryz.func23, Tryz.ntmps23
 go_wp2_with fail
 refine (HC.out _ (below1 _ _)).mono ?_
 rintro e w1 ⟨⟨m, rfl, hm⟩, hb1⟩
 have B1 : Hid (Below w.heap.size w w1) := hideP (below_more (below1 _ _) hb1 (by simp))
 have HM := hideP hm
 clear hb1 hm
 by_cases hneg : m < 0
 ·go_wp2
  go_ret
  exact ⟨⟨-1, rfl, fun h => by omega⟩, B1⟩
 ·go_wp2
  go_ret
  exact ⟨⟨m, rfl, HM.out⟩, B1⟩
set_option maxHeartbeats 2000000 in
theorem eqCell_same (x : Cl) {v v' : Value} {w : World} (h : NRow 0 w v x.ns) (h' : NRow 0 w v' x.ns) (hs : SmC x) :
 Calls Tryz.prog 154 #[clV x v, clV x v'] w fun e w' => e = .returned (.bool true) ∧ Below w.heap.size w w' := by
 obtain ⟨ua, un, uc, rfl⟩ : ∃ a n c, v = .slice a n c := by obtain ⟨a, c, rfl⟩ := h.shape; exact ⟨_, _, _, rfl⟩
 obtain ⟨va, vn, vc, rfl⟩ : ∃ a n c, v' = .slice a n c := by obtain ⟨a, c, rfl⟩ := h'.shape; exact ⟨_, _, _, rfl⟩
 have HC : Hid (∀ (W : World), Below w.heap.size w W → Calls Tryz.prog 28 #[.slice ua un uc, .slice va vn vc] W fun e w' => e = .returned (.bool true) ∧ Below W.heap.size W w') := hideP (fun W hW => eqNodeS_same (h.below ndStable hW) (h'.below ndStable hW) hs.1)
 clear h h' hs
 obtain ⟨sp, al, ns⟩ := x
 simp only [clV, rwV, tbV]
 go_enter Tryz.func154, Tryz.ntmps154
 go_wp2_with fail
 refine (HC.out _ (below2 _ _ _)).mono ?_
 rintro e w1 ⟨rfl, hb1⟩
 have hy1 : w.heap.size + 1 < w1.heap.size := by have := hb1.size; simp at this; omega
 have hx1 : w.heap.size < w1.heap.size := by omega
 have B1 : Hid (Below w.heap.size w w1) := hideP (below_more (below2 _ _ _) hb1 (by simp; omega))
 obtain ⟨hc1, hf1⟩ := bcell hb1
 simp only [World.size_alloc, World.size_setCell] at hc1 hf1
 clear hb1
 go_wp2
 go_ret
 exact ⟨rfl, B1⟩
set_option maxHeartbeats 4000000 in
theorem eqCellS_same {v1 v2 : Value} {xs : List Cl} {w : World} (h1 : CRowN 0 w v1 xs) (h2 : CRowN 0 w v2 xs) (hs : xs.length ≤ 1048576 ∧ ∀ i, i < xs.length → SmC (xs.getD i Cl.none)) :
 Calls Tryz.prog 134 #[v1, v2] w fun e w' => e = .returned (.bool true) ∧ Below w.heap.size w w' := by
 obtain ⟨ao1, n1, cap1, rfl, hn1, hr1⟩ := h1
 obtain ⟨ao2, n2, cap2, rfl, hn2, hr2⟩ := h2
 obtain rfl : n1 = n2 := by omega
 have hx : n1 ≤ 1048576 := by rw [← hn1]; exact hs.1
 have HL : Hid (xs.length = n1) := hn1
 have HS : Hid (∀ i, i < xs.length → SmC (xs.getD i Cl.none)) := hs.2
 have HR1 : Hid (0 < n1 → ∃ b off, ao1 = some ⟨b, off, none⟩ ∧ 0 ≤ b ∧ b < w.heap.size ∧ ∀ i, i < n1 → ∃ cs : List Value, cs.length = 3 ∧ ClN 0 w cs (xs.getD i Cl.none) ∧ ∀ j, j < 3 → w.cell? ⟨b, off + i * 3 + j, none⟩ = cs[j]?) := hr1
 have HR2 : Hid (0 < n1 → ∃ b off, ao2 = some ⟨b, off, none⟩ ∧ 0 ≤ b ∧ b < w.heap.size ∧ ∀ i, i < n1 → ∃ cs : List Value, cs.length = 3 ∧ ClN 0 w cs (xs.getD i Cl.none) ∧ ∀ j, j < 3 → w.cell? ⟨b, off + i * 3 + j, none⟩ = cs[j]?) := hr2
 clear hn1 hn2 hr1 hr2 hs
 go_enter Tryz.func134, Tryz.ntmps134
 go_wp2
 go_loopw [5] (fun i wr => ∃ k : Nat, k ≤ n1 ∧ i = .int .i64 k ∧ Below w.heap.size w wr) (fun i _ => n1 - (intOf i).toNat)
 case atStart => exact ⟨0, by omega, rfl, Below.refl _ _⟩
 case round =>
  obtain ⟨k, hk, rfl, hbel⟩ := hrel
  by_cases hkn : k < n1
  ·have hki : (k : Int) < (n1 : Int) := by omega
   obtain ⟨b, off, rfl, hlo, hb, hc⟩ := HR1 (by omega)
   obtain ⟨b', off', rfl, hlo', hb', hc'⟩ := HR2 (by omega)
   have hsk : SmC (xs.getD k Cl.none) := HS k (by rw [show xs.length = n1 from HL]; exact hkn)
   obtain ⟨cs, hcl, hRel, hcj⟩ := hc k hkn
   obtain ⟨cs', hcl', hRel', hcj'⟩ := hc' k hkn
   obtain ⟨t, ht⟩ := exq (xs.getD k Cl.none)
   rw [← ht] at hRel hRel' hsk
   obtain ⟨u, hcs, hu⟩ := hRel
   obtain ⟨u', hcs', hu'⟩ := hRel'
   obtain ⟨ua, un, uc, rfl⟩ : ∃ a n c, u = .slice a n c := by obtain ⟨a, c, rfl⟩ := hu.1.shape; exact ⟨_, _, _, rfl⟩
   obtain ⟨va, vn, vc, rfl⟩ : ∃ a n c, u' = .slice a n c := by obtain ⟨a, c, rfl⟩ := hu'.1.shape; exact ⟨_, _, _, rfl⟩
   have HC : Hid (∀ W : World, Below w.heap.size w W → Calls Tryz.prog 154 #[clV t (.slice ua un uc), clV t (.slice va vn vc)] W fun r w' => r = .returned (.bool true) ∧ Below W.heap.size W w') := hideP (fun W hW => eqCell_same t (hu.1.below ndStable hW) (hu'.1.below ndStable hW) hsk)
   clear hu hu' hsk
   obtain ⟨sp, al, ns⟩ := t
   rw [show cs = _ from hcs] at hcj
   rw [show cs' = _ from hcs'] at hcj'
   dsimp only at hcj hcj'
   simp only [clV, rwV, tbV] at HC
   have BD : Below w.heap.size w wr.drew := Below.drew hbel
   have QA : Hid (∀ x, Below w.heap.size w x → x.cell? ⟨b, off + k * 3, none⟩ = some (.int .i64 sp) ∧ x.cell? ⟨b, off + k * 3 + 1, none⟩ = some (.int .i64 al) ∧ x.cell? ⟨b, off + k * 3 + 2, none⟩ = some (.slice ua un uc)) := hideP (fun x hx => ⟨(Below.cell hx (p := ⟨b, off + k * 3 + 0, none⟩) hb).trans (hcj 0 (by omega)), (Below.cell hx (p := ⟨b, off + k * 3 + 1, none⟩) hb).trans (hcj 1 (by omega)), (Below.cell hx (p := ⟨b, off + k * 3 + 2, none⟩) hb).trans (hcj 2 (by omega))⟩)
   have QB : Hid (∀ x, Below w.heap.size w x → x.cell? ⟨b', off' + k * 3, none⟩ = some (.int .i64 sp) ∧ x.cell? ⟨b', off' + k * 3 + 1, none⟩ = some (.int .i64 al) ∧ x.cell? ⟨b', off' + k * 3 + 2, none⟩ = some (.slice va vn vc)) := hideP (fun x hx => ⟨(Below.cell hx (p := ⟨b', off' + k * 3 + 0, none⟩) hb').trans (hcj' 0 (by omega)), (Below.cell hx (p := ⟨b', off' + k * 3 + 1, none⟩) hb').trans (hcj' 1 (by omega)), (Below.cell hx (p := ⟨b', off' + k * 3 + 2, none⟩) hb').trans (hcj' 2 (by omega))⟩)
   have HB : Hid (Below w.heap.size w wr) := hbel
   have HBD : Hid (Below w.heap.size w wr.drew) := BD
   clear hc hc' hcl hcl' hcj hcj' hbel ht BD hcs hcs'
   go_wp2_with fail
   go_region_held3 (fun x => (x.cell? ⟨b, off + k * 3, none⟩ = some (.int .i64 sp) ∧ x.cell? ⟨b, off + k * 3 + 1, none⟩ = some (.int .i64 al) ∧ x.cell? ⟨b, off + k * 3 + 2, none⟩ = some (.slice ua un uc)) ∧ (x.cell? ⟨b', off' + k * 3, none⟩ = some (.int .i64 sp) ∧ x.cell? ⟨b', off' + k * 3 + 1, none⟩ = some (.int .i64 al) ∧ x.cell? ⟨b', off' + k * 3 + 2, none⟩ = some (.slice va vn vc))) (first | exact ⟨QA.out _ HBD.out, QB.out _ HBD.out⟩ | exact ⟨QA.out _ ‹Hid (Below w.heap.size w _)›, QB.out _ ‹Hid (Below w.heap.size w _)›⟩) ((go_at_call 154; refine (HC.out _ HBD.out).mono ?_; rintro e w2 ⟨rfl, hb1⟩; have hb2 : Hid (Below w.heap.size w w2) := below_more HBD.out hb1 HBD.out.size; clear hb1))
   all_goals
    go_wp2
    go_roundw
    case rel => exact ⟨k + 1, by omega, by go_num, ‹Hid (Below w.heap.size w w2)›⟩
    case measure => simp [intOf]; omega
  ·have hki : ¬ (k : Int) < (n1 : Int) := by omega
   have HB : Hid (Below w.heap.size w wr) := hbel
   clear hbel
   go_wp2
   go_ret
   exact ⟨rfl, HB⟩
set_option maxHeartbeats 2000000 in
theorem eqRow_same (x : Rw) {v v' : Value} {w : World} (h : CRowN 0 w v x.cs) (h' : CRowN 0 w v' x.cs) (hs : SmW x) :
 Calls Tryz.prog 107 #[rwV x v, rwV x v'] w fun e w' => e = .returned (.bool true) ∧ Below w.heap.size w w' := by
 obtain ⟨ua, un, uc, rfl⟩ : ∃ a n c, v = .slice a n c := by obtain ⟨a, c, rfl⟩ := h.shape; exact ⟨_, _, _, rfl⟩
 obtain ⟨va, vn, vc, rfl⟩ : ∃ a n c, v' = .slice a n c := by obtain ⟨a, c, rfl⟩ := h'.shape; exact ⟨_, _, _, rfl⟩
 have HC : Hid (∀ (W : World), Below w.heap.size w W → Calls Tryz.prog 134 #[.slice ua un uc, .slice va vn vc] W fun e w' => e = .returned (.bool true) ∧ Below W.heap.size W w') := hideP (fun W hW => eqCellS_same (h.below clNStable hW) (h'.below clNStable hW) hs)
 clear h h' hs
 obtain ⟨rcs, ru⟩ := x
 simp only [clV, rwV, tbV]
 go_enter Tryz.func107, Tryz.ntmps107
 go_wp2_with fail
 refine (HC.out _ (below2 _ _ _)).mono ?_
 rintro e w1 ⟨rfl, hb1⟩
 have hy1 : w.heap.size + 1 < w1.heap.size := by have := hb1.size; simp at this; omega
 have hx1 : w.heap.size < w1.heap.size := by omega
 have B1 : Hid (Below w.heap.size w w1) := hideP (below_more (below2 _ _ _) hb1 (by simp; omega))
 obtain ⟨hc1, hf1⟩ := bcell hb1
 simp only [World.size_alloc, World.size_setCell] at hc1 hf1
 clear hb1
 go_wp2
 go_ret
 exact ⟨rfl, B1⟩
set_option maxHeartbeats 4000000 in
theorem eqRowS_same {v1 v2 : Value} {xs : List Rw} {w : World} (h1 : RRowN 0 w v1 xs) (h2 : RRowN 0 w v2 xs) (hs : xs.length ≤ 1048576 ∧ ∀ i, i < xs.length → SmW (xs.getD i Rw.none)) :
 Calls Tryz.prog 67 #[v1, v2] w fun e w' => e = .returned (.bool true) ∧ Below w.heap.size w w' := by
 obtain ⟨ao1, n1, cap1, rfl, hn1, hr1⟩ := h1
 obtain ⟨ao2, n2, cap2, rfl, hn2, hr2⟩ := h2
 obtain rfl : n1 = n2 := by omega
 have hx : n1 ≤ 1048576 := by rw [← hn1]; exact hs.1
 have HL : Hid (xs.length = n1) := hn1
 have HS : Hid (∀ i, i < xs.length → SmW (xs.getD i Rw.none)) := hs.2
 have HR1 : Hid (0 < n1 → ∃ b off, ao1 = some ⟨b, off, none⟩ ∧ 0 ≤ b ∧ b < w.heap.size ∧ ∀ i, i < n1 → ∃ cs : List Value, cs.length = 2 ∧ RwN 0 w cs (xs.getD i Rw.none) ∧ ∀ j, j < 2 → w.cell? ⟨b, off + i * 2 + j, none⟩ = cs[j]?) := hr1
 have HR2 : Hid (0 < n1 → ∃ b off, ao2 = some ⟨b, off, none⟩ ∧ 0 ≤ b ∧ b < w.heap.size ∧ ∀ i, i < n1 → ∃ cs : List Value, cs.length = 2 ∧ RwN 0 w cs (xs.getD i Rw.none) ∧ ∀ j, j < 2 → w.cell? ⟨b, off + i * 2 + j, none⟩ = cs[j]?) := hr2
 clear hn1 hn2 hr1 hr2 hs
 go_enter Tryz.func67, Tryz.ntmps67
 go_wp2
 go_loopw [5] (fun i wr => ∃ k : Nat, k ≤ n1 ∧ i = .int .i64 k ∧ Below w.heap.size w wr) (fun i _ => n1 - (intOf i).toNat)
 case atStart => exact ⟨0, by omega, rfl, Below.refl _ _⟩
 case round =>
  obtain ⟨k, hk, rfl, hbel⟩ := hrel
  by_cases hkn : k < n1
  ·have hki : (k : Int) < (n1 : Int) := by omega
   obtain ⟨b, off, rfl, hlo, hb, hc⟩ := HR1 (by omega)
   obtain ⟨b', off', rfl, hlo', hb', hc'⟩ := HR2 (by omega)
   have hsk : SmW (xs.getD k Rw.none) := HS k (by rw [show xs.length = n1 from HL]; exact hkn)
   obtain ⟨cs, hcl, hRel, hcj⟩ := hc k hkn
   obtain ⟨cs', hcl', hRel', hcj'⟩ := hc' k hkn
   obtain ⟨t, ht⟩ := exq (xs.getD k Rw.none)
   rw [← ht] at hRel hRel' hsk
   obtain ⟨u, hcs, hu⟩ := hRel
   obtain ⟨u', hcs', hu'⟩ := hRel'
   obtain ⟨ua, un, uc, rfl⟩ : ∃ a n c, u = .slice a n c := by obtain ⟨a, c, rfl⟩ := hu.shape; exact ⟨_, _, _, rfl⟩
   obtain ⟨va, vn, vc, rfl⟩ : ∃ a n c, u' = .slice a n c := by obtain ⟨a, c, rfl⟩ := hu'.shape; exact ⟨_, _, _, rfl⟩
   have HC : Hid (∀ W : World, Below w.heap.size w W → Calls Tryz.prog 107 #[rwV t (.slice ua un uc), rwV t (.slice va vn vc)] W fun r w' => r = .returned (.bool true) ∧ Below W.heap.size W w') := hideP (fun W hW => eqRow_same t (hu.below clNStable hW) (hu'.below clNStable hW) hsk)
   clear hu hu' hsk
   obtain ⟨rcs, ru⟩ := t
   rw [show cs = _ from hcs] at hcj
   rw [show cs' = _ from hcs'] at hcj'
   dsimp only at hcj hcj'
   simp only [clV, rwV, tbV] at HC
   have BD : Below w.heap.size w wr.drew := Below.drew hbel
   have QA : Hid (∀ x, Below w.heap.size w x → x.cell? ⟨b, off + k * 2, none⟩ = some (.slice ua un uc) ∧ x.cell? ⟨b, off + k * 2 + 1, none⟩ = some (.int .i64 ru)) := hideP (fun x hx => ⟨(Below.cell hx (p := ⟨b, off + k * 2 + 0, none⟩) hb).trans (hcj 0 (by omega)), (Below.cell hx (p := ⟨b, off + k * 2 + 1, none⟩) hb).trans (hcj 1 (by omega))⟩)
   have QB : Hid (∀ x, Below w.heap.size w x → x.cell? ⟨b', off' + k * 2, none⟩ = some (.slice va vn vc) ∧ x.cell? ⟨b', off' + k * 2 + 1, none⟩ = some (.int .i64 ru)) := hideP (fun x hx => ⟨(Below.cell hx (p := ⟨b', off' + k * 2 + 0, none⟩) hb').trans (hcj' 0 (by omega)), (Below.cell hx (p := ⟨b', off' + k * 2 + 1, none⟩) hb').trans (hcj' 1 (by omega))⟩)
   have HB : Hid (Below w.heap.size w wr) := hbel
   have HBD : Hid (Below w.heap.size w wr.drew) := BD
   clear hc hc' hcl hcl' hcj hcj' hbel ht BD hcs hcs'
   go_wp2_with fail
   go_region_held3 (fun x => (x.cell? ⟨b, off + k * 2, none⟩ = some (.slice ua un uc) ∧ x.cell? ⟨b, off + k * 2 + 1, none⟩ = some (.int .i64 ru)) ∧ (x.cell? ⟨b', off' + k * 2, none⟩ = some (.slice va vn vc) ∧ x.cell? ⟨b', off' + k * 2 + 1, none⟩ = some (.int .i64 ru))) (first | exact ⟨QA.out _ HBD.out, QB.out _ HBD.out⟩ | exact ⟨QA.out _ ‹Hid (Below w.heap.size w _)›, QB.out _ ‹Hid (Below w.heap.size w _)›⟩) ((go_at_call 107; refine (HC.out _ HBD.out).mono ?_; rintro e w2 ⟨rfl, hb1⟩; have hb2 : Hid (Below w.heap.size w w2) := below_more HBD.out hb1 HBD.out.size; clear hb1))
   all_goals
    go_wp2
    go_roundw
    case rel => exact ⟨k + 1, by omega, by go_num, ‹Hid (Below w.heap.size w w2)›⟩
    case measure => simp [intOf]; omega
  ·have hki : ¬ (k : Int) < (n1 : Int) := by omega
   have HB : Hid (Below w.heap.size w wr) := hbel
   clear hbel
   go_wp2
   go_ret
   exact ⟨rfl, HB⟩
set_option maxHeartbeats 2000000 in
theorem eqTable_same (x : Tb) {v v' : Value} {w : World} (h : RRowN 0 w v x.rs) (h' : RRowN 0 w v' x.rs) (hs : SmT x) :
 Calls Tryz.prog 29 #[tbV x v, tbV x v'] w fun e w' => e = .returned (.bool true) ∧ Below w.heap.size w w' := by
 obtain ⟨ua, un, uc, rfl⟩ : ∃ a n c, v = .slice a n c := by obtain ⟨a, c, rfl⟩ := h.shape; exact ⟨_, _, _, rfl⟩
 obtain ⟨va, vn, vc, rfl⟩ : ∃ a n c, v' = .slice a n c := by obtain ⟨a, c, rfl⟩ := h'.shape; exact ⟨_, _, _, rfl⟩
 have HC : Hid (∀ (W : World), Below w.heap.size w W → Calls Tryz.prog 67 #[.slice ua un uc, .slice va vn vc] W fun e w' => e = .returned (.bool true) ∧ Below W.heap.size W w') := hideP (fun W hW => eqRowS_same (h.below rwNStable hW) (h'.below rwNStable hW) hs)
 clear h h' hs
 obtain ⟨co, gs, gp, gpo, gm, gmo, rs⟩ := x
 simp only [clV, rwV, tbV]
 go_enter Tryz.func29, Tryz.ntmps29
 go_wp2_with fail
 refine (eqGlue_same _ _ _ _ _ _).mono ?_
 rintro e w0 ⟨rfl, hb0⟩
 have hy0 : w.heap.size + 1 < w0.heap.size := by have := hb0.size; simp at this; omega
 have hx0 : w.heap.size < w0.heap.size := by omega
 have B0 : Hid (Below w.heap.size w w0) := hideP (below_more (below2 _ _ _) hb0 (by simp; omega))
 obtain ⟨hc0, hf0⟩ := bcell hb0
 simp only [World.size_alloc, World.size_setCell] at hc0 hf0
 clear hb0
 go_wp2_with fail
 refine (HC.out _ B0.out).mono ?_
 rintro e w1 ⟨rfl, hb1⟩
 have hy1 : w.heap.size + 1 < w1.heap.size := by have := hb1.size; omega
 have hx1 : w.heap.size < w1.heap.size := by omega
 have B1 : Hid (Below w.heap.size w w1) := hideP (below_more B0.out hb1 B0.out.size)
 obtain ⟨hc1, hf1⟩ := bcell hb1
 clear hc0 hf0 hy0 hx0
 clear hb1
 go_wp2
 go_ret
 exact ⟨rfl, B1⟩
end Go.Proofs.YtojoehdmjkgnnaaGreat
