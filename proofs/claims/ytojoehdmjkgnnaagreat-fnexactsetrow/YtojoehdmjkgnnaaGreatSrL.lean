import Derived.Test.YtojoehdmjkgnnaaGreatTmp
import Derived.Test.YtojoehdmjkgnnaaGreatOpt
import Derived.Test.YtojoehdmjkgnnaaGreatOpn
import Derived.Test.YtojoehdmjkgnnaaGreatSsx
import Derived.Test.YtojoehdmjkgnnaaGreatMkc
import Derived.Deep.RegionHeld3
namespace Go.Proofs.YtojoehdmjkgnnaaGreat
open Go.RowKit
set_option linter.unusedVariables false
set_option linter.unusedSimpArgs false
set_option maxHeartbeats 4000000 in
theorem szNodeS_w {v : Value} {xs : List Nd} {w : World} {l : Int} (h : NRow 0 w v xs) (hf : xs.length ≤ 9223372036854775807 ∧ ∀ i, i < xs.length → FnN (xs.getD i Nd.none)) (hl0 : 0 ≤ l) (hl1 : l ≤ 1048576) :
 Calls Tryz.prog 162 #[v, .int .i64 l] w fun e w' => (∃ m : Int, e = .returned (.int .i64 m) ∧ (0 ≤ m → m + xs.length ≤ l ∧ xs.length ≤ 1048576 ∧ ∀ i, i < xs.length → SmN (xs.getD i Nd.none))) ∧ Below w.heap.size w w' := by
 obtain ⟨ao, n, cap, rfl, hl, hr⟩ := h
 have hn : n ≤ 9223372036854775807 := by rw [← hl]; exact hf.1
 by_cases hbig : l - (n : Int) < 0
 ·go_enter Tryz.func162, Tryz.ntmps162
  go_wp2
  go_ret
  exact ⟨⟨-1, rfl, fun h => by omega⟩, Below.refl _ _⟩
 ·have HR : Hid (0 < n → ∃ b off, ao = some ⟨b, off, none⟩ ∧ 0 ≤ b ∧ b < w.heap.size ∧ ∀ i, i < n → ∃ cs : List Value, cs.length = 15 ∧ NdR 0 w cs (xs.getD i Nd.none) ∧ ∀ j, j < 15 → w.cell? ⟨b, off + i * 15 + j, none⟩ = cs[j]?) := hr
  have HS : Hid (∀ i, i < xs.length → FnN (xs.getD i Nd.none)) := hf.2
  have HL : Hid (xs.length = n) := hl
  clear hr hf hl
  go_enter Tryz.func162, Tryz.ntmps162
  go_wp2
  go_loopw [1, 5] (fun s i wr => ∃ (k : Nat) (m : Int), k ≤ n ∧ i = .int .i64 k ∧ s = .int .i64 m ∧ 0 ≤ m ∧ m + n ≤ l ∧ Hid (∀ i, i < k → SmN (xs.getD i Nd.none)) ∧ Below w.heap.size w wr)
   (fun _ i _ => n - (intOf i).toNat)
  case atStart => exact ⟨0, l - n, by omega, rfl, rfl, by omega, by omega, fun i hi => absurd hi (by omega), Below.refl _ _⟩
  case round =>
   obtain ⟨k, m, hk, rfl, rfl, hm0, hm1, HM, hbel⟩ := hrel
   by_cases hkn : k < n
   ·have hki : (k : Int) < (n : Int) := by omega
    obtain ⟨b, off, rfl, hlo, hb, hc⟩ := HR (by omega)
    have hfk : FnN (xs.getD k Nd.none) := HS k (by rw [show xs.length = n from HL]; exact hkn)
    obtain ⟨cs, hcl, hRel, hcj⟩ := hc k hkn
    obtain ⟨t, ht⟩ : ∃ t, t = xs.getD k Nd.none := ⟨_, rfl⟩
    rw [← ht] at hRel hfk
    have HT : Hid (t = xs.getD k Nd.none) := ht
    have HC : Hid (∀ (l : Int) (w : World), 0 ≤ l → l ≤ 1048576 → Calls Tryz.prog 178 #[ndV t, .int .i64 l] w fun r w' => (∃ m : Int, r = .returned (.int .i64 m) ∧ m ≤ l ∧ (0 ≤ m → SmN t)) ∧ Below w.heap.size w w') := hideP (fun l w a b => szNode_any t l w a b hfk)
    obtain ⟨kd, wd, hh, dp, sh, fo, ch, nn, gs, gp, gpo, gm, gmo, tx, kids⟩ := t
    rw [show cs = _ from hRel] at hcj
    simp only [Nd.cells] at hcj
    have g0 : wr.cell? ⟨b, off + k * 15, none⟩ = some (.int .i64 kd) := (hbel.cell (p := ⟨b, off + k * 15, none⟩) hb).trans (hcj 0 (by omega))
    have g1 : wr.cell? ⟨b, off + k * 15 + 1, none⟩ = some (.int .i64 wd) := (hbel.cell (p := ⟨b, off + k * 15 + 1, none⟩) hb).trans (hcj 1 (by omega))
    have g2 : wr.cell? ⟨b, off + k * 15 + 2, none⟩ = some (.int .i64 hh) := (hbel.cell (p := ⟨b, off + k * 15 + 2, none⟩) hb).trans (hcj 2 (by omega))
    have g3 : wr.cell? ⟨b, off + k * 15 + 3, none⟩ = some (.int .i64 dp) := (hbel.cell (p := ⟨b, off + k * 15 + 3, none⟩) hb).trans (hcj 3 (by omega))
    have g4 : wr.cell? ⟨b, off + k * 15 + 4, none⟩ = some (.int .i64 sh) := (hbel.cell (p := ⟨b, off + k * 15 + 4, none⟩) hb).trans (hcj 4 (by omega))
    have g5 : wr.cell? ⟨b, off + k * 15 + 5, none⟩ = some (.int .i64 fo) := (hbel.cell (p := ⟨b, off + k * 15 + 5, none⟩) hb).trans (hcj 5 (by omega))
    have g6 : wr.cell? ⟨b, off + k * 15 + 6, none⟩ = some (.int .i64 ch) := (hbel.cell (p := ⟨b, off + k * 15 + 6, none⟩) hb).trans (hcj 6 (by omega))
    have g7 : wr.cell? ⟨b, off + k * 15 + 7, none⟩ = some (.int .i64 nn) := (hbel.cell (p := ⟨b, off + k * 15 + 7, none⟩) hb).trans (hcj 7 (by omega))
    have g8 : wr.cell? ⟨b, off + k * 15 + 8, none⟩ = some (.int .i64 gs) := (hbel.cell (p := ⟨b, off + k * 15 + 8, none⟩) hb).trans (hcj 8 (by omega))
    have g9 : wr.cell? ⟨b, off + k * 15 + 9, none⟩ = some (.int .i64 gp) := (hbel.cell (p := ⟨b, off + k * 15 + 9, none⟩) hb).trans (hcj 9 (by omega))
    have g10 : wr.cell? ⟨b, off + k * 15 + 10, none⟩ = some (.int .i64 gpo) := (hbel.cell (p := ⟨b, off + k * 15 + 10, none⟩) hb).trans (hcj 10 (by omega))
    have g11 : wr.cell? ⟨b, off + k * 15 + 11, none⟩ = some (.int .i64 gm) := (hbel.cell (p := ⟨b, off + k * 15 + 11, none⟩) hb).trans (hcj 11 (by omega))
    have g12 : wr.cell? ⟨b, off + k * 15 + 12, none⟩ = some (.int .i64 gmo) := (hbel.cell (p := ⟨b, off + k * 15 + 12, none⟩) hb).trans (hcj 12 (by omega))
    have g13 : wr.cell? ⟨b, off + k * 15 + 13, none⟩ = some (.string tx) := (hbel.cell (p := ⟨b, off + k * 15 + 13, none⟩) hb).trans (hcj 13 (by omega))
    have g14 : wr.cell? ⟨b, off + k * 15 + 14, none⟩ = some (.int .i64 kids) := (hbel.cell (p := ⟨b, off + k * 15 + 14, none⟩) hb).trans (hcj 14 (by omega))
    have HB : Hid (Below w.heap.size w wr) := hbel
    clear hc hcj hcl hbel ht hfk hRel
    go_wp2_with fail
    refine (HC.out _ _ hm0 (by omega)).mono ?_
    rintro e w2 ⟨⟨m2, rfl, hm2l, hm2⟩, hb1⟩
    have B2 : Hid (Below w.heap.size w w2) := below_more HB hb1 (Below.size HB)
    have HM2 := hideP hm2
    clear hb1 hm2
    by_cases hneg : m2 < 0
    ·go_wp2
     go_ret
     exact ⟨⟨-1, rfl, fun h => by omega⟩, B2⟩
    ·go_wp2
     go_roundw
     case rel =>
      refine ⟨k + 1, m2, by omega, by go_num, rfl, by omega, by omega, fun i hi => ?_, B2⟩
      by_cases hik : i = k
      ·subst hik; rw [← HT.out]; exact HM2.out (by omega)
      ·exact HM i (by omega)
     case measure => simp [intOf]; omega
   ·have hki : ¬ (k : Int) < (n : Int) := by omega
    obtain rfl : k = n := by omega
    have HB : Hid (Below w.heap.size w wr) := hbel
    clear hbel
    go_wp2
    go_ret
    refine ⟨⟨m, rfl, fun _ => ⟨?_, ?_, fun i hi => HM i ?_⟩⟩, HB⟩
    ·have hl : xs.length = k := HL
     rw [hl]; exact hm1
    ·have hl : xs.length = k := HL
     omega
    ·have hl : xs.length = k := HL
     omega
set_option maxHeartbeats 1000000 in
theorem szCell_w (x : Cl) {v : Value} {w : World} {l : Int} (h : NRow 0 w v x.ns) (hf : FnC x) (hl0 : 0 ≤ l) (hl1 : l ≤ 1048576) :
 Calls Tryz.prog 145 #[clV x v, .int .i64 l] w fun r w' => (∃ m : Int, r = .returned (.int .i64 m) ∧ (0 ≤ m → m + x.ns.length ≤ l ∧ SmC x)) ∧ Below w.heap.size w w' := by
 obtain ⟨ua, un, uc, rfl⟩ : ∃ a n c, v = .slice a n c := by obtain ⟨a, c, rfl⟩ := h.shape; exact ⟨_, _, _, rfl⟩
 have HC : Hid (∀ (W : World), Below w.heap.size w W → Calls Tryz.prog 162 #[.slice ua un uc, .int .i64 l] W fun r w' => (∃ m : Int, r = .returned (.int .i64 m) ∧ (0 ≤ m → m + x.ns.length ≤ l ∧ SmC x)) ∧ Below W.heap.size W w') := hideP (fun W hW => szNodeS_w (h.below ndStable hW) hf hl0 hl1)
 clear h hf
 obtain ⟨sp, al, ns⟩ := x
 simp only [clV, rwV, tbV]
 go_enter Tryz.func145, Tryz.ntmps145
 go_wp2_with fail
 refine (HC.out _ (below1 _ _)).mono ?_
 rintro e w1 ⟨⟨m, rfl, hm⟩, hb1⟩
 have B1 : Hid (Below w.heap.size w w1) := hideP (below_more (below1 _ _) hb1 (by simp))
 have HM := hideP hm
 clear hb1 hm
 by_cases hneg : m < 0
 ·go_wp2
  go_ret
  exact ⟨⟨-1, rfl, fun h => by omega⟩, B1⟩
 ·go_wp2
  go_ret
  exact ⟨⟨m, rfl, HM.out⟩, B1⟩
set_option maxHeartbeats 4000000 in
theorem szCellS_w {v : Value} {xs : List Cl} {w : World} {l : Int} (h : CRow 0 w v xs) (hf : xs.length ≤ 9223372036854775807 ∧ ∀ i, i < xs.length → FnC (xs.getD i Cl.none)) (hl0 : 0 ≤ l) (hl1 : l ≤ 1048576) :
 Calls Tryz.prog 125 #[v, .int .i64 l] w fun e w' => (∃ m : Int, e = .returned (.int .i64 m) ∧ (0 ≤ m → m + xs.length + nsK xs xs.length ≤ l ∧ xs.length ≤ 1048576 ∧ ∀ i, i < xs.length → SmC (xs.getD i Cl.none))) ∧ Below w.heap.size w w' := by
 obtain ⟨ao, n, cap, rfl, hl, hr⟩ := h
 have hn : n ≤ 9223372036854775807 := by rw [← hl]; exact hf.1
 by_cases hbig : l - (n : Int) < 0
 ·go_enter Tryz.func125, Tryz.ntmps125
  go_wp2
  go_ret
  exact ⟨⟨-1, rfl, fun h => by omega⟩, Below.refl _ _⟩
 ·have HR : Hid (0 < n → ∃ b off, ao = some ⟨b, off, none⟩ ∧ 0 ≤ b ∧ b < w.heap.size ∧ ∀ i, i < n → ∃ cs : List Value, cs.length = 3 ∧ ClR 0 w cs (xs.getD i Cl.none) ∧ ∀ j, j < 3 → w.cell? ⟨b, off + i * 3 + j, none⟩ = cs[j]?) := hr
  have HS : Hid (∀ i, i < xs.length → FnC (xs.getD i Cl.none)) := hf.2
  have HL : Hid (xs.length = n) := hl
  clear hr hf hl
  go_enter Tryz.func125, Tryz.ntmps125
  go_wp2
  go_loopw [1, 5] (fun s i wr => ∃ (k : Nat) (m : Int), k ≤ n ∧ i = .int .i64 k ∧ s = .int .i64 m ∧ 0 ≤ m ∧ m ≤ l ∧ Hid (m + n + nsK xs k ≤ l) ∧ Hid (∀ i, i < k → SmC (xs.getD i Cl.none)) ∧ Below w.heap.size w wr)
   (fun _ i _ => n - (intOf i).toNat)
  case atStart => exact ⟨0, l - n, by omega, rfl, rfl, by omega, by omega, hideP (by show l - (n : Int) + n + ((0 : Nat) : Int) ≤ l; omega), fun i hi => absurd hi (by omega), Below.refl _ _⟩
  case round =>
   obtain ⟨k, m, hk, rfl, rfl, hm0, hm1, HWT, HM, hbel⟩ := hrel
   by_cases hkn : k < n
   ·have hki : (k : Int) < (n : Int) := by omega
    obtain ⟨b, off, rfl, hlo, hb, hc⟩ := HR (by omega)
    have hfk : FnC (xs.getD k Cl.none) := HS k (by rw [show xs.length = n from HL]; exact hkn)
    obtain ⟨cs, hcl, hRel, hcj⟩ := hc k hkn
    obtain ⟨t, ht⟩ : ∃ t, t = xs.getD k Cl.none := ⟨_, rfl⟩
    rw [← ht] at hRel hfk
    have HT : Hid (t = xs.getD k Cl.none) := ht
    obtain ⟨u, hcs, hu⟩ := hRel
    obtain ⟨ua, un, uc, rfl⟩ : ∃ a n c, u = .slice a n c := by obtain ⟨a, c, rfl⟩ := hu.shape; exact ⟨_, _, _, rfl⟩
    have HC : Hid (∀ (l : Int) (W : World), Below w.heap.size w W → 0 ≤ l → l ≤ 1048576 → Calls Tryz.prog 145 #[clV t (.slice ua un uc), .int .i64 l] W fun r w' => (∃ m : Int, r = .returned (.int .i64 m) ∧ (0 ≤ m → m + t.ns.length ≤ l ∧ SmC t)) ∧ Below W.heap.size W w') := hideP (fun l W hW a b => szCell_w t (hu.below ndStable hW) hfk a b)
    clear hu
    obtain ⟨sp, al, ns⟩ := t
    rw [show cs = _ from hcs] at hcj
    dsimp only at hcj
    simp only [clV, rwV, tbV] at HC
    have g0 : wr.cell? ⟨b, off + k * 3, none⟩ = some (.int .i64 sp) := (hbel.cell (p := ⟨b, off + k * 3, none⟩) hb).trans (hcj 0 (by omega))
    have g1 : wr.cell? ⟨b, off + k * 3 + 1, none⟩ = some (.int .i64 al) := (hbel.cell (p := ⟨b, off + k * 3 + 1, none⟩) hb).trans (hcj 1 (by omega))
    have g2 : wr.cell? ⟨b, off + k * 3 + 2, none⟩ = some (.slice ua un uc) := (hbel.cell (p := ⟨b, off + k * 3 + 2, none⟩) hb).trans (hcj 2 (by omega))
    have HB : Hid (Below w.heap.size w wr) := hbel
    clear hc hcj hcl hbel ht hfk hcs
    go_wp2_with fail
    refine (HC.out _ _ HB.out hm0 (by omega)).mono ?_
    rintro e w2 ⟨⟨m2, rfl, hm2⟩, hb1⟩
    have B2 : Hid (Below w.heap.size w w2) := below_more HB hb1 (Below.size HB)
    have HM2 := hideP hm2
    clear hb1 hm2
    by_cases hneg : m2 < 0
    ·go_wp2
     go_ret
     exact ⟨⟨-1, rfl, fun h => by omega⟩, B2⟩
    ·go_wp2
     go_roundw
     case rel =>
      refine ⟨k + 1, m2, by omega, by go_num, rfl, by omega, by have := (HM2.out (by omega)).1; (try dsimp only at this); omega, hideP (by have h1 := (HM2.out (by omega)).1; have h2 := HWT.out; rw [nsK_succ, ← HT.out]; (try dsimp only at h1 ⊢); omega), fun i hi => ?_, B2⟩
      by_cases hik : i = k
      ·subst hik; rw [← HT.out]; exact (HM2.out (by omega)).2
      ·exact HM i (by omega)
     case measure => simp [intOf]; omega
   ·have hki : ¬ (k : Int) < (n : Int) := by omega
    obtain rfl : k = n := by omega
    have HB : Hid (Below w.heap.size w wr) := hbel
    clear hbel
    go_wp2
    go_ret
    refine ⟨⟨m, rfl, fun _ => ⟨?_, ?_, fun i hi => HM i ?_⟩⟩, HB⟩
    ·have hl : xs.length = k := HL
     have := HWT.out
     rw [hl]; exact this
    ·have hl : xs.length = k := HL
     omega
    ·have hl : xs.length = k := HL
     omega
set_option maxHeartbeats 1000000 in
theorem szRow_w (x : Rw) {v : Value} {w : World} {l : Int} (h : CRow 0 w v x.cs) (hf : FnW x) (hl0 : 0 ≤ l) (hl1 : l ≤ 1048576) :
 Calls Tryz.prog 99 #[rwV x v, .int .i64 l] w fun r w' => (∃ m : Int, r = .returned (.int .i64 m) ∧ (0 ≤ m → m + x.cs.length + nsK x.cs x.cs.length ≤ l ∧ SmW x)) ∧ Below w.heap.size w w' := by
 obtain ⟨ua, un, uc, rfl⟩ : ∃ a n c, v = .slice a n c := by obtain ⟨a, c, rfl⟩ := h.shape; exact ⟨_, _, _, rfl⟩
 have HC : Hid (∀ (W : World), Below w.heap.size w W → Calls Tryz.prog 125 #[.slice ua un uc, .int .i64 l] W fun r w' => (∃ m : Int, r = .returned (.int .i64 m) ∧ (0 ≤ m → m + x.cs.length + nsK x.cs x.cs.length ≤ l ∧ SmW x)) ∧ Below W.heap.size W w') := hideP (fun W hW => szCellS_w (h.below clStable hW) hf hl0 hl1)
 clear h hf
 obtain ⟨rcs, ru⟩ := x
 simp only [clV, rwV, tbV]
 go_enter Tryz.func99, Tryz.ntmps99
 go_wp2_with fail
 refine (HC.out _ (below1 _ _)).mono ?_
 rintro e w1 ⟨⟨m, rfl, hm⟩, hb1⟩
 have B1 : Hid (Below w.heap.size w w1) := hideP (below_more (below1 _ _) hb1 (by simp))
 have HM := hideP hm
 clear hb1 hm
 by_cases hneg : m < 0
 ·go_wp2
  go_ret
  exact ⟨⟨-1, rfl, fun h => by omega⟩, B1⟩
 ·go_wp2
  go_ret
  exact ⟨⟨m, rfl, HM.out⟩, B1⟩
set_option maxHeartbeats 4000000 in
theorem szRowS_w {v : Value} {xs : List Rw} {w : World} {l : Int} (h : RRow 0 w v xs) (hf : xs.length ≤ 9223372036854775807 ∧ ∀ i, i < xs.length → FnW (xs.getD i Rw.none)) (hl0 : 0 ≤ l) (hl1 : l ≤ 1048576) :
 Calls Tryz.prog 59 #[v, .int .i64 l] w fun e w' => (∃ m : Int, e = .returned (.int .i64 m) ∧ (0 ≤ m → 15 * m + mkK xs xs.length ≤ 15 * l ∧ xs.length ≤ 1048576 ∧ ∀ i, i < xs.length → SmW (xs.getD i Rw.none))) ∧ Below w.heap.size w w' := by
 obtain ⟨ao, n, cap, rfl, hl, hr⟩ := h
 have hn : n ≤ 9223372036854775807 := by rw [← hl]; exact hf.1
 by_cases hbig : l - (n : Int) < 0
 ·go_enter Tryz.func59, Tryz.ntmps59
  go_wp2
  go_ret
  exact ⟨⟨-1, rfl, fun h => by omega⟩, Below.refl _ _⟩
 ·have HR : Hid (0 < n → ∃ b off, ao = some ⟨b, off, none⟩ ∧ 0 ≤ b ∧ b < w.heap.size ∧ ∀ i, i < n → ∃ cs : List Value, cs.length = 2 ∧ RwR 0 w cs (xs.getD i Rw.none) ∧ ∀ j, j < 2 → w.cell? ⟨b, off + i * 2 + j, none⟩ = cs[j]?) := hr
  have HS : Hid (∀ i, i < xs.length → FnW (xs.getD i Rw.none)) := hf.2
  have HL : Hid (xs.length = n) := hl
  clear hr hf hl
  go_enter Tryz.func59, Tryz.ntmps59
  go_wp2
  go_loopw [1, 5] (fun s i wr => ∃ (k : Nat) (m : Int), k ≤ n ∧ i = .int .i64 k ∧ s = .int .i64 m ∧ 0 ≤ m ∧ m ≤ l ∧ Hid (15 * m + mkK xs k ≤ 15 * (l - n) + k) ∧ Hid (∀ i, i < k → SmW (xs.getD i Rw.none)) ∧ Below w.heap.size w wr)
   (fun _ i _ => n - (intOf i).toNat)
  case atStart => exact ⟨0, l - n, by omega, rfl, rfl, by omega, by omega, hideP (by show 15 * (l - (n : Int)) + ((0 : Nat) : Int) ≤ 15 * (l - n) + ((0 : Nat) : Int); omega), fun i hi => absurd hi (by omega), Below.refl _ _⟩
  case round =>
   obtain ⟨k, m, hk, rfl, rfl, hm0, hm1, HWT, HM, hbel⟩ := hrel
   by_cases hkn : k < n
   ·have hki : (k : Int) < (n : Int) := by omega
    obtain ⟨b, off, rfl, hlo, hb, hc⟩ := HR (by omega)
    have hfk : FnW (xs.getD k Rw.none) := HS k (by rw [show xs.length = n from HL]; exact hkn)
    obtain ⟨cs, hcl, hRel, hcj⟩ := hc k hkn
    obtain ⟨t, ht⟩ : ∃ t, t = xs.getD k Rw.none := ⟨_, rfl⟩
    rw [← ht] at hRel hfk
    have HT : Hid (t = xs.getD k Rw.none) := ht
    obtain ⟨u, hcs, hu⟩ := hRel
    obtain ⟨ua, un, uc, rfl⟩ : ∃ a n c, u = .slice a n c := by obtain ⟨a, c, rfl⟩ := hu.shape; exact ⟨_, _, _, rfl⟩
    have HC : Hid (∀ (l : Int) (W : World), Below w.heap.size w W → 0 ≤ l → l ≤ 1048576 → Calls Tryz.prog 99 #[rwV t (.slice ua un uc), .int .i64 l] W fun r w' => (∃ m : Int, r = .returned (.int .i64 m) ∧ (0 ≤ m → m + t.cs.length + nsK t.cs t.cs.length ≤ l ∧ SmW t)) ∧ Below W.heap.size W w') := hideP (fun l W hW a b => szRow_w t (hu.below clStable hW) hfk a b)
    clear hu
    obtain ⟨rcs, ru⟩ := t
    rw [show cs = _ from hcs] at hcj
    dsimp only at hcj
    simp only [clV, rwV, tbV] at HC
    have g0 : wr.cell? ⟨b, off + k * 2, none⟩ = some (.slice ua un uc) := (hbel.cell (p := ⟨b, off + k * 2, none⟩) hb).trans (hcj 0 (by omega))
    have g1 : wr.cell? ⟨b, off + k * 2 + 1, none⟩ = some (.int .i64 ru) := (hbel.cell (p := ⟨b, off + k * 2 + 1, none⟩) hb).trans (hcj 1 (by omega))
    have HB : Hid (Below w.heap.size w wr) := hbel
    clear hc hcj hcl hbel ht hfk hcs
    go_wp2_with fail
    refine (HC.out _ _ HB.out hm0 (by omega)).mono ?_
    rintro e w2 ⟨⟨m2, rfl, hm2⟩, hb1⟩
    have B2 : Hid (Below w.heap.size w w2) := below_more HB hb1 (Below.size HB)
    have HM2 := hideP hm2
    clear hb1 hm2
    by_cases hneg : m2 < 0
    ·go_wp2
     go_ret
     exact ⟨⟨-1, rfl, fun h => by omega⟩, B2⟩
    ·go_wp2
     go_roundw
     case rel =>
      refine ⟨k + 1, m2, by omega, by go_num, rfl, by omega, by have := (HM2.out (by omega)).1; (try dsimp only at this); omega, hideP (by have h1 := (HM2.out (by omega)).1; have h2 := HWT.out; rw [mkK_succ, ← HT.out]; unfold mkW; (try dsimp only at h1 ⊢); omega), fun i hi => ?_, B2⟩
      by_cases hik : i = k
      ·subst hik; rw [← HT.out]; exact (HM2.out (by omega)).2
      ·exact HM i (by omega)
     case measure => simp [intOf]; omega
   ·have hki : ¬ (k : Int) < (n : Int) := by omega
    obtain rfl : k = n := by omega
    have HB : Hid (Below w.heap.size w wr) := hbel
    clear hbel
    go_wp2
    go_ret
    refine ⟨⟨m, rfl, fun _ => ⟨?_, ?_, fun i hi => HM i ?_⟩⟩, HB⟩
    ·have hl : xs.length = k := HL
     have := HWT.out
     rw [hl]; omega
    ·have hl : xs.length = k := HL
     omega
    ·have hl : xs.length = k := HL
     omega
set_option maxHeartbeats 1000000 in
theorem szTable_w (x : Tb) {v : Value} {w : World} {l : Int} (h : RRow 0 w v x.rs) (hf : FnT x) (hl0 : 0 ≤ l) (hl1 : l ≤ 1048576) :
 Calls Tryz.prog 23 #[tbV x v, .int .i64 l] w fun r w' => (∃ m : Int, r = .returned (.int .i64 m) ∧ (0 ≤ m → 15 * m + mkK x.rs x.rs.length ≤ 15 * l ∧ SmT x)) ∧ Below w.heap.size w w' := by
 obtain ⟨ua, un, uc, rfl⟩ : ∃ a n c, v = .slice a n c := by obtain ⟨a, c, rfl⟩ := h.shape; exact ⟨_, _, _, rfl⟩
 have HC : Hid (∀ (W : World), Below w.heap.size w W → Calls Tryz.prog 59 #[.slice ua un uc, .int .i64 l] W fun r w' => (∃ m : Int, r = .returned (.int .i64 m) ∧ (0 ≤ m → 15 * m + mkK x.rs x.rs.length ≤ 15 * l ∧ SmT x)) ∧ Below W.heap.size W w') := hideP (fun W hW => szRowS_w (h.below rwStable hW) hf hl0 hl1)
 clear h hf
 obtain ⟨co, gs, gp, gpo, gm, gmo, rs⟩ := x
 simp only [clV, rwV, tbV]
 go_enter Tryz.func23, Tryz.ntmps23
 go_wp2_with fail
 refine (HC.out _ (below1 _ _)).mono ?_
 rintro e w1 ⟨⟨m, rfl, hm⟩, hb1⟩
 have B1 : Hid (Below w.heap.size w w1) := hideP (below_more (below1 _ _) hb1 (by simp))
 have HM := hideP hm
 clear hb1 hm
 by_cases hneg : m < 0
 ·go_wp2
  go_ret
  exact ⟨⟨-1, rfl, fun h => by omega⟩, B1⟩
 ·go_wp2
  go_ret
  exact ⟨⟨m, rfl, HM.out⟩, B1⟩
set_option maxHeartbeats 2000000 in
theorem eqCell_same (x : Cl) {v v' : Value} {w : World} (h : NRow 0 w v x.ns) (h' : NRow 0 w v' x.ns) (hs : SmC x) :
 Calls Tryz.prog 154 #[clV x v, clV x v'] w fun e w' => e = .returned (.bool true) ∧ Below w.heap.size w w' := by
 obtain ⟨ua, un, uc, rfl⟩ : ∃ a n c, v = .slice a n c := by obtain ⟨a, c, rfl⟩ := h.shape; exact ⟨_, _, _, rfl⟩
 obtain ⟨va, vn, vc, rfl⟩ : ∃ a n c, v' = .slice a n c := by obtain ⟨a, c, rfl⟩ := h'.shape; exact ⟨_, _, _, rfl⟩
 have HC : Hid (∀ (W : World), Below w.heap.size w W → Calls Tryz.prog 28 #[.slice ua un uc, .slice va vn vc] W fun e w' => e = .returned (.bool true) ∧ Below W.heap.size W w') := hideP (fun W hW => eqNodeS_same (h.below ndStable hW) (h'.below ndStable hW) hs.1)
 clear h h' hs
 obtain ⟨sp, al, ns⟩ := x
 simp only [clV, rwV, tbV]
 go_enter Tryz.func154, Tryz.ntmps154
 go_wp2_with fail
 refine (HC.out _ (below2 _ _ _)).mono ?_
 rintro e w1 ⟨rfl, hb1⟩
 have hy1 : w.heap.size + 1 < w1.heap.size := by have := hb1.size; simp at this; omega
 have hx1 : w.heap.size < w1.heap.size := by omega
 have B1 : Hid (Below w.heap.size w w1) := hideP (below_more (below2 _ _ _) hb1 (by simp; omega))
 obtain ⟨hc1, hf1⟩ := bcell hb1
 simp only [World.size_alloc, World.size_setCell] at hc1 hf1
 clear hb1
 go_wp2
 go_ret
 exact ⟨rfl, B1⟩
set_option maxHeartbeats 4000000 in
theorem eqCellS_same {v1 v2 : Value} {xs : List Cl} {w : World} (h1 : CRowN 0 w v1 xs) (h2 : CRowN 0 w v2 xs) (hs : xs.length ≤ 1048576 ∧ ∀ i, i < xs.length → SmC (xs.getD i Cl.none)) :
 Calls Tryz.prog 134 #[v1, v2] w fun e w' => e = .returned (.bool true) ∧ Below w.heap.size w w' := by
 obtain ⟨ao1, n1, cap1, rfl, hn1, hr1⟩ := h1
 obtain ⟨ao2, n2, cap2, rfl, hn2, hr2⟩ := h2
 obtain rfl : n1 = n2 := by omega
 have hx : n1 ≤ 1048576 := by rw [← hn1]; exact hs.1
 have HL : Hid (xs.length = n1) := hn1
 have HS : Hid (∀ i, i < xs.length → SmC (xs.getD i Cl.none)) := hs.2
 have HR1 : Hid (0 < n1 → ∃ b off, ao1 = some ⟨b, off, none⟩ ∧ 0 ≤ b ∧ b < w.heap.size ∧ ∀ i, i < n1 → ∃ cs : List Value, cs.length = 3 ∧ ClN 0 w cs (xs.getD i Cl.none) ∧ ∀ j, j < 3 → w.cell? ⟨b, off + i * 3 + j, none⟩ = cs[j]?) := hr1
 have HR2 : Hid (0 < n1 → ∃ b off, ao2 = some ⟨b, off, none⟩ ∧ 0 ≤ b ∧ b < w.heap.size ∧ ∀ i, i < n1 → ∃ cs : List Value, cs.length = 3 ∧ ClN 0 w cs (xs.getD i Cl.none) ∧ ∀ j, j < 3 → w.cell? ⟨b, off + i * 3 + j, none⟩ = cs[j]?) := hr2
 clear hn1 hn2 hr1 hr2 hs
 go_enter Tryz.func134, Tryz.ntmps134
 go_wp2
 go_loopw [5] (fun i wr => ∃ k : Nat, k ≤ n1 ∧ i = .int .i64 k ∧ Below w.heap.size w wr) (fun i _ => n1 - (intOf i).toNat)
 case atStart => exact ⟨0, by omega, rfl, Below.refl _ _⟩
 case round =>
  obtain ⟨k, hk, rfl, hbel⟩ := hrel
  by_cases hkn : k < n1
  ·have hki : (k : Int) < (n1 : Int) := by omega
   obtain ⟨b, off, rfl, hlo, hb, hc⟩ := HR1 (by omega)
   obtain ⟨b', off', rfl, hlo', hb', hc'⟩ := HR2 (by omega)
   have hsk : SmC (xs.getD k Cl.none) := HS k (by rw [show xs.length = n1 from HL]; exact hkn)
   obtain ⟨cs, hcl, hRel, hcj⟩ := hc k hkn
   obtain ⟨cs', hcl', hRel', hcj'⟩ := hc' k hkn
   obtain ⟨t, ht⟩ : ∃ t, t = xs.getD k Cl.none := ⟨_, rfl⟩
   rw [← ht] at hRel hRel' hsk
   obtain ⟨u, hcs, hu⟩ := hRel
   obtain ⟨u', hcs', hu'⟩ := hRel'
   obtain ⟨ua, un, uc, rfl⟩ : ∃ a n c, u = .slice a n c := by obtain ⟨a, c, rfl⟩ := hu.1.shape; exact ⟨_, _, _, rfl⟩
   obtain ⟨va, vn, vc, rfl⟩ : ∃ a n c, u' = .slice a n c := by obtain ⟨a, c, rfl⟩ := hu'.1.shape; exact ⟨_, _, _, rfl⟩
   have HC : Hid (∀ W : World, Below w.heap.size w W → Calls Tryz.prog 154 #[clV t (.slice ua un uc), clV t (.slice va vn vc)] W fun r w' => r = .returned (.bool true) ∧ Below W.heap.size W w') := hideP (fun W hW => eqCell_same t (hu.1.below ndStable hW) (hu'.1.below ndStable hW) hsk)
   clear hu hu' hsk
   obtain ⟨sp, al, ns⟩ := t
   rw [show cs = _ from hcs] at hcj
   rw [show cs' = _ from hcs'] at hcj'
   dsimp only at hcj hcj'
   simp only [clV, rwV, tbV] at HC
   have BD : Below w.heap.size w wr.drew := Below.drew hbel
   have QA : Hid (∀ x, Below w.heap.size w x → x.cell? ⟨b, off + k * 3, none⟩ = some (.int .i64 sp) ∧ x.cell? ⟨b, off + k * 3 + 1, none⟩ = some (.int .i64 al) ∧ x.cell? ⟨b, off + k * 3 + 2, none⟩ = some (.slice ua un uc)) := hideP (fun x hx => ⟨(Below.cell hx (p := ⟨b, off + k * 3 + 0, none⟩) hb).trans (hcj 0 (by omega)), (Below.cell hx (p := ⟨b, off + k * 3 + 1, none⟩) hb).trans (hcj 1 (by omega)), (Below.cell hx (p := ⟨b, off + k * 3 + 2, none⟩) hb).trans (hcj 2 (by omega))⟩)
   have QB : Hid (∀ x, Below w.heap.size w x → x.cell? ⟨b', off' + k * 3, none⟩ = some (.int .i64 sp) ∧ x.cell? ⟨b', off' + k * 3 + 1, none⟩ = some (.int .i64 al) ∧ x.cell? ⟨b', off' + k * 3 + 2, none⟩ = some (.slice va vn vc)) := hideP (fun x hx => ⟨(Below.cell hx (p := ⟨b', off' + k * 3 + 0, none⟩) hb').trans (hcj' 0 (by omega)), (Below.cell hx (p := ⟨b', off' + k * 3 + 1, none⟩) hb').trans (hcj' 1 (by omega)), (Below.cell hx (p := ⟨b', off' + k * 3 + 2, none⟩) hb').trans (hcj' 2 (by omega))⟩)
   have HB : Hid (Below w.heap.size w wr) := hbel
   have HBD : Hid (Below w.heap.size w wr.drew) := BD
   clear hc hc' hcl hcl' hcj hcj' hbel ht BD hcs hcs'
   go_wp2_with fail
   go_region_held3 (fun x => (x.cell? ⟨b, off + k * 3, none⟩ = some (.int .i64 sp) ∧ x.cell? ⟨b, off + k * 3 + 1, none⟩ = some (.int .i64 al) ∧ x.cell? ⟨b, off + k * 3 + 2, none⟩ = some (.slice ua un uc)) ∧ (x.cell? ⟨b', off' + k * 3, none⟩ = some (.int .i64 sp) ∧ x.cell? ⟨b', off' + k * 3 + 1, none⟩ = some (.int .i64 al) ∧ x.cell? ⟨b', off' + k * 3 + 2, none⟩ = some (.slice va vn vc))) (first | exact ⟨QA.out _ HBD.out, QB.out _ HBD.out⟩ | exact ⟨QA.out _ ‹Hid (Below w.heap.size w _)›, QB.out _ ‹Hid (Below w.heap.size w _)›⟩) ((go_at_call 154; refine (HC.out _ HBD.out).mono ?_; rintro e w2 ⟨rfl, hb1⟩; have hb2 : Hid (Below w.heap.size w w2) := below_more HBD.out hb1 HBD.out.size; clear hb1))
   all_goals
    go_wp2
    go_roundw
    case rel => exact ⟨k + 1, by omega, by go_num, ‹Hid (Below w.heap.size w w2)›⟩
    case measure => simp [intOf]; omega
  ·have hki : ¬ (k : Int) < (n1 : Int) := by omega
   have HB : Hid (Below w.heap.size w wr) := hbel
   clear hbel
   go_wp2
   go_ret
   exact ⟨rfl, HB⟩
set_option maxHeartbeats 2000000 in
theorem eqRow_same (x : Rw) {v v' : Value} {w : World} (h : CRowN 0 w v x.cs) (h' : CRowN 0 w v' x.cs) (hs : SmW x) :
 Calls Tryz.prog 107 #[rwV x v, rwV x v'] w fun e w' => e = .returned (.bool true) ∧ Below w.heap.size w w' := by
 obtain ⟨ua, un, uc, rfl⟩ : ∃ a n c, v = .slice a n c := by obtain ⟨a, c, rfl⟩ := h.shape; exact ⟨_, _, _, rfl⟩
 obtain ⟨va, vn, vc, rfl⟩ : ∃ a n c, v' = .slice a n c := by obtain ⟨a, c, rfl⟩ := h'.shape; exact ⟨_, _, _, rfl⟩
 have HC : Hid (∀ (W : World), Below w.heap.size w W → Calls Tryz.prog 134 #[.slice ua un uc, .slice va vn vc] W fun e w' => e = .returned (.bool true) ∧ Below W.heap.size W w') := hideP (fun W hW => eqCellS_same (h.below clNStable hW) (h'.below clNStable hW) hs)
 clear h h' hs
 obtain ⟨rcs, ru⟩ := x
 simp only [clV, rwV, tbV]
 go_enter Tryz.func107, Tryz.ntmps107
 go_wp2_with fail
 refine (HC.out _ (below2 _ _ _)).mono ?_
 rintro e w1 ⟨rfl, hb1⟩
 have hy1 : w.heap.size + 1 < w1.heap.size := by have := hb1.size; simp at this; omega
 have hx1 : w.heap.size < w1.heap.size := by omega
 have B1 : Hid (Below w.heap.size w w1) := hideP (below_more (below2 _ _ _) hb1 (by simp; omega))
 obtain ⟨hc1, hf1⟩ := bcell hb1
 simp only [World.size_alloc, World.size_setCell] at hc1 hf1
 clear hb1
 go_wp2
 go_ret
 exact ⟨rfl, B1⟩
set_option maxHeartbeats 4000000 in
theorem eqRowS_same {v1 v2 : Value} {xs : List Rw} {w : World} (h1 : RRowN 0 w v1 xs) (h2 : RRowN 0 w v2 xs) (hs : xs.length ≤ 1048576 ∧ ∀ i, i < xs.length → SmW (xs.getD i Rw.none)) :
 Calls Tryz.prog 67 #[v1, v2] w fun e w' => e = .returned (.bool true) ∧ Below w.heap.size w w' := by
 obtain ⟨ao1, n1, cap1, rfl, hn1, hr1⟩ := h1
 obtain ⟨ao2, n2, cap2, rfl, hn2, hr2⟩ := h2
 obtain rfl : n1 = n2 := by omega
 have hx : n1 ≤ 1048576 := by rw [← hn1]; exact hs.1
 have HL : Hid (xs.length = n1) := hn1
 have HS : Hid (∀ i, i < xs.length → SmW (xs.getD i Rw.none)) := hs.2
 have HR1 : Hid (0 < n1 → ∃ b off, ao1 = some ⟨b, off, none⟩ ∧ 0 ≤ b ∧ b < w.heap.size ∧ ∀ i, i < n1 → ∃ cs : List Value, cs.length = 2 ∧ RwN 0 w cs (xs.getD i Rw.none) ∧ ∀ j, j < 2 → w.cell? ⟨b, off + i * 2 + j, none⟩ = cs[j]?) := hr1
 have HR2 : Hid (0 < n1 → ∃ b off, ao2 = some ⟨b, off, none⟩ ∧ 0 ≤ b ∧ b < w.heap.size ∧ ∀ i, i < n1 → ∃ cs : List Value, cs.length = 2 ∧ RwN 0 w cs (xs.getD i Rw.none) ∧ ∀ j, j < 2 → w.cell? ⟨b, off + i * 2 + j, none⟩ = cs[j]?) := hr2
 clear hn1 hn2 hr1 hr2 hs
 go_enter Tryz.func67, Tryz.ntmps67
 go_wp2
 go_loopw [5] (fun i wr => ∃ k : Nat, k ≤ n1 ∧ i = .int .i64 k ∧ Below w.heap.size w wr) (fun i _ => n1 - (intOf i).toNat)
 case atStart => exact ⟨0, by omega, rfl, Below.refl _ _⟩
 case round =>
  obtain ⟨k, hk, rfl, hbel⟩ := hrel
  by_cases hkn : k < n1
  ·have hki : (k : Int) < (n1 : Int) := by omega
   obtain ⟨b, off, rfl, hlo, hb, hc⟩ := HR1 (by omega)
   obtain ⟨b', off', rfl, hlo', hb', hc'⟩ := HR2 (by omega)
   have hsk : SmW (xs.getD k Rw.none) := HS k (by rw [show xs.length = n1 from HL]; exact hkn)
   obtain ⟨cs, hcl, hRel, hcj⟩ := hc k hkn
   obtain ⟨cs', hcl', hRel', hcj'⟩ := hc' k hkn
   obtain ⟨t, ht⟩ : ∃ t, t = xs.getD k Rw.none := ⟨_, rfl⟩
   rw [← ht] at hRel hRel' hsk
   obtain ⟨u, hcs, hu⟩ := hRel
   obtain ⟨u', hcs', hu'⟩ := hRel'
   obtain ⟨ua, un, uc, rfl⟩ : ∃ a n c, u = .slice a n c := by obtain ⟨a, c, rfl⟩ := hu.shape; exact ⟨_, _, _, rfl⟩
   obtain ⟨va, vn, vc, rfl⟩ : ∃ a n c, u' = .slice a n c := by obtain ⟨a, c, rfl⟩ := hu'.shape; exact ⟨_, _, _, rfl⟩
   have HC : Hid (∀ W : World, Below w.heap.size w W → Calls Tryz.prog 107 #[rwV t (.slice ua un uc), rwV t (.slice va vn vc)] W fun r w' => r = .returned (.bool true) ∧ Below W.heap.size W w') := hideP (fun W hW => eqRow_same t (hu.below clNStable hW) (hu'.below clNStable hW) hsk)
   clear hu hu' hsk
   obtain ⟨rcs, ru⟩ := t
   rw [show cs = _ from hcs] at hcj
   rw [show cs' = _ from hcs'] at hcj'
   dsimp only at hcj hcj'
   simp only [clV, rwV, tbV] at HC
   have BD : Below w.heap.size w wr.drew := Below.drew hbel
   have QA : Hid (∀ x, Below w.heap.size w x → x.cell? ⟨b, off + k * 2, none⟩ = some (.slice ua un uc) ∧ x.cell? ⟨b, off + k * 2 + 1, none⟩ = some (.int .i64 ru)) := hideP (fun x hx => ⟨(Below.cell hx (p := ⟨b, off + k * 2 + 0, none⟩) hb).trans (hcj 0 (by omega)), (Below.cell hx (p := ⟨b, off + k * 2 + 1, none⟩) hb).trans (hcj 1 (by omega))⟩)
   have QB : Hid (∀ x, Below w.heap.size w x → x.cell? ⟨b', off' + k * 2, none⟩ = some (.slice va vn vc) ∧ x.cell? ⟨b', off' + k * 2 + 1, none⟩ = some (.int .i64 ru)) := hideP (fun x hx => ⟨(Below.cell hx (p := ⟨b', off' + k * 2 + 0, none⟩) hb').trans (hcj' 0 (by omega)), (Below.cell hx (p := ⟨b', off' + k * 2 + 1, none⟩) hb').trans (hcj' 1 (by omega))⟩)
   have HB : Hid (Below w.heap.size w wr) := hbel
   have HBD : Hid (Below w.heap.size w wr.drew) := BD
   clear hc hc' hcl hcl' hcj hcj' hbel ht BD hcs hcs'
   go_wp2_with fail
   go_region_held3 (fun x => (x.cell? ⟨b, off + k * 2, none⟩ = some (.slice ua un uc) ∧ x.cell? ⟨b, off + k * 2 + 1, none⟩ = some (.int .i64 ru)) ∧ (x.cell? ⟨b', off' + k * 2, none⟩ = some (.slice va vn vc) ∧ x.cell? ⟨b', off' + k * 2 + 1, none⟩ = some (.int .i64 ru))) (first | exact ⟨QA.out _ HBD.out, QB.out _ HBD.out⟩ | exact ⟨QA.out _ ‹Hid (Below w.heap.size w _)›, QB.out _ ‹Hid (Below w.heap.size w _)›⟩) ((go_at_call 107; refine (HC.out _ HBD.out).mono ?_; rintro e w2 ⟨rfl, hb1⟩; have hb2 : Hid (Below w.heap.size w w2) := below_more HBD.out hb1 HBD.out.size; clear hb1))
   all_goals
    go_wp2
    go_roundw
    case rel => exact ⟨k + 1, by omega, by go_num, ‹Hid (Below w.heap.size w w2)›⟩
    case measure => simp [intOf]; omega
  ·have hki : ¬ (k : Int) < (n1 : Int) := by omega
   have HB : Hid (Below w.heap.size w wr) := hbel
   clear hbel
   go_wp2
   go_ret
   exact ⟨rfl, HB⟩
set_option maxHeartbeats 2000000 in
theorem eqTable_same (x : Tb) {v v' : Value} {w : World} (h : RRowN 0 w v x.rs) (h' : RRowN 0 w v' x.rs) (hs : SmT x) :
 Calls Tryz.prog 29 #[tbV x v, tbV x v'] w fun e w' => e = .returned (.bool true) ∧ Below w.heap.size w w' := by
 obtain ⟨ua, un, uc, rfl⟩ : ∃ a n c, v = .slice a n c := by obtain ⟨a, c, rfl⟩ := h.shape; exact ⟨_, _, _, rfl⟩
 obtain ⟨va, vn, vc, rfl⟩ : ∃ a n c, v' = .slice a n c := by obtain ⟨a, c, rfl⟩ := h'.shape; exact ⟨_, _, _, rfl⟩
 have HC : Hid (∀ (W : World), Below w.heap.size w W → Calls Tryz.prog 67 #[.slice ua un uc, .slice va vn vc] W fun e w' => e = .returned (.bool true) ∧ Below W.heap.size W w') := hideP (fun W hW => eqRowS_same (h.below rwNStable hW) (h'.below rwNStable hW) hs)
 clear h h' hs
 obtain ⟨co, gs, gp, gpo, gm, gmo, rs⟩ := x
 simp only [clV, rwV, tbV]
 go_enter Tryz.func29, Tryz.ntmps29
 go_wp2_with fail
 refine (eqGlue_same _ _ _ _ _ _).mono ?_
 rintro e w0 ⟨rfl, hb0⟩
 have hy0 : w.heap.size + 1 < w0.heap.size := by have := hb0.size; simp at this; omega
 have hx0 : w.heap.size < w0.heap.size := by omega
 have B0 : Hid (Below w.heap.size w w0) := hideP (below_more (below2 _ _ _) hb0 (by simp; omega))
 obtain ⟨hc0, hf0⟩ := bcell hb0
 simp only [World.size_alloc, World.size_setCell] at hc0 hf0
 clear hb0
 go_wp2_with fail
 refine (HC.out _ B0.out).mono ?_
 rintro e w1 ⟨rfl, hb1⟩
 have hy1 : w.heap.size + 1 < w1.heap.size := by have := hb1.size; omega
 have hx1 : w.heap.size < w1.heap.size := by omega
 have B1 : Hid (Below w.heap.size w w1) := hideP (below_more B0.out hb1 B0.out.size)
 obtain ⟨hc1, hf1⟩ := bcell hb1
 clear hc0 hf0 hy0 hx0
 clear hb1
 go_wp2
 go_ret
 exact ⟨rfl, B1⟩
theorem intsAtR {w : World} {X m : Nat} {zs : List Int} (h : w.ownsRow 0 2 1 (.slice (some ⟨X, 0, none⟩) m m) m (zs.map (Value.int .i64))) (hm : zs.length = m) : IntsAt w X m (fun i => zs.getD i 0) := by
 rcases h.2 with ⟨e, _⟩ | ⟨g, cap, cur, e, _, hg, _, _, hsz, ht⟩
 ·simp at e
 ·simp at e
  obtain ⟨rfl, rfl⟩ := e
  refine ⟨cur, hg, by omega, fun i hi => ?_⟩
  have hl : cur.toList.take (m * 1) = cur.toList := List.take_of_length_le (by simp; omega)
  rw [hl] at ht
  rw [← Array.getElem?_toList, ht, List.getElem?_map, List.getElem?_eq_getElem (by omega)]
  simp [List.getD, List.getElem?_eq_getElem (show i < zs.length by omega)]
theorem srR_len (x : Tb) (row : Int) (zs : List Int) : (srR x row zs).length ≤ 20000 := by
 unfold srR
 split
 ·unfold rowR
  split
  ·exact hpR_le
  ·split
   ·exact hpR_le
   ·simp
 ·simp
set_option maxRecDepth 20000 in
set_option maxHeartbeats 16000000 in
theorem lawSetRow_any (x : Tb) (row : Int) {v wv : Value} {zs : List Int} {w : World} (h : RRow 0 w v x.rs) (hf : FnT x) (hwr : Shr.Row w wv zs) (hzl : zs.length ≤ 9223372036854775807) :
 Calls Tryz.prog 6 #[tbV x v, .int .i64 row, wv] w fun e w' => e = .returned (.bool true) ∧ Below w.heap.size w w' := by
 obtain ⟨va, vn, vc, rfl⟩ : ∃ a n c, v = .slice a n c := by obtain ⟨a, c, rfl⟩ := h.shape; exact ⟨_, _, _, rfl⟩
 obtain ⟨m, hm⟩ : ∃ m, m = zs.length := ⟨_, rfl⟩
 obtain ⟨wa, wc, rfl⟩ : ∃ a c, wv = .slice a m c := by obtain ⟨a, n, c, rfl, h1, _⟩ := hwr; exact ⟨a, c, by rw [hm, h1]⟩
 rw [← hm] at hzl
 obtain ⟨R, hR⟩ : ∃ R, R = srR x row zs := ⟨_, rfl⟩
 have hRl : R.length ≤ 20000 := by rw [hR]; exact srR_len x row zs
 obtain ⟨n, hn⟩ : ∃ n, n = R.length := ⟨_, rfl⟩
 obtain ⟨s, hs⟩ : ∃ s, s = 1 + 15 * n := ⟨_, rfl⟩
 obtain ⟨S1, hS1⟩ : ∃ S1 : Nat → World → Option Addr → Nat → Prop, S1 = fun B W a c => W.ownsRow B 36 15 (.slice a n c) n (flatN R) := ⟨_, rfl⟩
 obtain ⟨S2, hS2⟩ : ∃ S2 : Nat → World → Option Addr → Nat → Prop, S2 = fun B W a c => W.ownsRow B 36 15 (.slice a n c) n (flatN (marksN 1 n)) := ⟨_, rfl⟩
 obtain ⟨IC, hIC⟩ : ∃ IC : World → Nat → Prop, IC = fun W X => W.ownsRow 0 2 1 (.slice (some ⟨X, 0, none⟩) m m) m (zs.map (Value.int .i64)) := ⟨_, rfl⟩
 have CZ : Hid (∀ W, Below w.heap.size w W → Calls Tryz.prog 23 #[tbV x (.slice va vn vc), .int .i64 1048576] W fun r w' => (∃ m : Int, r = .returned (.int .i64 m) ∧ (0 ≤ m → 15 * m + mkK x.rs x.rs.length ≤ 15 * 1048576 ∧ SmT x)) ∧ Below W.heap.size W w') := hideP (fun W hW => szTable_w x (h.below rwStable hW) hf (by omega) (by omega))
 have CT : Hid (SmT x → ∀ W, Below w.heap.size w W → Calls Tryz.prog 25 #[tbV x (.slice va vn vc)] W fun e w' => ∃ a n c, e = .returned (tbV x (.slice a n c)) ∧ ROw W.heap.size w' (.slice a n c) x.rs ∧ Below W.heap.size W w') := hideP (fun hs W hW => (toTable_o x (h.below rwStable hW) hs).mono (fun e w' ⟨v', h1, h2, h3⟩ => by
  obtain ⟨a, c, rfl⟩ := h2.shape
  exact ⟨a, _, c, h1, h2, h3⟩))
 have CTI : Hid (m ≤ 1048576 → ∀ W, Below w.heap.size w W → Calls Tryz.prog 26 #[.slice wa m wc] W fun e w' => ∃ X, e = .returned (.slice (some ⟨X, 0, none⟩) m m) ∧ IC w' X ∧ W.heap.size ≤ X ∧ X < w'.heap.size ∧ Below W.heap.size W w') := hideP (fun hm1 W hW => (Shr.toInts_any (hwr.below hW) (by omega)).mono (fun e w' ⟨h1, h2, h3, h4, h5⟩ => by
  rw [← hm] at h1 h2
  exact ⟨_, h1, by rw [hIC]; exact ownG_base h2 (Nat.zero_le _), Nat.le_refl _, h5, h4⟩))
 have CS : Hid (SmT x → m ≤ 1048576 → ∀ u W X, RRowN 0 W u x.rs → IC W X → Calls Tryz.prog 24 #[tbV x u, .int .i64 row, .slice (some ⟨X, 0, none⟩) m m] W fun e w' => ∃ a c, e = .returned (.slice a n c) ∧ S1 W.heap.size w' a c ∧ Below W.heap.size W w') := hideP (fun hs hm1 u W X hu hi => by
  rw [hIC] at hi
  refine (specSetRow_any x row hu hs hm.symm hm1 (hi.lt X rfl).2 (intsAtR hi hm.symm)).mono (fun e w' ⟨a, c, h1, h2, h3⟩ => ?_)
  rw [← hR, ← hn] at h1 h2
  exact ⟨a, c, h1, by rw [hS1]; exact h2, h3⟩)
 have CI : Hid (SmT x → m ≤ 1048576 → ∀ u W X, RRowN 0 W u x.rs → IC W X → Calls Tryz.prog 27 #[tbV x u, .int .i64 row, .slice (some ⟨X, 0, none⟩) m m] W fun e w' => ∃ a c, e = .returned (.slice a n c) ∧ S1 W.heap.size w' a c ∧ Below W.heap.size W w') := hideP (fun hs hm1 u W X hu hi => by
  rw [hIC] at hi
  refine (implSetRow_any x row hu hs (Shr.Row.own hi hm.symm (hi.lt X rfl).2) (by omega)).mono (fun e w' ⟨a, c, h1, h2, h3⟩ => ?_)
  rw [← hR, ← hn] at h1 h2
  exact ⟨a, c, h1, by rw [hS1]; exact h2, h3⟩)
 have CE : Hid (SmT x → ∀ u u' W, RRowN 0 W u x.rs → RRowN 0 W u' x.rs → Calls Tryz.prog 29 #[tbV x u, tbV x u'] W fun e w' => e = .returned (.bool true) ∧ Below W.heap.size W w') := hideP (fun hs u u' W h1 h2 => eqTable_same x h1 h2 hs)
 have CEI : Hid (m ≤ 1048576 → ∀ X Y W, IC W X → IC W Y → Calls Tryz.prog 30 #[.slice (some ⟨X, 0, none⟩) m m, .slice (some ⟨Y, 0, none⟩) m m] W fun e w' => e = .returned (.bool true) ∧ Below W.heap.size W w') := hideP (fun hm1 X Y W h1 h2 => by
  rw [hIC] at h1 h2
  have h3 := Shr.eqInts_any (Shr.Row.own h1 hm.symm (h1.lt X rfl).2) (Shr.Row.own h2 hm.symm (h2.lt Y rfl).2) (by omega)
  rw [decide_eq_true rfl] at h3
  exact h3)
 have CM : Hid (SmT x → 1 + mkK x.rs x.rs.length ≤ 16777216 → ∀ P u W, RShP P W u x.rs → Calls Tryz.prog 31 #[tbV x u, .int .i64 1] W fun e w' => e = .returned (.int .i64 ((1 + mkK x.rs x.rs.length : Nat) : Int)) ∧ MkP P W w') := hideP (fun hs hk P u W hu => markTable_P (k := 1) x hu hs (by omega) hk)
 have CMX : Hid (m ≤ 1048576 → ∀ X (k : Nat) W, IC W X → k ≤ 16777216 → Calls Tryz.prog 32 #[.slice (some ⟨X, 0, none⟩) m m, .int .i64 (k : Int)] W fun e w' => e = .returned (.int .i64 ((k : Int) + (m : Int))) ∧ Frs (fun b => b = X) W w') := hideP (fun hm1 X k W h1 hk => by
  rw [hIC] at h1
  refine (Shr.markInts_any (k := (k : Int)) h1 hm1 (by omega) (by omega)).mono (fun e w' ⟨q1, _, q3, q4, q5⟩ => ⟨q1, q3.os, q3.tape, q3.output, q3.size, fun b _ hn => q5 b hn⟩))
 have CQ : Hid (∀ B a c B' a' c' (W : World), S1 B W a c → S1 B' W a' c' → Calls Tryz.prog 28 #[.slice a n c, .slice a' n c'] W fun e w' => e = .returned (.bool true) ∧ Below W.heap.size W w') := hideP (fun B a c B' a' c' W h1 h2 => by
  rw [hS1] at h1 h2
  exact eqNodeS_same (SRow.mono ndStable (own_NRow h1 hn.symm) (Nat.zero_le _)) (SRow.mono ndStable (own_NRow h2 hn.symm) (Nat.zero_le _)) (by omega))
 have CMI : Hid (∀ B a c (W : World), S1 B W a c → B ≤ W.heap.size → Calls Tryz.prog 33 #[.slice a n c, .int .i64 1] W fun e w' => e = .returned (.int .i64 (s : Int)) ∧ S2 B w' a c ∧ Below B W w') := hideP (fun B a c W h1 hB => by
  rw [hS1] at h1
  refine (mark_own (k := 1) h1 (by omega) (by omega) (by omega)).mono ?_
  rintro e w' ⟨e1, e2, e3, _⟩
  rw [hS2, hs]
  rw [Nat.min_eq_left hB] at e3
  exact ⟨e1, e2, e3⟩)
 have CH : Hid (∀ B a c (W : World), S2 B W a c → Calls Tryz.prog 34 #[.slice a n c, .int .i64 1] W fun e w' => e = .returned (.int .i64 (s : Int)) ∧ Below W.heap.size W w') := hideP (fun B a c W h1 => by
  rw [hS2] at h1
  rw [hs]
  exact heldNodeS_any (k := 1) (SRow.mono ndStable (own_NRow h1 (marksN_len 1 n)) (Nat.zero_le _)) (by omega) (by omega) (by omega))
 have SB : Hid (∀ B a c (W W' : World), S1 B W a c → Below W.heap.size W W' → S1 B W' a c) := hideP (fun B a c W W' h1 hb => by rw [hS1] at h1 ⊢; exact ownG_below h1 hb)
 have SB2 : Hid (∀ B a c (W W' : World), S2 B W a c → Below W.heap.size W W' → S2 B W' a c) := hideP (fun B a c W W' h1 hb => by rw [hS2] at h1 ⊢; exact ownG_below h1 hb)
 have SX : Hid (∀ B a c (W : World), S1 B W a c → ∀ b, (Value.slice a n c).ownBlock = some b → B ≤ b ∧ b < W.heap.size) := hideP (fun B a c W h1 b hb => by rw [hS1] at h1; exact h1.lt b hb)
 have SF : Hid (∀ P B a c (W W' : World), S1 B W a c → Frs P W W' → (∀ b, (Value.slice a n c).ownBlock = some b → ¬ P b) → S1 B W' a c) := hideP (fun P B a c W W' h1 hb hP => by rw [hS1] at h1 ⊢; exact ownG_same h1 (fun b hbb => hb.block b (h1.lt b hbb).2 (hP b hbb)))
 have SI : Hid (∀ B a c (W : World) X, S1 B W a c → IC W X → ∀ b, (Value.slice a n c).ownBlock = some b → b ≠ X) := hideP (fun B a c W X h1 h2 b hb e => by
  rw [hS1] at h1
  rw [hIC] at h2
  subst e
  rcases ownG_ne h1 h2 (by decide) with q | q
  ·rw [q] at hb; cases hb
  ·exact q hb)
 have IB : Hid (∀ W W' X, IC W X → Below W.heap.size W W' → IC W' X) := hideP (fun W W' X h1 hb => by rw [hIC] at h1 ⊢; exact ownG_below h1 hb)
 have IF : Hid (∀ P W W' X, IC W X → Frs P W W' → ¬ P X → IC W' X) := hideP (fun P W W' X h1 hb hP => by rw [hIC] at h1 ⊢; exact ownG_same h1 (fun b hbb => hb.block b (h1.lt b hbb).2 (by simp only [Value.ownBlock, Option.some.injEq] at hbb; subst hbb; exact hP)))
 have IX : Hid (∀ (W : World) X, IC W X → ∀ cur, W.heap[w.heap.size]? = some (.cells cur 64 (0, 0)) → w.heap.size ≠ X) := hideP (fun W X h1 cur hc e => by
  rw [hIC] at h1
  exact own_neB hc h1 (by decide) (by rw [e]; rfl))
 have hng : ¬ (s : Int) < 0 := by omega
 have hn2 : n ≤ 20000 := by rw [hn]; exact hRl
 obtain ⟨SM, hSM⟩ : ∃ SM : Prop, SM = SmT x := ⟨_, rfl⟩
 rw [← hSM] at CZ CT CS CI CE CM
 obtain ⟨RN, hRN⟩ : ∃ RN : World → Value → Prop, RN = fun W u => RRowN 0 W u x.rs := ⟨_, rfl⟩
 obtain ⟨RO, hRO⟩ : ∃ RO : Nat → World → Value → Prop, RO = fun lo W u => ROw lo W u x.rs := ⟨_, rfl⟩
 obtain ⟨RP, hRP⟩ : ∃ RP : (Nat → Prop) → World → Value → Prop, RP = fun P W u => RShP P W u x.rs := ⟨_, rfl⟩
 obtain ⟨mk, hmk⟩ : ∃ mk, mk = mkK x.rs x.rs.length := ⟨_, rfl⟩
 rw [← hmk] at CZ CM
 have CT2 : Hid (SM → ∀ W, Below w.heap.size w W → Calls Tryz.prog 25 #[tbV x (.slice va vn vc)] W fun e w' => ∃ a n c, e = .returned (tbV x (.slice a n c)) ∧ RO W.heap.size w' (.slice a n c) ∧ Below W.heap.size W w') := by rw [hRO]; exact CT
 have CS2 : Hid (SM → m ≤ 1048576 → ∀ u W X, RN W u → IC W X → Calls Tryz.prog 24 #[tbV x u, .int .i64 row, .slice (some ⟨X, 0, none⟩) m m] W fun e w' => ∃ a c, e = .returned (.slice a n c) ∧ S1 W.heap.size w' a c ∧ Below W.heap.size W w') := by rw [hRN]; exact CS
 have CI2 : Hid (SM → m ≤ 1048576 → ∀ u W X, RN W u → IC W X → Calls Tryz.prog 27 #[tbV x u, .int .i64 row, .slice (some ⟨X, 0, none⟩) m m] W fun e w' => ∃ a c, e = .returned (.slice a n c) ∧ S1 W.heap.size w' a c ∧ Below W.heap.size W w') := by rw [hRN]; exact CI
 have CE2 : Hid (SM → ∀ u u' W, RN W u → RN W u' → Calls Tryz.prog 29 #[tbV x u, tbV x u'] W fun e w' => e = .returned (.bool true) ∧ Below W.heap.size W w') := by rw [hRN]; exact CE
 have CM2 : Hid (SM → 1 + mk ≤ 16777216 → ∀ P u W, RP P W u → Calls Tryz.prog 31 #[tbV x u, .int .i64 1] W fun e w' => e = .returned (.int .i64 ((1 + mk : Nat) : Int)) ∧ MkP P W w') := by rw [hRP]; exact CM
 have RB : Hid (∀ lo u W W', RO lo W u → Below W.heap.size W W' → RO lo W' u) := hideP (by rw [hRO]; exact fun lo u W W' h hb => ROw.abv h (Abv.below hb))
 have RR : Hid (∀ lo u W, RO lo W u → RN W u) := hideP (by rw [hRO, hRN]; exact fun lo u W h => (ROw.row h).mono rwNStable (Nat.zero_le _))
 have RT : Hid (∀ P lo u W, (∀ g, lo ≤ g → g < W.heap.size → P g) → RO lo W u → RP P W u) := hideP (by rw [hRO, hRP]; exact fun P lo u W hP h => ROw.shP hP h)
 have RPB : Hid (∀ P u W W', RP P W u → Below W.heap.size W W' → RP P W' u) := hideP (by rw [hRP]; exact fun P u W W' h hb => RShP.mk h (MkP.below hb))
 clear h hf hR CT CS CI CE CM hSM hRN hRO hRP hRl hn hmk hS1 hS2 hs hIC hm hwr
 obtain ⟨co, gs, gp, gpo, gm, gmo, rs⟩ := x
 simp only [tbV] at CZ CT2 CS2 CI2 CE2 CM2 ⊢
 by_cases hbig : (1048576 : Int) < (m : Int)
 ·go_enter Tryz.func6, Tryz.ntmps6
  go_wp2
  go_ret
  exact ⟨rfl, below1 _ _⟩
 have hm1 : m ≤ 1048576 := by omega
 have HM1 := hideP hm1
 clear hzl
 go_enter Tryz.func6, Tryz.ntmps6
 go_wp2_with fail
 refine (CZ.out _ (below1 _ _)).mono ?_
 rintro e w1 ⟨⟨mz, rfl, hmz⟩, hb1⟩
 have B1 : Hid (Below w.heap.size w w1) := hideP (below_more (below1 _ _) hb1 (by simp))
 have P1 : Hid (w1.heap[w.heap.size]? = some (.cells #[.int .i64 co, .int .i64 gs, .int .i64 gp, .int .i64 gpo, .int .i64 gm, .int .i64 gmo, .slice va vn vc] 64 (0, 0))) := hideP ((hb1.block _ (by simp)).trans (heap_alloc_new w _))
 have HM := hideP hmz
 clear hb1 hmz
 by_cases hneg : mz < 0
 ·go_wp2
  go_ret
  exact ⟨rfl, B1.out⟩
 ·have HS : Hid SM := hideP (HM.out (by omega)).2
  have HMK : Hid (1 + mk ≤ 16777216) := hideP (by have := (HM.out (by omega)).1; omega)
  clear HM CZ
  have QX : Hid (∀ X : World, X.heap[w.heap.size]? = some (.cells #[.int .i64 co, .int .i64 gs, .int .i64 gp, .int .i64 gpo, .int .i64 gm, .int .i64 gmo, .slice va vn vc] 64 (0, 0)) → w.heap.size < X.heap.size ∧ X.cell? ⟨w.heap.size, 0, none⟩ = some (.int .i64 co) ∧ X.cell? ⟨w.heap.size, 1, none⟩ = some (.int .i64 gs) ∧ X.cell? ⟨w.heap.size, 2, none⟩ = some (.int .i64 gp) ∧ X.cell? ⟨w.heap.size, 3, none⟩ = some (.int .i64 gpo) ∧ X.cell? ⟨w.heap.size, 4, none⟩ = some (.int .i64 gm) ∧ X.cell? ⟨w.heap.size, 5, none⟩ = some (.int .i64 gmo) ∧ X.cell? ⟨w.heap.size, 6, none⟩ = some (.slice va vn vc)) := hideP (fun X hX => ⟨(Array.getElem?_eq_some_iff.1 hX).1, cell_of_row _ _ 0 _ 64 _ hX, cell_of_row _ _ 1 _ 64 _ hX, cell_of_row _ _ 2 _ 64 _ hX, cell_of_row _ _ 3 _ 64 _ hX, cell_of_row _ _ 4 _ 64 _ hX, cell_of_row _ _ 5 _ 64 _ hX, cell_of_row _ _ 6 _ 64 _ hX⟩)
  obtain ⟨l1, c0, c1, c2, c3, c4, c5, c6⟩ := QX.out _ P1.out
  go_wp2_with fail
  refine (CT2.out HS.out _ B1.out).mono ?_
  rintro e w2 ⟨a2, n2, d2, rfl, hr2, hb2⟩
  have B2 : Hid (Below w.heap.size w w2) := hideP (below_more B1.out hb2 B1.out.size)
  have P2 := hideP ((hb2.block _ (Array.getElem?_eq_some_iff.1 P1.out).1).trans P1.out)
  have R2 := hideP hr2
  clear hb2 hr2 l1 c0 c1 c2 c3 c4 c5 c6 P1
  go_wp2_with fail
  refine (CTI.out HM1.out _ B2.out).mono ?_
  rintro e y2 ⟨X1, rfl, hx1, _, _, hb2⟩
  have B2b : Hid (Below w.heap.size w y2) := hideP (below_more B2.out hb2 B2.out.size)
  have P2b := hideP ((hb2.block _ (Array.getElem?_eq_some_iff.1 P2.out).1).trans P2.out)
  have R2b := hideP (RR.out _ _ _ (RB.out _ _ _ _ R2.out hb2))
  have X2 := hideP hx1
  clear hb2 hx1 P2 R2 B2
  go_wp2_with fail
  refine (CS2.out HS.out HM1.out _ _ _ R2b.out X2.out).mono ?_
  rintro e w3 ⟨a0, d0, rfl, hi3, hb3⟩
  have B3 : Hid (Below w.heap.size w w3) := hideP (below_more B2b.out hb3 B2b.out.size)
  have P3 := hideP ((hb3.block _ (Array.getElem?_eq_some_iff.1 P2b.out).1).trans P2b.out)
  obtain ⟨b0, hb0⟩ : ∃ b0, b0 = y2.heap.size := ⟨_, rfl⟩
  rw [← hb0] at hi3
  have I3 := hideP hi3
  clear hb3 R2b P2b hi3 hb0 X2 B2b
  obtain ⟨l1, c0, c1, c2, c3, c4, c5, c6⟩ := QX.out _ P3.out
  have hwl : w.heap.size < w3.heap.size := l1
  go_wp2_with fail
  refine (CT2.out HS.out _ B3.out).mono ?_
  rintro e w4 ⟨a4, n4, d4, rfl, hr4, hb4⟩
  have B4 : Hid (Below w.heap.size w w4) := hideP (below_more B3.out hb4 B3.out.size)
  have P4 := hideP ((hb4.block _ (Array.getElem?_eq_some_iff.1 P3.out).1).trans P3.out)
  have I4 := hideP (SB.out _ _ _ _ _ I3.out hb4)
  have R4 := hideP hr4
  obtain ⟨lo, hlo2⟩ : ∃ lo, lo = w3.heap.size := ⟨_, rfl⟩
  rw [← hlo2] at R4
  obtain ⟨hi, hhi⟩ : ∃ hi, hi = w4.heap.size := ⟨_, rfl⟩
  obtain ⟨PP, hPP⟩ : ∃ PP : Nat → Prop, PP = fun b => lo ≤ b ∧ b < hi := ⟨_, rfl⟩
  have RQ4 : Hid (RP PP w4 (.slice a4 n4 d4)) := hideP (RT.out PP lo _ _ (fun g h1 h2 => by rw [hPP]; exact ⟨by omega, by omega⟩) R4.out)
  have ILO : Hid (∀ b, (Value.slice a0 n d0).ownBlock = some b → ¬ PP b) := hideP (fun b hb => by rw [hPP]; have := (SX.out _ _ _ _ I3.out b hb).2; omega)
  have PLO : Hid (¬ PP w.heap.size) := hideP (by rw [hPP]; omega)
  have PHI : Hid (∀ b, hi ≤ b → ¬ PP b) := hideP (fun b hb => by rw [hPP]; omega)
  have PBE : Hid (∀ b, PP b → w.heap.size ≤ b) := hideP (fun b hb => by rw [hPP] at hb; omega)
  have hhl : hi ≤ w4.heap.size := by omega
  have hwlo : w.heap.size ≤ lo := by omega
  clear hb4 hr4 l1 c0 c1 c2 c3 c4 c5 c6 P3 I3 hlo2 hPP hwl RT B3 hhi
  go_wp2_with fail
  obtain ⟨W4, hW4⟩ : ∃ W4, W4 = w4.alloc (.cells #[.int .i64 co, .int .i64 gs, .int .i64 gp, .int .i64 gpo, .int .i64 gm, .int .i64 gmo, .slice a4 n4 d4] 44) := ⟨_, rfl⟩
  rw [← hW4]
  obtain ⟨p5, hp5⟩ : ∃ p5, p5 = w4.heap.size := ⟨_, rfl⟩
  rw [← hp5]
  have BW4 : Hid (Below w.heap.size w W4) := hideP (by rw [hW4]; exact B4.out.alloc B4.out.size _)
  have PW4 : Hid (W4.heap[w.heap.size]? = some (.cells #[.int .i64 co, .int .i64 gs, .int .i64 gp, .int .i64 gpo, .int .i64 gm, .int .i64 gmo, .slice va vn vc] 64 (0, 0))) := hideP (by rw [hW4]; exact (Below.heap_alloc _ _ _ (Array.getElem?_eq_some_iff.1 P4.out).1).trans P4.out)
  have XW4 : Hid (W4.heap[p5]? = some (.cells #[.int .i64 co, .int .i64 gs, .int .i64 gp, .int .i64 gpo, .int .i64 gm, .int .i64 gmo, .slice a4 n4 d4] 44 (0, 0))) := hideP (by rw [hW4, hp5]; exact heap_alloc_new w4 _)
  have RW4 : Hid (RO lo W4 (.slice a4 n4 d4)) := hideP (by rw [hW4]; exact RB.out _ _ _ _ R4.out (below1 _ _))
  have RQW4 : Hid (RP PP W4 (.slice a4 n4 d4)) := hideP (by rw [hW4]; exact RPB.out _ _ _ _ RQ4.out (below1 _ _))
  have IW4 : Hid (S1 b0 W4 a0 d0) := hideP (by rw [hW4]; exact SB.out _ _ _ _ _ I4.out (below1 _ _))
  have hhl4 : hi ≤ W4.heap.size := by rw [hW4]; simp; omega
  clear hW4 hp5 P4 R4 RQ4 B4 I4 hhl
  refine (CTI.out HM1.out _ BW4.out).mono ?_
  rintro e y4 ⟨X2, rfl, hx2, hxl, hxh, hb5⟩
  have BY4 : Hid (Below w.heap.size w y4) := hideP (below_more BW4.out hb5 BW4.out.size)
  have PY4 := hideP ((hb5.block _ (Array.getElem?_eq_some_iff.1 PW4.out).1).trans PW4.out)
  have XY4 := hideP ((hb5.block _ (Array.getElem?_eq_some_iff.1 XW4.out).1).trans XW4.out)
  have RY4 := hideP (RB.out _ _ _ _ RW4.out hb5)
  have RQY4 := hideP (RPB.out _ _ _ _ RQW4.out hb5)
  have IY4 := hideP (SB.out _ _ _ _ _ IW4.out hb5)
  have XC4 := hideP hx2
  have hXhi : hi ≤ X2 := Nat.le_trans hhl4 hxl
  have hXw : w.heap.size ≤ X2 := Nat.le_trans BW4.out.size hxl
  have hhy : hi ≤ y4.heap.size := by omega
  clear hb5 hx2 hxl hxh BW4 PW4 XW4 RW4 RQW4 IW4 hhl4
  have z0 : y4.cell? ⟨p5, 0, none⟩ = some (.int .i64 co) := cell_of_row _ _ 0 _ 44 _ XY4.out
  have z1 : y4.cell? ⟨p5, 1, none⟩ = some (.int .i64 gs) := cell_of_row _ _ 1 _ 44 _ XY4.out
  have z2 : y4.cell? ⟨p5, 2, none⟩ = some (.int .i64 gp) := cell_of_row _ _ 2 _ 44 _ XY4.out
  have z3 : y4.cell? ⟨p5, 3, none⟩ = some (.int .i64 gpo) := cell_of_row _ _ 3 _ 44 _ XY4.out
  have z4 : y4.cell? ⟨p5, 4, none⟩ = some (.int .i64 gm) := cell_of_row _ _ 4 _ 44 _ XY4.out
  have z5 : y4.cell? ⟨p5, 5, none⟩ = some (.int .i64 gmo) := cell_of_row _ _ 5 _ 44 _ XY4.out
  have z6 : y4.cell? ⟨p5, 6, none⟩ = some (.slice a4 n4 d4) := cell_of_row _ _ 6 _ 44 _ XY4.out
  have hp4 : p5 < y4.heap.size := (Array.getElem?_eq_some_iff.1 XY4.out).1
  go_wp2_with fail
  refine (CI2.out HS.out HM1.out _ _ _ (RR.out _ _ _ RY4.out) XC4.out).mono ?_
  rintro e w5 ⟨a6, d6, rfl, ho5, hb5⟩
  have B5 : Hid (Below w.heap.size w w5) := hideP (below_more BY4.out hb5 BY4.out.size)
  have P5 := hideP ((hb5.block _ (Array.getElem?_eq_some_iff.1 PY4.out).1).trans PY4.out)
  have X5 := hideP ((hb5.block _ (Array.getElem?_eq_some_iff.1 XY4.out).1).trans XY4.out)
  have R5 := hideP (RB.out _ _ _ _ RY4.out hb5)
  have RQ5 := hideP (RPB.out _ _ _ _ RQY4.out hb5)
  have I5 := hideP (SB.out _ _ _ _ _ IY4.out hb5)
  have XC5 := hideP (IB.out _ _ _ XC4.out hb5)
  have hg5 : y4.heap.size ≤ w5.heap.size := hb5.size
  have hs6 : w.heap.size < y4.heap.size := (Array.getElem?_eq_some_iff.1 PY4.out).1
  have ILT : Hid (∀ b, (Value.slice a0 n d0).ownBlock = some b → b < y4.heap.size) := hideP (fun b hb => (SX.out _ _ _ _ IY4.out b hb).2)
  have IBL : Hid (∀ W W', S1 b0 W a0 d0 → Below y4.heap.size W W' → S1 b0 W' a0 d0) := hideP (fun W W' h1 h2 => SF.out (fun b => y4.heap.size ≤ b) _ _ _ _ _ h1 ⟨h2.os, h2.tape, h2.output, h2.size, fun b _ hb => h2.block b (by omega)⟩ (fun b hb => by have := ILT.out b hb; omega))
  obtain ⟨b6, hb6e⟩ : ∃ b6, b6 = y4.heap.size := ⟨_, rfl⟩
  rw [← hb6e] at ho5 hg5 hs6 IBL hhy
  have O5 := hideP ho5
  clear hb5 BY4 PY4 XY4 RY4 RQY4 IY4 XC4 ho5 hb6e z0 z1 z2 z3 z4 z5 z6 hp4 ILT
  go_wp2_with fail
  refine (CQ.out _ _ _ _ _ _ _ O5.out I5.out).mono ?_
  rintro e w6 ⟨rfl, hb6⟩
  have B6 : Hid (Below w.heap.size w w6) := hideP (below_more B5.out hb6 B5.out.size)
  have P6 := hideP ((hb6.block _ (Array.getElem?_eq_some_iff.1 P5.out).1).trans P5.out)
  have X6 := hideP ((hb6.block _ (Array.getElem?_eq_some_iff.1 X5.out).1).trans X5.out)
  have R6 := hideP (RB.out _ _ _ _ R5.out hb6)
  have RQ6 := hideP (RPB.out _ _ _ _ RQ5.out hb6)
  have I6 := hideP (SB.out _ _ _ _ _ I5.out hb6)
  have O6 := hideP (SB.out _ _ _ _ _ O5.out hb6)
  have XC6 := hideP (IB.out _ _ _ XC5.out hb6)
  have hg6 : b6 ≤ w6.heap.size := Nat.le_trans hg5 hb6.size
  clear hb6 B5 P5 X5 R5 RQ5 I5 O5 XC5 hg5
  have Q : Hid (∀ x : World, Below w6.heap.size w6 x → (x.cell? ⟨w.heap.size, 0, none⟩ = some (.int .i64 co) ∧ x.cell? ⟨w.heap.size, 1, none⟩ = some (.int .i64 gs) ∧ x.cell? ⟨w.heap.size, 2, none⟩ = some (.int .i64 gp) ∧ x.cell? ⟨w.heap.size, 3, none⟩ = some (.int .i64 gpo) ∧ x.cell? ⟨w.heap.size, 4, none⟩ = some (.int .i64 gm) ∧ x.cell? ⟨w.heap.size, 5, none⟩ = some (.int .i64 gmo) ∧ x.cell? ⟨w.heap.size, 6, none⟩ = some (.slice va vn vc)) ∧ x.cell? ⟨p5, 0, none⟩ = some (.int .i64 co) ∧ x.cell? ⟨p5, 1, none⟩ = some (.int .i64 gs) ∧ x.cell? ⟨p5, 2, none⟩ = some (.int .i64 gp) ∧ x.cell? ⟨p5, 3, none⟩ = some (.int .i64 gpo) ∧ x.cell? ⟨p5, 4, none⟩ = some (.int .i64 gm) ∧ x.cell? ⟨p5, 5, none⟩ = some (.int .i64 gmo) ∧ x.cell? ⟨p5, 6, none⟩ = some (.slice a4 n4 d4)) := hideP (fun x hx => by
   have h1 := (hx.block _ (Array.getElem?_eq_some_iff.1 P6.out).1).trans P6.out
   have h2 := (hx.block _ (Array.getElem?_eq_some_iff.1 X6.out).1).trans X6.out
   exact ⟨(QX.out _ h1).2, cell_of_row _ _ 0 _ 44 _ h2, cell_of_row _ _ 1 _ 44 _ h2, cell_of_row _ _ 2 _ 44 _ h2, cell_of_row _ _ 3 _ 44 _ h2, cell_of_row _ _ 4 _ 44 _ h2, cell_of_row _ _ 5 _ 44 _ h2, cell_of_row _ _ 6 _ 44 _ h2⟩)
  have BD : Hid (Below w6.heap.size w6 w6.drew) := hideP ((Below.refl _ _).drew)
  go_wp2_with fail
  go_region_held3 (fun x => (x.cell? ⟨w.heap.size, 0, none⟩ = some (.int .i64 co) ∧ x.cell? ⟨w.heap.size, 1, none⟩ = some (.int .i64 gs) ∧ x.cell? ⟨w.heap.size, 2, none⟩ = some (.int .i64 gp) ∧ x.cell? ⟨w.heap.size, 3, none⟩ = some (.int .i64 gpo) ∧ x.cell? ⟨w.heap.size, 4, none⟩ = some (.int .i64 gm) ∧ x.cell? ⟨w.heap.size, 5, none⟩ = some (.int .i64 gmo) ∧ x.cell? ⟨w.heap.size, 6, none⟩ = some (.slice va vn vc)) ∧ x.cell? ⟨p5, 0, none⟩ = some (.int .i64 co) ∧ x.cell? ⟨p5, 1, none⟩ = some (.int .i64 gs) ∧ x.cell? ⟨p5, 2, none⟩ = some (.int .i64 gp) ∧ x.cell? ⟨p5, 3, none⟩ = some (.int .i64 gpo) ∧ x.cell? ⟨p5, 4, none⟩ = some (.int .i64 gm) ∧ x.cell? ⟨p5, 5, none⟩ = some (.int .i64 gmo) ∧ x.cell? ⟨p5, 6, none⟩ = some (.slice a4 n4 d4)) (first | exact Q.out _ BD.out | exact Q.out _ ‹Hid (Below w6.heap.size w6 _)›) (first | (go_at_call 25; refine (CT2.out HS.out _ (below_more B6.out BD.out B6.out.size)).mono ?_; rintro e w7 ⟨a7, n7, d7, rfl, hr7, hb7⟩; have B67 : Hid (Below w6.heap.size w6 w7) := hideP (below_more BD.out hb7 BD.out.size); have R7 := hideP (RR.out _ _ _ hr7); clear hb7 hr7) | (go_at_call 29; refine (CE2.out HS.out _ _ _ (RR.out _ _ _ (RB.out _ _ _ _ R6.out B67.out)) R7.out).mono ?_; rintro e w8 ⟨rfl, hb8⟩; have B8 : Hid (Below w6.heap.size w6 w8) := hideP (below_more B67.out hb8 B67.out.size); clear hb8))
  all_goals
   have B08 : Hid (Below w.heap.size w w8) := hideP (below_more B6.out B8.out B6.out.size)
   have P8 := hideP ((B8.out.block _ (Array.getElem?_eq_some_iff.1 P6.out).1).trans P6.out)
   have X8 := hideP ((B8.out.block _ (Array.getElem?_eq_some_iff.1 X6.out).1).trans X6.out)
   have RQ8 := hideP (RPB.out _ _ _ _ RQ6.out B8.out)
   have I8 := hideP (SB.out _ _ _ _ _ I6.out B8.out)
   have O8 := hideP (SB.out _ _ _ _ _ O6.out B8.out)
   have XC8 := hideP (IB.out _ _ _ XC6.out B8.out)
   have hg8 : b6 ≤ w8.heap.size := Nat.le_trans hg6 B8.out.size
   clear B6 P6 X6 R6 RQ6 I6 O6 XC6 Q BD B8 hg6
   go_wp2_with fail
   refine (CTI.out HM1.out _ B08.out).mono ?_
   rintro e y8 ⟨X3, rfl, hx3, _, _, hb8⟩
   have BY8 : Hid (Below w8.heap.size w8 y8) := hideP hb8
   have XCY := hideP (IB.out _ _ _ XC8.out hb8)
   have XC3 := hideP hx3
   clear hb8 hx3
   go_wp2_with fail
   refine (CEI.out HM1.out _ _ _ XCY.out XC3.out).mono ?_
   rintro e u8 ⟨rfl, hb8⟩
   have BU : Hid (Below w8.heap.size w8 u8) := hideP (below_more BY8.out hb8 BY8.out.size)
   clear hb8 XC3 XCY BY8
   have B0u : Hid (Below w.heap.size w u8) := hideP (below_more B08.out BU.out B08.out.size)
   have Pu := hideP ((BU.out.block _ (Array.getElem?_eq_some_iff.1 P8.out).1).trans P8.out)
   have Xu := hideP ((BU.out.block _ (Array.getElem?_eq_some_iff.1 X8.out).1).trans X8.out)
   have RQu := hideP (RPB.out _ _ _ _ RQ8.out BU.out)
   have Iu := hideP (SB.out _ _ _ _ _ I8.out BU.out)
   have Ou := hideP (SB.out _ _ _ _ _ O8.out BU.out)
   have XCu := hideP (IB.out _ _ _ XC8.out BU.out)
   have hgu : b6 ≤ u8.heap.size := Nat.le_trans hg8 BU.out.size
   clear B08 P8 X8 RQ8 I8 O8 XC8 hg8 BU
   have z0 : u8.cell? ⟨p5, 0, none⟩ = some (.int .i64 co) := cell_of_row _ _ 0 _ 44 _ Xu.out
   have z1 : u8.cell? ⟨p5, 1, none⟩ = some (.int .i64 gs) := cell_of_row _ _ 1 _ 44 _ Xu.out
   have z2 : u8.cell? ⟨p5, 2, none⟩ = some (.int .i64 gp) := cell_of_row _ _ 2 _ 44 _ Xu.out
   have z3 : u8.cell? ⟨p5, 3, none⟩ = some (.int .i64 gpo) := cell_of_row _ _ 3 _ 44 _ Xu.out
   have z4 : u8.cell? ⟨p5, 4, none⟩ = some (.int .i64 gm) := cell_of_row _ _ 4 _ 44 _ Xu.out
   have z5 : u8.cell? ⟨p5, 5, none⟩ = some (.int .i64 gmo) := cell_of_row _ _ 5 _ 44 _ Xu.out
   have z6 : u8.cell? ⟨p5, 6, none⟩ = some (.slice a4 n4 d4) := cell_of_row _ _ 6 _ 44 _ Xu.out
   have hp8 : p5 < u8.heap.size := (Array.getElem?_eq_some_iff.1 Xu.out).1
   go_wp2_with fail
   refine (CM2.out HS.out HMK.out _ _ _ RQu.out).mono ?_
   rintro e w9 ⟨rfl, hm9⟩
   have F9 := hideP hm9.bel
   have B9 : Hid (Below w.heap.size w w9) := hideP (Frs.toBelow B0u.out hm9.bel PBE.out B0u.out.size)
   have P9 := hideP ((hm9.bel.block _ (Array.getElem?_eq_some_iff.1 Pu.out).1 PLO.out).trans Pu.out)
   have I9 := hideP (SF.out _ _ _ _ _ _ Iu.out hm9.bel ILO.out)
   have O9 := hideP (SF.out _ _ _ _ _ _ Ou.out hm9.bel (fun b hb => PHI.out b (by have := (SX.out _ _ _ _ Ou.out b hb).1; omega)))
   have XC9 := hideP (IF.out _ _ _ _ XCu.out hm9.bel (PHI.out _ hXhi))
   have hg9 : b6 ≤ w9.heap.size := Nat.le_trans hgu hm9.bel.size
   obtain ⟨s9, hs9⟩ : ∃ s9, s9 = 1 + mk := ⟨_, rfl⟩
   have hs9b : s9 ≤ 16777216 := by rw [hs9]; exact HMK.out
   rw [← hs9]
   clear hm9 z0 z1 z2 z3 z4 z5 z6 hp8 Xu RQu Pu Iu Ou B0u hs9 hgu XCu F9
   go_wp2_with fail
   refine (CMX.out HM1.out _ _ _ XC9.out hs9b).mono ?_
   rintro e y9 ⟨rfl, hf9⟩
   have hwX : w.heap.size ≠ X2 := IX.out _ _ XC9.out _ P9.out
   have BY9 : Hid (Below w.heap.size w y9) := hideP (Frs.toBelow B9.out hf9 (fun b hb => by rw [hb]; omega) B9.out.size)
   have PY9 := hideP ((hf9.block _ (Array.getElem?_eq_some_iff.1 P9.out).1 hwX).trans P9.out)
   have IY9 := hideP (SF.out _ _ _ _ _ _ I9.out hf9 (SI.out _ _ _ _ _ I9.out XC9.out))
   have OY9 := hideP (SF.out _ _ _ _ _ _ O9.out hf9 (SI.out _ _ _ _ _ O9.out XC9.out))
   have hgy : b6 ≤ y9.heap.size := Nat.le_trans hg9 hf9.size
   have hneg9 : ¬ ((s9 : Int) + (m : Int)) < 0 := by omega
   have hdec9 : decide (((s9 : Int) + (m : Int)) < 0) = false := decide_eq_false hneg9
   obtain ⟨q9, hq9⟩ : ∃ q9, q9 = (s9 : Int) + (m : Int) := ⟨_, rfl⟩
   rw [← hq9] at hneg9 hdec9 ⊢
   clear hf9 P9 I9 O9 B9 XC9 hg9 hq9 hwX
   go_wp2_with fail
   refine (CQ.out _ _ _ _ _ _ _ OY9.out IY9.out).mono ?_
   rintro e w10 ⟨rfl, hb10⟩
   have B10 : Hid (Below w.heap.size w w10) := hideP (below_more BY9.out hb10 BY9.out.size)
   have P10 := hideP ((hb10.block _ (Array.getElem?_eq_some_iff.1 PY9.out).1).trans PY9.out)
   have I10 := hideP (SB.out _ _ _ _ _ IY9.out hb10)
   have O10 := hideP (SB.out _ _ _ _ _ OY9.out hb10)
   have hg10 : b6 ≤ w10.heap.size := Nat.le_trans hgy hb10.size
   clear hb10 BY9 PY9 IY9 OY9 hgy
   go_wp2_with fail
   refine (CMI.out _ _ _ _ O10.out hg10).mono ?_
   rintro e w11 ⟨rfl, ho11, hbg⟩
   have B11 : Hid (Below w.heap.size w w11) := hideP (B10.out.trans (hbg.mono (Nat.le_of_lt hs6)))
   have P11 := hideP ((hbg.block _ hs6).trans P10.out)
   have I11 := hideP (IBL.out _ _ I10.out hbg)
   have O11 := hideP ho11
   clear ho11 hbg B10 P10 I10 O10 hg10
   go_wp2_with fail
   refine (CH.out _ _ _ _ O11.out).mono ?_
   rintro e w12 ⟨rfl, hb12⟩
   have B12 : Hid (Below w.heap.size w w12) := hideP (below_more B11.out hb12 B11.out.size)
   have P12 := hideP ((hb12.block _ (Array.getElem?_eq_some_iff.1 P11.out).1).trans P11.out)
   have I12 := hideP (SB.out _ _ _ _ _ I11.out hb12)
   have O12 := hideP (SB2.out _ _ _ _ _ O11.out hb12)
   clear hb12 B11 P11 I11 O11
   obtain ⟨l1, c0, c1, c2, c3, c4, c5, c6⟩ := QX.out _ P12.out
   go_wp2_with fail
   refine (CT2.out HS.out _ B12.out).mono ?_
   rintro e w13 ⟨a13, n13, d13, rfl, hr13, hb13⟩
   have B13 : Hid (Below w.heap.size w w13) := hideP (below_more B12.out hb13 B12.out.size)
   have I13 := hideP (SB.out _ _ _ _ _ I12.out hb13)
   have O13 := hideP (SB2.out _ _ _ _ _ O12.out hb13)
   have R13 := hideP hr13
   clear hb13 hr13 l1 c0 c1 c2 c3 c4 c5 c6 P12 B12 I12 O12
   go_wp2_with fail
   refine (CTI.out HM1.out _ B13.out).mono ?_
   rintro e y13 ⟨X4, rfl, hx4, _, _, hb13⟩
   have BY13 : Hid (Below w.heap.size w y13) := hideP (below_more B13.out hb13 B13.out.size)
   have IY13 := hideP (SB.out _ _ _ _ _ I13.out hb13)
   have OY13 := hideP (SB2.out _ _ _ _ _ O13.out hb13)
   have RY13 := hideP (RR.out _ _ _ (RB.out _ _ _ _ R13.out hb13))
   have XC13 := hideP hx4
   clear hb13 hx4 B13 I13 O13 R13
   go_wp2_with fail
   refine (CI2.out HS.out HM1.out _ _ _ RY13.out XC13.out).mono ?_
   rintro e w14 ⟨a14, d14, rfl, ho14, hb14⟩
   have B14 : Hid (Below w.heap.size w w14) := hideP (below_more BY13.out hb14 BY13.out.size)
   have I14 := hideP (SB.out _ _ _ _ _ IY13.out hb14)
   have O14 := hideP (SB2.out _ _ _ _ _ OY13.out hb14)
   have N14 := hideP ho14
   clear hb14 ho14 BY13 IY13 OY13 RY13 XC13
   go_wp2_with fail
   refine (CQ.out _ _ _ _ _ _ _ N14.out I14.out).mono ?_
   rintro e w15 ⟨rfl, hb15⟩
   have B15 : Hid (Below w.heap.size w w15) := hideP (below_more B14.out hb15 B14.out.size)
   have O15 := hideP (SB2.out _ _ _ _ _ O14.out hb15)
   clear hb15 B14 I14 O14 N14
   go_wp2_with fail
   refine (CH.out _ _ _ _ O15.out).mono ?_
   rintro e w16 ⟨rfl, hb16⟩
   have B16 : Hid (Below w.heap.size w w16) := hideP (below_more B15.out hb16 B15.out.size)
   clear hb16
   go_wp2
   go_ret
   exact ⟨rfl, B16.out⟩
end Go.Proofs.YtojoehdmjkgnnaaGreat
