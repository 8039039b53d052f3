import Derived.Test.YtojoehdmjkgnnaaGreatSum
import Derived.RegionTactic
namespace Go.Proofs.YtojoehdmjkgnnaaGreat.Shr
open Go.RowKit
set_option linter.unusedVariables false
set_option linter.unusedSimpArgs false
set_option maxHeartbeats 1000000 in
theorem specGlues_any {v : Value} {gs : List Gl} {w : World} (h : GRow w v gs) (hn : gs.length ≤ 1048576) :
 Calls Tryz.prog 149 #[v] w fun e w' => e = .returned (.bool (glsOk gs)) ∧ Below w.heap.size w w' := by
 obtain ⟨ao, n, cap, rfl, hl, hr⟩ := h
 rw [hl] at hn
 by_cases hbig : 10000 < n
 ·have hbi : (10000 : Int) < (n : Int) := by omega
  go_enter Tryz.func149, Tryz.ntmps149
  go_wp2
  go_ret
  exact ⟨retB (glsOk_long (by omega)).symm, Below.refl _ _⟩
 ·have hbi : ¬ (10000 : Int) < (n : Int) := by omega
  have HR : Hid (0 < n → ∃ b off, ao = some ⟨b, off, none⟩ ∧ b < w.heap.size ∧ ∀ i, i < n → w.cell? ⟨b, off + i * 5, none⟩ = some (.int .i64 (gs.getD i Gl.none).s) ∧ w.cell? ⟨b, off + i * 5 + 1, none⟩ = some (.int .i64 (gs.getD i Gl.none).p) ∧ w.cell? ⟨b, off + i * 5 + 2, none⟩ = some (.int .i64 (gs.getD i Gl.none).po) ∧ w.cell? ⟨b, off + i * 5 + 3, none⟩ = some (.int .i64 (gs.getD i Gl.none).m) ∧ w.cell? ⟨b, off + i * 5 + 4, none⟩ = some (.int .i64 (gs.getD i Gl.none).mo)) := hr
  have HL : Hid (gs.length = n) := hl
  clear hr hl
  go_enter Tryz.func149, Tryz.ntmps149
  go_wp2
  go_loopw [3] (fun s wr => ∃ k : Nat, k ≤ n ∧ s = .int .i64 k ∧ (∀ j, j < k → (gs.getD j Gl.none).ok = true) ∧ Below w.heap.size w wr) (fun s _ => n - (intOf s).toNat)
  case atStart => exact ⟨0, by omega, rfl, fun j hj => by omega, Below.refl _ _⟩
  case round =>
   obtain ⟨k, hk, rfl, hok, hbel⟩ := hrel
   have HK : Hid (∀ j, j < k → (gs.getD j Gl.none).ok = true) := hok
   have HB : Hid (Below w.heap.size w wr) := hbel
   clear hok hbel
   by_cases hkn : k < n
   ·have hki : (k : Int) < (n : Int) := by omega
    obtain ⟨b, off, rfl, hb, hc⟩ := HR (by omega)
    obtain ⟨t, ht⟩ : ∃ t, t = gs.getD k Gl.none := ⟨_, rfl⟩
    obtain ⟨hc0, hc1, hc2, hc3, hc4⟩ := hc k hkn
    rw [← ht] at hc0 hc1 hc2 hc3 hc4
    have g0 := (HB.cell (p := ⟨b, off + k * 5, none⟩) hb).trans hc0
    have g1 := (HB.cell (p := ⟨b, off + k * 5 + 1, none⟩) hb).trans hc1
    have g2 := (HB.cell (p := ⟨b, off + k * 5 + 2, none⟩) hb).trans hc2
    have g3 := (HB.cell (p := ⟨b, off + k * 5 + 3, none⟩) hb).trans hc3
    have g4 := (HB.cell (p := ⟨b, off + k * 5 + 4, none⟩) hb).trans hc4
    have HT : Hid (t = gs.getD k Gl.none) := ht
    clear hc hc0 hc1 hc2 hc3 hc4 ht
    go_wp2_with fail
    refine (specGlueOk_any _ _ _ _ _ _).mono ?_
    rintro e w2 ⟨rfl, hb2⟩
    have HB2 : Hid (Below w.heap.size w w2) := Below.trans HB (hb2.mono (Below.size HB))
    clear hb2 g0 g1 g2 g3 g4 HB
    obtain ⟨ok, hok⟩ : ∃ ok, ok = okB t.s t.p t.po t.m t.mo := ⟨_, rfl⟩
    rw [← hok]
    have HOK : Hid (ok = okB t.s t.p t.po t.m t.mo) := hok
    clear hok
    cases ok
    ·go_wp2
     go_ret
     refine ⟨retB (glsOk_no (k := k) (by rw [show gs.length = n from HL]; exact hkn) ?_).symm, HB2⟩
     rw [← show t = gs.getD k Gl.none from HT]
     exact Eq.symm (show false = okB t.s t.p t.po t.m t.mo from HOK)
    ·go_wp2
     go_roundw
     case rel =>
      refine ⟨k + 1, by omega, by go_num, fun j hj => ?_, HB2⟩
      by_cases hjk : j = k
      ·subst hjk; rw [← show t = gs.getD j Gl.none from HT]; exact Eq.symm (show true = okB t.s t.p t.po t.m t.mo from HOK)
      ·exact HK j (by omega)
     case measure => simp [intOf]; omega
   ·have hki : ¬ (k : Int) < (n : Int) := by omega
    go_wp2
    go_ret
    exact ⟨retB (glsOk_yes (by rw [show gs.length = n from HL]; omega) (fun j hj => HK j (by have := (show gs.length = n from HL); omega))).symm, HB⟩
set_option maxHeartbeats 1000000 in
theorem implGlues_any {v : Value} {gs : List Gl} {w : World} (h : GRow w v gs) (hn : gs.length ≤ 1048576) :
 Calls Tryz.prog 113 #[v] w fun e w' => e = .returned (.bool (glsOk gs)) ∧ Below w.heap.size w w' := by
 obtain ⟨ao, n, cap, rfl, hl, hr⟩ := h
 rw [hl] at hn
 by_cases hbig : 10000 < n
 ·have hbi : (10000 : Int) < (n : Int) := by omega
  go_enter Tryz.func113, Tryz.ntmps113
  go_wp2
  go_ret
  exact ⟨retB (glsOk_long (by omega)).symm, Below.refl _ _⟩
 ·have hbi : ¬ (10000 : Int) < (n : Int) := by omega
  have HR : Hid (0 < n → ∃ b off, ao = some ⟨b, off, none⟩ ∧ b < w.heap.size ∧ ∀ i, i < n → w.cell? ⟨b, off + i * 5, none⟩ = some (.int .i64 (gs.getD i Gl.none).s) ∧ w.cell? ⟨b, off + i * 5 + 1, none⟩ = some (.int .i64 (gs.getD i Gl.none).p) ∧ w.cell? ⟨b, off + i * 5 + 2, none⟩ = some (.int .i64 (gs.getD i Gl.none).po) ∧ w.cell? ⟨b, off + i * 5 + 3, none⟩ = some (.int .i64 (gs.getD i Gl.none).m) ∧ w.cell? ⟨b, off + i * 5 + 4, none⟩ = some (.int .i64 (gs.getD i Gl.none).mo)) := hr
  have HL : Hid (gs.length = n) := hl
  clear hr hl
  go_enter Tryz.func113, Tryz.ntmps113
  go_wp2
  go_loopw [10] (fun s wr => ∃ k : Nat, k ≤ n ∧ s = .int .i64 k ∧ (∀ j, j < k → (gs.getD j Gl.none).ok = true) ∧ Below w.heap.size w wr) (fun s _ => n - (intOf s).toNat)
  case atStart => exact ⟨0, by omega, rfl, fun j hj => by omega, Below.refl _ _⟩
  case round =>
   obtain ⟨k, hk, rfl, hok, hbel⟩ := hrel
   have HK : Hid (∀ j, j < k → (gs.getD j Gl.none).ok = true) := hok
   have HB : Hid (Below w.heap.size w wr) := hbel
   clear hok hbel
   by_cases hkn : k < n
   ·have hki : (k : Int) < (n : Int) := by omega
    obtain ⟨b, off, rfl, hb, hc⟩ := HR (by omega)
    obtain ⟨t, ht⟩ : ∃ t, t = gs.getD k Gl.none := ⟨_, rfl⟩
    obtain ⟨hc0, hc1, hc2, hc3, hc4⟩ := hc k hkn
    rw [← ht] at hc0 hc1 hc2 hc3 hc4
    have g0 := (HB.cell (p := ⟨b, off + k * 5, none⟩) hb).trans hc0
    have g1 := (HB.cell (p := ⟨b, off + k * 5 + 1, none⟩) hb).trans hc1
    have g2 := (HB.cell (p := ⟨b, off + k * 5 + 2, none⟩) hb).trans hc2
    have g3 := (HB.cell (p := ⟨b, off + k * 5 + 3, none⟩) hb).trans hc3
    have g4 := (HB.cell (p := ⟨b, off + k * 5 + 4, none⟩) hb).trans hc4
    have HT : Hid (t = gs.getD k Gl.none) := ht
    clear hc hc0 hc1 hc2 hc3 hc4 ht
    go_wp2_with fail
    refine (implGlueOk_any _ _ _ _ _ _).mono ?_
    rintro e w2 ⟨rfl, hb2⟩
    have HB2 : Hid (Below w.heap.size w w2) := Below.trans (Below.alloc HB (Below.size HB) _) (hb2.mono (by have := Below.size HB; simp; omega))
    clear hb2 g0 g1 g2 g3 g4 HB
    obtain ⟨ok, hok⟩ : ∃ ok, ok = okB t.s t.p t.po t.m t.mo := ⟨_, rfl⟩
    rw [← hok]
    have HOK : Hid (ok = okB t.s t.p t.po t.m t.mo) := hok
    clear hok
    cases ok
    ·go_wp2
     go_ret
     refine ⟨retB (glsOk_no (k := k) (by rw [show gs.length = n from HL]; exact hkn) ?_).symm, HB2⟩
     rw [← show t = gs.getD k Gl.none from HT]
     exact Eq.symm (show false = okB t.s t.p t.po t.m t.mo from HOK)
    ·go_wp2
     go_roundw
     case rel =>
      refine ⟨k + 1, by omega, by go_num, fun j hj => ?_, HB2⟩
      by_cases hjk : j = k
      ·subst hjk; rw [← show t = gs.getD j Gl.none from HT]; exact Eq.symm (show true = okB t.s t.p t.po t.m t.mo from HOK)
      ·exact HK j (by omega)
     case measure => simp [intOf]; omega
   ·have hki : ¬ (k : Int) < (n : Int) := by omega
    go_wp2
    go_ret
    exact ⟨retB (glsOk_yes (by rw [show gs.length = n from HL]; omega) (fun j hj => HK j (by have := (show gs.length = n from HL); omega))).symm, HB⟩
def sumN (gs : List Gl) : Int := if glsOk gs then siz gs else 0
def sumP (gs : List Gl) : List Int := if glsOk gs then tot Gl.p Gl.po gs else []
def sumM (gs : List Gl) : List Int := if glsOk gs then tot Gl.m Gl.mo gs else []
theorem Tryz.info2 : (Tryz.prog.info? 2).map (fun i => (i.zero, i.size, i.bytes)) = some (some (.int .i64 0), 1, 8) := by kernel_rfl
def Four (w : World) (e g : Nat) (xs : List Int) : Prop := w.heap[g]? = some (.cells (xs.map (Value.int .i64)).toArray e (0, 0)) ∧ xs.length = 4
theorem Four.cell {w : World} {e g : Nat} {xs : List Int} (h : Four w e g xs) (j : Nat) (hj : j < 4) : w.cell? ⟨g, j, none⟩ = some (.int .i64 (xs.getD j 0)) := by
 rw [cell_of_row w g j _ _ _ h.1]
 simp [List.getElem?_map, List.getD, List.getElem?_eq_getElem (show j < xs.length by have := h.2; omega)]
theorem Four.free {w : World} {e g : Nat} {xs : List Int} (h : Four w e g xs) (j : Nat) : w.frozen? ⟨g, j, none⟩ = false := frozen_of_row w g j _ _ h.1
theorem Four.set {w : World} {e g : Nat} {xs : List Int} (h : Four w e g xs) (j : Nat) (z : Int) : Four (w.setCell ⟨g, j, none⟩ (.int .i64 z)) e g (xs.set j z) := by
 refine ⟨?_, by rw [List.length_set]; exact h.2⟩
 have e1 : ((xs.set j z).map (Value.int .i64)).toArray = ((xs.map (Value.int .i64)).toArray).setIfInBounds j (.int .i64 z) := by
  apply Array.ext'
  simp [Array.toList_setIfInBounds, List.map_set]
 rw [e1]
 exact heap_setCell_same w g j _ _ _ h.1
theorem Four.other {w : World} {e g g' : Nat} {xs : List Int} (h : Four w e g xs) (hne : g ≠ g') (j : Nat) (v : Value) : Four (w.setCell ⟨g', j, none⟩ v) e g xs := ⟨(Below.heap_setCell w ⟨g', j, none⟩ v g hne).trans h.1, h.2⟩
theorem Four.lt {w : World} {e g : Nat} {xs : List Int} (h : Four w e g xs) : g < w.heap.size := (Array.getElem?_eq_some_iff.1 h.1).1
theorem Four.alloc {w : World} {e g : Nat} {xs : List Int} (h : Four w e g xs) (o : Obj) : Four (w.alloc o) e g xs := ⟨(Below.heap_alloc w o g h.lt).trans h.1, h.2⟩
theorem Four.drew {w : World} {e g : Nat} {xs : List Int} (h : Four w e g xs) : Four w.drew e g xs := h
theorem Four.below {w w' : World} {e g : Nat} {xs : List Int} (h : Four w e g xs) (hb : Below w.heap.size w w') : Four w' e g xs := ⟨(hb.block g h.lt).trans h.1, h.2⟩
theorem Four.row {w : World} {e g cap : Nat} {xs : List Int} (h : Four w e g xs) : Row w (.slice (some ⟨g, 0, none⟩) 4 cap) xs :=
 ⟨_, 4, cap, rfl, h.2, fun _ => ⟨g, 0, rfl, h.lt, fun i hi => by rw [Nat.zero_add]; exact h.cell i hi⟩⟩
theorem Four.of_own {w : World} {base g : Nat} {xs : List Int} (h : w.ownsRow base 2 1 (.slice (some ⟨g, 0, none⟩) 4 4) 4 (xs.map (Value.int .i64))) : Four w 2 g xs := by
 have hl : xs.length = 4 := by simpa using h.1
 rcases h.2 with ⟨h', _⟩ | ⟨g', cap', cur, h', _, hg, _, _, hcs, htake⟩
 ·simp at h'
 ·simp only [Value.slice.injEq, Option.some.injEq, Addr.mk.injEq, and_true, true_and] at h'
  obtain ⟨rfl, rfl⟩ := h'
  refine ⟨?_, hl⟩
  rw [hg, ← htake, List.take_of_length_le (by rw [Array.length_toList]; omega)]
theorem Four.of_grown {w w1 : World} {e g : Nat} {xs : List Int} {r : Option Nat} (h : Four w e g xs) (hg : w.grownBy w1 r) (hr : ∀ k, r = some k → g ≠ k) : Four w1 e g xs :=
 ⟨(hg.block g h.lt (fun he => hr g he.symm rfl)).trans h.1, h.2⟩
theorem made4 : (madeCells (Value.cells (.int .i64 0)) (4 * 1)).toList = ([0, 0, 0, 0] : List Int).map (Value.int .i64) := by
 show (madeCells #[Value.int .i64 0] 4).toList = _
 rw [toList_madeCells_one]
 rfl
set_option maxRecDepth 20000 in
set_option maxHeartbeats 4000000 in
theorem specSum_any {v : Value} {gs : List Gl} {w : World} (h : GRow w v gs) (hn : gs.length ≤ 1048576) :
 Calls Tryz.prog 148 #[v] w fun e w' => (∃ v1 v2, e = .returned (.tuple #[.int .i64 (sumN gs), v1, v2]) ∧ Row w' v1 (sumP gs) ∧ Row w' v2 (sumM gs)) ∧ Below w.heap.size w w' := by
 have HG : Hid (GRow w v gs) := h
 obtain ⟨ao, n, cap, rfl, hl, hr⟩ := h
 rw [hl] at hn
 have HR : Hid (0 < n → ∃ b off, ao = some ⟨b, off, none⟩ ∧ b < w.heap.size ∧ ∀ i, i < n → w.cell? ⟨b, off + i * 5, none⟩ = some (.int .i64 (gs.getD i Gl.none).s) ∧ w.cell? ⟨b, off + i * 5 + 1, none⟩ = some (.int .i64 (gs.getD i Gl.none).p) ∧ w.cell? ⟨b, off + i * 5 + 2, none⟩ = some (.int .i64 (gs.getD i Gl.none).po) ∧ w.cell? ⟨b, off + i * 5 + 3, none⟩ = some (.int .i64 (gs.getD i Gl.none).m) ∧ w.cell? ⟨b, off + i * 5 + 4, none⟩ = some (.int .i64 (gs.getD i Gl.none).mo)) := hr
 have HL : Hid (gs.length = n) := hl
 clear hr hl
 obtain ⟨i0, hi, hz0, hz1, hz2⟩ := info_parts Tryz.info2
 have HI : Hid (i0.bytes = 8) := hz2
 clear hz2
 go_enter Tryz.func148, Tryz.ntmps148
 go_wp2_with fail
 refine (specGlues_any HG (by rw [show gs.length = n from HL]; exact hn)).mono ?_
 rintro e w1 ⟨rfl, hb1⟩
 have HB1 : Hid (Below w.heap.size w w1) := hb1
 clear hb1 HG
 obtain ⟨ok, hok⟩ : ∃ ok, ok = glsOk gs := ⟨_, rfl⟩
 rw [← hok]
 have HOK : Hid (ok = glsOk gs) := hok
 clear hok
 cases ok
 ·go_wp2
  go_ret3
  have hf : glsOk gs = false := Eq.symm (show false = glsOk gs from HOK)
  have e1 : sumN gs = 0 := by simp [sumN, hf]
  have e2 : sumP gs = [] := by simp [sumP, hf]
  have e3 : sumM gs = [] := by simp [sumM, hf]
  rw [e1, e2, e3]
  refine ⟨⟨_, _, rfl, ⟨_, 0, 0, rfl, rfl, fun h => by omega⟩, ⟨_, 0, 0, rfl, rfl, fun h => by omega⟩⟩, ?_⟩
  exact Below.alloc (Below.alloc HB1 (Below.size HB1) _) (by have := Below.size HB1; simp; omega) _
 ·have hz : w.heap.size ≤ w1.heap.size := Below.size HB1
  go_wp2_with (first
   | (refine wpList_make_full _ rfl _ _ 46 rfl w1.heap.size 2 i0 (.int .i64 0) 1 Tryz.underlying46 hi hz0 hz1 _ _ _ _ 4 rfl rfl rfl rfl (by rw [show i0.bytes = 8 from HI]; omega) (by unfold maxLen; omega) (Nat.le_refl _) ?_; intro w2 hown2 hgrow2; have f2 : Four w2 2 w1.heap.size [0, 0, 0, 0] := Four.of_own (by rw [← made4]; exact hown2); have B2 : Below w.heap.size w w2 := (Below.grown HB1 hgrow2 hz (by simp)); have F2 : Hid (Four w2 2 w1.heap.size [0, 0, 0, 0] ∧ Below w.heap.size w w2) := ⟨f2, B2⟩; have hz2 : w.heap.size ≤ w2.heap.size := B2.size; clear f2 B2 hown2 hgrow2)
   | (refine wpList_make_full _ rfl _ _ 46 rfl w2.heap.size 2 i0 (.int .i64 0) 1 Tryz.underlying46 hi hz0 hz1 _ _ _ _ 4 rfl rfl rfl rfl (by rw [show i0.bytes = 8 from HI]; omega) (by unfold maxLen; omega) (Nat.le_refl _) ?_; intro w3 hown3 hgrow3; have F3 : Hid (Four w3 2 w1.heap.size [0, 0, 0, 0] ∧ Four w3 2 w2.heap.size [0, 0, 0, 0] ∧ Below w.heap.size w w3) := ⟨Four.of_grown F2.1 hgrow3 (by simp), Four.of_own (by rw [← made4]; exact hown3), Below.grown F2.2 hgrow3 hz2 (by simp)⟩; clear hown3 hgrow3))
  obtain ⟨P, hP⟩ : ∃ P, P = w1.heap.size := ⟨_, rfl⟩
  obtain ⟨Q, hQ⟩ : ∃ Q, Q = w2.heap.size := ⟨_, rfl⟩
  have hPQ : P ≠ Q := by have := F2.1.lt; omega
  have hPw : w.heap.size ≤ P := by omega
  have hQw : w.heap.size ≤ Q := by omega
  have F0 : Hid (Four w3 2 P [0, 0, 0, 0] ∧ Four w3 2 Q [0, 0, 0, 0] ∧ Below w.heap.size w w3) := by rw [hP, hQ]; exact F3
  rw [← hP, ← hQ]
  clear hP hQ F2 F3 HB1
  have hgo : glsOk gs = true := Eq.symm (show true = glsOk gs from HOK)
  have heach := glsOk_each hgo
  have hn2 : n ≤ 10000 := by have := heach.1; have := (show gs.length = n from HL); omega
  have HE : Hid (∀ k, k < gs.length → (gs.getD k Gl.none).ok = true) := heach.2
  have HBS : Hid (∀ k, k ≤ gs.length → -(1073741823 * (k : Int)) ≤ siz (gs.take k) ∧ siz (gs.take k) ≤ 1073741823 * (k : Int)) := siz_bound gs (fun k hk => (ok_bounds (HE k hk)).1)
  have HBP : Hid (∀ k, k ≤ gs.length → ∀ j, -(1073741823 * (k : Int)) ≤ (tot Gl.p Gl.po (gs.take k)).getD j 0 ∧ (tot Gl.p Gl.po (gs.take k)).getD j 0 ≤ 1073741823 * (k : Int)) := tot_bound Gl.p Gl.po gs (fun k hk => (ok_bounds (HE k hk)).2.1)
  have HBM : Hid (∀ k, k ≤ gs.length → ∀ j, -(1073741823 * (k : Int)) ≤ (tot Gl.m Gl.mo (gs.take k)).getD j 0 ∧ (tot Gl.m Gl.mo (gs.take k)).getD j 0 ≤ 1073741823 * (k : Int)) := tot_bound Gl.m Gl.mo gs (fun k hk => (ok_bounds (HE k hk)).2.2.1)
  clear hgo heach
  go_loopw [5, 8] (fun s5 s8 wr => ∃ k : Nat, k ≤ n ∧ s8 = .int .i64 k ∧ s5 = .int .i64 (siz (gs.take k)) ∧ Four wr 2 P (tot Gl.p Gl.po (gs.take k)) ∧ Four wr 2 Q (tot Gl.m Gl.mo (gs.take k)) ∧ Below w.heap.size w wr) (fun _ s _ => n - (intOf s).toNat)
  case atStart => exact ⟨0, by omega, rfl, rfl, F0.1, F0.2.1, F0.2.2⟩
  case round =>
   obtain ⟨k, hk, rfl, rfl, hfp, hfq, hbel⟩ := hrel
   have hlen : gs.length = n := HL
   by_cases hkn : k < n
   ·have hki : (k : Int) < (n : Int) := by omega
    obtain ⟨b, off, rfl, hb, hc⟩ := HR (by omega)
    obtain ⟨t, ht⟩ : ∃ t, t = gs.getD k Gl.none := ⟨_, rfl⟩
    obtain ⟨hc0, hc1, hc2, hc3, hc4⟩ := hc k hkn
    rw [← ht] at hc0 hc1 hc2 hc3 hc4
    have HB : Hid (Below w.heap.size w wr ∧ True) := ⟨hbel, trivial⟩
    have hob := ok_bounds (HE k (by omega))
    rw [← ht] at hob
    obtain ⟨⟨b1, b2⟩, ⟨b3, b4⟩, ⟨b5, b6⟩, ⟨b7, b8⟩, ⟨b9, b10⟩⟩ := hob
    have es : siz (gs.take (k + 1)) = siz (gs.take k) + t.s := by rw [take_snoc (by omega), siz_snoc, ← ht]
    have ep : tot Gl.p Gl.po (gs.take (k + 1)) = (tot Gl.p Gl.po (gs.take k)).set t.po.toNat ((tot Gl.p Gl.po (gs.take k)).getD t.po.toNat 0 + t.p) := by rw [take_snoc (by omega), tot_snoc, ← ht]
    have em : tot Gl.m Gl.mo (gs.take (k + 1)) = (tot Gl.m Gl.mo (gs.take k)).set t.mo.toNat ((tot Gl.m Gl.mo (gs.take k)).getD t.mo.toNat 0 + t.m) := by rw [take_snoc (by omega), tot_snoc, ← ht]
    have bs := HBS k (by omega)
    have bp := HBP k (by omega) t.po.toNat
    have bm := HBM k (by omega) t.mo.toNat
    have g0 := (HB.1.cell (p := ⟨b, off + k * 5, none⟩) hb).trans hc0
    have g1 := (HB.1.cell (p := ⟨b, off + k * 5 + 1, none⟩) hb).trans hc1
    have g2 := (HB.1.cell (p := ⟨b, off + k * 5 + 2, none⟩) hb).trans hc2
    have g3 := (HB.1.cell (p := ⟨b, off + k * 5 + 3, none⟩) hb).trans hc3
    have g4 := (HB.1.cell (p := ⟨b, off + k * 5 + 4, none⟩) hb).trans hc4
    obtain ⟨ts, tp, tpo, tm, tmo⟩ := t
    simp only at *
    obtain ⟨o, ho⟩ : ∃ o : Nat, tpo = (o : Int) := ⟨tpo.toNat, by omega⟩
    obtain ⟨q, hq⟩ : ∃ q : Nat, tmo = (q : Int) := ⟨tmo.toNat, by omega⟩
    subst ho
    subst hq
    simp only [Int.toNat_natCast] at ep em bp bm
    obtain ⟨S, hS⟩ : ∃ S, S = siz (gs.take k) := ⟨_, rfl⟩
    obtain ⟨X, hX⟩ : ∃ X, X = (tot Gl.p Gl.po (gs.take k)).getD o 0 := ⟨_, rfl⟩
    obtain ⟨Y, hY⟩ : ∃ Y, Y = (tot Gl.m Gl.mo (gs.take k)).getD q 0 := ⟨_, rfl⟩
    have ho4 : o < 4 := by omega
    have hq4 : q < 4 := by omega
    have cp := hfp.cell o ho4
    have cq := hfq.cell q hq4
    rw [← hX] at cp bp ep
    rw [← hY] at cq bm em
    rw [← hS] at bs es ⊢
    have fp := hfp.free
    have fq := hfq.free
    have hPl := hfp.lt
    have hQl := hfq.lt
    have cpa : (wr.alloc (.cells #[.int .i64 ts, .int .i64 tp, .int .i64 (o : Int), .int .i64 tm, .int .i64 (q : Int)] 34)).cell? ⟨P, o, none⟩ = some (.int .i64 X) := (World.cell?_alloc_lt _ _ _ hPl).trans cp
    have cqa : ((wr.alloc (.cells #[.int .i64 ts, .int .i64 tp, .int .i64 (o : Int), .int .i64 tm, .int .i64 (q : Int)] 34)).setCell ⟨P, o, none⟩ (.int .i64 (X + tp))).cell? ⟨Q, q, none⟩ = some (.int .i64 Y) := (((hfq.alloc _).other (Ne.symm hPQ) o _).cell q hq4).trans (by rw [← hY])
    have fpa := (hfp.alloc (.cells #[.int .i64 ts, .int .i64 tp, .int .i64 (o : Int), .int .i64 tm, .int .i64 (q : Int)] 34)).free
    have hw1 : IntKind.i64.wrap (S + ts) = S + ts := by rw [IntKind.wrap_i64]; omega
    have hw2 : IntKind.i64.wrap (X + tp) = X + tp := by rw [IntKind.wrap_i64]; omega
    have hw3 : IntKind.i64.wrap (Y + tm) = Y + tm := by rw [IntKind.wrap_i64]; omega
    have hoi : (o : Int) < 4 := by omega
    have hqi : (q : Int) < 4 := by omega
    have H1 : Hid (siz (gs.take (k + 1)) = S + ts ∧ tot Gl.p Gl.po (gs.take (k + 1)) = (tot Gl.p Gl.po (gs.take k)).set o (X + tp) ∧ tot Gl.m Gl.mo (gs.take (k + 1)) = (tot Gl.m Gl.mo (gs.take k)).set q (Y + tm)) := ⟨es, ep, em⟩
    have H2 : Hid (Four wr 2 P (tot Gl.p Gl.po (gs.take k)) ∧ Four wr 2 Q (tot Gl.m Gl.mo (gs.take k)) ∧ Below w.heap.size w wr) := ⟨hfp, hfq, hbel⟩
    clear hc hc0 hc1 hc2 hc3 hc4 ht hbel hfp hfq es ep em hS hX hY bs bp bm HB b1 b2 b3 b4 b5 b6 b7 b8 b9 b10
    go_wp2
    go_region
    all_goals go_wp2
    all_goals go_region
    all_goals go_wp2
    all_goals
     go_roundw
     case rel =>
      refine ⟨k + 1, by omega, by go_num, by rw [H1.1], ?_, ?_, ?_⟩
      ·rw [H1.2.1]; exact (((H2.1.set o (X + tp)).other hPQ q _).alloc _).drew.drew
      ·rw [H1.2.2]; exact (((H2.2.1.other (Ne.symm hPQ) o _).set q (Y + tm)).alloc _).drew.drew
      ·exact (((H2.2.2.setCell (p := ⟨P, o, none⟩) hPw _).setCell (p := ⟨Q, q, none⟩) hQw _).alloc (by simp; exact H2.2.2.size) _).drew.drew
     case measure => simp [intOf]; omega
   ·have hki : ¬ (k : Int) < (n : Int) := by omega
    obtain rfl : k = n := by omega
    rw [← hlen, List.take_length] at hfp hfq
    have et : gs.take k = gs := by rw [← hlen, List.take_length]
    rw [et]
    have hgo : glsOk gs = true := Eq.symm (show true = glsOk gs from HOK)
    have e1 : sumN gs = siz gs := by simp [sumN, hgo]
    have e2 : sumP gs = tot Gl.p Gl.po gs := by simp [sumP, hgo]
    have e3 : sumM gs = tot Gl.m Gl.mo gs := by simp [sumM, hgo]
    have H2 : Hid ((sumN gs = siz gs ∧ sumP gs = tot Gl.p Gl.po gs ∧ sumM gs = tot Gl.m Gl.mo gs) ∧ Four wr 2 P (tot Gl.p Gl.po gs) ∧ Four wr 2 Q (tot Gl.m Gl.mo gs) ∧ Below w.heap.size w wr) := ⟨⟨e1, e2, e3⟩, hfp, hfq, hbel⟩
    clear hfp hfq hbel hgo e1 e2 e3 et hlen
    go_wp2
    go_ret3
    rw [H2.1.1, H2.1.2.1, H2.1.2.2]
    exact ⟨⟨_, _, rfl, H2.2.1.row, H2.2.2.1.row⟩, H2.2.2.2⟩
theorem four_parts {xs : List Int} (h : xs.length = 4) : ∃ a b c d, xs = [a, b, c, d] := by
 match xs, h with
 | [a, b, c, d], _ => exact ⟨a, b, c, d, rfl⟩
set_option maxHeartbeats 1000000 in
theorem plusOf_ex (s p po m mo : Int) (w : World) : Calls Tryz.prog 142 #[glueV s p po m mo] w fun e w' => e = .returned (.agg #[.int .i64 p, .int .i64 po]) ∧ ∃ c1 c2 : Array Value, w' = (w.alloc (.cells c1 34)).alloc (.cells c2 246) := by
 go_enter Tryz.func142, Tryz.ntmps142
 go_wp2
 exact bodyPost_ret (v := .agg #[.int .i64 p, .int .i64 po]) (by simp [results, Tryz.results142, go_sem]) rfl ⟨rfl, _, _, rfl⟩
theorem plusOf_any (s p po m mo : Int) (w : World) : Calls Tryz.prog 142 #[glueV s p po m mo] w fun e w' => e = .returned (.agg #[.int .i64 p, .int .i64 po]) ∧ Below w.heap.size w w' := by
 refine (plusOf_ex s p po m mo w).mono ?_
 rintro e w' ⟨rfl, c1, c2, rfl⟩
 exact ⟨rfl, ((Below.refl _ _).alloc (Nat.le_refl _) _).alloc (by simp) _⟩
set_option maxRecDepth 20000 in
set_option maxHeartbeats 4000000 in
theorem totalsP_any {v : Value} {gs : List Gl} {w : World} (h : GRow w v gs) (hok : glsOk gs = true) :
 Calls Tryz.prog 141 #[v, .func (.func 142) #[] #[]] w fun e w' => e = .returned (.agg ((tot Gl.p Gl.po gs).map (Value.int .i64)).toArray) ∧ Below w.heap.size w w' := by
 obtain ⟨ao, n, cap, rfl, hl, hr⟩ := h
 have heach := glsOk_each hok
 have hn2 : n ≤ 10000 := by have := heach.1; omega
 have HE : Hid (∀ k, k < gs.length → (gs.getD k Gl.none).ok = true) := heach.2
 have HBP : Hid (∀ k, k ≤ gs.length → ∀ j, -(1073741823 * (k : Int)) ≤ (tot Gl.p Gl.po (gs.take k)).getD j 0 ∧ (tot Gl.p Gl.po (gs.take k)).getD j 0 ≤ 1073741823 * (k : Int)) := tot_bound Gl.p Gl.po gs (fun k hk => (ok_bounds (HE k hk)).2.1)
 have HR : Hid (0 < n → ∃ b off, ao = some ⟨b, off, none⟩ ∧ b < w.heap.size ∧ ∀ i, i < n → w.cell? ⟨b, off + i * 5, none⟩ = some (.int .i64 (gs.getD i Gl.none).s) ∧ w.cell? ⟨b, off + i * 5 + 1, none⟩ = some (.int .i64 (gs.getD i Gl.none).p) ∧ w.cell? ⟨b, off + i * 5 + 2, none⟩ = some (.int .i64 (gs.getD i Gl.none).po) ∧ w.cell? ⟨b, off + i * 5 + 3, none⟩ = some (.int .i64 (gs.getD i Gl.none).m) ∧ w.cell? ⟨b, off + i * 5 + 4, none⟩ = some (.int .i64 (gs.getD i Gl.none).mo)) := hr
 have HL : Hid (gs.length = n) := hl
 clear hr hl hok heach
 go_enter Tryz.func141, Tryz.ntmps141
 go_wp2
 obtain ⟨P, hP⟩ : ∃ P, P = w.heap.size + 1 := ⟨_, rfl⟩
 obtain ⟨R, hR⟩ : ∃ R, R = w.heap.size := ⟨_, rfl⟩
 have hPR : R ≠ P := by omega
 have hPw : w.heap.size ≤ P := by omega
 have hRw : w.heap.size ≤ R := by omega
 have F0 : Hid (Four ((w.alloc (.cells #[.int .i64 0, .int .i64 0, .int .i64 0, .int .i64 0] 219)).alloc (.cells #[.int .i64 0, .int .i64 0, .int .i64 0, .int .i64 0] 219)) 219 R [0, 0, 0, 0] ∧ Four ((w.alloc (.cells #[.int .i64 0, .int .i64 0, .int .i64 0, .int .i64 0] 219)).alloc (.cells #[.int .i64 0, .int .i64 0, .int .i64 0, .int .i64 0] 219)) 219 P [0, 0, 0, 0] ∧ Below w.heap.size w ((w.alloc (.cells #[.int .i64 0, .int .i64 0, .int .i64 0, .int .i64 0] 219)).alloc (.cells #[.int .i64 0, .int .i64 0, .int .i64 0, .int .i64 0] 219))) := by
  rw [hP, hR]
  refine ⟨Four.alloc (show Four (w.alloc (.cells #[.int .i64 0, .int .i64 0, .int .i64 0, .int .i64 0] 219)) 219 w.heap.size [0, 0, 0, 0] from ⟨heap_alloc_new w _, rfl⟩) _, ⟨?_, rfl⟩, ((Below.refl _ _).alloc (Nat.le_refl _) _).alloc (by simp) _⟩
  simpa using heap_alloc_new (w.alloc (.cells #[.int .i64 0, .int .i64 0, .int .i64 0, .int .i64 0] 219)) (.cells #[.int .i64 0, .int .i64 0, .int .i64 0, .int .i64 0] 219)
 rw [← hP, ← hR]
 clear hP hR
 go_loopw [11] (fun s wr => ∃ k : Nat, k ≤ n ∧ s = .int .i64 k ∧ Four wr 219 R [0, 0, 0, 0] ∧ Four wr 219 P (tot Gl.p Gl.po (gs.take k)) ∧ Below w.heap.size w wr) (fun s _ => n - (intOf s).toNat)
 case atStart => exact ⟨0, by omega, rfl, F0.1, F0.2.1, F0.2.2⟩
 case round =>
  obtain ⟨k, hk, rfl, hfr, hfp, hbel⟩ := hrel
  have hlen : gs.length = n := HL
  by_cases hkn : k < n
  ·have hki : (k : Int) < (n : Int) := by omega
   obtain ⟨b, off, rfl, hb, hc⟩ := HR (by omega)
   obtain ⟨t, ht⟩ : ∃ t, t = gs.getD k Gl.none := ⟨_, rfl⟩
   obtain ⟨hc0, hc1, hc2, hc3, hc4⟩ := hc k hkn
   rw [← ht] at hc0 hc1 hc2 hc3 hc4
   have hob := ok_bounds (HE k (by omega))
   rw [← ht] at hob
   obtain ⟨⟨b1, b2⟩, ⟨b3, b4⟩, ⟨b5, b6⟩, ⟨b7, b8⟩, ⟨b9, b10⟩⟩ := hob
   have ep : tot Gl.p Gl.po (gs.take (k + 1)) = (tot Gl.p Gl.po (gs.take k)).set t.po.toNat ((tot Gl.p Gl.po (gs.take k)).getD t.po.toNat 0 + t.p) := by rw [take_snoc (by omega), tot_snoc, ← ht]
   have bp := HBP k (by omega) t.po.toNat
   have g0 := (hbel.cell (p := ⟨b, off + k * 5, none⟩) hb).trans hc0
   have g1 := (hbel.cell (p := ⟨b, off + k * 5 + 1, none⟩) hb).trans hc1
   have g2 := (hbel.cell (p := ⟨b, off + k * 5 + 2, none⟩) hb).trans hc2
   have g3 := (hbel.cell (p := ⟨b, off + k * 5 + 3, none⟩) hb).trans hc3
   have g4 := (hbel.cell (p := ⟨b, off + k * 5 + 4, none⟩) hb).trans hc4
   obtain ⟨ts, tp, tpo, tm, tmo⟩ := t
   simp only at *
   obtain ⟨o, ho⟩ : ∃ o : Nat, tpo = (o : Int) := ⟨tpo.toNat, by omega⟩
   subst ho
   simp only [Int.toNat_natCast] at ep bp
   obtain ⟨X, hX⟩ : ∃ X, X = (tot Gl.p Gl.po (gs.take k)).getD o 0 := ⟨_, rfl⟩
   rw [← hX] at bp ep
   have ho4 : o < 4 := by omega
   have hoi : (o : Int) < 4 := by omega
   have hw2 : IntKind.i64.wrap (X + tp) = X + tp := by rw [IntKind.wrap_i64]; omega
   have H1 : Hid (tot Gl.p Gl.po (gs.take (k + 1)) = (tot Gl.p Gl.po (gs.take k)).set o (X + tp) ∧ X = (tot Gl.p Gl.po (gs.take k)).getD o 0) := ⟨ep, hX⟩
   have H2 : Hid (Four wr 219 R [0, 0, 0, 0] ∧ Four wr 219 P (tot Gl.p Gl.po (gs.take k)) ∧ Below w.heap.size w wr) := ⟨hfr, hfp, hbel⟩
   clear hc hc0 hc1 hc2 hc3 hc4 ht hbel hfp hfr ep hX bp b1 b2 b3 b4 b5 b6 b7 b8 b9 b10
   go_wp2_with fail
   refine (plusOf_any _ _ _ _ _ _).mono ?_
   rintro e w2 ⟨rfl, hb2⟩
   have r2 := Four.below (H2.1.alloc _) hb2
   have p2 := Four.below (H2.2.1.alloc _) hb2
   have B2 : Below w.heap.size w w2 := (H2.2.2.alloc H2.2.2.size _).trans (hb2.mono (by have := H2.2.2.size; simp; omega))
   have cp := p2.cell o ho4
   rw [← H1.2] at cp
   have fp := p2.free
   have hPl := p2.lt
   have H3 : Hid (Four w2 219 R [0, 0, 0, 0] ∧ Four w2 219 P (tot Gl.p Gl.po (gs.take k)) ∧ Below w.heap.size w w2) := ⟨r2, p2, B2⟩
   clear r2 p2 B2 hb2 H2 g0 g1 g2 g3 g4
   go_wp2
   go_region
   all_goals go_wp2
   all_goals
    go_roundw
    case rel =>
     refine ⟨k + 1, by omega, by go_num, ?_, ?_, ?_⟩
     ·exact ((H3.1.other hPR o _).alloc _).drew
     ·rw [H1.1]; exact ((H3.2.1.set o (X + tp)).alloc _).drew
     ·exact ((H3.2.2.setCell (p := ⟨P, o, none⟩) hPw _).alloc (by simp; exact H3.2.2.size) _).drew
    case measure => simp [intOf]; omega
  ·have hki : ¬ (k : Int) < (n : Int) := by omega
   obtain rfl : k = n := by omega
   rw [← hlen, List.take_length] at hfp
   obtain ⟨x0, x1, x2, x3, hx⟩ := four_parts (tot_length Gl.p Gl.po gs)
   rw [hx] at hfp
   have HX : Hid (tot Gl.p Gl.po gs = [x0, x1, x2, x3]) := hx
   have p0 : wr.cell? ⟨P, 0, none⟩ = some (.int .i64 x0) := hfp.cell 0 (by omega)
   have p1 : wr.cell? ⟨P, 1, none⟩ = some (.int .i64 x1) := hfp.cell 1 (by omega)
   have p2 : wr.cell? ⟨P, 2, none⟩ = some (.int .i64 x2) := hfp.cell 2 (by omega)
   have p3 : wr.cell? ⟨P, 3, none⟩ = some (.int .i64 x3) := hfp.cell 3 (by omega)
   have q0 : wr.cell? ⟨R, 0, none⟩ = some (.int .i64 0) := hfr.cell 0 (by omega)
   have q1 : wr.cell? ⟨R, 1, none⟩ = some (.int .i64 0) := hfr.cell 1 (by omega)
   have q2 : wr.cell? ⟨R, 2, none⟩ = some (.int .i64 0) := hfr.cell 2 (by omega)
   have q3 : wr.cell? ⟨R, 3, none⟩ = some (.int .i64 0) := hfr.cell 3 (by omega)
   have fr := hfr.free
   have s1 := (((hfr.set 0 x0).set 1 x1).set 2 x2).set 3 x3
   have c0 := s1.cell 0 (by omega)
   have c1 := s1.cell 1 (by omega)
   have c2 := s1.cell 2 (by omega)
   have c3 := s1.cell 3 (by omega)
   have HF : Hid (Below w.heap.size w ((((wr.setCell ⟨R, 0, none⟩ (.int .i64 x0)).setCell ⟨R, 1, none⟩ (.int .i64 x1)).setCell ⟨R, 2, none⟩ (.int .i64 x2)).setCell ⟨R, 3, none⟩ (.int .i64 x3)) ∧ True) := ⟨(((hbel.setCell (p := ⟨R, 0, none⟩) hRw _).setCell (p := ⟨R, 1, none⟩) hRw _).setCell (p := ⟨R, 2, none⟩) hRw _).setCell (p := ⟨R, 3, none⟩) hRw _, trivial⟩
   clear hfp hfr hbel s1 hx
   go_wp2
   refine bodyPost_ret (v := .agg #[.int .i64 x0, .int .i64 x1, .int .i64 x2, .int .i64 x3]) ?_ rfl ⟨by rw [show tot Gl.p Gl.po gs = [x0, x1, x2, x3] from HX]; rfl, HF.1⟩
   simp [results, Tryz.results141, go_sem, c0, c1, c2, c3] at *
   try simp [c0, c1, c2, c3]
set_option maxHeartbeats 1000000 in
theorem minusOf_ex (s p po m mo : Int) (w : World) : Calls Tryz.prog 143 #[glueV s p po m mo] w fun e w' => e = .returned (.agg #[.int .i64 m, .int .i64 mo]) ∧ ∃ c1 c2 : Array Value, w' = (w.alloc (.cells c1 34)).alloc (.cells c2 246) := by
 go_enter Tryz.func143, Tryz.ntmps143
 go_wp2
 exact bodyPost_ret (v := .agg #[.int .i64 m, .int .i64 mo]) (by simp [results, Tryz.results143, go_sem]) rfl ⟨rfl, _, _, rfl⟩
theorem minusOf_any (s p po m mo : Int) (w : World) : Calls Tryz.prog 143 #[glueV s p po m mo] w fun e w' => e = .returned (.agg #[.int .i64 m, .int .i64 mo]) ∧ Below w.heap.size w w' := by
 refine (minusOf_ex s p po m mo w).mono ?_
 rintro e w' ⟨rfl, c1, c2, rfl⟩
 exact ⟨rfl, ((Below.refl _ _).alloc (Nat.le_refl _) _).alloc (by simp) _⟩
set_option maxRecDepth 20000 in
set_option maxHeartbeats 4000000 in
theorem totalsM_any {v : Value} {gs : List Gl} {w : World} (h : GRow w v gs) (hok : glsOk gs = true) :
 Calls Tryz.prog 141 #[v, .func (.func 143) #[] #[]] w fun e w' => e = .returned (.agg ((tot Gl.m Gl.mo gs).map (Value.int .i64)).toArray) ∧ Below w.heap.size w w' := by
 obtain ⟨ao, n, cap, rfl, hl, hr⟩ := h
 have heach := glsOk_each hok
 have hn2 : n ≤ 10000 := by have := heach.1; omega
 have HE : Hid (∀ k, k < gs.length → (gs.getD k Gl.none).ok = true) := heach.2
 have HBP : Hid (∀ k, k ≤ gs.length → ∀ j, -(1073741823 * (k : Int)) ≤ (tot Gl.m Gl.mo (gs.take k)).getD j 0 ∧ (tot Gl.m Gl.mo (gs.take k)).getD j 0 ≤ 1073741823 * (k : Int)) := tot_bound Gl.m Gl.mo gs (fun k hk => (ok_bounds (HE k hk)).2.2.1)
 have HR : Hid (0 < n → ∃ b off, ao = some ⟨b, off, none⟩ ∧ b < w.heap.size ∧ ∀ i, i < n → w.cell? ⟨b, off + i * 5, none⟩ = some (.int .i64 (gs.getD i Gl.none).s) ∧ w.cell? ⟨b, off + i * 5 + 1, none⟩ = some (.int .i64 (gs.getD i Gl.none).p) ∧ w.cell? ⟨b, off + i * 5 + 2, none⟩ = some (.int .i64 (gs.getD i Gl.none).po) ∧ w.cell? ⟨b, off + i * 5 + 3, none⟩ = some (.int .i64 (gs.getD i Gl.none).m) ∧ w.cell? ⟨b, off + i * 5 + 4, none⟩ = some (.int .i64 (gs.getD i Gl.none).mo)) := hr
 have HL : Hid (gs.length = n) := hl
 clear hr hl hok heach
 go_enter Tryz.func141, Tryz.ntmps141
 go_wp2
 obtain ⟨P, hP⟩ : ∃ P, P = w.heap.size + 1 := ⟨_, rfl⟩
 obtain ⟨R, hR⟩ : ∃ R, R = w.heap.size := ⟨_, rfl⟩
 have hPR : R ≠ P := by omega
 have hPw : w.heap.size ≤ P := by omega
 have hRw : w.heap.size ≤ R := by omega
 have F0 : Hid (Four ((w.alloc (.cells #[.int .i64 0, .int .i64 0, .int .i64 0, .int .i64 0] 219)).alloc (.cells #[.int .i64 0, .int .i64 0, .int .i64 0, .int .i64 0] 219)) 219 R [0, 0, 0, 0] ∧ Four ((w.alloc (.cells #[.int .i64 0, .int .i64 0, .int .i64 0, .int .i64 0] 219)).alloc (.cells #[.int .i64 0, .int .i64 0, .int .i64 0, .int .i64 0] 219)) 219 P [0, 0, 0, 0] ∧ Below w.heap.size w ((w.alloc (.cells #[.int .i64 0, .int .i64 0, .int .i64 0, .int .i64 0] 219)).alloc (.cells #[.int .i64 0, .int .i64 0, .int .i64 0, .int .i64 0] 219))) := by
  rw [hP, hR]
  refine ⟨Four.alloc (show Four (w.alloc (.cells #[.int .i64 0, .int .i64 0, .int .i64 0, .int .i64 0] 219)) 219 w.heap.size [0, 0, 0, 0] from ⟨heap_alloc_new w _, rfl⟩) _, ⟨?_, rfl⟩, ((Below.refl _ _).alloc (Nat.le_refl _) _).alloc (by simp) _⟩
  simpa using heap_alloc_new (w.alloc (.cells #[.int .i64 0, .int .i64 0, .int .i64 0, .int .i64 0] 219)) (.cells #[.int .i64 0, .int .i64 0, .int .i64 0, .int .i64 0] 219)
 rw [← hP, ← hR]
 clear hP hR
 go_loopw [11] (fun s wr => ∃ k : Nat, k ≤ n ∧ s = .int .i64 k ∧ Four wr 219 R [0, 0, 0, 0] ∧ Four wr 219 P (tot Gl.m Gl.mo (gs.take k)) ∧ Below w.heap.size w wr) (fun s _ => n - (intOf s).toNat)
 case atStart => exact ⟨0, by omega, rfl, F0.1, F0.2.1, F0.2.2⟩
 case round =>
  obtain ⟨k, hk, rfl, hfr, hfp, hbel⟩ := hrel
  have hlen : gs.length = n := HL
  by_cases hkn : k < n
  ·have hki : (k : Int) < (n : Int) := by omega
   obtain ⟨b, off, rfl, hb, hc⟩ := HR (by omega)
   obtain ⟨t, ht⟩ : ∃ t, t = gs.getD k Gl.none := ⟨_, rfl⟩
   obtain ⟨hc0, hc1, hc2, hc3, hc4⟩ := hc k hkn
   rw [← ht] at hc0 hc1 hc2 hc3 hc4
   have hob := ok_bounds (HE k (by omega))
   rw [← ht] at hob
   obtain ⟨⟨b1, b2⟩, ⟨b3, b4⟩, ⟨b5, b6⟩, ⟨b7, b8⟩, ⟨b9, b10⟩⟩ := hob
   have ep : tot Gl.m Gl.mo (gs.take (k + 1)) = (tot Gl.m Gl.mo (gs.take k)).set t.mo.toNat ((tot Gl.m Gl.mo (gs.take k)).getD t.mo.toNat 0 + t.m) := by rw [take_snoc (by omega), tot_snoc, ← ht]
   have bp := HBP k (by omega) t.mo.toNat
   have g0 := (hbel.cell (p := ⟨b, off + k * 5, none⟩) hb).trans hc0
   have g1 := (hbel.cell (p := ⟨b, off + k * 5 + 1, none⟩) hb).trans hc1
   have g2 := (hbel.cell (p := ⟨b, off + k * 5 + 2, none⟩) hb).trans hc2
   have g3 := (hbel.cell (p := ⟨b, off + k * 5 + 3, none⟩) hb).trans hc3
   have g4 := (hbel.cell (p := ⟨b, off + k * 5 + 4, none⟩) hb).trans hc4
   obtain ⟨ts, tp, tpo, tm, tmo⟩ := t
   simp only at *
   obtain ⟨o, ho⟩ : ∃ o : Nat, tmo = (o : Int) := ⟨tmo.toNat, by omega⟩
   subst ho
   simp only [Int.toNat_natCast] at ep bp
   obtain ⟨X, hX⟩ : ∃ X, X = (tot Gl.m Gl.mo (gs.take k)).getD o 0 := ⟨_, rfl⟩
   rw [← hX] at bp ep
   have ho4 : o < 4 := by omega
   have hoi : (o : Int) < 4 := by omega
   have hw2 : IntKind.i64.wrap (X + tm) = X + tm := by rw [IntKind.wrap_i64]; omega
   have H1 : Hid (tot Gl.m Gl.mo (gs.take (k + 1)) = (tot Gl.m Gl.mo (gs.take k)).set o (X + tm) ∧ X = (tot Gl.m Gl.mo (gs.take k)).getD o 0) := ⟨ep, hX⟩
   have H2 : Hid (Four wr 219 R [0, 0, 0, 0] ∧ Four wr 219 P (tot Gl.m Gl.mo (gs.take k)) ∧ Below w.heap.size w wr) := ⟨hfr, hfp, hbel⟩
   clear hc hc0 hc1 hc2 hc3 hc4 ht hbel hfp hfr ep hX bp b1 b2 b3 b4 b5 b6 b7 b8 b9 b10
   go_wp2_with fail
   refine (minusOf_any _ _ _ _ _ _).mono ?_
   rintro e w2 ⟨rfl, hb2⟩
   have r2 := Four.below (H2.1.alloc _) hb2
   have p2 := Four.below (H2.2.1.alloc _) hb2
   have B2 : Below w.heap.size w w2 := (H2.2.2.alloc H2.2.2.size _).trans (hb2.mono (by have := H2.2.2.size; simp; omega))
   have cp := p2.cell o ho4
   rw [← H1.2] at cp
   have fp := p2.free
   have hPl := p2.lt
   have H3 : Hid (Four w2 219 R [0, 0, 0, 0] ∧ Four w2 219 P (tot Gl.m Gl.mo (gs.take k)) ∧ Below w.heap.size w w2) := ⟨r2, p2, B2⟩
   clear r2 p2 B2 hb2 H2 g0 g1 g2 g3 g4
   go_wp2
   go_region
   all_goals go_wp2
   all_goals
    go_roundw
    case rel =>
     refine ⟨k + 1, by omega, by go_num, ?_, ?_, ?_⟩
     ·exact ((H3.1.other hPR o _).alloc _).drew
     ·rw [H1.1]; exact ((H3.2.1.set o (X + tm)).alloc _).drew
     ·exact ((H3.2.2.setCell (p := ⟨P, o, none⟩) hPw _).alloc (by simp; exact H3.2.2.size) _).drew
    case measure => simp [intOf]; omega
  ·have hki : ¬ (k : Int) < (n : Int) := by omega
   obtain rfl : k = n := by omega
   rw [← hlen, List.take_length] at hfp
   obtain ⟨x0, x1, x2, x3, hx⟩ := four_parts (tot_length Gl.m Gl.mo gs)
   rw [hx] at hfp
   have HX : Hid (tot Gl.m Gl.mo gs = [x0, x1, x2, x3]) := hx
   have p0 : wr.cell? ⟨P, 0, none⟩ = some (.int .i64 x0) := hfp.cell 0 (by omega)
   have p1 : wr.cell? ⟨P, 1, none⟩ = some (.int .i64 x1) := hfp.cell 1 (by omega)
   have p2 : wr.cell? ⟨P, 2, none⟩ = some (.int .i64 x2) := hfp.cell 2 (by omega)
   have p3 : wr.cell? ⟨P, 3, none⟩ = some (.int .i64 x3) := hfp.cell 3 (by omega)
   have q0 : wr.cell? ⟨R, 0, none⟩ = some (.int .i64 0) := hfr.cell 0 (by omega)
   have q1 : wr.cell? ⟨R, 1, none⟩ = some (.int .i64 0) := hfr.cell 1 (by omega)
   have q2 : wr.cell? ⟨R, 2, none⟩ = some (.int .i64 0) := hfr.cell 2 (by omega)
   have q3 : wr.cell? ⟨R, 3, none⟩ = some (.int .i64 0) := hfr.cell 3 (by omega)
   have fr := hfr.free
   have s1 := (((hfr.set 0 x0).set 1 x1).set 2 x2).set 3 x3
   have c0 := s1.cell 0 (by omega)
   have c1 := s1.cell 1 (by omega)
   have c2 := s1.cell 2 (by omega)
   have c3 := s1.cell 3 (by omega)
   have HF : Hid (Below w.heap.size w ((((wr.setCell ⟨R, 0, none⟩ (.int .i64 x0)).setCell ⟨R, 1, none⟩ (.int .i64 x1)).setCell ⟨R, 2, none⟩ (.int .i64 x2)).setCell ⟨R, 3, none⟩ (.int .i64 x3)) ∧ True) := ⟨(((hbel.setCell (p := ⟨R, 0, none⟩) hRw _).setCell (p := ⟨R, 1, none⟩) hRw _).setCell (p := ⟨R, 2, none⟩) hRw _).setCell (p := ⟨R, 3, none⟩) hRw _, trivial⟩
   clear hfp hfr hbel s1 hx
   go_wp2
   refine bodyPost_ret (v := .agg #[.int .i64 x0, .int .i64 x1, .int .i64 x2, .int .i64 x3]) ?_ rfl ⟨by rw [show tot Gl.m Gl.mo gs = [x0, x1, x2, x3] from HX]; rfl, HF.1⟩
   simp [results, Tryz.results141, go_sem, c0, c1, c2, c3] at *
   try simp [c0, c1, c2, c3]
end Go.Proofs.YtojoehdmjkgnnaaGreat.Shr
