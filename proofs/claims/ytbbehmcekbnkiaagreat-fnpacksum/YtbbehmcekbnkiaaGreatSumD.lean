import Derived.Test.YtbbehmcekbnkiaaGreatInts
import Derived.Deep.RegionWith
import Derived.RegionTactic
namespace Go.Proofs.YtbbehmcekbnkiaaGreat.Shr
open Go.RowKit
set_option linter.unusedVariables false
set_option linter.unusedSimpArgs false
structure Gl where
 s : Int
 p : Int
 po : Int
 m : Int
 mo : Int
abbrev Gl.v (g : Gl) : Value := glueV g.s g.p g.po g.m g.mo
def Gl.none : Gl := ⟨0, 0, 0, 0, 0⟩
def GRow (w : World) (v : Value) (gs : List Gl) : Prop :=
 ∃ ao n cap, v = .slice ao n cap ∧ gs.length = n ∧ (0 < n → ∃ b off, ao = some ⟨b, off, none⟩ ∧ b < w.heap.size ∧ ∀ i, i < n → w.cell? ⟨b, off + i * 5, none⟩ = some (.int .i64 (gs.getD i Gl.none).s) ∧ w.cell? ⟨b, off + i * 5 + 1, none⟩ = some (.int .i64 (gs.getD i Gl.none).p) ∧ w.cell? ⟨b, off + i * 5 + 2, none⟩ = some (.int .i64 (gs.getD i Gl.none).po) ∧ w.cell? ⟨b, off + i * 5 + 3, none⟩ = some (.int .i64 (gs.getD i Gl.none).m) ∧ w.cell? ⟨b, off + i * 5 + 4, none⟩ = some (.int .i64 (gs.getD i Gl.none).mo))
theorem GRow.below {w w' : World} {v : Value} {gs : List Gl} (h : GRow w v gs) (hb : Below w.heap.size w w') : GRow w' v gs := by
 obtain ⟨ao, n, cap, rfl, hn, hc⟩ := h
 refine ⟨ao, n, cap, rfl, hn, fun hp => ?_⟩
 obtain ⟨b, off, rfl, hlt, hcell⟩ := hc hp
 refine ⟨b, off, rfl, Nat.lt_of_lt_of_le hlt hb.size, fun i hi => ?_⟩
 obtain ⟨h0, h1, h2, h3, h4⟩ := hcell i hi
 exact ⟨(hb.cell (p := ⟨b, off + i * 5, none⟩) hlt).trans h0, (hb.cell (p := ⟨b, off + i * 5 + 1, none⟩) hlt).trans h1, (hb.cell (p := ⟨b, off + i * 5 + 2, none⟩) hlt).trans h2, (hb.cell (p := ⟨b, off + i * 5 + 3, none⟩) hlt).trans h3, (hb.cell (p := ⟨b, off + i * 5 + 4, none⟩) hlt).trans h4⟩
theorem Tryz.info34 : (Tryz.prog.info? 34).map (fun i => (i.zero, i.size, i.bytes)) = some (some (.agg #[.int .i64 0, .int .i64 0, .int .i64 0, .int .i64 0, .int .i64 0]), 5, 40) := by kernel_rfl
def GPart (w : World) (g n k : Nat) (gs : List Gl) : Prop :=
 ∃ cur : Array Value, w.heap[g]? = some (.cells cur 34 (0, 0)) ∧ cur.size = n * 5 ∧ ∀ i, i < k → cur[i * 5]? = some (.int .i64 (gs.getD i Gl.none).s) ∧ cur[i * 5 + 1]? = some (.int .i64 (gs.getD i Gl.none).p) ∧ cur[i * 5 + 2]? = some (.int .i64 (gs.getD i Gl.none).po) ∧ cur[i * 5 + 3]? = some (.int .i64 (gs.getD i Gl.none).m) ∧ cur[i * 5 + 4]? = some (.int .i64 (gs.getD i Gl.none).mo)
theorem GPart.row {w : World} {g n cap : Nat} {gs : List Gl} (h : GPart w g n n gs) (hn : gs.length = n) : GRow w (.slice (some ⟨g, 0, none⟩) n cap) gs := by
 obtain ⟨cur, hg, hs, hc⟩ := h
 refine ⟨_, n, cap, rfl, hn, fun _ => ⟨g, 0, rfl, (Array.getElem?_eq_some_iff.1 hg).1, fun i hi => ?_⟩⟩
 obtain ⟨h0, h1, h2, h3, h4⟩ := hc i hi
 rw [Nat.zero_add, cell_of_row w g _ cur 34 _ hg, cell_of_row w g _ cur 34 _ hg, cell_of_row w g _ cur 34 _ hg, cell_of_row w g _ cur 34 _ hg, cell_of_row w g _ cur 34 _ hg]
 exact ⟨h0, h1, h2, h3, h4⟩
theorem GPart.put {w : World} {g n k : Nat} {gs : List Gl} (h : GPart w g n k gs) (hk : k < n) {t : Gl} (ht : t = gs.getD k Gl.none) :
 GPart ((((((w.setCell ⟨g, k * 5, none⟩ (.int .i64 t.s)).setCell ⟨g, k * 5 + 1, none⟩ (.int .i64 t.p)).setCell ⟨g, k * 5 + 2, none⟩ (.int .i64 t.po)).setCell ⟨g, k * 5 + 3, none⟩ (.int .i64 t.m)).setCell ⟨g, k * 5 + 4, none⟩ (.int .i64 t.mo))) g n (k + 1) gs := by
 obtain ⟨cur, hg, hs, hc⟩ := h
 have e0 := heap_setCell_same w g (k * 5) cur 34 (.int .i64 t.s) hg
 have e1 := heap_setCell_same _ g (k * 5 + 1) _ 34 (.int .i64 t.p) e0
 have e2 := heap_setCell_same _ g (k * 5 + 2) _ 34 (.int .i64 t.po) e1
 have e3 := heap_setCell_same _ g (k * 5 + 3) _ 34 (.int .i64 t.m) e2
 have e4 := heap_setCell_same _ g (k * 5 + 4) _ 34 (.int .i64 t.mo) e3
 refine ⟨_, e4, by simp [hs], fun i hi => ?_⟩
 by_cases hik : i = k
 ·subst hik
  subst ht
  simp only [Array.getElem?_setIfInBounds, Array.size_setIfInBounds, hs]
  refine ⟨?_, ?_, ?_, ?_, ?_⟩ <;> (simp; omega)
 ·obtain ⟨h0, h1, h2, h3, h4⟩ := hc i (by omega)
  simp only [Array.getElem?_setIfInBounds, Array.size_setIfInBounds]
  refine ⟨?_, ?_, ?_, ?_, ?_⟩
  ·rw [if_neg (by omega), if_neg (by omega), if_neg (by omega), if_neg (by omega), if_neg (by omega)]; exact h0
  ·rw [if_neg (by omega), if_neg (by omega), if_neg (by omega), if_neg (by omega), if_neg (by omega)]; exact h1
  ·rw [if_neg (by omega), if_neg (by omega), if_neg (by omega), if_neg (by omega), if_neg (by omega)]; exact h2
  ·rw [if_neg (by omega), if_neg (by omega), if_neg (by omega), if_neg (by omega), if_neg (by omega)]; exact h3
  ·rw [if_neg (by omega), if_neg (by omega), if_neg (by omega), if_neg (by omega), if_neg (by omega)]; exact h4
theorem GPart.cells {w : World} {g n k : Nat} {gs : List Gl} (h : GPart w g n k gs) (j : Nat) (hj : j < n * 5) : ∃ x, w.cell? ⟨g, j, none⟩ = some x := by
 obtain ⟨cur, hg, hs, _⟩ := h
 rw [cell_of_row w g _ cur 34 _ hg]
 exact ⟨_, Array.getElem?_eq_getElem (by omega)⟩
theorem GPart.free {w : World} {g n k : Nat} {gs : List Gl} (h : GPart w g n k gs) (j : Nat) : w.frozen? ⟨g, j, none⟩ = false := by
 obtain ⟨cur, hg, hs, _⟩ := h
 exact frozen_of_row w g j cur 34 hg
theorem GPart.below {w w' : World} {g n k : Nat} {gs : List Gl} (h : GPart w g n k gs) (hb : Below w.heap.size w w') : GPart w' g n k gs := by
 obtain ⟨cur, hg, hs, hc⟩ := h
 exact ⟨cur, (hb.block g (Array.getElem?_eq_some_iff.1 hg).1).trans hg, hs, hc⟩
theorem GPart.lt {w : World} {g n k : Nat} {gs : List Gl} (h : GPart w g n k gs) : g < w.heap.size := by
 obtain ⟨cur, hg, _⟩ := h
 exact (Array.getElem?_eq_some_iff.1 hg).1
set_option maxHeartbeats 2000000 in
def Only (g : Nat) (w w' : World) : Prop := w'.heap.size = w.heap.size ∧ (∀ b, b ≠ g → w'.heap[b]? = w.heap[b]?) ∧ Below g w w'
theorem Only.set {g : Nat} {w w' : World} (h : Only g w w') (j : Nat) (v : Value) : Only g w (w'.setCell ⟨g, j, none⟩ v) :=
 ⟨by simpa using h.1, fun b hb => (Below.heap_setCell _ _ _ _ hb).trans (h.2.1 b hb), h.2.2.setCell (Nat.le_refl _) _⟩
abbrev Gl.ok (g : Gl) : Bool := okB g.s g.p g.po g.m g.mo
def glsOk (gs : List Gl) : Bool := decide (gs.length ≤ 10000) && gs.all (fun g => g.ok)
theorem glsOk_long {gs : List Gl} (h : 10000 < gs.length) : glsOk gs = false := by simp [glsOk]; omega
theorem glsOk_no {gs : List Gl} {k : Nat} (hk : k < gs.length) (h : (gs.getD k Gl.none).ok = false) : glsOk gs = false := by
 cases hq : glsOk gs with
 | false => rfl
 | true =>
  simp only [glsOk, Bool.and_eq_true, List.all_eq_true, decide_eq_true_eq] at hq
  have hm := hq.2 _ (List.getElem_mem (l := gs) (n := k) hk)
  simp only [List.getD, List.getElem?_eq_getElem hk, Option.getD_some] at h
  rw [h] at hm
  cases hm
theorem glsOk_yes {gs : List Gl} (hl : gs.length ≤ 10000) (h : ∀ k, k < gs.length → (gs.getD k Gl.none).ok = true) : glsOk gs = true := by
 simp only [glsOk, Bool.and_eq_true, List.all_eq_true, decide_eq_true_eq]
 refine ⟨hl, fun t hm => ?_⟩
 obtain ⟨i, hi, rfl⟩ := List.getElem_of_mem hm
 have := h i hi
 simpa [List.getD, List.getElem?_eq_getElem hi] using this
theorem glsOk_each {gs : List Gl} (h : glsOk gs = true) : gs.length ≤ 10000 ∧ ∀ k, k < gs.length → (gs.getD k Gl.none).ok = true := by
 simp only [glsOk, Bool.and_eq_true, List.all_eq_true, decide_eq_true_eq] at h
 refine ⟨h.1, fun k hk => ?_⟩
 have := h.2 _ (List.getElem_mem (l := gs) (n := k) hk)
 simpa [List.getD, List.getElem?_eq_getElem hk] using this
theorem ok_bounds {g : Gl} (h : g.ok = true) : (-1073741823 ≤ g.s ∧ g.s ≤ 1073741823) ∧ (-1073741823 ≤ g.p ∧ g.p ≤ 1073741823) ∧ (-1073741823 ≤ g.m ∧ g.m ≤ 1073741823) ∧ (0 ≤ g.po ∧ g.po ≤ 3) ∧ (0 ≤ g.mo ∧ g.mo ≤ 3) := by
 simp only [okB, fitsB, orderB, Bool.and_eq_true, decide_eq_true_eq] at h
 obtain ⟨⟨⟨⟨h1, h2⟩, h3⟩, h4⟩, h5⟩ := h
 exact ⟨h1, h2, h3, h4, h5⟩
def tot (f o : Gl → Int) (gs : List Gl) : List Int := gs.foldl (fun ys g => ys.set (o g).toNat (ys.getD (o g).toNat 0 + f g)) [0, 0, 0, 0]
theorem tot_snoc (f o : Gl → Int) (gs : List Gl) (g : Gl) : tot f o (gs ++ [g]) = (tot f o gs).set (o g).toNat ((tot f o gs).getD (o g).toNat 0 + f g) := by simp [tot, List.foldl_append]
theorem take_snoc {gs : List Gl} {k : Nat} (h : k < gs.length) : gs.take (k + 1) = gs.take k ++ [gs.getD k Gl.none] := by
 rw [List.take_succ_eq_append_getElem h]
 simp [List.getD, List.getElem?_eq_getElem h]
theorem tot_length_aux (f o : Gl → Int) : ∀ (gs : List Gl) (ys : List Int), (gs.foldl (fun ys g => ys.set (o g).toNat (ys.getD (o g).toNat 0 + f g)) ys).length = ys.length
 | [], ys => rfl
 | g :: gs, ys => by rw [List.foldl_cons, tot_length_aux f o gs]; simp
theorem tot_length (f o : Gl → Int) (gs : List Gl) : (tot f o gs).length = 4 := tot_length_aux f o gs _
theorem tot_bound (f o : Gl → Int) (gs : List Gl) (h : ∀ k, k < gs.length → -1073741823 ≤ f (gs.getD k Gl.none) ∧ f (gs.getD k Gl.none) ≤ 1073741823) :
 ∀ k, k ≤ gs.length → ∀ j, -(1073741823 * (k : Int)) ≤ (tot f o (gs.take k)).getD j 0 ∧ (tot f o (gs.take k)).getD j 0 ≤ 1073741823 * (k : Int)
 | 0, _, j => by
  rw [List.take_zero]
  show -(1073741823 * ((0 : Nat) : Int)) ≤ ([0, 0, 0, 0] : List Int).getD j 0 ∧ ([0, 0, 0, 0] : List Int).getD j 0 ≤ 1073741823 * ((0 : Nat) : Int)
  have : ([0, 0, 0, 0] : List Int).getD j 0 = 0 := by
   match j with
   | 0 => rfl
   | 1 => rfl
   | 2 => rfl
   | 3 => rfl
   | j + 4 => rfl
  rw [this]
  simp
 | k + 1, hk, j => by
  have ih := tot_bound f o gs h k (by omega)
  have hb := h k (by omega)
  rw [take_snoc (by omega), tot_snoc]
  generalize gs.getD k Gl.none = g at hb
  generalize tot f o (gs.take k) = ys at ih
  by_cases hj : j = (o g).toNat
  ·subst hj
   by_cases hl : (o g).toNat < ys.length
   ·have e : (ys.set (o g).toNat (ys.getD (o g).toNat 0 + f g)).getD (o g).toNat 0 = ys.getD (o g).toNat 0 + f g := by simp [List.getD, hl]
    rw [e]
    have := ih (o g).toNat
    push_cast
    omega
   ·have e : (ys.set (o g).toNat (ys.getD (o g).toNat 0 + f g)).getD (o g).toNat 0 = 0 := by simp [List.getD, List.getElem?_set, hl]
    rw [e]
    push_cast
    omega
  ·have e : (ys.set (o g).toNat (ys.getD (o g).toNat 0 + f g)).getD j 0 = ys.getD j 0 := by simp [List.getD, List.getElem?_set, Ne.symm hj]
   rw [e]
   have := ih j
   push_cast
   omega
def siz (gs : List Gl) : Int := (gs.map (fun g => g.s)).sum
theorem siz_snoc (gs : List Gl) (g : Gl) : siz (gs ++ [g]) = siz gs + g.s := by simp [siz]
theorem siz_bound (gs : List Gl) (h : ∀ k, k < gs.length → -1073741823 ≤ (gs.getD k Gl.none).s ∧ (gs.getD k Gl.none).s ≤ 1073741823) :
 ∀ k, k ≤ gs.length → -(1073741823 * (k : Int)) ≤ siz (gs.take k) ∧ siz (gs.take k) ≤ 1073741823 * (k : Int)
 | 0, _ => by simp [siz]
 | k + 1, hk => by
  have ih := siz_bound gs h k (by omega)
  have hb := h k (by omega)
  rw [take_snoc (by omega), siz_snoc]
  push_cast
  omega
set_option maxHeartbeats 1000000 in
theorem specGlues_any {v : Value} {gs : List Gl} {w : World} (h : GRow w v gs) (hn : gs.length ≤ 1048576) :
 Calls Tryz.prog 111 #[v] w fun e w' => e = .returned (.bool (glsOk gs)) ∧ Below w.heap.size w w' := by
 obtain ⟨ao, n, cap, rfl, hl, hr⟩ := h
 rw [hl] at hn
 by_cases hbig : 10000 < n
 ·have hbi : (10000 : Int) < (n : Int) := by omega
  go_enter Tryz.func111, Tryz.ntmps111
  go_wp2
  go_ret
  exact ⟨retB (glsOk_long (by omega)).symm, Below.refl _ _⟩
 ·have hbi : ¬ (10000 : Int) < (n : Int) := by omega
  have HR : Hid (0 < n → ∃ b off, ao = some ⟨b, off, none⟩ ∧ b < w.heap.size ∧ ∀ i, i < n → w.cell? ⟨b, off + i * 5, none⟩ = some (.int .i64 (gs.getD i Gl.none).s) ∧ w.cell? ⟨b, off + i * 5 + 1, none⟩ = some (.int .i64 (gs.getD i Gl.none).p) ∧ w.cell? ⟨b, off + i * 5 + 2, none⟩ = some (.int .i64 (gs.getD i Gl.none).po) ∧ w.cell? ⟨b, off + i * 5 + 3, none⟩ = some (.int .i64 (gs.getD i Gl.none).m) ∧ w.cell? ⟨b, off + i * 5 + 4, none⟩ = some (.int .i64 (gs.getD i Gl.none).mo)) := hr
  have HL : Hid (gs.length = n) := hl
  clear hr hl
  go_enter Tryz.func111, Tryz.ntmps111
  go_wp2
  go_loopw [3] (fun s wr => ∃ k : Nat, k ≤ n ∧ s = .int .i64 k ∧ (∀ j, j < k → (gs.getD j Gl.none).ok = true) ∧ Below w.heap.size w wr) (fun s _ => n - (intOf s).toNat)
  case atStart => exact ⟨0, by omega, rfl, fun j hj => by omega, Below.refl _ _⟩
  case round =>
   obtain ⟨k, hk, rfl, hok, hbel⟩ := hrel
   have HK : Hid (∀ j, j < k → (gs.getD j Gl.none).ok = true) := hok
   have HB : Hid (Below w.heap.size w wr) := hbel
   clear hok hbel
   by_cases hkn : k < n
   ·have hki : (k : Int) < (n : Int) := by omega
    obtain ⟨b, off, rfl, hb, hc⟩ := HR (by omega)
    obtain ⟨t, ht⟩ : ∃ t, t = gs.getD k Gl.none := ⟨_, rfl⟩
    obtain ⟨hc0, hc1, hc2, hc3, hc4⟩ := hc k hkn
    rw [← ht] at hc0 hc1 hc2 hc3 hc4
    have g0 := (HB.cell (p := ⟨b, off + k * 5, none⟩) hb).trans hc0
    have g1 := (HB.cell (p := ⟨b, off + k * 5 + 1, none⟩) hb).trans hc1
    have g2 := (HB.cell (p := ⟨b, off + k * 5 + 2, none⟩) hb).trans hc2
    have g3 := (HB.cell (p := ⟨b, off + k * 5 + 3, none⟩) hb).trans hc3
    have g4 := (HB.cell (p := ⟨b, off + k * 5 + 4, none⟩) hb).trans hc4
    have HT : Hid (t = gs.getD k Gl.none) := ht
    clear hc hc0 hc1 hc2 hc3 hc4 ht
    go_wp2_with fail
    refine (specGlueOk_any _ _ _ _ _ _).mono ?_
    rintro e w2 ⟨rfl, hb2⟩
    have HB2 : Hid (Below w.heap.size w w2) := Below.trans HB (hb2.mono (Below.size HB))
    clear hb2 g0 g1 g2 g3 g4 HB
    obtain ⟨ok, hok⟩ : ∃ ok, ok = okB t.s t.p t.po t.m t.mo := ⟨_, rfl⟩
    rw [← hok]
    have HOK : Hid (ok = okB t.s t.p t.po t.m t.mo) := hok
    clear hok
    cases ok
    ·go_wp2
     go_ret
     refine ⟨retB (glsOk_no (k := k) (by rw [show gs.length = n from HL]; exact hkn) ?_).symm, HB2⟩
     rw [← show t = gs.getD k Gl.none from HT]
     exact Eq.symm (show false = okB t.s t.p t.po t.m t.mo from HOK)
    ·go_wp2
     go_roundw
     case rel =>
      refine ⟨k + 1, by omega, by go_num, fun j hj => ?_, HB2⟩
      by_cases hjk : j = k
      ·subst hjk; rw [← show t = gs.getD j Gl.none from HT]; exact Eq.symm (show true = okB t.s t.p t.po t.m t.mo from HOK)
      ·exact HK j (by omega)
     case measure => simp [intOf]; omega
   ·have hki : ¬ (k : Int) < (n : Int) := by omega
    go_wp2
    go_ret
    exact ⟨retB (glsOk_yes (by rw [show gs.length = n from HL]; omega) (fun j hj => HK j (by have := (show gs.length = n from HL); omega))).symm, HB⟩
set_option maxHeartbeats 1000000 in
theorem implGlues_any {v : Value} {gs : List Gl} {w : World} (h : GRow w v gs) (hn : gs.length ≤ 1048576) :
 Calls Tryz.prog 81 #[v] w fun e w' => e = .returned (.bool (glsOk gs)) ∧ Below w.heap.size w w' := by
 obtain ⟨ao, n, cap, rfl, hl, hr⟩ := h
 rw [hl] at hn
 by_cases hbig : 10000 < n
 ·have hbi : (10000 : Int) < (n : Int) := by omega
  go_enter Tryz.func81, Tryz.ntmps81
  go_wp2
  go_ret
  exact ⟨retB (glsOk_long (by omega)).symm, Below.refl _ _⟩
 ·have hbi : ¬ (10000 : Int) < (n : Int) := by omega
  have HR : Hid (0 < n → ∃ b off, ao = some ⟨b, off, none⟩ ∧ b < w.heap.size ∧ ∀ i, i < n → w.cell? ⟨b, off + i * 5, none⟩ = some (.int .i64 (gs.getD i Gl.none).s) ∧ w.cell? ⟨b, off + i * 5 + 1, none⟩ = some (.int .i64 (gs.getD i Gl.none).p) ∧ w.cell? ⟨b, off + i * 5 + 2, none⟩ = some (.int .i64 (gs.getD i Gl.none).po) ∧ w.cell? ⟨b, off + i * 5 + 3, none⟩ = some (.int .i64 (gs.getD i Gl.none).m) ∧ w.cell? ⟨b, off + i * 5 + 4, none⟩ = some (.int .i64 (gs.getD i Gl.none).mo)) := hr
  have HL : Hid (gs.length = n) := hl
  clear hr hl
  go_enter Tryz.func81, Tryz.ntmps81
  go_wp2
  go_loopw [10] (fun s wr => ∃ k : Nat, k ≤ n ∧ s = .int .i64 k ∧ (∀ j, j < k → (gs.getD j Gl.none).ok = true) ∧ Below w.heap.size w wr) (fun s _ => n - (intOf s).toNat)
  case atStart => exact ⟨0, by omega, rfl, fun j hj => by omega, Below.refl _ _⟩
  case round =>
   obtain ⟨k, hk, rfl, hok, hbel⟩ := hrel
   have HK : Hid (∀ j, j < k → (gs.getD j Gl.none).ok = true) := hok
   have HB : Hid (Below w.heap.size w wr) := hbel
   clear hok hbel
   by_cases hkn : k < n
   ·have hki : (k : Int) < (n : Int) := by omega
    obtain ⟨b, off, rfl, hb, hc⟩ := HR (by omega)
    obtain ⟨t, ht⟩ : ∃ t, t = gs.getD k Gl.none := ⟨_, rfl⟩
    obtain ⟨hc0, hc1, hc2, hc3, hc4⟩ := hc k hkn
    rw [← ht] at hc0 hc1 hc2 hc3 hc4
    have g0 := (HB.cell (p := ⟨b, off + k * 5, none⟩) hb).trans hc0
    have g1 := (HB.cell (p := ⟨b, off + k * 5 + 1, none⟩) hb).trans hc1
    have g2 := (HB.cell (p := ⟨b, off + k * 5 + 2, none⟩) hb).trans hc2
    have g3 := (HB.cell (p := ⟨b, off + k * 5 + 3, none⟩) hb).trans hc3
    have g4 := (HB.cell (p := ⟨b, off + k * 5 + 4, none⟩) hb).trans hc4
    have HT : Hid (t = gs.getD k Gl.none) := ht
    clear hc hc0 hc1 hc2 hc3 hc4 ht
    go_wp2_with fail
    refine (implGlueOk_any _ _ _ _ _ _).mono ?_
    rintro e w2 ⟨rfl, hb2⟩
    have HB2 : Hid (Below w.heap.size w w2) := Below.trans (Below.alloc HB (Below.size HB) _) (hb2.mono (by have := Below.size HB; simp; omega))
    clear hb2 g0 g1 g2 g3 g4 HB
    obtain ⟨ok, hok⟩ : ∃ ok, ok = okB t.s t.p t.po t.m t.mo := ⟨_, rfl⟩
    rw [← hok]
    have HOK : Hid (ok = okB t.s t.p t.po t.m t.mo) := hok
    clear hok
    cases ok
    ·go_wp2
     go_ret
     refine ⟨retB (glsOk_no (k := k) (by rw [show gs.length = n from HL]; exact hkn) ?_).symm, HB2⟩
     rw [← show t = gs.getD k Gl.none from HT]
     exact Eq.symm (show false = okB t.s t.p t.po t.m t.mo from HOK)
    ·go_wp2
     go_roundw
     case rel =>
      refine ⟨k + 1, by omega, by go_num, fun j hj => ?_, HB2⟩
      by_cases hjk : j = k
      ·subst hjk; rw [← show t = gs.getD j Gl.none from HT]; exact Eq.symm (show true = okB t.s t.p t.po t.m t.mo from HOK)
      ·exact HK j (by omega)
     case measure => simp [intOf]; omega
   ·have hki : ¬ (k : Int) < (n : Int) := by omega
    go_wp2
    go_ret
    exact ⟨retB (glsOk_yes (by rw [show gs.length = n from HL]; omega) (fun j hj => HK j (by have := (show gs.length = n from HL); omega))).symm, HB⟩
def sumN (gs : List Gl) : Int := if glsOk gs then siz gs else 0
def sumP (gs : List Gl) : List Int := if glsOk gs then tot Gl.p Gl.po gs else []
def sumM (gs : List Gl) : List Int := if glsOk gs then tot Gl.m Gl.mo gs else []
theorem Tryz.info2 : (Tryz.prog.info? 2).map (fun i => (i.zero, i.size, i.bytes)) = some (some (.int .i64 0), 1, 8) := by kernel_rfl
def Four (w : World) (e g : Nat) (xs : List Int) : Prop := w.heap[g]? = some (.cells (xs.map (Value.int .i64)).toArray e (0, 0)) ∧ xs.length = 4
theorem Four.cell {w : World} {e g : Nat} {xs : List Int} (h : Four w e g xs) (j : Nat) (hj : j < 4) : w.cell? ⟨g, j, none⟩ = some (.int .i64 (xs.getD j 0)) := by
 rw [cell_of_row w g j _ _ _ h.1]
 simp [List.getElem?_map, List.getD, List.getElem?_eq_getElem (show j < xs.length by have := h.2; omega)]
theorem Four.free {w : World} {e g : Nat} {xs : List Int} (h : Four w e g xs) (j : Nat) : w.frozen? ⟨g, j, none⟩ = false := frozen_of_row w g j _ _ h.1
theorem Four.set {w : World} {e g : Nat} {xs : List Int} (h : Four w e g xs) (j : Nat) (z : Int) : Four (w.setCell ⟨g, j, none⟩ (.int .i64 z)) e g (xs.set j z) := by
 refine ⟨?_, by rw [List.length_set]; exact h.2⟩
 have e1 : ((xs.set j z).map (Value.int .i64)).toArray = ((xs.map (Value.int .i64)).toArray).setIfInBounds j (.int .i64 z) := by
  apply Array.ext'
  simp [Array.toList_setIfInBounds, List.map_set]
 rw [e1]
 exact heap_setCell_same w g j _ _ _ h.1
theorem Four.other {w : World} {e g g' : Nat} {xs : List Int} (h : Four w e g xs) (hne : g ≠ g') (j : Nat) (v : Value) : Four (w.setCell ⟨g', j, none⟩ v) e g xs := ⟨(Below.heap_setCell w ⟨g', j, none⟩ v g hne).trans h.1, h.2⟩
theorem Four.lt {w : World} {e g : Nat} {xs : List Int} (h : Four w e g xs) : g < w.heap.size := (Array.getElem?_eq_some_iff.1 h.1).1
theorem Four.alloc {w : World} {e g : Nat} {xs : List Int} (h : Four w e g xs) (o : Obj) : Four (w.alloc o) e g xs := ⟨(Below.heap_alloc w o g h.lt).trans h.1, h.2⟩
theorem Four.drew {w : World} {e g : Nat} {xs : List Int} (h : Four w e g xs) : Four w.drew e g xs := h
theorem Four.below {w w' : World} {e g : Nat} {xs : List Int} (h : Four w e g xs) (hb : Below w.heap.size w w') : Four w' e g xs := ⟨(hb.block g h.lt).trans h.1, h.2⟩
theorem Four.row {w : World} {e g cap : Nat} {xs : List Int} (h : Four w e g xs) : Row w (.slice (some ⟨g, 0, none⟩) 4 cap) xs :=
 ⟨_, 4, cap, rfl, h.2, fun _ => ⟨g, 0, rfl, h.lt, fun i hi => by rw [Nat.zero_add]; exact h.cell i hi⟩⟩
theorem Four.of_own {w : World} {base g : Nat} {xs : List Int} (h : w.ownsRow base 2 1 (.slice (some ⟨g, 0, none⟩) 4 4) 4 (xs.map (Value.int .i64))) : Four w 2 g xs := by
 have hl : xs.length = 4 := by simpa using h.1
 rcases h.2 with ⟨h', _⟩ | ⟨g', cap', cur, h', _, hg, _, _, hcs, htake⟩
 ·simp at h'
 ·simp only [Value.slice.injEq, Option.some.injEq, Addr.mk.injEq, and_true, true_and] at h'
  obtain ⟨rfl, rfl⟩ := h'
  refine ⟨?_, hl⟩
  rw [hg, ← htake, List.take_of_length_le (by rw [Array.length_toList]; omega)]
theorem Four.of_grown {w w1 : World} {e g : Nat} {xs : List Int} {r : Option Nat} (h : Four w e g xs) (hg : w.grownBy w1 r) (hr : ∀ k, r = some k → g ≠ k) : Four w1 e g xs :=
 ⟨(hg.block g h.lt (fun he => hr g he.symm rfl)).trans h.1, h.2⟩
theorem made4 : (madeCells (Value.cells (.int .i64 0)) (4 * 1)).toList = ([0, 0, 0, 0] : List Int).map (Value.int .i64) := by
 show (madeCells #[Value.int .i64 0] 4).toList = _
 rw [toList_madeCells_one]
 rfl
set_option maxRecDepth 20000 in
set_option maxHeartbeats 4000000 in
theorem specSum_any {v : Value} {gs : List Gl} {w : World} (h : GRow w v gs) (hn : gs.length ≤ 1048576) :
 Calls Tryz.prog 110 #[v] w fun e w' => (∃ v1 v2, e = .returned (.tuple #[.int .i64 (sumN gs), v1, v2]) ∧ Row w' v1 (sumP gs) ∧ Row w' v2 (sumM gs)) ∧ Below w.heap.size w w' := by
 have HG : Hid (GRow w v gs) := h
 obtain ⟨ao, n, cap, rfl, hl, hr⟩ := h
 rw [hl] at hn
 have HR : Hid (0 < n → ∃ b off, ao = some ⟨b, off, none⟩ ∧ b < w.heap.size ∧ ∀ i, i < n → w.cell? ⟨b, off + i * 5, none⟩ = some (.int .i64 (gs.getD i Gl.none).s) ∧ w.cell? ⟨b, off + i * 5 + 1, none⟩ = some (.int .i64 (gs.getD i Gl.none).p) ∧ w.cell? ⟨b, off + i * 5 + 2, none⟩ = some (.int .i64 (gs.getD i Gl.none).po) ∧ w.cell? ⟨b, off + i * 5 + 3, none⟩ = some (.int .i64 (gs.getD i Gl.none).m) ∧ w.cell? ⟨b, off + i * 5 + 4, none⟩ = some (.int .i64 (gs.getD i Gl.none).mo)) := hr
 have HL : Hid (gs.length = n) := hl
 clear hr hl
 obtain ⟨i0, hi, hz0, hz1, hz2⟩ := info_parts Tryz.info2
 have HI : Hid (i0.bytes = 8) := hz2
 clear hz2
 go_enter Tryz.func110, Tryz.ntmps110
 go_wp2_with fail
 refine (specGlues_any HG (by rw [show gs.length = n from HL]; exact hn)).mono ?_
 rintro e w1 ⟨rfl, hb1⟩
 have HB1 : Hid (Below w.heap.size w w1) := hb1
 clear hb1 HG
 obtain ⟨ok, hok⟩ : ∃ ok, ok = glsOk gs := ⟨_, rfl⟩
 rw [← hok]
 have HOK : Hid (ok = glsOk gs) := hok
 clear hok
 cases ok
 ·go_wp2
  go_ret3
  have hf : glsOk gs = false := Eq.symm (show false = glsOk gs from HOK)
  have e1 : sumN gs = 0 := by simp [sumN, hf]
  have e2 : sumP gs = [] := by simp [sumP, hf]
  have e3 : sumM gs = [] := by simp [sumM, hf]
  rw [e1, e2, e3]
  refine ⟨⟨_, _, rfl, ⟨_, 0, 0, rfl, rfl, fun h => by omega⟩, ⟨_, 0, 0, rfl, rfl, fun h => by omega⟩⟩, ?_⟩
  exact Below.alloc (Below.alloc HB1 (Below.size HB1) _) (by have := Below.size HB1; simp; omega) _
 ·have hz : w.heap.size ≤ w1.heap.size := Below.size HB1
  go_wp2_with (first
   | (refine wpList_make_full _ rfl _ _ 54 rfl w1.heap.size 2 i0 (.int .i64 0) 1 Tryz.underlying54 hi hz0 hz1 _ _ _ _ 4 rfl rfl rfl rfl (by rw [show i0.bytes = 8 from HI]; omega) (by unfold maxLen; omega) (Nat.le_refl _) ?_; intro w2 hown2 hgrow2; have f2 : Four w2 2 w1.heap.size [0, 0, 0, 0] := Four.of_own (by rw [← made4]; exact hown2); have B2 : Below w.heap.size w w2 := (Below.grown HB1 hgrow2 hz (by simp)); have F2 : Hid (Four w2 2 w1.heap.size [0, 0, 0, 0] ∧ Below w.heap.size w w2) := ⟨f2, B2⟩; have hz2 : w.heap.size ≤ w2.heap.size := B2.size; clear f2 B2 hown2 hgrow2)
   | (refine wpList_make_full _ rfl _ _ 54 rfl w2.heap.size 2 i0 (.int .i64 0) 1 Tryz.underlying54 hi hz0 hz1 _ _ _ _ 4 rfl rfl rfl rfl (by rw [show i0.bytes = 8 from HI]; omega) (by unfold maxLen; omega) (Nat.le_refl _) ?_; intro w3 hown3 hgrow3; have F3 : Hid (Four w3 2 w1.heap.size [0, 0, 0, 0] ∧ Four w3 2 w2.heap.size [0, 0, 0, 0] ∧ Below w.heap.size w w3) := ⟨Four.of_grown F2.1 hgrow3 (by simp), Four.of_own (by rw [← made4]; exact hown3), Below.grown F2.2 hgrow3 hz2 (by simp)⟩; clear hown3 hgrow3))
  obtain ⟨P, hP⟩ : ∃ P, P = w1.heap.size := ⟨_, rfl⟩
  obtain ⟨Q, hQ⟩ : ∃ Q, Q = w2.heap.size := ⟨_, rfl⟩
  have hPQ : P ≠ Q := by have := F2.1.lt; omega
  have hPw : w.heap.size ≤ P := by omega
  have hQw : w.heap.size ≤ Q := by omega
  have F0 : Hid (Four w3 2 P [0, 0, 0, 0] ∧ Four w3 2 Q [0, 0, 0, 0] ∧ Below w.heap.size w w3) := by rw [hP, hQ]; exact F3
  rw [← hP, ← hQ]
  clear hP hQ F2 F3 HB1
  have hgo : glsOk gs = true := Eq.symm (show true = glsOk gs from HOK)
  have heach := glsOk_each hgo
  have hn2 : n ≤ 10000 := by have := heach.1; have := (show gs.length = n from HL); omega
  have HE : Hid (∀ k, k < gs.length → (gs.getD k Gl.none).ok = true) := heach.2
  have HBS : Hid (∀ k, k ≤ gs.length → -(1073741823 * (k : Int)) ≤ siz (gs.take k) ∧ siz (gs.take k) ≤ 1073741823 * (k : Int)) := siz_bound gs (fun k hk => (ok_bounds (HE k hk)).1)
  have HBP : Hid (∀ k, k ≤ gs.length → ∀ j, -(1073741823 * (k : Int)) ≤ (tot Gl.p Gl.po (gs.take k)).getD j 0 ∧ (tot Gl.p Gl.po (gs.take k)).getD j 0 ≤ 1073741823 * (k : Int)) := tot_bound Gl.p Gl.po gs (fun k hk => (ok_bounds (HE k hk)).2.1)
  have HBM : Hid (∀ k, k ≤ gs.length → ∀ j, -(1073741823 * (k : Int)) ≤ (tot Gl.m Gl.mo (gs.take k)).getD j 0 ∧ (tot Gl.m Gl.mo (gs.take k)).getD j 0 ≤ 1073741823 * (k : Int)) := tot_bound Gl.m Gl.mo gs (fun k hk => (ok_bounds (HE k hk)).2.2.1)
  clear hgo heach
  go_loopw [5, 8] (fun s5 s8 wr => ∃ k : Nat, k ≤ n ∧ s8 = .int .i64 k ∧ s5 = .int .i64 (siz (gs.take k)) ∧ Four wr 2 P (tot Gl.p Gl.po (gs.take k)) ∧ Four wr 2 Q (tot Gl.m Gl.mo (gs.take k)) ∧ Below w.heap.size w wr) (fun _ s _ => n - (intOf s).toNat)
  case atStart => exact ⟨0, by omega, rfl, rfl, F0.1, F0.2.1, F0.2.2⟩
  case round =>
   obtain ⟨k, hk, rfl, rfl, hfp, hfq, hbel⟩ := hrel
   have hlen : gs.length = n := HL
   by_cases hkn : k < n
   ·have hki : (k : Int) < (n : Int) := by omega
    obtain ⟨b, off, rfl, hb, hc⟩ := HR (by omega)
    obtain ⟨t, ht⟩ : ∃ t, t = gs.getD k Gl.none := ⟨_, rfl⟩
    obtain ⟨hc0, hc1, hc2, hc3, hc4⟩ := hc k hkn
    rw [← ht] at hc0 hc1 hc2 hc3 hc4
    have HB : Hid (Below w.heap.size w wr ∧ True) := ⟨hbel, trivial⟩
    have hob := ok_bounds (HE k (by omega))
    rw [← ht] at hob
    obtain ⟨⟨b1, b2⟩, ⟨b3, b4⟩, ⟨b5, b6⟩, ⟨b7, b8⟩, ⟨b9, b10⟩⟩ := hob
    have es : siz (gs.take (k + 1)) = siz (gs.take k) + t.s := by rw [take_snoc (by omega), siz_snoc, ← ht]
    have ep : tot Gl.p Gl.po (gs.take (k + 1)) = (tot Gl.p Gl.po (gs.take k)).set t.po.toNat ((tot Gl.p Gl.po (gs.take k)).getD t.po.toNat 0 + t.p) := by rw [take_snoc (by omega), tot_snoc, ← ht]
    have em : tot Gl.m Gl.mo (gs.take (k + 1)) = (tot Gl.m Gl.mo (gs.take k)).set t.mo.toNat ((tot Gl.m Gl.mo (gs.take k)).getD t.mo.toNat 0 + t.m) := by rw [take_snoc (by omega), tot_snoc, ← ht]
    have bs := HBS k (by omega)
    have bp := HBP k (by omega) t.po.toNat
    have bm := HBM k (by omega) t.mo.toNat
    have g0 := (HB.1.cell (p := ⟨b, off + k * 5, none⟩) hb).trans hc0
    have g1 := (HB.1.cell (p := ⟨b, off + k * 5 + 1, none⟩) hb).trans hc1
    have g2 := (HB.1.cell (p := ⟨b, off + k * 5 + 2, none⟩) hb).trans hc2
    have g3 := (HB.1.cell (p := ⟨b, off + k * 5 + 3, none⟩) hb).trans hc3
    have g4 := (HB.1.cell (p := ⟨b, off + k * 5 + 4, none⟩) hb).trans hc4
    obtain ⟨ts, tp, tpo, tm, tmo⟩ := t
    simp only at *
    obtain ⟨o, ho⟩ : ∃ o : Nat, tpo = (o : Int) := ⟨tpo.toNat, by omega⟩
    obtain ⟨q, hq⟩ : ∃ q : Nat, tmo = (q : Int) := ⟨tmo.toNat, by omega⟩
    subst ho
    subst hq
    simp only [Int.toNat_natCast] at ep em bp bm
    obtain ⟨S, hS⟩ : ∃ S, S = siz (gs.take k) := ⟨_, rfl⟩
    obtain ⟨X, hX⟩ : ∃ X, X = (tot Gl.p Gl.po (gs.take k)).getD o 0 := ⟨_, rfl⟩
    obtain ⟨Y, hY⟩ : ∃ Y, Y = (tot Gl.m Gl.mo (gs.take k)).getD q 0 := ⟨_, rfl⟩
    have ho4 : o < 4 := by omega
    have hq4 : q < 4 := by omega
    have cp := hfp.cell o ho4
    have cq := hfq.cell q hq4
    rw [← hX] at cp bp ep
    rw [← hY] at cq bm em
    rw [← hS] at bs es ⊢
    have fp := hfp.free
    have fq := hfq.free
    have hPl := hfp.lt
    have hQl := hfq.lt
    have cpa : (wr.alloc (.cells #[.int .i64 ts, .int .i64 tp, .int .i64 (o : Int), .int .i64 tm, .int .i64 (q : Int)] 34)).cell? ⟨P, o, none⟩ = some (.int .i64 X) := (World.cell?_alloc_lt _ _ _ hPl).trans cp
    have cqa : ((wr.alloc (.cells #[.int .i64 ts, .int .i64 tp, .int .i64 (o : Int), .int .i64 tm, .int .i64 (q : Int)] 34)).setCell ⟨P, o, none⟩ (.int .i64 (X + tp))).cell? ⟨Q, q, none⟩ = some (.int .i64 Y) := (((hfq.alloc _).other (Ne.symm hPQ) o _).cell q hq4).trans (by rw [← hY])
    have fpa := (hfp.alloc (.cells #[.int .i64 ts, .int .i64 tp, .int .i64 (o : Int), .int .i64 tm, .int .i64 (q : Int)] 34)).free
    have hw1 : IntKind.i64.wrap (S + ts) = S + ts := by rw [IntKind.wrap_i64]; omega
    have hw2 : IntKind.i64.wrap (X + tp) = X + tp := by rw [IntKind.wrap_i64]; omega
    have hw3 : IntKind.i64.wrap (Y + tm) = Y + tm := by rw [IntKind.wrap_i64]; omega
    have hoi : (o : Int) < 4 := by omega
    have hqi : (q : Int) < 4 := by omega
    have H1 : Hid (siz (gs.take (k + 1)) = S + ts ∧ tot Gl.p Gl.po (gs.take (k + 1)) = (tot Gl.p Gl.po (gs.take k)).set o (X + tp) ∧ tot Gl.m Gl.mo (gs.take (k + 1)) = (tot Gl.m Gl.mo (gs.take k)).set q (Y + tm)) := ⟨es, ep, em⟩
    have H2 : Hid (Four wr 2 P (tot Gl.p Gl.po (gs.take k)) ∧ Four wr 2 Q (tot Gl.m Gl.mo (gs.take k)) ∧ Below w.heap.size w wr) := ⟨hfp, hfq, hbel⟩
    clear hc hc0 hc1 hc2 hc3 hc4 ht hbel hfp hfq es ep em hS hX hY bs bp bm HB b1 b2 b3 b4 b5 b6 b7 b8 b9 b10
    go_wp2
    go_region
    all_goals go_wp2
    all_goals go_region
    all_goals go_wp2
    all_goals
     go_roundw
     case rel =>
      refine ⟨k + 1, by omega, by go_num, by rw [H1.1], ?_, ?_, ?_⟩
      ·rw [H1.2.1]; exact (((H2.1.set o (X + tp)).other hPQ q _).alloc _).drew.drew
      ·rw [H1.2.2]; exact (((H2.2.1.other (Ne.symm hPQ) o _).set q (Y + tm)).alloc _).drew.drew
      ·exact (((H2.2.2.setCell (p := ⟨P, o, none⟩) hPw _).setCell (p := ⟨Q, q, none⟩) hQw _).alloc (by simp; exact H2.2.2.size) _).drew.drew
     case measure => simp [intOf]; omega
   ·have hki : ¬ (k : Int) < (n : Int) := by omega
    obtain rfl : k = n := by omega
    rw [← hlen, List.take_length] at hfp hfq
    have et : gs.take k = gs := by rw [← hlen, List.take_length]
    rw [et]
    have hgo : glsOk gs = true := Eq.symm (show true = glsOk gs from HOK)
    have e1 : sumN gs = siz gs := by simp [sumN, hgo]
    have e2 : sumP gs = tot Gl.p Gl.po gs := by simp [sumP, hgo]
    have e3 : sumM gs = tot Gl.m Gl.mo gs := by simp [sumM, hgo]
    have H2 : Hid ((sumN gs = siz gs ∧ sumP gs = tot Gl.p Gl.po gs ∧ sumM gs = tot Gl.m Gl.mo gs) ∧ Four wr 2 P (tot Gl.p Gl.po gs) ∧ Four wr 2 Q (tot Gl.m Gl.mo gs) ∧ Below w.heap.size w wr) := ⟨⟨e1, e2, e3⟩, hfp, hfq, hbel⟩
    clear hfp hfq hbel hgo e1 e2 e3 et hlen
    go_wp2
    go_ret3
    rw [H2.1.1, H2.1.2.1, H2.1.2.2]
    exact ⟨⟨_, _, rfl, H2.2.1.row, H2.2.2.1.row⟩, H2.2.2.2⟩
theorem four_parts {xs : List Int} (h : xs.length = 4) : ∃ a b c d, xs = [a, b, c, d] := by
 match xs, h with
 | [a, b, c, d], _ => exact ⟨a, b, c, d, rfl⟩
set_option maxHeartbeats 1000000 in
theorem plusOf_ex (s p po m mo : Int) (w : World) : Calls Tryz.prog 104 #[glueV s p po m mo] w fun e w' => e = .returned (.agg #[.int .i64 p, .int .i64 po]) ∧ ∃ c1 c2 : Array Value, w' = (w.alloc (.cells c1 34)).alloc (.cells c2 218) := by
 go_enter Tryz.func104, Tryz.ntmps104
 go_wp2
 exact bodyPost_ret (v := .agg #[.int .i64 p, .int .i64 po]) (by simp [results, Tryz.results104, go_sem]) rfl ⟨rfl, _, _, rfl⟩
theorem plusOf_any (s p po m mo : Int) (w : World) : Calls Tryz.prog 104 #[glueV s p po m mo] w fun e w' => e = .returned (.agg #[.int .i64 p, .int .i64 po]) ∧ Below w.heap.size w w' := by
 refine (plusOf_ex s p po m mo w).mono ?_
 rintro e w' ⟨rfl, c1, c2, rfl⟩
 exact ⟨rfl, ((Below.refl _ _).alloc (Nat.le_refl _) _).alloc (by simp) _⟩
set_option maxRecDepth 20000 in
set_option maxHeartbeats 4000000 in
theorem totalsP_any {v : Value} {gs : List Gl} {w : World} (h : GRow w v gs) (hok : glsOk gs = true) :
 Calls Tryz.prog 103 #[v, .func (.func 104) #[] #[]] w fun e w' => e = .returned (.agg ((tot Gl.p Gl.po gs).map (Value.int .i64)).toArray) ∧ Below w.heap.size w w' := by
 obtain ⟨ao, n, cap, rfl, hl, hr⟩ := h
 have heach := glsOk_each hok
 have hn2 : n ≤ 10000 := by have := heach.1; omega
 have HE : Hid (∀ k, k < gs.length → (gs.getD k Gl.none).ok = true) := heach.2
 have HBP : Hid (∀ k, k ≤ gs.length → ∀ j, -(1073741823 * (k : Int)) ≤ (tot Gl.p Gl.po (gs.take k)).getD j 0 ∧ (tot Gl.p Gl.po (gs.take k)).getD j 0 ≤ 1073741823 * (k : Int)) := tot_bound Gl.p Gl.po gs (fun k hk => (ok_bounds (HE k hk)).2.1)
 have HR : Hid (0 < n → ∃ b off, ao = some ⟨b, off, none⟩ ∧ b < w.heap.size ∧ ∀ i, i < n → w.cell? ⟨b, off + i * 5, none⟩ = some (.int .i64 (gs.getD i Gl.none).s) ∧ w.cell? ⟨b, off + i * 5 + 1, none⟩ = some (.int .i64 (gs.getD i Gl.none).p) ∧ w.cell? ⟨b, off + i * 5 + 2, none⟩ = some (.int .i64 (gs.getD i Gl.none).po) ∧ w.cell? ⟨b, off + i * 5 + 3, none⟩ = some (.int .i64 (gs.getD i Gl.none).m) ∧ w.cell? ⟨b, off + i * 5 + 4, none⟩ = some (.int .i64 (gs.getD i Gl.none).mo)) := hr
 have HL : Hid (gs.length = n) := hl
 clear hr hl hok heach
 go_enter Tryz.func103, Tryz.ntmps103
 go_wp2
 obtain ⟨P, hP⟩ : ∃ P, P = w.heap.size + 1 := ⟨_, rfl⟩
 obtain ⟨R, hR⟩ : ∃ R, R = w.heap.size := ⟨_, rfl⟩
 have hPR : R ≠ P := by omega
 have hPw : w.heap.size ≤ P := by omega
 have hRw : w.heap.size ≤ R := by omega
 have F0 : Hid (Four ((w.alloc (.cells #[.int .i64 0, .int .i64 0, .int .i64 0, .int .i64 0] 197)).alloc (.cells #[.int .i64 0, .int .i64 0, .int .i64 0, .int .i64 0] 197)) 197 R [0, 0, 0, 0] ∧ Four ((w.alloc (.cells #[.int .i64 0, .int .i64 0, .int .i64 0, .int .i64 0] 197)).alloc (.cells #[.int .i64 0, .int .i64 0, .int .i64 0, .int .i64 0] 197)) 197 P [0, 0, 0, 0] ∧ Below w.heap.size w ((w.alloc (.cells #[.int .i64 0, .int .i64 0, .int .i64 0, .int .i64 0] 197)).alloc (.cells #[.int .i64 0, .int .i64 0, .int .i64 0, .int .i64 0] 197))) := by
  rw [hP, hR]
  refine ⟨Four.alloc (show Four (w.alloc (.cells #[.int .i64 0, .int .i64 0, .int .i64 0, .int .i64 0] 197)) 197 w.heap.size [0, 0, 0, 0] from ⟨heap_alloc_new w _, rfl⟩) _, ⟨?_, rfl⟩, ((Below.refl _ _).alloc (Nat.le_refl _) _).alloc (by simp) _⟩
  simpa using heap_alloc_new (w.alloc (.cells #[.int .i64 0, .int .i64 0, .int .i64 0, .int .i64 0] 197)) (.cells #[.int .i64 0, .int .i64 0, .int .i64 0, .int .i64 0] 197)
 rw [← hP, ← hR]
 clear hP hR
 go_loopw [11] (fun s wr => ∃ k : Nat, k ≤ n ∧ s = .int .i64 k ∧ Four wr 197 R [0, 0, 0, 0] ∧ Four wr 197 P (tot Gl.p Gl.po (gs.take k)) ∧ Below w.heap.size w wr) (fun s _ => n - (intOf s).toNat)
 case atStart => exact ⟨0, by omega, rfl, F0.1, F0.2.1, F0.2.2⟩
 case round =>
  obtain ⟨k, hk, rfl, hfr, hfp, hbel⟩ := hrel
  have hlen : gs.length = n := HL
  by_cases hkn : k < n
  ·have hki : (k : Int) < (n : Int) := by omega
   obtain ⟨b, off, rfl, hb, hc⟩ := HR (by omega)
   obtain ⟨t, ht⟩ : ∃ t, t = gs.getD k Gl.none := ⟨_, rfl⟩
   obtain ⟨hc0, hc1, hc2, hc3, hc4⟩ := hc k hkn
   rw [← ht] at hc0 hc1 hc2 hc3 hc4
   have hob := ok_bounds (HE k (by omega))
   rw [← ht] at hob
   obtain ⟨⟨b1, b2⟩, ⟨b3, b4⟩, ⟨b5, b6⟩, ⟨b7, b8⟩, ⟨b9, b10⟩⟩ := hob
   have ep : tot Gl.p Gl.po (gs.take (k + 1)) = (tot Gl.p Gl.po (gs.take k)).set t.po.toNat ((tot Gl.p Gl.po (gs.take k)).getD t.po.toNat 0 + t.p) := by rw [take_snoc (by omega), tot_snoc, ← ht]
   have bp := HBP k (by omega) t.po.toNat
   have g0 := (hbel.cell (p := ⟨b, off + k * 5, none⟩) hb).trans hc0
   have g1 := (hbel.cell (p := ⟨b, off + k * 5 + 1, none⟩) hb).trans hc1
   have g2 := (hbel.cell (p := ⟨b, off + k * 5 + 2, none⟩) hb).trans hc2
   have g3 := (hbel.cell (p := ⟨b, off + k * 5 + 3, none⟩) hb).trans hc3
   have g4 := (hbel.cell (p := ⟨b, off + k * 5 + 4, none⟩) hb).trans hc4
   obtain ⟨ts, tp, tpo, tm, tmo⟩ := t
   simp only at *
   obtain ⟨o, ho⟩ : ∃ o : Nat, tpo = (o : Int) := ⟨tpo.toNat, by omega⟩
   subst ho
   simp only [Int.toNat_natCast] at ep bp
   obtain ⟨X, hX⟩ : ∃ X, X = (tot Gl.p Gl.po (gs.take k)).getD o 0 := ⟨_, rfl⟩
   rw [← hX] at bp ep
   have ho4 : o < 4 := by omega
   have hoi : (o : Int) < 4 := by omega
   have hw2 : IntKind.i64.wrap (X + tp) = X + tp := by rw [IntKind.wrap_i64]; omega
   have H1 : Hid (tot Gl.p Gl.po (gs.take (k + 1)) = (tot Gl.p Gl.po (gs.take k)).set o (X + tp) ∧ X = (tot Gl.p Gl.po (gs.take k)).getD o 0) := ⟨ep, hX⟩
   have H2 : Hid (Four wr 197 R [0, 0, 0, 0] ∧ Four wr 197 P (tot Gl.p Gl.po (gs.take k)) ∧ Below w.heap.size w wr) := ⟨hfr, hfp, hbel⟩
   clear hc hc0 hc1 hc2 hc3 hc4 ht hbel hfp hfr ep hX bp b1 b2 b3 b4 b5 b6 b7 b8 b9 b10
   go_wp2_with fail
   refine (plusOf_any _ _ _ _ _ _).mono ?_
   rintro e w2 ⟨rfl, hb2⟩
   have r2 := Four.below (H2.1.alloc _) hb2
   have p2 := Four.below (H2.2.1.alloc _) hb2
   have B2 : Below w.heap.size w w2 := (H2.2.2.alloc H2.2.2.size _).trans (hb2.mono (by have := H2.2.2.size; simp; omega))
   have cp := p2.cell o ho4
   rw [← H1.2] at cp
   have fp := p2.free
   have hPl := p2.lt
   have H3 : Hid (Four w2 197 R [0, 0, 0, 0] ∧ Four w2 197 P (tot Gl.p Gl.po (gs.take k)) ∧ Below w.heap.size w w2) := ⟨r2, p2, B2⟩
   clear r2 p2 B2 hb2 H2 g0 g1 g2 g3 g4
   go_wp2
   go_region
   all_goals go_wp2
   all_goals
    go_roundw
    case rel =>
     refine ⟨k + 1, by omega, by go_num, ?_, ?_, ?_⟩
     ·exact ((H3.1.other hPR o _).alloc _).drew
     ·rw [H1.1]; exact ((H3.2.1.set o (X + tp)).alloc _).drew
     ·exact ((H3.2.2.setCell (p := ⟨P, o, none⟩) hPw _).alloc (by simp; exact H3.2.2.size) _).drew
    case measure => simp [intOf]; omega
  ·have hki : ¬ (k : Int) < (n : Int) := by omega
   obtain rfl : k = n := by omega
   rw [← hlen, List.take_length] at hfp
   obtain ⟨x0, x1, x2, x3, hx⟩ := four_parts (tot_length Gl.p Gl.po gs)
   rw [hx] at hfp
   have HX : Hid (tot Gl.p Gl.po gs = [x0, x1, x2, x3]) := hx
   have p0 : wr.cell? ⟨P, 0, none⟩ = some (.int .i64 x0) := hfp.cell 0 (by omega)
   have p1 : wr.cell? ⟨P, 1, none⟩ = some (.int .i64 x1) := hfp.cell 1 (by omega)
   have p2 : wr.cell? ⟨P, 2, none⟩ = some (.int .i64 x2) := hfp.cell 2 (by omega)
   have p3 : wr.cell? ⟨P, 3, none⟩ = some (.int .i64 x3) := hfp.cell 3 (by omega)
   have q0 : wr.cell? ⟨R, 0, none⟩ = some (.int .i64 0) := hfr.cell 0 (by omega)
   have q1 : wr.cell? ⟨R, 1, none⟩ = some (.int .i64 0) := hfr.cell 1 (by omega)
   have q2 : wr.cell? ⟨R, 2, none⟩ = some (.int .i64 0) := hfr.cell 2 (by omega)
   have q3 : wr.cell? ⟨R, 3, none⟩ = some (.int .i64 0) := hfr.cell 3 (by omega)
   have fr := hfr.free
   have s1 := (((hfr.set 0 x0).set 1 x1).set 2 x2).set 3 x3
   have c0 := s1.cell 0 (by omega)
   have c1 := s1.cell 1 (by omega)
   have c2 := s1.cell 2 (by omega)
   have c3 := s1.cell 3 (by omega)
   have HF : Hid (Below w.heap.size w ((((wr.setCell ⟨R, 0, none⟩ (.int .i64 x0)).setCell ⟨R, 1, none⟩ (.int .i64 x1)).setCell ⟨R, 2, none⟩ (.int .i64 x2)).setCell ⟨R, 3, none⟩ (.int .i64 x3)) ∧ True) := ⟨(((hbel.setCell (p := ⟨R, 0, none⟩) hRw _).setCell (p := ⟨R, 1, none⟩) hRw _).setCell (p := ⟨R, 2, none⟩) hRw _).setCell (p := ⟨R, 3, none⟩) hRw _, trivial⟩
   clear hfp hfr hbel s1 hx
   go_wp2
   refine bodyPost_ret (v := .agg #[.int .i64 x0, .int .i64 x1, .int .i64 x2, .int .i64 x3]) ?_ rfl ⟨by rw [show tot Gl.p Gl.po gs = [x0, x1, x2, x3] from HX]; rfl, HF.1⟩
   simp [results, Tryz.results103, go_sem, c0, c1, c2, c3] at *
   try simp [c0, c1, c2, c3]
set_option maxHeartbeats 1000000 in
theorem minusOf_ex (s p po m mo : Int) (w : World) : Calls Tryz.prog 105 #[glueV s p po m mo] w fun e w' => e = .returned (.agg #[.int .i64 m, .int .i64 mo]) ∧ ∃ c1 c2 : Array Value, w' = (w.alloc (.cells c1 34)).alloc (.cells c2 218) := by
 go_enter Tryz.func105, Tryz.ntmps105
 go_wp2
 exact bodyPost_ret (v := .agg #[.int .i64 m, .int .i64 mo]) (by simp [results, Tryz.results105, go_sem]) rfl ⟨rfl, _, _, rfl⟩
theorem minusOf_any (s p po m mo : Int) (w : World) : Calls Tryz.prog 105 #[glueV s p po m mo] w fun e w' => e = .returned (.agg #[.int .i64 m, .int .i64 mo]) ∧ Below w.heap.size w w' := by
 refine (minusOf_ex s p po m mo w).mono ?_
 rintro e w' ⟨rfl, c1, c2, rfl⟩
 exact ⟨rfl, ((Below.refl _ _).alloc (Nat.le_refl _) _).alloc (by simp) _⟩
set_option maxRecDepth 20000 in
set_option maxHeartbeats 4000000 in
theorem totalsM_any {v : Value} {gs : List Gl} {w : World} (h : GRow w v gs) (hok : glsOk gs = true) :
 Calls Tryz.prog 103 #[v, .func (.func 105) #[] #[]] w fun e w' => e = .returned (.agg ((tot Gl.m Gl.mo gs).map (Value.int .i64)).toArray) ∧ Below w.heap.size w w' := by
 obtain ⟨ao, n, cap, rfl, hl, hr⟩ := h
 have heach := glsOk_each hok
 have hn2 : n ≤ 10000 := by have := heach.1; omega
 have HE : Hid (∀ k, k < gs.length → (gs.getD k Gl.none).ok = true) := heach.2
 have HBP : Hid (∀ k, k ≤ gs.length → ∀ j, -(1073741823 * (k : Int)) ≤ (tot Gl.m Gl.mo (gs.take k)).getD j 0 ∧ (tot Gl.m Gl.mo (gs.take k)).getD j 0 ≤ 1073741823 * (k : Int)) := tot_bound Gl.m Gl.mo gs (fun k hk => (ok_bounds (HE k hk)).2.2.1)
 have HR : Hid (0 < n → ∃ b off, ao = some ⟨b, off, none⟩ ∧ b < w.heap.size ∧ ∀ i, i < n → w.cell? ⟨b, off + i * 5, none⟩ = some (.int .i64 (gs.getD i Gl.none).s) ∧ w.cell? ⟨b, off + i * 5 + 1, none⟩ = some (.int .i64 (gs.getD i Gl.none).p) ∧ w.cell? ⟨b, off + i * 5 + 2, none⟩ = some (.int .i64 (gs.getD i Gl.none).po) ∧ w.cell? ⟨b, off + i * 5 + 3, none⟩ = some (.int .i64 (gs.getD i Gl.none).m) ∧ w.cell? ⟨b, off + i * 5 + 4, none⟩ = some (.int .i64 (gs.getD i Gl.none).mo)) := hr
 have HL : Hid (gs.length = n) := hl
 clear hr hl hok heach
 go_enter Tryz.func103, Tryz.ntmps103
 go_wp2
 obtain ⟨P, hP⟩ : ∃ P, P = w.heap.size + 1 := ⟨_, rfl⟩
 obtain ⟨R, hR⟩ : ∃ R, R = w.heap.size := ⟨_, rfl⟩
 have hPR : R ≠ P := by omega
 have hPw : w.heap.size ≤ P := by omega
 have hRw : w.heap.size ≤ R := by omega
 have F0 : Hid (Four ((w.alloc (.cells #[.int .i64 0, .int .i64 0, .int .i64 0, .int .i64 0] 197)).alloc (.cells #[.int .i64 0, .int .i64 0, .int .i64 0, .int .i64 0] 197)) 197 R [0, 0, 0, 0] ∧ Four ((w.alloc (.cells #[.int .i64 0, .int .i64 0, .int .i64 0, .int .i64 0] 197)).alloc (.cells #[.int .i64 0, .int .i64 0, .int .i64 0, .int .i64 0] 197)) 197 P [0, 0, 0, 0] ∧ Below w.heap.size w ((w.alloc (.cells #[.int .i64 0, .int .i64 0, .int .i64 0, .int .i64 0] 197)).alloc (.cells #[.int .i64 0, .int .i64 0, .int .i64 0, .int .i64 0] 197))) := by
  rw [hP, hR]
  refine ⟨Four.alloc (show Four (w.alloc (.cells #[.int .i64 0, .int .i64 0, .int .i64 0, .int .i64 0] 197)) 197 w.heap.size [0, 0, 0, 0] from ⟨heap_alloc_new w _, rfl⟩) _, ⟨?_, rfl⟩, ((Below.refl _ _).alloc (Nat.le_refl _) _).alloc (by simp) _⟩
  simpa using heap_alloc_new (w.alloc (.cells #[.int .i64 0, .int .i64 0, .int .i64 0, .int .i64 0] 197)) (.cells #[.int .i64 0, .int .i64 0, .int .i64 0, .int .i64 0] 197)
 rw [← hP, ← hR]
 clear hP hR
 go_loopw [11] (fun s wr => ∃ k : Nat, k ≤ n ∧ s = .int .i64 k ∧ Four wr 197 R [0, 0, 0, 0] ∧ Four wr 197 P (tot Gl.m Gl.mo (gs.take k)) ∧ Below w.heap.size w wr) (fun s _ => n - (intOf s).toNat)
 case atStart => exact ⟨0, by omega, rfl, F0.1, F0.2.1, F0.2.2⟩
 case round =>
  obtain ⟨k, hk, rfl, hfr, hfp, hbel⟩ := hrel
  have hlen : gs.length = n := HL
  by_cases hkn : k < n
  ·have hki : (k : Int) < (n : Int) := by omega
   obtain ⟨b, off, rfl, hb, hc⟩ := HR (by omega)
   obtain ⟨t, ht⟩ : ∃ t, t = gs.getD k Gl.none := ⟨_, rfl⟩
   obtain ⟨hc0, hc1, hc2, hc3, hc4⟩ := hc k hkn
   rw [← ht] at hc0 hc1 hc2 hc3 hc4
   have hob := ok_bounds (HE k (by omega))
   rw [← ht] at hob
   obtain ⟨⟨b1, b2⟩, ⟨b3, b4⟩, ⟨b5, b6⟩, ⟨b7, b8⟩, ⟨b9, b10⟩⟩ := hob
   have ep : tot Gl.m Gl.mo (gs.take (k + 1)) = (tot Gl.m Gl.mo (gs.take k)).set t.mo.toNat ((tot Gl.m Gl.mo (gs.take k)).getD t.mo.toNat 0 + t.m) := by rw [take_snoc (by omega), tot_snoc, ← ht]
   have bp := HBP k (by omega) t.mo.toNat
   have g0 := (hbel.cell (p := ⟨b, off + k * 5, none⟩) hb).trans hc0
   have g1 := (hbel.cell (p := ⟨b, off + k * 5 + 1, none⟩) hb).trans hc1
   have g2 := (hbel.cell (p := ⟨b, off + k * 5 + 2, none⟩) hb).trans hc2
   have g3 := (hbel.cell (p := ⟨b, off + k * 5 + 3, none⟩) hb).trans hc3
   have g4 := (hbel.cell (p := ⟨b, off + k * 5 + 4, none⟩) hb).trans hc4
   obtain ⟨ts, tp, tpo, tm, tmo⟩ := t
   simp only at *
   obtain ⟨o, ho⟩ : ∃ o : Nat, tmo = (o : Int) := ⟨tmo.toNat, by omega⟩
   subst ho
   simp only [Int.toNat_natCast] at ep bp
   obtain ⟨X, hX⟩ : ∃ X, X = (tot Gl.m Gl.mo (gs.take k)).getD o 0 := ⟨_, rfl⟩
   rw [← hX] at bp ep
   have ho4 : o < 4 := by omega
   have hoi : (o : Int) < 4 := by omega
   have hw2 : IntKind.i64.wrap (X + tm) = X + tm := by rw [IntKind.wrap_i64]; omega
   have H1 : Hid (tot Gl.m Gl.mo (gs.take (k + 1)) = (tot Gl.m Gl.mo (gs.take k)).set o (X + tm) ∧ X = (tot Gl.m Gl.mo (gs.take k)).getD o 0) := ⟨ep, hX⟩
   have H2 : Hid (Four wr 197 R [0, 0, 0, 0] ∧ Four wr 197 P (tot Gl.m Gl.mo (gs.take k)) ∧ Below w.heap.size w wr) := ⟨hfr, hfp, hbel⟩
   clear hc hc0 hc1 hc2 hc3 hc4 ht hbel hfp hfr ep hX bp b1 b2 b3 b4 b5 b6 b7 b8 b9 b10
   go_wp2_with fail
   refine (minusOf_any _ _ _ _ _ _).mono ?_
   rintro e w2 ⟨rfl, hb2⟩
   have r2 := Four.below (H2.1.alloc _) hb2
   have p2 := Four.below (H2.2.1.alloc _) hb2
   have B2 : Below w.heap.size w w2 := (H2.2.2.alloc H2.2.2.size _).trans (hb2.mono (by have := H2.2.2.size; simp; omega))
   have cp := p2.cell o ho4
   rw [← H1.2] at cp
   have fp := p2.free
   have hPl := p2.lt
   have H3 : Hid (Four w2 197 R [0, 0, 0, 0] ∧ Four w2 197 P (tot Gl.m Gl.mo (gs.take k)) ∧ Below w.heap.size w w2) := ⟨r2, p2, B2⟩
   clear r2 p2 B2 hb2 H2 g0 g1 g2 g3 g4
   go_wp2
   go_region
   all_goals go_wp2
   all_goals
    go_roundw
    case rel =>
     refine ⟨k + 1, by omega, by go_num, ?_, ?_, ?_⟩
     ·exact ((H3.1.other hPR o _).alloc _).drew
     ·rw [H1.1]; exact ((H3.2.1.set o (X + tm)).alloc _).drew
     ·exact ((H3.2.2.setCell (p := ⟨P, o, none⟩) hPw _).alloc (by simp; exact H3.2.2.size) _).drew
    case measure => simp [intOf]; omega
  ·have hki : ¬ (k : Int) < (n : Int) := by omega
   obtain rfl : k = n := by omega
   rw [← hlen, List.take_length] at hfp
   obtain ⟨x0, x1, x2, x3, hx⟩ := four_parts (tot_length Gl.m Gl.mo gs)
   rw [hx] at hfp
   have HX : Hid (tot Gl.m Gl.mo gs = [x0, x1, x2, x3]) := hx
   have p0 : wr.cell? ⟨P, 0, none⟩ = some (.int .i64 x0) := hfp.cell 0 (by omega)
   have p1 : wr.cell? ⟨P, 1, none⟩ = some (.int .i64 x1) := hfp.cell 1 (by omega)
   have p2 : wr.cell? ⟨P, 2, none⟩ = some (.int .i64 x2) := hfp.cell 2 (by omega)
   have p3 : wr.cell? ⟨P, 3, none⟩ = some (.int .i64 x3) := hfp.cell 3 (by omega)
   have q0 : wr.cell? ⟨R, 0, none⟩ = some (.int .i64 0) := hfr.cell 0 (by omega)
   have q1 : wr.cell? ⟨R, 1, none⟩ = some (.int .i64 0) := hfr.cell 1 (by omega)
   have q2 : wr.cell? ⟨R, 2, none⟩ = some (.int .i64 0) := hfr.cell 2 (by omega)
   have q3 : wr.cell? ⟨R, 3, none⟩ = some (.int .i64 0) := hfr.cell 3 (by omega)
   have fr := hfr.free
   have s1 := (((hfr.set 0 x0).set 1 x1).set 2 x2).set 3 x3
   have c0 := s1.cell 0 (by omega)
   have c1 := s1.cell 1 (by omega)
   have c2 := s1.cell 2 (by omega)
   have c3 := s1.cell 3 (by omega)
   have HF : Hid (Below w.heap.size w ((((wr.setCell ⟨R, 0, none⟩ (.int .i64 x0)).setCell ⟨R, 1, none⟩ (.int .i64 x1)).setCell ⟨R, 2, none⟩ (.int .i64 x2)).setCell ⟨R, 3, none⟩ (.int .i64 x3)) ∧ True) := ⟨(((hbel.setCell (p := ⟨R, 0, none⟩) hRw _).setCell (p := ⟨R, 1, none⟩) hRw _).setCell (p := ⟨R, 2, none⟩) hRw _).setCell (p := ⟨R, 3, none⟩) hRw _, trivial⟩
   clear hfp hfr hbel s1 hx
   go_wp2
   refine bodyPost_ret (v := .agg #[.int .i64 x0, .int .i64 x1, .int .i64 x2, .int .i64 x3]) ?_ rfl ⟨by rw [show tot Gl.m Gl.mo gs = [x0, x1, x2, x3] from HX]; rfl, HF.1⟩
   simp [results, Tryz.results103, go_sem, c0, c1, c2, c3] at *
   try simp [c0, c1, c2, c3]
end Go.Proofs.YtbbehmcekbnkiaaGreat.Shr
