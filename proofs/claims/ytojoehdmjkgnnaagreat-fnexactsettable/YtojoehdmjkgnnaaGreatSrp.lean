import Derived.Test.YtojoehdmjkgnnaaGreatGrd
import Derived.Test.YtojoehdmjkgnnaaGreatPlc
namespace Go.Proofs.YtojoehdmjkgnnaaGreat
open Go.RowKit
set_option linter.unusedVariables false
set_option linter.unusedSimpArgs false
def sumF (f : Nat → Int) (a : Nat) : Nat → Int
 | 0 => 0
 | n + 1 => sumF f a n + f (a + n)
theorem sumF_succ (f : Nat → Int) (a n : Nat) : sumF f a (n + 1) = sumF f a n + f (a + n) := rfl
def acr (f : Nat → Int) (g : Int) (a b : Nat) : Int := ((b : Int) - a) * g + sumF f a (b + 1 - a)
def Bd (f : Nat → Int) : Prop := ∀ i, 0 ≤ f i ∧ f i ≤ 21474836460
theorem sumF_bd {f : Nat → Int} (h : Bd f) (a : Nat) : ∀ n : Nat, 0 ≤ sumF f a n ∧ sumF f a n ≤ 21474836460 * n
 | 0 => ⟨Int.le_refl _, Int.le_refl _⟩
 | n + 1 => by
  have h1 := sumF_bd h a n
  have h2 := h (a + n)
  rw [sumF_succ]
  omega
theorem mul_bd {d g : Int} (h0 : 0 ≤ d) (h1 : d ≤ 19) (hg : -1073741823 ≤ g ∧ g ≤ 1073741823) : -20401094637 ≤ d * g ∧ d * g ≤ 20401094637 := by
 have h2 : d * g ≤ d * 1073741823 := Int.mul_le_mul_of_nonneg_left hg.2 h0
 have h3 : d * (-1073741823) ≤ d * g := Int.mul_le_mul_of_nonneg_left hg.1 h0
 omega
theorem acr_bd {f : Nat → Int} {g : Int} {a b : Nat} (h : Bd f) (hg : -1073741823 ≤ g ∧ g ≤ 1073741823) (hab : a ≤ b) (hb : b < 20) : -20401094637 ≤ acr f g a b ∧ acr f g a b ≤ 449897823837 := by
 have h1 := sumF_bd h a (b + 1 - a)
 have h2 := mul_bd (d := (b : Int) - a) (by omega) (by omega) hg
 unfold acr
 omega
def upd (f : Nat → Int) (k : Nat) (x : Int) : Nat → Int := fun i => if i = k then x else f i
def grow (f : Nat → Int) (g : Int) (a k : Nat) (nat : Int) : Int := f k + max (nat - acr f g a k) 0
theorem grow_bd {f : Nat → Int} {g nat : Int} {a k : Nat} (h : Bd f) (hg : -1073741823 ≤ g ∧ g ≤ 1073741823) (hn : nat ≤ 1073741823) (hab : a ≤ k) (hb : k < 20) : 0 ≤ grow f g a k nat ∧ grow f g a k nat ≤ 21474836460 := by
 have h1 := sumF_bd h a (k - a)
 have h2 := mul_bd (d := (k : Int) - a) (by omega) (by omega) hg
 have h3 := h k
 unfold grow acr
 rw [show k + 1 - a = k - a + 1 by omega, sumF_succ, show a + (k - a) = k by omega]
 omega
def cellStep (g : Int) (k : Nat) (cs : List Cl) (f : Nat → Int) (j : Nat) : Nat → Int := if spK cs (j + 1) - 1 = (k : Int) then upd f k (grow f g (spK cs j).toNat k (natW (cs.getD j Cl.none).ns)) else f
def laneStep (g : Int) (k : Nat) (cs : List Cl) (f : Nat → Int) : Nat → Nat → Int
 | 0 => f
 | j + 1 => cellStep g k cs (laneStep g k cs f j) j
def rowsStep (g : Int) (k : Nat) (rs : List Rw) (f : Nat → Int) : Nat → Nat → Int
 | 0 => f
 | i + 1 => laneStep g k (rs.getD i Rw.none).cs (rowsStep g k rs f i) (rs.getD i Rw.none).cs.length
def colsStep (g : Int) (rs : List Rw) : Nat → Nat → Int
 | 0 => fun _ => 0
 | k + 1 => rowsStep g k rs (colsStep g rs k) rs.length
def colsOk (g : Int) (rs : List Rw) : Nat → Bool
 | 0 => true
 | k + 1 => colsOk g rs k && fitsB (colsStep g rs (k + 1) k)
theorem colsOk_down {g : Int} {rs : List Rw} : ∀ {n k : Nat}, k ≤ n → colsOk g rs k = false → colsOk g rs n = false
 | 0, k, h, h0 => by
  obtain rfl : k = 0 := by omega
  exact h0
 | n + 1, k, h, h0 => by
  by_cases hk : k = n + 1
  ·subst hk; exact h0
  ·unfold colsOk
   rw [colsOk_down (show k ≤ n by omega) h0]
   rfl
theorem upd_bd {f : Nat → Int} {k : Nat} {x : Int} (h : Bd f) (hx : 0 ≤ x ∧ x ≤ 21474836460) : Bd (upd f k x) := fun i => by
 unfold upd
 split
 ·exact hx
 ·exact h i
def RowIn (cs : List Cl) (cols : Int) : Prop := cellsB cs cols cs.length = true ∧ spK cs cs.length ≤ cols
theorem RowIn.at {cs : List Cl} {cols : Int} (h : RowIn cs cols) (h20 : cols ≤ 20) {j : Nat} (hj : j < cs.length) : 0 ≤ spK cs j ∧ spK cs j + 1 ≤ spK cs (j + 1) ∧ spK cs (j + 1) ≤ cols ∧ -1073741823 ≤ natW (cs.getD j Cl.none).ns ∧ natW (cs.getD j Cl.none).ns ≤ 1073741823 ∧ hpOk (cs.getD j Cl.none).ns 0 0 = true := by
 have h1 := cellsB_at h.1 j hj
 have h2 := cellB_sp h1
 have h3 := spK_mono (show j + 1 ≤ cs.length by omega) h.1
 have h4 := h.2
 have h5 := natW_fits (cellB_hp h1)
 have h6 : 0 ≤ spK cs j := by
  have := spK_mono (show 0 ≤ cs.length by omega) h.1
  cases hb : cellsB cs cols j with
  | true => have := (spK_bound h20 hb).1; omega
  | false => have := cellsB_down (show j ≤ cs.length by omega) hb; rw [h.1] at this; cases this
 rw [spK_succ] at h3 ⊢
 exact ⟨h6, by omega, by omega, h5.1, h5.2, cellB_hp h1⟩
theorem rowB_in {r : Rw} {cols : Int} (h : rowB r cols = true) (hc : 1 ≤ cols) : RowIn r.cs cols := by
 unfold rowB at h
 split at h
 ·simp only [Bool.and_eq_true, decide_eq_true_eq] at h
  exact h
 ·simp only [Bool.and_eq_true, decide_eq_true_eq] at h
  have h0 : r.cs = [] := List.eq_nil_of_length_eq_zero h.2
  rw [h0]
  exact ⟨rfl, by show (0 : Int) ≤ cols; omega⟩
theorem cellStep_bd {g : Int} {k j : Nat} {cs : List Cl} {f : Nat → Int} {cols : Int} (h : Bd f) (hg : -1073741823 ≤ g ∧ g ≤ 1073741823) (hr : RowIn cs cols) (h20 : cols ≤ 20) (hk : k < 20) (hj : j < cs.length) : Bd (cellStep g k cs f j) := by
 have h1 := hr.at h20 hj
 unfold cellStep
 split
 ·rename_i e
  exact upd_bd h (grow_bd h hg h1.2.2.2.2.1 (by omega) hk)
 ·exact h
theorem laneStep_bd {g : Int} {k : Nat} {cs : List Cl} {f : Nat → Int} {cols : Int} (h : Bd f) (hg : -1073741823 ≤ g ∧ g ≤ 1073741823) (hr : RowIn cs cols) (h20 : cols ≤ 20) (hk : k < 20) : ∀ j, j ≤ cs.length → Bd (laneStep g k cs f j)
 | 0, _ => h
 | j + 1, hj => cellStep_bd (laneStep_bd h hg hr h20 hk j (by omega)) hg hr h20 hk (by omega)
theorem rowsStep_bd {g : Int} {k : Nat} {rs : List Rw} {f : Nat → Int} {cols : Int} (h : Bd f) (hg : -1073741823 ≤ g ∧ g ≤ 1073741823) (hr : ∀ i, i < rs.length → RowIn (rs.getD i Rw.none).cs cols) (h20 : cols ≤ 20) (hk : k < 20) : ∀ i, i ≤ rs.length → Bd (rowsStep g k rs f i)
 | 0, _ => h
 | i + 1, hi => laneStep_bd (rowsStep_bd h hg hr h20 hk i (by omega)) hg (hr i (by omega)) h20 hk _ (Nat.le_refl _)
theorem colsStep_bd {g : Int} {rs : List Rw} {cols : Int} (hg : -1073741823 ≤ g ∧ g ≤ 1073741823) (hr : ∀ i, i < rs.length → RowIn (rs.getD i Rw.none).cs cols) (h20 : cols ≤ 20) : ∀ k, k ≤ 20 → Bd (colsStep g rs k)
 | 0, _ => fun i => ⟨Int.le_refl _, by show (0 : Int) ≤ _; omega⟩
 | k + 1, hk => rowsStep_bd (colsStep_bd hg hr h20 k (by omega)) hg hr h20 (by omega) _ (Nat.le_refl _)
def ArrAt (w : World) (A : Nat) (f : Nat → Int) : Prop := ∃ arr : Array Value, w.heap[A]? = some (.cells arr 104 (0, 0)) ∧ arr.size = 20 ∧ ∀ i, i < 20 → arr[i]? = some (.int .i64 (f i))
theorem ArrAt.cell {w : World} {A : Nat} {f : Nat → Int} (h : ArrAt w A f) {i : Nat} (hi : i < 20) : w.cell? ⟨A, i, none⟩ = some (.int .i64 (f i)) := by
 obtain ⟨arr, h1, h2, h3⟩ := h
 rw [cell_of_row _ _ i _ 104 _ h1]
 exact h3 i hi
theorem ArrAt.lt {w : World} {A : Nat} {f : Nat → Int} (h : ArrAt w A f) : A < w.heap.size := by
 obtain ⟨arr, h1, _⟩ := h
 exact (glt h1)
theorem ArrAt.free {w : World} {A : Nat} {f : Nat → Int} (h : ArrAt w A f) (j : Nat) : w.frozen? ⟨A, j, none⟩ = false := by
 obtain ⟨arr, h1, _⟩ := h
 exact frozen_of_row _ _ j _ _ h1
theorem ArrAt.same {w w' : World} {A : Nat} {f : Nat → Int} (h : ArrAt w A f) (hb : w'.heap[A]? = w.heap[A]?) : ArrAt w' A f := by
 obtain ⟨arr, h1, h2⟩ := h
 exact ⟨arr, hb.trans h1, h2⟩
theorem ArrAt.below {w w' : World} {A : Nat} {f : Nat → Int} (h : ArrAt w A f) (hb : Below w.heap.size w w') : ArrAt w' A f := h.same (hb.block _ h.lt)
theorem ArrAt.set {w : World} {A : Nat} {f : Nat → Int} (h : ArrAt w A f) {k : Nat} (hk : k < 20) (x : Int) : ArrAt (w.setCell ⟨A, k, none⟩ (.int .i64 x)) A (upd f k x) := by
 obtain ⟨arr, h1, h2, h3⟩ := h
 refine ⟨_, heap_setCell_same w A k arr 104 _ h1, by simp [h2], fun i hi => ?_⟩
 rw [Array.getElem?_setIfInBounds]
 unfold upd
 by_cases e : k = i
 ·subst e
  rw [if_pos rfl, if_pos (by omega), if_pos rfl]
 ·rw [if_neg e, if_neg (fun h => e h.symm)]
  exact h3 i hi
set_option maxRecDepth 20000 in
set_option maxHeartbeats 4000000 in
theorem across_any {w : World} {G A : Nat} {f : Nat → Int} {co gs gp gpo gm gmo : Int} {u : Value} (first last : Nat) (hG : w.heap[G]? = some (grO co gs gp gpo gm gmo u)) (hA : ArrAt w A f) (hf : Bd f) (hab : first ≤ last) (hb : last < 20) (hg : -1073741823 ≤ gs ∧ gs ≤ 1073741823) :
 Calls Tryz.prog 92 #[.pointer (some ⟨G, 0, none⟩), .pointer (some ⟨A, 0, none⟩), .int .i64 first, .int .i64 last] w fun e w' => e = .returned (.int .i64 (acr f gs first last)) ∧ w' = w := by
 have q1 : w.cell? ⟨G, 1, none⟩ = some (.int .i64 gs) := cell_of_row _ _ 1 _ 109 _ hG
 have hGl : G < w.heap.size := (glt hG)
 have hAl := hA.lt
 have HA := hideP hA
 have HF := hideP hf
 obtain ⟨D, hD⟩ := exq (((last : Int) - first) * gs)
 have hDb : -20401094637 ≤ D ∧ D ≤ 20401094637 := by rw [hD]; exact mul_bd (by omega) (by omega) hg
 have w1 : IntKind.i64.wrap (((last : Int) - first) * gs) = D := by rw [← hD, IntKind.wrap_i64]; omega
 have HD : Hid (acr f gs first last = D + sumF f first (last + 1 - first)) := hideP (by rw [hD]; rfl)
 clear hA hf hG hD hg
 go_enter Tryz.func92, Tryz.ntmps92
 go_wp2
 go_loopw [9, 24] (fun s i wr => ∃ (k : Nat) (m : Int), k ≤ last + 1 - first ∧ i = .int .i64 k ∧ s = .int .i64 (D + m) ∧ Hid (m = sumF f first k) ∧ wr = w) (fun _ i _ => last + 1 - first - (intOf i).toNat)
 case atStart => exact ⟨0, 0, by omega, rfl, by simp, hideP rfl, rfl⟩
 case round =>
  obtain ⟨k, m, hk, rfl, rfl, HM, hww⟩ := hrel
  have hww' := hww.symm
  subst hww'
  clear hww
  have hm := sumF_bd HF.out first k
  rw [← HM.out] at hm
  by_cases hkn : k < last + 1 - first
  ·have hki : (k : Int) < (last : Int) - first + 1 := by omega
   have hc := HA.out.cell (i := first + k) (by omega)
   have hfb := HF.out (first + k)
   obtain ⟨y, hy⟩ := exq (f (first + k))
   have HY := hideP hy
   rw [← hy] at hc hfb
   clear hy
   go_wp2
   go_roundw
   case rel => exact ⟨k + 1, m + y, by omega, by go_num, by first | rfl | (congr 1; omega), hideP (by rw [sumF_succ, ← HM.out, ← HY.out]), by trivial⟩
   case measure => simp [intOf]; omega
  ·have hki : ¬ (k : Int) < (last : Int) - first + 1 := by omega
   go_wp2
   go_ret
   refine ⟨?_, rfl⟩
   rw [HD.out, HM.out, show k = last + 1 - first by omega]
   rfl
def filN : Nd := ⟨3, 0, 0, 0, 0, 0, 0, 0, 0, 65536, 1, 0, 0, ⟨#[]⟩, 0⟩
def krnN (x : Int) : Nd := ⟨2, x, 0, 0, 0, 0, 0, 0, 0, 0, 0, 0, 0, ⟨#[]⟩, 0⟩
def rulN (x h : Int) : Nd := ⟨5, x, h, 0, 0, 0, 0, 0, 0, 0, 0, 0, 0, ⟨#[]⟩, 0⟩
def gapN (gs gp gpo gm gmo : Int) : Nd := ⟨3, 0, 0, 0, 0, 0, 0, 0, gs, gp, gpo, gm, gmo, ⟨#[]⟩, 0⟩
def celN (al : Int) (ns : List Nd) : List Nd := (if al = 0 then [] else [filN]) ++ ns ++ (if al = 2 then [] else [filN])
def celW (f : Nat → Int) (gs : Int) (cs : List Cl) (k : Nat) : Int := acr f gs (spK cs k).toNat (spK cs (k + 1) - 1).toNat
def celR (f : Nat → Int) (gs : Int) (cs : List Cl) (k : Nat) : List Nd := hpR (celN (cs.getD k Cl.none).al (cs.getD k Cl.none).ns) 1 (celW f gs cs k)
def celsOk (f : Nat → Int) (gs : Int) (cs : List Cl) : Nat → Bool
 | 0 => true
 | k + 1 => celsOk f gs cs k && decide (0 < (celR f gs cs k).length)
def aK (f : Nat → Int) (gs : Int) (gap : Nd) (cs : List Cl) : Nat → List Nd
 | 0 => []
 | k + 1 => aK f gs gap cs k ++ celR f gs cs k ++ [gap]
def kK (f : Nat → Int) (gap : Nd) (a : Nat) (L : List Nd) : Nat → List Nd
 | 0 => L
 | j + 1 => kK f gap a L j ++ [krnN (f (a + j)), gap]
def rowI (f : Nat → Int) (gs : Int) (gap : Nd) (cs : List Cl) (co : Int) : List Nd := (kK f gap (spK cs cs.length).toNat (aK f gs gap cs cs.length) (co - spK cs cs.length).toNat).dropLast
def rowR (f : Nat → Int) (gs : Int) (gap : Nd) (co : Int) (r : Rw) : List Nd := if 0 < r.ru then hpR [rulN (acr f gs 0 (co.toNat - 1)) r.ru] 0 0 else if celsOk f gs r.cs r.cs.length = true then hpR (rowI f gs gap r.cs co) 0 0 else []
theorem hpOk_parts {xs : List Nd} {mode size : Int} (h : hpOk xs mode size = true) : xs.length < 20000 ∧ xs.all goodB = true ∧ fitsB size = true := by
 unfold hpOk packB canB at h
 simp only [Bool.and_eq_true, decide_eq_true_eq] at h
 exact ⟨h.1.1.1.1.1.1.1.1.1, h.1.1.1.1.1.1.1.2, h.1.1.1.1.1.2⟩
theorem hpR_unfit {xs : List Nd} {mode size : Int} (h : fitsB size = false) : hpR xs mode size = [] := by
 unfold hpR
 rw [if_neg]
 intro h1
 rw [(hpOk_parts h1).2.2] at h
 cases h
theorem hpR_rule {x h : Int} (hf : fitsB x = false) : hpR [rulN x h] 0 0 = [] := by
 unfold hpR
 rw [if_neg]
 intro h1
 have h2 := (hpOk_parts h1).2.1
 simp only [List.all_cons, List.all_nil, Bool.and_true] at h2
 have h3 := (good_in h2).1
 unfold fitsB at hf
 simp only [decide_eq_false_iff_not] at hf
 exact hf h3
theorem hpR_le {xs : List Nd} {mode size : Int} : (hpR xs mode size).length ≤ 20000 := by
 unfold hpR
 split
 ·rename_i h
  have := (hpOk_parts h).1
  rw [hpN_len]
  omega
 ·simp
theorem celsOk_down {f : Nat → Int} {gs : Int} {cs : List Cl} : ∀ {n k : Nat}, k ≤ n → celsOk f gs cs k = false → celsOk f gs cs n = false
 | 0, k, h, h0 => by
  obtain rfl : k = 0 := by omega
  exact h0
 | n + 1, k, h, h0 => by
  by_cases hk : k = n + 1
  ·subst hk; exact h0
  ·unfold celsOk
   rw [celsOk_down (show k ≤ n by omega) h0]
   rfl
theorem celsOk_no {f : Nat → Int} {gs : Int} {cs : List Cl} {k n : Nat} (hk : k < n) (h : (celR f gs cs k).length = 0) : celsOk f gs cs n = false := by
 refine celsOk_down (show k + 1 ≤ n by omega) ?_
 unfold celsOk
 rw [h]
 simp
theorem aK_len (f : Nat → Int) (gs : Int) (gap : Nd) (cs : List Cl) : ∀ k, (aK f gs gap cs k).length ≤ 20001 * k
 | 0 => by simp [aK]
 | k + 1 => by
  have h1 := aK_len f gs gap cs k
  have h2 : (celR f gs cs k).length ≤ 20000 := hpR_le
  simp only [aK, List.length_append, List.length_cons, List.length_nil]
  omega
theorem kK_len (f : Nat → Int) (gap : Nd) (a : Nat) (L : List Nd) : ∀ j, (kK f gap a L j).length = L.length + 2 * j
 | 0 => by simp [kK]
 | j + 1 => by
  have h1 := kK_len f gap a L j
  simp only [kK, List.length_append, List.length_cons, List.length_nil]
  omega
theorem aK_end (f : Nat → Int) (gs : Int) (gap : Nd) (cs : List Cl) : ∀ k, 0 < k → (aK f gs gap cs k).dropLast ++ [gap] = aK f gs gap cs k
 | 0, h => by omega
 | k + 1, _ => by simp [aK]
theorem aK_drop (f : Nat → Int) (gs : Int) (gap : Nd) (cs : List Cl) (k : Nat) : (aK f gs gap cs (k + 1)).dropLast = aK f gs gap cs k ++ celR f gs cs k := by simp [aK]
theorem kK_drop (f : Nat → Int) (gap : Nd) (a : Nat) (L : List Nd) (j : Nat) : (kK f gap a L (j + 1)).dropLast = kK f gap a L j ++ [krnN (f (a + j))] := by
 show (kK f gap a L j ++ [krnN (f (a + j)), gap]).dropLast = _
 rw [show [krnN (f (a + j)), gap] = [krnN (f (a + j))] ++ [gap] from rfl, ← List.append_assoc, List.dropLast_concat]
theorem drop_put (f : Nat → Int) (gs : Int) (gap : Nd) (cs : List Cl) (k j a : Nat) (h : 0 < k ∨ 0 < j) : (kK f gap a (aK f gs gap cs k) j).dropLast ++ [gap] = kK f gap a (aK f gs gap cs k) j := by
 cases j with
 | zero => exact aK_end f gs gap cs k (by omega)
 | succ j => rw [kK_drop]; simp [kK]
end Go.Proofs.YtojoehdmjkgnnaaGreat
