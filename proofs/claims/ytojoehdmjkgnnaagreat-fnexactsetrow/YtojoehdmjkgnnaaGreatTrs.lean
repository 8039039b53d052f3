import Derived.Test.YtojoehdmjkgnnaaGreatGrd
import Derived.Test.YtojoehdmjkgnnaaGreatLan
import Derived.Test.YtojoehdmjkgnnaaGreatAdg
import Derived.Test.YtojoehdmjkgnnaaGreatWan
import Derived.Laws.AppendOwnNone
import Derived.Laws.CopyRow
import Derived.Maps.AppendAt
namespace Go.Proofs.YtojoehdmjkgnnaaGreat
open Go.RowKit
set_option linter.unusedVariables false
set_option linter.unusedSimpArgs false
def sumF (f : Nat → Int) (a : Nat) : Nat → Int
 | 0 => 0
 | n + 1 => sumF f a n + f (a + n)
theorem sumF_succ (f : Nat → Int) (a n : Nat) : sumF f a (n + 1) = sumF f a n + f (a + n) := rfl
def acr (f : Nat → Int) (g : Int) (a b : Nat) : Int := ((b : Int) - a) * g + sumF f a (b + 1 - a)
def Bd (f : Nat → Int) : Prop := ∀ i, 0 ≤ f i ∧ f i ≤ 21474836460
theorem sumF_bd {f : Nat → Int} (h : Bd f) (a : Nat) : ∀ n : Nat, 0 ≤ sumF f a n ∧ sumF f a n ≤ 21474836460 * n
 | 0 => ⟨Int.le_refl _, Int.le_refl _⟩
 | n + 1 => by
  have h1 := sumF_bd h a n
  have h2 := h (a + n)
  rw [sumF_succ]
  omega
theorem mul_bd {d g : Int} (h0 : 0 ≤ d) (h1 : d ≤ 19) (hg : -1073741823 ≤ g ∧ g ≤ 1073741823) : -20401094637 ≤ d * g ∧ d * g ≤ 20401094637 := by
 have h2 : d * g ≤ d * 1073741823 := Int.mul_le_mul_of_nonneg_left hg.2 h0
 have h3 : d * (-1073741823) ≤ d * g := Int.mul_le_mul_of_nonneg_left hg.1 h0
 omega
def upd (f : Nat → Int) (k : Nat) (x : Int) : Nat → Int := fun i => if i = k then x else f i
def RowIn (cs : List Cl) (cols : Int) : Prop := cellsB cs cols cs.length = true ∧ spK cs cs.length ≤ cols
theorem RowIn.at {cs : List Cl} {cols : Int} (h : RowIn cs cols) (h20 : cols ≤ 20) {j : Nat} (hj : j < cs.length) : 0 ≤ spK cs j ∧ spK cs j + 1 ≤ spK cs (j + 1) ∧ spK cs (j + 1) ≤ cols ∧ -1073741823 ≤ natW (cs.getD j Cl.none).ns ∧ natW (cs.getD j Cl.none).ns ≤ 1073741823 ∧ hpOk (cs.getD j Cl.none).ns 0 0 = true := by
 have h1 := cellsB_at h.1 j hj
 have h2 := cellB_sp h1
 have h3 := spK_mono (show j + 1 ≤ cs.length by omega) h.1
 have h4 := h.2
 have h5 := natW_fits (cellB_hp h1)
 have h6 : 0 ≤ spK cs j := by
  have := spK_mono (show 0 ≤ cs.length by omega) h.1
  cases hb : cellsB cs cols j with
  | true => have := (spK_bound h20 hb).1; omega
  | false => have := cellsB_down (show j ≤ cs.length by omega) hb; rw [h.1] at this; cases this
 rw [spK_succ] at h3 ⊢
 exact ⟨h6, by omega, by omega, h5.1, h5.2, cellB_hp h1⟩
theorem rowB_in {r : Rw} {cols : Int} (h : rowB r cols = true) (hc : 1 ≤ cols) : RowIn r.cs cols := by
 unfold rowB at h
 split at h
 ·simp only [Bool.and_eq_true, decide_eq_true_eq] at h
  exact h
 ·simp only [Bool.and_eq_true, decide_eq_true_eq] at h
  have h0 : r.cs = [] := List.eq_nil_of_length_eq_zero h.2
  rw [h0]
  exact ⟨rfl, by show (0 : Int) ≤ cols; omega⟩
def ArrAt (w : World) (A : Nat) (f : Nat → Int) : Prop := ∃ arr : Array Value, w.heap[A]? = some (.cells arr 104 (0, 0)) ∧ arr.size = 20 ∧ ∀ i, i < 20 → arr[i]? = some (.int .i64 (f i))
theorem ArrAt.cell {w : World} {A : Nat} {f : Nat → Int} (h : ArrAt w A f) {i : Nat} (hi : i < 20) : w.cell? ⟨A, i, none⟩ = some (.int .i64 (f i)) := by
 obtain ⟨arr, h1, h2, h3⟩ := h
 rw [cell_of_row _ _ i _ 104 _ h1]
 exact h3 i hi
theorem ArrAt.lt {w : World} {A : Nat} {f : Nat → Int} (h : ArrAt w A f) : A < w.heap.size := by
 obtain ⟨arr, h1, _⟩ := h
 exact (Array.getElem?_eq_some_iff.1 h1).1
theorem ArrAt.free {w : World} {A : Nat} {f : Nat → Int} (h : ArrAt w A f) (j : Nat) : w.frozen? ⟨A, j, none⟩ = false := by
 obtain ⟨arr, h1, _⟩ := h
 exact frozen_of_row _ _ j _ _ h1
theorem ArrAt.same {w w' : World} {A : Nat} {f : Nat → Int} (h : ArrAt w A f) (hb : w'.heap[A]? = w.heap[A]?) : ArrAt w' A f := by
 obtain ⟨arr, h1, h2⟩ := h
 exact ⟨arr, hb.trans h1, h2⟩
theorem ArrAt.below {w w' : World} {A : Nat} {f : Nat → Int} (h : ArrAt w A f) (hb : Below w.heap.size w w') : ArrAt w' A f := h.same (hb.block _ h.lt)
theorem ArrAt.set {w : World} {A : Nat} {f : Nat → Int} (h : ArrAt w A f) {k : Nat} (hk : k < 20) (x : Int) : ArrAt (w.setCell ⟨A, k, none⟩ (.int .i64 x)) A (upd f k x) := by
 obtain ⟨arr, h1, h2, h3⟩ := h
 refine ⟨_, heap_setCell_same w A k arr 104 _ h1, by simp [h2], fun i hi => ?_⟩
 rw [Array.getElem?_setIfInBounds]
 unfold upd
 by_cases e : k = i
 ·subst e
  rw [if_pos rfl, if_pos (by omega), if_pos rfl]
 ·rw [if_neg e, if_neg (fun h => e h.symm)]
  exact h3 i hi
set_option maxRecDepth 20000 in
set_option maxHeartbeats 4000000 in
theorem across_any {w : World} {G A : Nat} {f : Nat → Int} {co gs gp gpo gm gmo : Int} {u : Value} (first last : Nat) (hG : w.heap[G]? = some (grO co gs gp gpo gm gmo u)) (hA : ArrAt w A f) (hf : Bd f) (hab : first ≤ last) (hb : last < 20) (hg : -1073741823 ≤ gs ∧ gs ≤ 1073741823) :
 Calls Tryz.prog 92 #[.pointer (some ⟨G, 0, none⟩), .pointer (some ⟨A, 0, none⟩), .int .i64 first, .int .i64 last] w fun e w' => e = .returned (.int .i64 (acr f gs first last)) ∧ w' = w := by
 have q1 : w.cell? ⟨G, 1, none⟩ = some (.int .i64 gs) := cell_of_row _ _ 1 _ 109 _ hG
 have hGl : G < w.heap.size := (Array.getElem?_eq_some_iff.1 hG).1
 have hAl := hA.lt
 have HA := hideP hA
 have HF := hideP hf
 obtain ⟨D, hD⟩ : ∃ D, D = ((last : Int) - first) * gs := ⟨_, rfl⟩
 have hDb : -20401094637 ≤ D ∧ D ≤ 20401094637 := by rw [hD]; exact mul_bd (by omega) (by omega) hg
 have w1 : IntKind.i64.wrap (((last : Int) - first) * gs) = D := by rw [← hD, IntKind.wrap_i64]; omega
 have HD : Hid (acr f gs first last = D + sumF f first (last + 1 - first)) := hideP (by rw [hD]; rfl)
 clear hA hf hG hD hg
 go_enter Tryz.func92, Tryz.ntmps92
 go_wp2
 go_loopw [9, 24] (fun s i wr => ∃ (k : Nat) (m : Int), k ≤ last + 1 - first ∧ i = .int .i64 k ∧ s = .int .i64 (D + m) ∧ Hid (m = sumF f first k) ∧ wr = w) (fun _ i _ => last + 1 - first - (intOf i).toNat)
 case atStart => exact ⟨0, 0, by omega, rfl, by simp, hideP rfl, rfl⟩
 case round =>
  obtain ⟨k, m, hk, rfl, rfl, HM, hww⟩ := hrel
  have hww' := hww.symm
  subst hww'
  clear hww
  have hm := sumF_bd HF.out first k
  rw [← HM.out] at hm
  by_cases hkn : k < last + 1 - first
  ·have hki : (k : Int) < (last : Int) - first + 1 := by omega
   have hc := HA.out.cell (i := first + k) (by omega)
   have hfb := HF.out (first + k)
   obtain ⟨y, hy⟩ : ∃ y, y = f (first + k) := ⟨_, rfl⟩
   have HY := hideP hy
   rw [← hy] at hc hfb
   clear hy
   go_wp2
   go_roundw
   case rel => exact ⟨k + 1, m + y, by omega, by go_num, by first | rfl | (congr 1; omega), hideP (by rw [sumF_succ, ← HM.out, ← HY.out]), by trivial⟩
   case measure => simp [intOf]; omega
  ·have hki : ¬ (k : Int) < (last : Int) - first + 1 := by omega
   go_wp2
   go_ret
   refine ⟨?_, rfl⟩
   rw [HD.out, HM.out, show k = last + 1 - first by omega]
   rfl
def filN : Nd := ⟨3, 0, 0, 0, 0, 0, 0, 0, 0, 65536, 1, 0, 0, ⟨#[]⟩, 0⟩
def krnN (x : Int) : Nd := ⟨2, x, 0, 0, 0, 0, 0, 0, 0, 0, 0, 0, 0, ⟨#[]⟩, 0⟩
def rulN (x h : Int) : Nd := ⟨5, x, h, 0, 0, 0, 0, 0, 0, 0, 0, 0, 0, ⟨#[]⟩, 0⟩
def gapN (gs gp gpo gm gmo : Int) : Nd := ⟨3, 0, 0, 0, 0, 0, 0, 0, gs, gp, gpo, gm, gmo, ⟨#[]⟩, 0⟩
def celN (al : Int) (ns : List Nd) : List Nd := (if al = 0 then [] else [filN]) ++ ns ++ (if al = 2 then [] else [filN])
def celW (f : Nat → Int) (gs : Int) (cs : List Cl) (k : Nat) : Int := acr f gs (spK cs k).toNat (spK cs (k + 1) - 1).toNat
def celR (f : Nat → Int) (gs : Int) (cs : List Cl) (k : Nat) : List Nd := hpR (celN (cs.getD k Cl.none).al (cs.getD k Cl.none).ns) 1 (celW f gs cs k)
def celsOk (f : Nat → Int) (gs : Int) (cs : List Cl) : Nat → Bool
 | 0 => true
 | k + 1 => celsOk f gs cs k && decide (0 < (celR f gs cs k).length)
def aK (f : Nat → Int) (gs : Int) (gap : Nd) (cs : List Cl) : Nat → List Nd
 | 0 => []
 | k + 1 => aK f gs gap cs k ++ celR f gs cs k ++ [gap]
def kK (f : Nat → Int) (gap : Nd) (a : Nat) (L : List Nd) : Nat → List Nd
 | 0 => L
 | j + 1 => kK f gap a L j ++ [krnN (f (a + j)), gap]
def rowI (f : Nat → Int) (gs : Int) (gap : Nd) (cs : List Cl) (co : Int) : List Nd := (kK f gap (spK cs cs.length).toNat (aK f gs gap cs cs.length) (co - spK cs cs.length).toNat).dropLast
def rowR (f : Nat → Int) (gs : Int) (gap : Nd) (co : Int) (r : Rw) : List Nd := if 0 < r.ru then hpR [rulN (acr f gs 0 (co.toNat - 1)) r.ru] 0 0 else if celsOk f gs r.cs r.cs.length = true then hpR (rowI f gs gap r.cs co) 0 0 else []
theorem hpOk_parts {xs : List Nd} {mode size : Int} (h : hpOk xs mode size = true) : xs.length < 20000 ∧ xs.all goodB = true ∧ fitsB size = true := by
 unfold hpOk packB canB at h
 simp only [Bool.and_eq_true, decide_eq_true_eq] at h
 exact ⟨h.1.1.1.1.1.1.1.1.1, h.1.1.1.1.1.1.1.2, h.1.1.1.1.1.2⟩
theorem hpR_unfit {xs : List Nd} {mode size : Int} (h : fitsB size = false) : hpR xs mode size = [] := by
 unfold hpR
 rw [if_neg]
 intro h1
 rw [(hpOk_parts h1).2.2] at h
 cases h
theorem hpR_rule {x h : Int} (hf : fitsB x = false) : hpR [rulN x h] 0 0 = [] := by
 unfold hpR
 rw [if_neg]
 intro h1
 have h2 := (hpOk_parts h1).2.1
 simp only [List.all_cons, List.all_nil, Bool.and_true] at h2
 have h3 := (good_in h2).1
 unfold fitsB at hf
 simp only [decide_eq_false_iff_not] at hf
 exact hf h3
theorem hpR_le {xs : List Nd} {mode size : Int} : (hpR xs mode size).length ≤ 20000 := by
 unfold hpR
 split
 ·rename_i h
  have := (hpOk_parts h).1
  rw [hpN_len]
  omega
 ·simp
theorem celsOk_down {f : Nat → Int} {gs : Int} {cs : List Cl} : ∀ {n k : Nat}, k ≤ n → celsOk f gs cs k = false → celsOk f gs cs n = false
 | 0, k, h, h0 => by
  obtain rfl : k = 0 := by omega
  exact h0
 | n + 1, k, h, h0 => by
  by_cases hk : k = n + 1
  ·subst hk; exact h0
  ·unfold celsOk
   rw [celsOk_down (show k ≤ n by omega) h0]
   rfl
theorem celsOk_no {f : Nat → Int} {gs : Int} {cs : List Cl} {k n : Nat} (hk : k < n) (h : (celR f gs cs k).length = 0) : celsOk f gs cs n = false := by
 refine celsOk_down (show k + 1 ≤ n by omega) ?_
 unfold celsOk
 rw [h]
 simp
theorem aK_len (f : Nat → Int) (gs : Int) (gap : Nd) (cs : List Cl) : ∀ k, (aK f gs gap cs k).length ≤ 20001 * k
 | 0 => by simp [aK]
 | k + 1 => by
  have h1 := aK_len f gs gap cs k
  have h2 : (celR f gs cs k).length ≤ 20000 := hpR_le
  simp only [aK, List.length_append, List.length_cons, List.length_nil]
  omega
theorem kK_len (f : Nat → Int) (gap : Nd) (a : Nat) (L : List Nd) : ∀ j, (kK f gap a L j).length = L.length + 2 * j
 | 0 => by simp [kK]
 | j + 1 => by
  have h1 := kK_len f gap a L j
  simp only [kK, List.length_append, List.length_cons, List.length_nil]
  omega
theorem aK_end (f : Nat → Int) (gs : Int) (gap : Nd) (cs : List Cl) : ∀ k, 0 < k → (aK f gs gap cs k).dropLast ++ [gap] = aK f gs gap cs k
 | 0, h => by omega
 | k + 1, _ => by simp [aK]
theorem aK_drop (f : Nat → Int) (gs : Int) (gap : Nd) (cs : List Cl) (k : Nat) : (aK f gs gap cs (k + 1)).dropLast = aK f gs gap cs k ++ celR f gs cs k := by simp [aK]
theorem kK_drop (f : Nat → Int) (gap : Nd) (a : Nat) (L : List Nd) (j : Nat) : (kK f gap a L (j + 1)).dropLast = kK f gap a L j ++ [krnN (f (a + j))] := by
 show (kK f gap a L j ++ [krnN (f (a + j)), gap]).dropLast = _
 rw [show [krnN (f (a + j)), gap] = [krnN (f (a + j))] ++ [gap] from rfl, ← List.append_assoc, List.dropLast_concat]
theorem drop_put (f : Nat → Int) (gs : Int) (gap : Nd) (cs : List Cl) (k j a : Nat) (h : 0 < k ∨ 0 < j) : (kK f gap a (aK f gs gap cs k) j).dropLast ++ [gap] = kK f gap a (aK f gs gap cs k) j := by
 cases j with
 | zero => exact aK_end f gs gap cs k (by omega)
 | succ j => rw [kK_drop]; simp [kK]
abbrev ndA (x : Nd) : Array Value := #[.int .i64 x.k, .int .i64 x.wd, .int .i64 x.ht, .int .i64 x.dp, .int .i64 x.sh, .int .i64 x.fo, .int .i64 x.ch, .int .i64 x.nn, .int .i64 x.gs, .int .i64 x.gp, .int .i64 x.gpo, .int .i64 x.gm, .int .i64 x.gmo, .string x.tx, .int .i64 x.kids]
theorem run_bsN (W : World) (x : Nd) : (Instr.buildSlice 24 1 #[(0, ndV x)]).run Tryz.prog W = .ok (.slice (some ⟨W.heap.size, 0, none⟩) 1 1) (W.alloc (.cells (ndA x) 36)) := by
 obtain ⟨k, wd, ht, dp, sh, fo, ch, nn, gs, gp, gpo, gm, gmo, tx, kids⟩ := x
 kernel_rfl
theorem flatN_app : ∀ xs ys : List Nd, flatN (xs ++ ys) = flatN xs ++ flatN ys
 | [], ys => by simp [flatN]
 | x :: xs, ys => by simp [flatN, flatN_app xs ys, List.append_assoc]
theorem nn_one {w : World} {g : Nat} {x : Nd} (h : w.heap[g]? = some (ndO x)) : NN 0 w (.slice (some ⟨g, 0, none⟩) 1 1) [x] := by
 refine .inr ⟨g, 0, 1, rfl, Nat.le_refl _, Nat.zero_le _, fun _ => (Array.getElem?_eq_some_iff.1 h).1, fun j u hj => ?_⟩
 rw [Nat.zero_add, cell_of_row _ _ j _ 36 _ h]
 have e : flatN [x] = (ndA x).toList := by simp [flatN, Nd.cells]
 rw [e] at hj
 simpa using hj
theorem wp_appN {w : World} {o : Oper} {a : Act} {K : Act → World → Prop} {Q : Exit → Act → World → Prop} (s x : Operand) (ho : o.op = .call { callee := .builtin .append, args := #[s, x], argTypes := #[24, 24] })
 (base : Nat) (v : Value) (n : Nat) (xs : List Nd) (hs : a.eval s = v) (hown : w.ownsRow base 36 15 v n (flatN xs)) (u : Value) (ys : List Nd) (hx : a.eval x = u) (hp : NN 0 w u ys) (hn : n + ys.length ≤ 2000000) (hbase : base ≤ w.heap.size)
 (h : ∀ v' w', w'.ownsRow base 36 15 v' (n + ys.length) (flatN (xs ++ ys)) → w.grownBy w' v.ownBlock → (v'.ownBlock = v.ownBlock ∨ v'.ownBlock = some w.heap.size) → K (a.put o.dst v') w') : o.wp Tryz.prog a w K Q := by
 obtain ⟨i0, hi, hz0, hz1, hz2⟩ := info_parts Tryz.info57c
 rcases hp with ⟨rfl, rfl⟩ | ⟨b, off, cap, rfl, hc, _, hb, hq⟩
 ·have hrun := run_append_owned_none (P := Tryz.prog) (w := w) base 24 o.type 36 i0 15 Tryz.underlying24 hi v n _ hown
  unfold Oper.wp
  simp [execOp, ho, resolve, invoke, builtin, hs, hx, hrun, Result.andThen]
  exact h v w (by simpa using hown) ⟨rfl, rfl, rfl, Nat.le_refl _, fun _ _ _ => rfl⟩ (.inl rfl)
 ·obtain ⟨v', w', hr, h2, h3, h4, h5⟩ := run_append_own_at (P := Tryz.prog) w base 24 o.type 36 i0 (ndV Nd.none) 15 128 Tryz.underlying24 hi hz0 hz1 hz2 rfl (by decide) v n _ hown ⟨b, off, none⟩ ys.length cap (flatN ys) (flatN_len ys) (fun j u hj => by
   have h9 := hq j u hj
   unfold Addr.add
   split
   ·rename_i e; have e2 : j = 0 := by simpa using e
    subst e2; exact h9
   ·exact h9) (flatN_one ys) (by unfold maxLen; omega) (by omega) hbase
  unfold Oper.wp execOp
  simp only [ho, resolve, invoke, builtin, Sem.run_bind, Sem.run_pure, Result.andThen_ok, List.map_toArray, List.map_cons, List.map_nil, hs, hx, hr]
  exact h v' w' (by rw [flatN_app]; exact h2) h3 h5
theorem wpList_appN {w : World} {ops : Array Oper} {rest : List Oper} {o : Oper} {a : Act} {Q : Exit → Act → World → Prop} (hgd : o.guard = none) (s x : Operand) (ho : o.op = .call { callee := .builtin .append, args := #[s, x], argTypes := #[24, 24] })
 (base : Nat) (v : Value) (n : Nat) (xs : List Nd) (hs : a.eval s = v) (hown : w.ownsRow base 36 15 v n (flatN xs)) (u : Value) (ys : List Nd) (hx : a.eval x = u) (hp : NN 0 w u ys) (hn : n + ys.length ≤ 2000000) (hbase : base ≤ w.heap.size)
 (h : ∀ v' w', w'.ownsRow base 36 15 v' (n + ys.length) (flatN (xs ++ ys)) → w.grownBy w' v.ownBlock → (v'.ownBlock = v.ownBlock ∨ v'.ownBlock = some w.heap.size) → wpList Tryz.prog ops Q rest (a.put o.dst v') w') : wpList Tryz.prog ops Q (o :: rest) a w :=
 wpList_plain hgd fun _ hK => wp_appN s x ho base v n xs hs hown u ys hx hp hn hbase fun v' w' h2 h3 h4 => hK _ _ (h v' w' h2 h3 h4)
theorem NN.bel {w w' : World} {v : Value} {xs : List Nd} (h : NN 0 w v xs) (hb : Below w.heap.size w w') : NN 0 w' v xs := by
 rcases h with h | ⟨b, off, cap, rfl, h1, h2, h3, h4⟩
 ·exact .inl h
 ·refine .inr ⟨b, off, cap, rfl, h1, h2, fun h => Nat.lt_of_lt_of_le (h3 h) hb.size, fun j u hj => ?_⟩
  have h0 : 0 < xs.length := by
   cases xs with
   | nil => simp [flatN] at hj
   | cons _ _ => simp
  exact (hb.cell (p := ⟨b, off + j, none⟩) (h3 h0)).trans (h4 j u hj)
theorem zeros_one (n : Nat) : ∀ v ∈ (Builtin.zeroCells (Value.cells (ndV Nd.none)) n).toList, v.oneCell' = true := by
 intro v hv
 have hz : ∀ i, i < 15 → ((Value.cells (ndV Nd.none))[i]!).oneCell' = true := by decide
 unfold Builtin.zeroCells at hv
 simp only [Array.toList_map, List.mem_map] at hv
 obtain ⟨i, _, rfl⟩ := hv
 exact hz _ (Nat.mod_lt _ (by decide))
theorem zero36 (w : World) : (zeroValue 36).run Tryz.prog w = .ok (ndV Nd.none) w := by kernel_rfl
theorem run_clearN {w : World} {g n cap : Nat} {cur : Array Value} (hg : w.heap[g]? = some (.cells cur 36 (0, 0))) (hs : n * 15 ≤ cur.size) (h0 : n ≠ 0) :
 ∃ cur' : Array Value, cur'.size = cur.size ∧ ∀ ty, (Builtin.clear_ #[24] ty #[.slice (some ⟨g, 0, none⟩) n cap]).run Tryz.prog w = .ok (.tuple #[]) (w.setRow g cur') := by
 have hz : (Builtin.zeroCells (Value.cells (ndV Nd.none)) n).toList.length = n * 15 := by simp [Builtin.zeroCells, Value.cells]
 have hr := run_storeCells_at (P := Tryz.prog) g 0 36 (Builtin.zeroCells (Value.cells (ndV Nd.none)) n).toList 0 cur w hg (by rw [hz]; omega) (zeros_one n)
 refine ⟨(cur.toList.take (0 + 0) ++ (Builtin.zeroCells (Value.cells (ndV Nd.none)) n).toList ++ cur.toList.drop (0 + 0 + (Builtin.zeroCells (Value.cells (ndV Nd.none)) n).toList.length)).toArray, ?_, fun ty => ?_⟩
 rotate_left
 ·obtain ⟨m, rfl⟩ : ∃ m, n = m + 1 := ⟨n - 1, by omega⟩
  simp only [Builtin.clear_, Sem.run_bind, run_underlying Tryz.underlying24, Result.andThen_ok, zero36, List.getElem?_toArray, List.getElem?_cons_zero]
  simp only [Sem.run_bind, zero36, Result.andThen_ok, hr, Sem.run_pure]
 ·simp only [List.size_toArray, List.length_append, List.length_take, List.length_drop, hz]
  simp
  omega
theorem fld28 (u : Value) (s : Shr.Sett) (W : World) : (Instr.field 30 (packV u s) 0).run Tryz.prog W = .ok u W := by kernel_rfl
set_option maxHeartbeats 4000000 in
theorem l12RowOk_rule (x : Rw) {v : Value} {w : World} (cols : Int) (h : CRowN 0 w v x.cs) (hru : x.ru ≠ 0) (hlen : x.cs.length ≤ 1048576) :
 Calls Tryz.prog 101 #[rwV x v, .int .i64 cols] w fun e w' => e = .returned (.bool (rowB x cols)) ∧ Below w.heap.size w w' := by
 obtain ⟨ua, uc, rfl⟩ := h.shape
 clear h
 obtain ⟨rcs, ru⟩ := x
 have HF : Hid (∀ b : Bool, b = (decide (0 < ru) && decide (ru ≤ 1073741823) && decide (rcs.length = 0)) → rowB ⟨rcs, ru⟩ cols = b) := hideP (fun b hb => by rw [hb]; unfold rowB; rw [if_neg hru])
 dsimp only at hru hlen ⊢
 obtain ⟨n, hn⟩ : ∃ n, n = rcs.length := ⟨_, rfl⟩
 rw [← hn] at HF hlen ⊢
 clear hn
 by_cases h1 : 0 < ru
 ·by_cases h2 : ru ≤ 1073741823
  ·by_cases h3 : n = 0
   ·subst h3
    go_enter Tryz.func101, Tryz.ntmps101
    go_wp2
    go_ret
    exact ⟨retB (HF.out _ (by simp [h1, h2])).symm, below1 _ _⟩
   ·have h4 : ¬ (n : Int) = 0 := by omega
    go_enter Tryz.func101, Tryz.ntmps101
    go_wp2
    go_ret
    exact ⟨retB (HF.out _ (by simp [h1, h2, h3])).symm, below1 _ _⟩
  ·go_enter Tryz.func101, Tryz.ntmps101
   go_wp2
   go_ret
   exact ⟨retB (HF.out _ (by simp [h1]; omega)).symm, below1 _ _⟩
 ·go_enter Tryz.func101, Tryz.ntmps101
  go_wp2
  go_ret
  exact ⟨retB (HF.out _ (by simp; omega)).symm, below1 _ _⟩
set_option maxRecDepth 20000 in
set_option maxHeartbeats 8000000 in
theorem l12RowOk_cells (x : Rw) {v : Value} {w : World} (cols : Int) (h : CRowN 0 w v x.cs) (hru : x.ru = 0) (hs : SmW x) (hc0 : 1 ≤ cols) (hc1 : cols ≤ 20) :
 Calls Tryz.prog 101 #[rwV x v, .int .i64 cols] w fun e w' => e = .returned (.bool (rowB x cols)) ∧ Below w.heap.size w w' := by
 obtain ⟨ua, n, uc, rfl, hn, hr⟩ := h
 obtain ⟨rcs, ru⟩ := x
 dsimp only at hru hs hn hr ⊢
 have hlen : n ≤ 1048576 := by rw [← hn]; exact hs.1
 have HR : Hid (0 < n → ∃ b off, ua = some ⟨b, off, none⟩ ∧ 0 ≤ b ∧ b < w.heap.size ∧ ∀ i, i < n → ∃ cs : List Value, cs.length = 3 ∧ ClN 0 w cs (rcs.getD i Cl.none) ∧ ∀ j, j < 3 → w.cell? ⟨b, off + i * 3 + j, none⟩ = cs[j]?) := hr
 have HS : Hid (∀ i, i < n → SmC (rcs.getD i Cl.none)) := hideP (by rw [← hn]; exact hs.2)
 have HV : Hid (rowB ⟨rcs, ru⟩ cols = (cellsB rcs cols n && decide (spK rcs n ≤ cols))) := hideP (by unfold rowB; rw [if_pos hru, ← hn])
 clear hr hs hn
 subst hru
 go_enter Tryz.func101, Tryz.ntmps101
 go_wp2
 go_loopw [5, 6] (fun s i wr => ∃ (k : Nat) (m : Int), k ≤ n ∧ i = .int .i64 k ∧ s = .int .i64 m ∧ Hid (m = spK rcs k ∧ cellsB rcs cols k = true) ∧ (k : Int) ≤ m ∧ m ≤ 20 * k ∧ Below (w.heap.size + 1) (w.alloc (.cells #[.slice ua n uc, .int .i64 0] 51)) wr)
  (fun _ i _ => n - (intOf i).toNat)
 case atStart => exact ⟨0, 0, by omega, rfl, rfl, hideP ⟨rfl, rfl⟩, by omega, by omega, Below.refl _ _⟩
 case round =>
  obtain ⟨k, m, hk, rfl, rfl, HM, hm0, hm1, hbel⟩ := hrel
  have HB : Hid (Below w.heap.size w wr) := hideP ((below1 w _).trans (hbel.mono (by omega)))
  have hxs : w.heap.size < wr.heap.size := by have := hbel.size; simp at this; omega
  have t0 : wr.cell? ⟨w.heap.size, 0, none⟩ = some (.slice ua n uc) := (hbel.cell (p := ⟨w.heap.size, 0, none⟩) (by simp)).trans (by simp)
  by_cases hkn : k < n
  ·have hki : (k : Int) < (n : Int) := by omega
   obtain ⟨b, off, rfl, hlo, hb, hc⟩ := HR (by omega)
   obtain ⟨cs, hcl, hRel, hcj⟩ := hc k hkn
   have hsk := HS k hkn
   obtain ⟨t, ht⟩ : ∃ t, t = rcs.getD k Cl.none := ⟨_, rfl⟩
   rw [← ht] at hRel hsk
   have HT : Hid (t = rcs.getD k Cl.none) := ht
   obtain ⟨u, hcs, hu, huN⟩ := hRel
   obtain ⟨va, vn, vc, rfl⟩ : ∃ a n c, u = .slice a n c := by obtain ⟨a, c, rfl⟩ := hu.shape; exact ⟨_, _, _, rfl⟩
   obtain ⟨nH, hnH⟩ : ∃ nH, nH = (hpR t.ns 0 0).length := ⟨_, rfl⟩
   have HC : Hid (∀ W : World, Below w.heap.size w W → Calls Tryz.prog 104 #[.slice va vn vc, .int .i64 0, .int .i64 0] W fun e w' => ∃ a c s, e = .returned (packV (.slice a nH c) s) ∧ Below W.heap.size W w') := hideP (fun W hW => by
    refine (specHN 0 0 (hu.below ndStable hW) (huN.abv ⟨hW.size, fun k _ hk => hW.block k hk⟩) hsk.1).mono ?_
    rintro e w' ⟨u, rfl, ho, hb⟩
    obtain ⟨a, c, rfl⟩ := ownG_shape ho
    rw [← hnH]
    exact ⟨a, c, _, rfl, hb⟩)
   have HN : Hid (nH = 0 ↔ hpOk t.ns 0 0 = false) := hideP (by rw [hnH]; exact hpR_none)
   have HF : Hid (cellB t cols = false → rowB ⟨rcs, 0⟩ cols = false) := hideP (fun hf => by
    have h0 : cellsB rcs cols (k + 1) = false := by unfold cellsB; rw [← ht, hf, Bool.and_false]
    rw [HV.out, cellsB_down (show k + 1 ≤ n by omega) h0]
    rfl)
   clear hu huN hsk hnH
   have HQ : Hid (cellB t cols = (decide (1 ≤ t.sp) && decide (t.sp ≤ cols) && decide (0 ≤ t.al) && decide (t.al ≤ 2) && hpOk t.ns 0 0)) := hideP rfl
   obtain ⟨sp, al, ns⟩ := t
   rw [show cs = _ from hcs] at hcj
   dsimp only at hcj HN HQ
   have g0 : wr.cell? ⟨b, off + k * 3, none⟩ = some (.int .i64 sp) := (HB.out.cell (p := ⟨b, off + k * 3, none⟩) hb).trans (hcj 0 (by omega))
   have g1 : wr.cell? ⟨b, off + k * 3 + 1, none⟩ = some (.int .i64 al) := (HB.out.cell (p := ⟨b, off + k * 3 + 1, none⟩) hb).trans (hcj 1 (by omega))
   have g2 : wr.cell? ⟨b, off + k * 3 + 2, none⟩ = some (.slice va vn vc) := (HB.out.cell (p := ⟨b, off + k * 3 + 2, none⟩) hb).trans (hcj 2 (by omega))
   have HBT : Hid (Below (w.heap.size + 1) (w.alloc (.cells #[.slice (some ⟨b, off, none⟩) n uc, .int .i64 0] 51)) wr) := hideP hbel
   clear hc hcj hcl hbel ht hcs
   by_cases e1 : sp < 1
   ·go_wp2
    go_ret
    refine ⟨retB (HF.out ?_).symm, ?_⟩
    ·rw [HQ.out]; simp; omega
    ·have HBo := HB.out
     have HBs := HBo.size
     clear g0 g1 g2
     repeat (first | with_reducible exact HBo | (with_reducible refine Below.setCell ?_ ?_ _; rotate_left; focus (first | (simp; done) | (simp; omega))) | (with_reducible refine Below.alloc ?_ ?_ _; rotate_left; focus (first | exact HBs | (simp; omega))))
   by_cases e2 : cols < sp
   ·go_wp2
    go_ret
    refine ⟨retB (HF.out ?_).symm, ?_⟩
    ·rw [HQ.out]; simp; omega
    ·have HBo := HB.out
     have HBs := HBo.size
     clear g0 g1 g2
     repeat (first | with_reducible exact HBo | (with_reducible refine Below.setCell ?_ ?_ _; rotate_left; focus (first | (simp; done) | (simp; omega))) | (with_reducible refine Below.alloc ?_ ?_ _; rotate_left; focus (first | exact HBs | (simp; omega))))
   by_cases e3 : al < 0
   ·go_wp2
    go_ret
    refine ⟨retB (HF.out ?_).symm, ?_⟩
    ·rw [HQ.out]; simp; omega
    ·have HBo := HB.out
     have HBs := HBo.size
     clear g0 g1 g2
     repeat (first | with_reducible exact HBo | (with_reducible refine Below.setCell ?_ ?_ _; rotate_left; focus (first | (simp; done) | (simp; omega))) | (with_reducible refine Below.alloc ?_ ?_ _; rotate_left; focus (first | exact HBs | (simp; omega))))
   by_cases e4 : 2 < al
   ·go_wp2
    go_ret
    refine ⟨retB (HF.out ?_).symm, ?_⟩
    ·rw [HQ.out]; simp; omega
    ·have HBo := HB.out
     have HBs := HBo.size
     clear g0 g1 g2
     repeat (first | with_reducible exact HBo | (with_reducible refine Below.setCell ?_ ?_ _; rotate_left; focus (first | (simp; done) | (simp; omega))) | (with_reducible refine Below.alloc ?_ ?_ _; rotate_left; focus (first | exact HBs | (simp; omega))))
   by_cases e5 : nH = 0
   ·subst e5
    go_wp2_with fail
    refine (HC.out _ (by have HBo := HB.out; have HBs := HBo.size; repeat (first | with_reducible exact HBo | (with_reducible refine Below.setCell ?_ ?_ _; rotate_left; focus (first | (simp; done) | (simp; omega))) | (with_reducible refine Below.alloc ?_ ?_ _; rotate_left; focus (first | exact HBs | (simp; omega)))))).mono ?_
    rintro e w2 ⟨ra, rc, rs, rfl, hb1⟩
    have B2 : Hid (Below w.heap.size w w2) := hideP (below_more (by have HBo := HB.out; have HBs := HBo.size; repeat (first | with_reducible exact HBo | (with_reducible refine Below.setCell ?_ ?_ _; rotate_left; focus (first | (simp; done) | (simp; omega))) | (with_reducible refine Below.alloc ?_ ?_ _; rotate_left; focus (first | exact HBs | (simp; omega))))) hb1 (by have := HB.out.size; simp; omega))
    clear hb1
    have hfd := fld28 (.slice ra 0 rc) rs w2
    go_wp2
    go_ret
    refine ⟨retB (HF.out ?_).symm, B2.out⟩
    rw [HQ.out, HN.out.1 trivial]; simp
   ·have e6 : ¬ (nH : Int) = 0 := by omega
    have wadd : IntKind.i64.wrap (m + sp) = m + sp := by rw [IntKind.wrap_i64]; omega
    go_wp2_with fail
    refine (HC.out _ (by have HBo := HB.out; have HBs := HBo.size; repeat (first | with_reducible exact HBo | (with_reducible refine Below.setCell ?_ ?_ _; rotate_left; focus (first | (simp; done) | (simp; omega))) | (with_reducible refine Below.alloc ?_ ?_ _; rotate_left; focus (first | exact HBs | (simp; omega)))))).mono ?_
    rintro e w2 ⟨ra, rc, rs, rfl, hb1⟩
    have hc2 : w2.cell? ⟨wr.heap.size, 0, none⟩ = some (.int .i64 sp) := (hb1.cell (p := ⟨wr.heap.size, 0, none⟩) (by simp)).trans (by simp)
    have hx2 : wr.heap.size < w2.heap.size := by have := hb1.size; simp at this; omega
    have B2 : Hid (Below (w.heap.size + 1) (w.alloc (.cells #[.slice (some ⟨b, off, none⟩) n uc, .int .i64 0] 51)) w2) := hideP (below_more (by have HBo := HBT.out; have HBs : w.heap.size + 1 ≤ wr.heap.size := (by have := HBo.size; simpa using this); repeat (first | with_reducible exact HBo | (with_reducible refine Below.setCell ?_ ?_ _; rotate_left; focus (first | (simp; done) | (simp; omega))) | (with_reducible refine Below.alloc ?_ ?_ _; rotate_left; focus (first | exact HBs | (simp; omega))))) hb1 (by have := HBT.out.size; simp at this ⊢; omega))
    clear hb1
    have hfd := fld28 (.slice ra nH rc) rs w2
    go_wp2
    go_roundw
    case rel =>
     refine ⟨k + 1, m + sp, by omega, by go_num, rfl, hideP ⟨?_, ?_⟩, by omega, by omega, B2.out⟩
     ·rw [spK_succ, ← HT.out, HM.out.1]
     ·have h9 : hpOk ns 0 0 = true := by
       cases hk : hpOk ns 0 0 with
       | true => rfl
       | false => exact absurd (HN.out.2 hk) e5
      unfold cellsB
      rw [HM.out.2, ← HT.out, HQ.out, h9]
      simp
      omega
    case measure => simp [intOf]; omega
  ·have hki : ¬ (k : Int) < (n : Int) := by omega
   obtain rfl : k = n := by omega
   clear hbel
   by_cases e7 : m ≤ cols
   ·go_wp2
    go_ret
    refine ⟨retB ?_, HB.out⟩
    rw [HV.out, HM.out.2, ← HM.out.1]
    simp [e7]
   ·go_wp2
    go_ret
    refine ⟨retB ?_, HB.out⟩
    rw [HV.out, HM.out.2, ← HM.out.1]
    simp [e7]
theorem l12RowOk_any (x : Rw) {v : Value} {w : World} (cols : Int) (h : CRowN 0 w v x.cs) (hs : SmW x) (hc0 : 1 ≤ cols) (hc1 : cols ≤ 20) :
 Calls Tryz.prog 101 #[rwV x v, .int .i64 cols] w fun e w' => e = .returned (.bool (rowB x cols)) ∧ Below w.heap.size w w' := by
 by_cases hru : x.ru = 0
 ·exact l12RowOk_cells x cols h hru hs hc0 hc1
 ·exact l12RowOk_rule x cols h hru hs.1
abbrev tbO (t : Tb) (v : Value) : Obj := .cells #[.int .i64 t.co, .int .i64 t.gs, .int .i64 t.gp, .int .i64 t.gpo, .int .i64 t.gm, .int .i64 t.gmo, v] 44
set_option maxRecDepth 20000 in
set_option maxHeartbeats 8000000 in
theorem specTableOk_any (t : Tb) {v : Value} {w : World} (h : RRowN 0 w v t.rs) (hs : SmT t) :
 Calls Tryz.prog 60 #[tbV t v] w fun e w' => e = .returned (.bool (tabB t)) ∧ Below w.heap.size w w' := by
 obtain ⟨ua, n, uc, rfl, hn, hr⟩ := h
 have hlen : n ≤ 1048576 := by rw [← hn]; exact hs.1
 have HR : Hid (0 < n → ∃ b off, ua = some ⟨b, off, none⟩ ∧ 0 ≤ b ∧ b < w.heap.size ∧ ∀ i, i < n → ∃ cs : List Value, cs.length = 2 ∧ RwN 0 w cs (t.rs.getD i Rw.none) ∧ ∀ j, j < 2 → w.cell? ⟨b, off + i * 2 + j, none⟩ = cs[j]?) := hr
 have HS : Hid (∀ i, i < n → SmW (t.rs.getD i Rw.none)) := hideP (by rw [← hn]; exact hs.2)
 have HV : Hid (tabB t = (decide (1 ≤ t.co) && decide (t.co ≤ 20) && glB t.gs t.gp t.gpo t.gm t.gmo && decide (n ≤ 200) && rowsB t.rs t.co n)) := hideP (by unfold tabB headB; rw [← hn])
 have HG : Hid (∀ W, Calls Tryz.prog 100 #[glueV t.gs t.gp t.gpo t.gm t.gmo] W fun e w' => e = .returned (.bool (glB t.gs t.gp t.gpo t.gm t.gmo)) ∧ Below W.heap.size W w') := hideP (fun W => specGlueOk_any _ _ _ _ _ W)
 clear hr hs hn
 obtain ⟨co, gs, gp, gpo, gm, gmo, rs⟩ := t
 dsimp only at HR HS HV HG ⊢
 by_cases e1 : co < 1
 ·go_enter Tryz.func60, Tryz.ntmps60
  go_wp2
  go_ret
  refine ⟨retB ?_, below1 _ _⟩
  rw [HV.out, decide_eq_false (show ¬ 1 ≤ co by omega)]
  simp
 by_cases e2 : 20 < co
 ·go_enter Tryz.func60, Tryz.ntmps60
  go_wp2
  go_ret
  refine ⟨retB ?_, below1 _ _⟩
  rw [HV.out, decide_eq_false (show ¬ co ≤ 20 by omega)]
  simp
 cases e3 : glB gs gp gpo gm gmo with
 | false =>
  rw [e3] at HG HV
  go_enter Tryz.func60, Tryz.ntmps60
  go_wp2_with fail
  refine (HG.out _).mono ?_
  rintro e w1 ⟨rfl, hb1⟩
  have hx1 : w.heap.size < w1.heap.size := by have := hb1.size; simp at this; omega
  have B1 : Hid (Below w.heap.size w w1) := hideP (below_more (below1 _ _) hb1 (by simp))
  obtain ⟨hc1, hf1⟩ := bcell hb1
  simp only [World.size_alloc, World.size_setCell] at hc1 hf1
  clear hb1
  go_wp2
  go_ret
  refine ⟨retB ?_, B1.out⟩
  rw [HV.out]
  simp
 | true =>
  rw [e3] at HG HV
  by_cases e4 : 200 < n
  ·have e5 : (200 : Int) < n := by omega
   go_enter Tryz.func60, Tryz.ntmps60
   go_wp2_with fail
   refine (HG.out _).mono ?_
   rintro e w1 ⟨rfl, hb1⟩
   have hx1 : w.heap.size < w1.heap.size := by have := hb1.size; simp at this; omega
   have B1 : Hid (Below w.heap.size w w1) := hideP (below_more (below1 _ _) hb1 (by simp))
   obtain ⟨hc1, hf1⟩ := bcell hb1
   simp only [World.size_alloc, World.size_setCell] at hc1 hf1
   clear hb1
   go_wp2
   go_ret
   refine ⟨retB ?_, B1.out⟩
   rw [HV.out, decide_eq_false (show ¬ n ≤ 200 by omega)]
   simp
  ·have e5 : ¬ (200 : Int) < n := by omega
   have HV2 : Hid (tabB ⟨co, gs, gp, gpo, gm, gmo, rs⟩ = rowsB rs co n) := hideP (by
    rw [HV.out, decide_eq_true (show 1 ≤ co by omega), decide_eq_true (show co ≤ 20 by omega), decide_eq_true (show n ≤ 200 by omega)]
    simp)
   clear HV
   go_enter Tryz.func60, Tryz.ntmps60
   go_wp2_with fail
   refine (HG.out _).mono ?_
   rintro e w1 ⟨rfl, hb1⟩
   have hx1 : w.heap.size < w1.heap.size := by have := hb1.size; simp at this; omega
   have B1 : Hid (Below (w.heap.size + 1) (w.alloc (tbO ⟨co, gs, gp, gpo, gm, gmo, rs⟩ (.slice ua n uc))) w1) := hideP (hb1.mono (by simp))
   obtain ⟨hc1, hf1⟩ := bcell hb1
   simp only [World.size_alloc, World.size_setCell] at hc1 hf1
   clear hb1
   go_wp2
   clear hc1 hf1 hx1
   go_loopw [3] (fun i wr => ∃ (k : Nat), k ≤ n ∧ i = .int .i64 k ∧ Hid (rowsB rs co k = true) ∧ Below (w.heap.size + 1) (w.alloc (tbO ⟨co, gs, gp, gpo, gm, gmo, rs⟩ (.slice ua n uc))) wr)
    (fun i _ => n - (intOf i).toNat)
   case atStart => exact ⟨0, by omega, rfl, hideP rfl, B1.out⟩
   case round =>
    obtain ⟨k, hk, rfl, HM, hbel⟩ := hrel
    have HB : Hid (Below w.heap.size w wr) := hideP ((below1 w _).trans (hbel.mono (by omega)))
    have hxs : w.heap.size < wr.heap.size := by have := hbel.size; simp at this; omega
    have QT : Hid (∀ x, Below (w.heap.size + 1) (w.alloc (tbO ⟨co, gs, gp, gpo, gm, gmo, rs⟩ (.slice ua n uc))) x → x.cell? ⟨w.heap.size, 0, none⟩ = some (.int .i64 co) ∧ x.cell? ⟨w.heap.size, 6, none⟩ = some (.slice ua n uc)) := hideP (fun x hx => ⟨(hx.cell (p := ⟨w.heap.size, 0, none⟩) (by simp)).trans (by simp), (hx.cell (p := ⟨w.heap.size, 6, none⟩) (by simp)).trans (by simp)⟩)
    have t6 := (QT.out _ hbel).2
    by_cases hkn : k < n
    ·have hki : (k : Int) < (n : Int) := by omega
     obtain ⟨b, off, rfl, hlo, hb, hc⟩ := HR (by omega)
     obtain ⟨cs, hcl, hRel, hcj⟩ := hc k hkn
     have hsk := HS k hkn
     obtain ⟨t, ht⟩ : ∃ t, t = rs.getD k Rw.none := ⟨_, rfl⟩
     rw [← ht] at hRel hsk
     have HT : Hid (t = rs.getD k Rw.none) := ht
     obtain ⟨u, hcs, hu⟩ := hRel
     obtain ⟨va, vn, vc, rfl⟩ : ∃ a n c, u = .slice a n c := by obtain ⟨a, c, rfl⟩ := hu.shape; exact ⟨_, _, _, rfl⟩
     obtain ⟨R, hR⟩ : ∃ R, R = rowB t co := ⟨_, rfl⟩
     have HC : Hid (∀ W : World, Below w.heap.size w W → Calls Tryz.prog 101 #[rwV t (.slice va vn vc), .int .i64 co] W fun e w' => e = .returned (.bool R) ∧ Below W.heap.size W w') := hideP (fun W hW => by rw [hR]; exact l12RowOk_any t co (hu.below clNStable hW) hsk (by omega) (by omega))
     have HR9 := hideP hR
     clear hu hsk hR
     obtain ⟨rcs, ru⟩ := t
     rw [show cs = _ from hcs] at hcj
     dsimp only at hcj
     simp only [rwV] at HC
     have QA : Hid (∀ x, Below (w.heap.size + 1) (w.alloc (tbO ⟨co, gs, gp, gpo, gm, gmo, rs⟩ (.slice (some ⟨b, off, none⟩) n uc))) x → x.cell? ⟨b, off + k * 2, none⟩ = some (.slice va vn vc) ∧ x.cell? ⟨b, off + k * 2 + 1, none⟩ = some (.int .i64 ru)) := hideP (fun x hx => by
      have h2 : Below w.heap.size w x := (below1 w _).trans (hx.mono (by omega))
      exact ⟨(h2.cell (p := ⟨b, off + k * 2 + 0, none⟩) hb).trans (hcj 0 (by omega)), (h2.cell (p := ⟨b, off + k * 2 + 1, none⟩) hb).trans (hcj 1 (by omega))⟩)
     have HBT : Hid (Below (w.heap.size + 1) (w.alloc (tbO ⟨co, gs, gp, gpo, gm, gmo, rs⟩ (.slice (some ⟨b, off, none⟩) n uc))) wr) := hideP hbel
     have HBD : Hid (Below (w.heap.size + 1) (w.alloc (tbO ⟨co, gs, gp, gpo, gm, gmo, rs⟩ (.slice (some ⟨b, off, none⟩) n uc))) wr.drew) := hideP (Below.drew hbel)
     have HB2 : Hid (Below w.heap.size w wr.drew) := hideP (Below.drew HB.out)
     have hxd : w.heap.size + 1 ≤ wr.drew.heap.size := hxs
     have HSZ := hideP hxd
     clear hc hcj hcl hbel ht hcs hxd
     go_wp2_with fail
     go_region_held3 (fun x => (x.cell? ⟨b, off + k * 2, none⟩ = some (.slice va vn vc) ∧ x.cell? ⟨b, off + k * 2 + 1, none⟩ = some (.int .i64 ru)) ∧ (x.cell? ⟨w.heap.size, 0, none⟩ = some (.int .i64 co) ∧ x.cell? ⟨w.heap.size, 6, none⟩ = some (.slice (some ⟨b, off, none⟩) n uc))) (first | exact ⟨QA.out _ HBD.out, QT.out _ HBD.out⟩ | exact ⟨QA.out _ ‹Hid (Below (w.heap.size + 1) _ w2)›, QT.out _ ‹Hid (Below (w.heap.size + 1) _ w2)›⟩) ((go_at_call 101; refine (HC.out _ HB2.out).mono ?_; rintro e w2 ⟨rfl, hb1⟩; have hb2 : Hid (Below (w.heap.size + 1) (w.alloc (tbO ⟨co, gs, gp, gpo, gm, gmo, rs⟩ (.slice (some ⟨b, off, none⟩) n uc))) w2) := hideP (below_more HBD.out hb1 HSZ.out); clear hb1))
     all_goals
      cases R with
      | false =>
       go_wp2
       go_ret
       refine ⟨retB ?_, (below1 w _).trans (Below.mono ‹Hid (Below (w.heap.size + 1) _ w2)› (by omega))⟩
       have h0 : rowsB rs co (k + 1) = false := by unfold rowsB; rw [← HT.out, ← HR9.out, Bool.and_false]
       rw [HV2.out, rowsB_down (show k + 1 ≤ n by omega) h0]
      | true =>
       go_wp2
       go_roundw
       case rel =>
        refine ⟨k + 1, by omega, by go_num, hideP ?_, ‹Hid (Below (w.heap.size + 1) _ w2)›⟩
        unfold rowsB
        rw [HM.out, ← HT.out, ← HR9.out]
        rfl
       case measure => simp [intOf]; omega
    ·have hki : ¬ (k : Int) < (n : Int) := by omega
     obtain rfl : k = n := by omega
     clear hbel
     go_wp2
     go_ret
     refine ⟨retB ?_, HB.out⟩
     rw [HV2.out, HM.out]
end Go.Proofs.YtojoehdmjkgnnaaGreat
