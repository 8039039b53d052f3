/-
  The specification's l12RowOk and TableOk.
-/
import Derived.Test.YticalmdhbgkbbaaGreatFtd
import Derived.Test.YticalmdhbgkbbaaGreatLan
namespace Go.Proofs.YticalmdhbgkbbaaGreat
open Go.RowKit
set_option linter.unusedVariables false
set_option linter.unusedSimpArgs false

theorem tabB_parts {t : Tb} (h : tabB t = true) : 1 ≤ t.co ∧ t.co ≤ 20 ∧ (-1073741823 ≤ t.gs ∧ t.gs ≤ 1073741823) ∧ t.rs.length ≤ 200 ∧ ∀ i, i < t.rs.length → RowIn (t.rs.getD i Rw.none).cs t.co := by
  unfold tabB headB glB at h
  simp only [Bool.and_eq_true, decide_eq_true_eq] at h
  obtain ⟨⟨⟨⟨h1, h2⟩, ⟨⟨⟨⟨h3, _⟩, _⟩, _⟩, _⟩⟩, h4⟩, h5⟩ := h
  unfold fitsB at h3
  simp only [decide_eq_true_eq] at h3
  exact ⟨h1, h2, h3, h4, fun i hi => rowB_in (rowsB_at h5 i hi) h1⟩
/-- What gridOf and fitted give, for what calls them both. -/
theorem grid_fitted (x : Tb) {v : Value} {w : World} (h : RRowN 0 w v x.rs) (hs : SmT x) :
    Calls Tryz.prog 61 #[tbV x v] w fun e w' => (∃ p, e = .returned (.tuple #[.pointer p, .bool (tabB x)]) ∧ (tabB x = true → ∃ G u, p = some ⟨G, 0, none⟩ ∧ w.heap.size ≤ G ∧ w'.heap[G]? = some (grO x.co x.gs x.gp x.gpo x.gm x.gmo u) ∧
      Calls Tryz.prog 65 #[.pointer (some ⟨G, 0, none⟩)] w' fun e w2 => (∃ (arr : Array Value) (F : Nat → Int), e = .returned (.tuple #[.agg arr, .bool (colsOk x.gs x.rs x.co.toNat)]) ∧ arr.size = 20 ∧ (∀ i, i < 20 → arr[i]? = some (.int .i64 (F i))) ∧ Bd F ∧ (colsOk x.gs x.rs x.co.toNat = true → F = colsStep x.gs x.rs x.co.toNat)) ∧ Below w'.heap.size w' w2)) ∧ Below w.heap.size w w' := by
  refine (gridOf_any x h hs).mono ?_
  rintro e w' ⟨h1, h2⟩
  refine ⟨?_, h2⟩
  cases hb : tabB x with
  | false =>
    rw [hb] at h1
    exact ⟨none, h1, fun h => by cases h⟩
  | true =>
    rw [hb] at h1
    obtain ⟨G, rfl, u, ls, hG, hg, ho, hr⟩ := h1
    obtain ⟨b1, b2, b3, b4, b5⟩ := tabB_parts hb
    refine ⟨_, rfl, fun _ => ⟨G, u, rfl, hG, hg, ?_⟩⟩
    obtain ⟨ua, uc, rfl⟩ := ownG_shape ho
    exact fitted_any hg rfl (lanes_read ho hr) b5 b4 b1 b2 b3

end Go.Proofs.YticalmdhbgkbbaaGreat

namespace Go.Proofs.YticalmdhbgkbbaaGreat
open Go.RowKit
set_option linter.unusedVariables false
set_option linter.unusedSimpArgs false

/-- A row of n numbers stands at g. -/
def IntsAt (w : World) (g n : Nat) (f : Nat → Int) : Prop := ∃ arr : Array Value, w.heap[g]? = some (.cells arr 2 (0, 0)) ∧ arr.size = n ∧ ∀ i, i < n → arr[i]? = some (.int .i64 (f i))
theorem IntsAt.cell {w : World} {g n : Nat} {f : Nat → Int} (h : IntsAt w g n f) {i : Nat} (hi : i < n) : w.cell? ⟨g, i, none⟩ = some (.int .i64 (f i)) := by
  obtain ⟨arr, h1, h2, h3⟩ := h
  rw [cell_of_row _ _ i _ 2 _ h1]
  exact h3 i hi
theorem IntsAt.lt {w : World} {g n : Nat} {f : Nat → Int} (h : IntsAt w g n f) : g < w.heap.size := by
  obtain ⟨arr, h1, _⟩ := h
  exact (Array.getElem?_eq_some_iff.1 h1).1
theorem IntsAt.free {w : World} {g n : Nat} {f : Nat → Int} (h : IntsAt w g n f) (j : Nat) : w.frozen? ⟨g, j, none⟩ = false := by
  obtain ⟨arr, h1, _⟩ := h
  exact frozen_of_row _ _ j _ _ h1
theorem IntsAt.same {w w' : World} {g n : Nat} {f : Nat → Int} (h : IntsAt w g n f) (hb : w'.heap[g]? = w.heap[g]?) : IntsAt w' g n f := by
  obtain ⟨arr, h1, h2⟩ := h
  exact ⟨arr, hb.trans h1, h2⟩
theorem IntsAt.below {w w' : World} {g n : Nat} {f : Nat → Int} (h : IntsAt w g n f) (hb : Below w.heap.size w w') : IntsAt w' g n f := h.same (hb.block _ h.lt)
theorem IntsAt.set {w : World} {g n : Nat} {f : Nat → Int} (h : IntsAt w g n f) {k : Nat} (hk : k < n) (x : Int) : IntsAt (w.setCell ⟨g, k, none⟩ (.int .i64 x)) g n (upd f k x) := by
  obtain ⟨arr, h1, h2, h3⟩ := h
  refine ⟨_, heap_setCell_same w g k arr 2 _ h1, by simp [h2], fun i hi => ?_⟩
  rw [Array.getElem?_setIfInBounds]
  unfold upd
  by_cases e : k = i
  · subst e
    rw [if_pos rfl, if_pos (by omega), if_pos rfl]
  · rw [if_neg e, if_neg (fun h => e h.symm)]
    exact h3 i hi
theorem IntsAt.congr {w : World} {g n : Nat} {f f' : Nat → Int} (h : IntsAt w g n f) (hf : ∀ i, i < n → f i = f' i) : IntsAt w g n f' := by
  obtain ⟨arr, h1, h2, h3⟩ := h
  exact ⟨arr, h1, h2, fun i hi => by rw [← hf i hi]; exact h3 i hi⟩

set_option maxRecDepth 20000 in
set_option maxHeartbeats 4000000 in
theorem l12Across_any {w : World} {g n cap : Nat} {f : Nat → Int} {gs : Int} (a b : Nat) (hA : IntsAt w g n f) (hf : Bd f) (hab : a ≤ b) (hb : b < n) (hn : n ≤ 20) (hg : -1073741823 ≤ gs ∧ gs ≤ 1073741823) (sp : Int) (hsp : sp = (b : Int) + 1 - a) :
    Calls Tryz.prog 64 #[.slice (some ⟨g, 0, none⟩) n cap, .int .i64 gs, .int .i64 a, .int .i64 sp] w fun e w' => e = .returned (.int .i64 (acr f gs a b)) ∧ w' = w := by
  have hAl := hA.lt
  have HA := hideP hA
  have HF := hideP hf
  obtain ⟨D, hD⟩ : ∃ D, D = gs * (sp - 1) := ⟨_, rfl⟩
  have hD2 : D = ((b : Int) - a) * gs := by rw [hD, hsp, Int.mul_comm]; congr 1; omega
  have hDb : -20401094637 ≤ D ∧ D ≤ 20401094637 := by rw [hD2]; exact mul_bd (by omega) (by omega) hg
  have w1 : IntKind.i64.wrap (gs * (sp - 1)) = D := by rw [← hD, IntKind.wrap_i64]; omega
  have HD : Hid (acr f gs a b = D + sumF f a (b + 1 - a)) := hideP (by rw [hD2]; rfl)
  have w2 : IntKind.i64.wrap ((a : Int) + sp) = a + sp := by rw [IntKind.wrap_i64]; omega
  have w3 : IntKind.i64.wrap (sp - 1) = sp - 1 := by rw [IntKind.wrap_i64]; omega
  have HSP := hideP hsp
  have hs1 : 1 ≤ sp := by omega
  have hs2 : sp ≤ 20 := by omega
  have hs3 : (a : Int) + sp ≤ 20 := by omega
  clear hA hf hD hD2 hg hsp
  go_enter Tryz.func64, Tryz.ntmps64
  go_wp2
  go_loopw [9, 10] (fun s i wr => ∃ (k : Nat) (m : Int), k ≤ b + 1 - a ∧ i = .int .i64 ((a + k : Nat) : Int) ∧ s = .int .i64 (D + m) ∧ Hid (m = sumF f a k) ∧ wr = w) (fun _ i _ => b + 1 - (intOf i).toNat)
  case atStart => exact ⟨0, 0, by omega, by simp, by simp, hideP rfl, rfl⟩
  case round =>
    obtain ⟨k, m, hk, rfl, rfl, HM, hww⟩ := hrel
    have hww' := hww.symm
    subst hww'
    clear hww
    have hm := sumF_bd HF.out a k
    rw [← HM.out] at hm
    obtain ⟨q, hq⟩ : ∃ q, q = a + k := ⟨_, rfl⟩
    rw [← hq]
    have hsp := HSP.out
    by_cases hkn : k < b + 1 - a
    · have hki : (q : Int) < (a : Int) + sp := by omega
      have hqn : (q : Int) < (n : Int) := by omega
      have hc := HA.out.cell (i := q) (by omega)
      have hfb := HF.out q
      obtain ⟨y, hy⟩ : ∃ y, y = f q := ⟨_, rfl⟩
      have HY := hideP hy
      rw [← hy] at hc hfb
      have HQ := hideP hq
      have hq2 : q ≤ b := by omega
      clear hy hq hsp
      go_wp2
      go_roundw
      case rel => exact ⟨k + 1, m + y, by have := HQ.out; omega, by first | (rw [HQ.out]; go_num) | (congr 1; omega), by first | rfl | (congr 1; omega), hideP (by rw [sumF_succ, ← HM.out, ← HQ.out, ← HY.out]), by trivial⟩
      case measure => have := HQ.out; simp [intOf]; omega
    · have hki : ¬ (q : Int) < (a : Int) + sp := by omega
      have hkb : k = b + 1 - a := by omega
      have HKB := hideP hkb
      clear hq hsp hkb
      go_wp2
      go_ret
      refine ⟨?_, rfl⟩
      rw [HD.out, HM.out, HKB.out]
      rfl
end Go.Proofs.YticalmdhbgkbbaaGreat

namespace Go.Proofs.YticalmdhbgkbbaaGreat
open Go.RowKit
set_option linter.unusedVariables false
set_option linter.unusedSimpArgs false

theorem fld28 (u : Value) (s : Shr.Sett) (W : World) : (Instr.field 28 (packV u s) 0).run Tryz.prog W = .ok u W := by kernel_rfl
set_option maxHeartbeats 4000000 in
theorem l12RowOk_rule (x : Rw) {v : Value} {w : World} (cols : Int) (h : CRowN 0 w v x.cs) (hru : x.ru ≠ 0) (hlen : x.cs.length ≤ 1048576) :
    Calls Tryz.prog 58 #[rwV x v, .int .i64 cols] w fun e w' => e = .returned (.bool (rowB x cols)) ∧ Below w.heap.size w w' := by
  obtain ⟨ua, uc, rfl⟩ := h.shape
  clear h
  obtain ⟨rcs, ru⟩ := x
  have HF : Hid (∀ b : Bool, b = (decide (0 < ru) && decide (ru ≤ 1073741823) && decide (rcs.length = 0)) → rowB ⟨rcs, ru⟩ cols = b) := hideP (fun b hb => by rw [hb]; unfold rowB; rw [if_neg hru])
  dsimp only at hru hlen ⊢
  obtain ⟨n, hn⟩ : ∃ n, n = rcs.length := ⟨_, rfl⟩
  rw [← hn] at HF hlen ⊢
  clear hn
  by_cases h1 : 0 < ru
  · by_cases h2 : ru ≤ 1073741823
    · by_cases h3 : n = 0
      · subst h3
        go_enter Tryz.func58, Tryz.ntmps58
        go_wp2
        go_ret
        exact ⟨retB (HF.out _ (by simp [h1, h2])).symm, below1 _ _⟩
      · have h4 : ¬ (n : Int) = 0 := by omega
        go_enter Tryz.func58, Tryz.ntmps58
        go_wp2
        go_ret
        exact ⟨retB (HF.out _ (by simp [h1, h2, h3])).symm, below1 _ _⟩
    · go_enter Tryz.func58, Tryz.ntmps58
      go_wp2
      go_ret
      exact ⟨retB (HF.out _ (by simp [h1]; omega)).symm, below1 _ _⟩
  · go_enter Tryz.func58, Tryz.ntmps58
    go_wp2
    go_ret
    exact ⟨retB (HF.out _ (by simp; omega)).symm, below1 _ _⟩

set_option maxRecDepth 20000 in
set_option maxHeartbeats 8000000 in
theorem l12RowOk_cells (x : Rw) {v : Value} {w : World} (cols : Int) (h : CRowN 0 w v x.cs) (hru : x.ru = 0) (hs : SmW x) (hc0 : 1 ≤ cols) (hc1 : cols ≤ 20) :
    Calls Tryz.prog 58 #[rwV x v, .int .i64 cols] w fun e w' => e = .returned (.bool (rowB x cols)) ∧ Below w.heap.size w w' := by
  obtain ⟨ua, n, uc, rfl, hn, hr⟩ := h
  obtain ⟨rcs, ru⟩ := x
  dsimp only at hru hs hn hr ⊢
  have hlen : n ≤ 1048576 := by rw [← hn]; exact hs.1
  have HR : Hid (0 < n → ∃ b off, ua = some ⟨b, off, none⟩ ∧ 0 ≤ b ∧ b < w.heap.size ∧ ∀ i, i < n → ∃ cs : List Value, cs.length = 3 ∧ ClN 0 w cs (rcs.getD i Cl.none) ∧ ∀ j, j < 3 → w.cell? ⟨b, off + i * 3 + j, none⟩ = cs[j]?) := hr
  have HS : Hid (∀ i, i < n → SmC (rcs.getD i Cl.none)) := hideP (by rw [← hn]; exact hs.2)
  have HV : Hid (rowB ⟨rcs, ru⟩ cols = (cellsB rcs cols n && decide (spK rcs n ≤ cols))) := hideP (by unfold rowB; rw [if_pos hru, ← hn])
  clear hr hs hn
  subst hru
  go_enter Tryz.func58, Tryz.ntmps58
  go_wp2
  go_loopw [5, 6] (fun s i wr => ∃ (k : Nat) (m : Int), k ≤ n ∧ i = .int .i64 k ∧ s = .int .i64 m ∧ Hid (m = spK rcs k ∧ cellsB rcs cols k = true) ∧ (k : Int) ≤ m ∧ m ≤ 20 * k ∧ Below (w.heap.size + 1) (w.alloc (.cells #[.slice ua n uc, .int .i64 0] 94)) wr)
    (fun _ i _ => n - (intOf i).toNat)
  case atStart => exact ⟨0, 0, by omega, rfl, rfl, hideP ⟨rfl, rfl⟩, by omega, by omega, Below.refl _ _⟩
  case round =>
    obtain ⟨k, m, hk, rfl, rfl, HM, hm0, hm1, hbel⟩ := hrel
    have HB : Hid (Below w.heap.size w wr) := hideP ((below1 w _).trans (hbel.mono (by omega)))
    have hxs : w.heap.size < wr.heap.size := by have := hbel.size; simp at this; omega
    have t0 : wr.cell? ⟨w.heap.size, 0, none⟩ = some (.slice ua n uc) := (hbel.cell (p := ⟨w.heap.size, 0, none⟩) (by simp)).trans (by simp)
    by_cases hkn : k < n
    · have hki : (k : Int) < (n : Int) := by omega
      obtain ⟨b, off, rfl, hlo, hb, hc⟩ := HR (by omega)
      obtain ⟨cs, hcl, hRel, hcj⟩ := hc k hkn
      have hsk := HS k hkn
      obtain ⟨t, ht⟩ : ∃ t, t = rcs.getD k Cl.none := ⟨_, rfl⟩
      rw [← ht] at hRel hsk
      have HT : Hid (t = rcs.getD k Cl.none) := ht
      obtain ⟨u, hcs, hu, huN⟩ := hRel
      obtain ⟨va, vn, vc, rfl⟩ : ∃ a n c, u = .slice a n c := by obtain ⟨a, c, rfl⟩ := hu.shape; exact ⟨_, _, _, rfl⟩
      obtain ⟨nH, hnH⟩ : ∃ nH, nH = (hpR t.ns 0 0).length := ⟨_, rfl⟩
      have HC : Hid (∀ W : World, Below w.heap.size w W → Calls Tryz.prog 10 #[.slice va vn vc, .int .i64 0, .int .i64 0] W fun e w' => ∃ a c s, e = .returned (packV (.slice a nH c) s) ∧ Below W.heap.size W w') := hideP (fun W hW => by
        refine (specHN 0 0 (hu.below ndStable hW) (huN.abv ⟨hW.size, fun k _ hk => hW.block k hk⟩) hsk.1).mono ?_
        rintro e w' ⟨u, rfl, ho, hb⟩
        obtain ⟨a, c, rfl⟩ := ownG_shape ho
        rw [← hnH]
        exact ⟨a, c, _, rfl, hb⟩)
      have HN : Hid (nH = 0 ↔ hpOk t.ns 0 0 = false) := hideP (by rw [hnH]; exact hpR_none)
      have HF : Hid (cellB t cols = false → rowB ⟨rcs, 0⟩ cols = false) := hideP (fun hf => by
        have h0 : cellsB rcs cols (k + 1) = false := by unfold cellsB; rw [← ht, hf, Bool.and_false]
        rw [HV.out, cellsB_down (show k + 1 ≤ n by omega) h0]
        rfl)
      clear hu huN hsk hnH
      have HQ : Hid (cellB t cols = (decide (1 ≤ t.sp) && decide (t.sp ≤ cols) && decide (0 ≤ t.al) && decide (t.al ≤ 2) && hpOk t.ns 0 0)) := hideP rfl
      obtain ⟨sp, al, ns⟩ := t
      rw [show cs = _ from hcs] at hcj
      dsimp only at hcj HN HQ
      have g0 : wr.cell? ⟨b, off + k * 3, none⟩ = some (.int .i64 sp) := (HB.out.cell (p := ⟨b, off + k * 3, none⟩) hb).trans (hcj 0 (by omega))
      have g1 : wr.cell? ⟨b, off + k * 3 + 1, none⟩ = some (.int .i64 al) := (HB.out.cell (p := ⟨b, off + k * 3 + 1, none⟩) hb).trans (hcj 1 (by omega))
      have g2 : wr.cell? ⟨b, off + k * 3 + 2, none⟩ = some (.slice va vn vc) := (HB.out.cell (p := ⟨b, off + k * 3 + 2, none⟩) hb).trans (hcj 2 (by omega))
      have HBT : Hid (Below (w.heap.size + 1) (w.alloc (.cells #[.slice (some ⟨b, off, none⟩) n uc, .int .i64 0] 94)) wr) := hideP hbel
      clear hc hcj hcl hbel ht hcs
      by_cases e1 : sp < 1
      · go_wp2
        go_ret
        refine ⟨retB (HF.out ?_).symm, ?_⟩
        · rw [HQ.out]; simp; omega
        · have HBo := HB.out
          have HBs := HBo.size
          clear g0 g1 g2
          repeat (first | with_reducible exact HBo | (with_reducible refine Below.setCell ?_ ?_ _; rotate_left; focus (first | (simp; done) | (simp; omega))) | (with_reducible refine Below.alloc ?_ ?_ _; rotate_left; focus (first | exact HBs | (simp; omega))))
      by_cases e2 : cols < sp
      · go_wp2
        go_ret
        refine ⟨retB (HF.out ?_).symm, ?_⟩
        · rw [HQ.out]; simp; omega
        · have HBo := HB.out
          have HBs := HBo.size
          clear g0 g1 g2
          repeat (first | with_reducible exact HBo | (with_reducible refine Below.setCell ?_ ?_ _; rotate_left; focus (first | (simp; done) | (simp; omega))) | (with_reducible refine Below.alloc ?_ ?_ _; rotate_left; focus (first | exact HBs | (simp; omega))))
      by_cases e3 : al < 0
      · go_wp2
        go_ret
        refine ⟨retB (HF.out ?_).symm, ?_⟩
        · rw [HQ.out]; simp; omega
        · have HBo := HB.out
          have HBs := HBo.size
          clear g0 g1 g2
          repeat (first | with_reducible exact HBo | (with_reducible refine Below.setCell ?_ ?_ _; rotate_left; focus (first | (simp; done) | (simp; omega))) | (with_reducible refine Below.alloc ?_ ?_ _; rotate_left; focus (first | exact HBs | (simp; omega))))
      by_cases e4 : 2 < al
      · go_wp2
        go_ret
        refine ⟨retB (HF.out ?_).symm, ?_⟩
        · rw [HQ.out]; simp; omega
        · have HBo := HB.out
          have HBs := HBo.size
          clear g0 g1 g2
          repeat (first | with_reducible exact HBo | (with_reducible refine Below.setCell ?_ ?_ _; rotate_left; focus (first | (simp; done) | (simp; omega))) | (with_reducible refine Below.alloc ?_ ?_ _; rotate_left; focus (first | exact HBs | (simp; omega))))
      by_cases e5 : nH = 0
      · subst e5
        go_wp2_with fail
        refine (HC.out _ (by have HBo := HB.out; have HBs := HBo.size; repeat (first | with_reducible exact HBo | (with_reducible refine Below.setCell ?_ ?_ _; rotate_left; focus (first | (simp; done) | (simp; omega))) | (with_reducible refine Below.alloc ?_ ?_ _; rotate_left; focus (first | exact HBs | (simp; omega)))))).mono ?_
        rintro e w2 ⟨ra, rc, rs, rfl, hb1⟩
        have B2 : Hid (Below w.heap.size w w2) := hideP (below_more (by have HBo := HB.out; have HBs := HBo.size; repeat (first | with_reducible exact HBo | (with_reducible refine Below.setCell ?_ ?_ _; rotate_left; focus (first | (simp; done) | (simp; omega))) | (with_reducible refine Below.alloc ?_ ?_ _; rotate_left; focus (first | exact HBs | (simp; omega))))) hb1 (by have := HB.out.size; simp; omega))
        clear hb1
        have hfd := fld28 (.slice ra 0 rc) rs w2
        go_wp2
        go_ret
        refine ⟨retB (HF.out ?_).symm, B2.out⟩
        rw [HQ.out, HN.out.1 trivial]; simp
      · have e6 : ¬ (nH : Int) = 0 := by omega
        have wadd : IntKind.i64.wrap (m + sp) = m + sp := by rw [IntKind.wrap_i64]; omega
        go_wp2_with fail
        refine (HC.out _ (by have HBo := HB.out; have HBs := HBo.size; repeat (first | with_reducible exact HBo | (with_reducible refine Below.setCell ?_ ?_ _; rotate_left; focus (first | (simp; done) | (simp; omega))) | (with_reducible refine Below.alloc ?_ ?_ _; rotate_left; focus (first | exact HBs | (simp; omega)))))).mono ?_
        rintro e w2 ⟨ra, rc, rs, rfl, hb1⟩
        have hc2 : w2.cell? ⟨wr.heap.size, 0, none⟩ = some (.int .i64 sp) := (hb1.cell (p := ⟨wr.heap.size, 0, none⟩) (by simp)).trans (by simp)
        have hx2 : wr.heap.size < w2.heap.size := by have := hb1.size; simp at this; omega
        have B2 : Hid (Below (w.heap.size + 1) (w.alloc (.cells #[.slice (some ⟨b, off, none⟩) n uc, .int .i64 0] 94)) w2) := hideP (below_more (by have HBo := HBT.out; have HBs : w.heap.size + 1 ≤ wr.heap.size := (by have := HBo.size; simpa using this); repeat (first | with_reducible exact HBo | (with_reducible refine Below.setCell ?_ ?_ _; rotate_left; focus (first | (simp; done) | (simp; omega))) | (with_reducible refine Below.alloc ?_ ?_ _; rotate_left; focus (first | exact HBs | (simp; omega))))) hb1 (by have := HBT.out.size; simp at this ⊢; omega))
        clear hb1
        have hfd := fld28 (.slice ra nH rc) rs w2
        go_wp2
        go_roundw
        case rel =>
          refine ⟨k + 1, m + sp, by omega, by go_num, rfl, hideP ⟨?_, ?_⟩, by omega, by omega, B2.out⟩
          · rw [spK_succ, ← HT.out, HM.out.1]
          · have h9 : hpOk ns 0 0 = true := by
              cases hk : hpOk ns 0 0 with
              | true => rfl
              | false => exact absurd (HN.out.2 hk) e5
            unfold cellsB
            rw [HM.out.2, ← HT.out, HQ.out, h9]
            simp
            omega
        case measure => simp [intOf]; omega
    · have hki : ¬ (k : Int) < (n : Int) := by omega
      obtain rfl : k = n := by omega
      clear hbel
      by_cases e7 : m ≤ cols
      · go_wp2
        go_ret
        refine ⟨retB ?_, HB.out⟩
        rw [HV.out, HM.out.2, ← HM.out.1]
        simp [e7]
      · go_wp2
        go_ret
        refine ⟨retB ?_, HB.out⟩
        rw [HV.out, HM.out.2, ← HM.out.1]
        simp [e7]
theorem l12RowOk_any (x : Rw) {v : Value} {w : World} (cols : Int) (h : CRowN 0 w v x.cs) (hs : SmW x) (hc0 : 1 ≤ cols) (hc1 : cols ≤ 20) :
    Calls Tryz.prog 58 #[rwV x v, .int .i64 cols] w fun e w' => e = .returned (.bool (rowB x cols)) ∧ Below w.heap.size w w' := by
  by_cases hru : x.ru = 0
  · exact l12RowOk_cells x cols h hru hs hc0 hc1
  · exact l12RowOk_rule x cols h hru hs.1

abbrev tbO (t : Tb) (v : Value) : Obj := .cells #[.int .i64 t.co, .int .i64 t.gs, .int .i64 t.gp, .int .i64 t.gpo, .int .i64 t.gm, .int .i64 t.gmo, v] 53
set_option maxRecDepth 20000 in
set_option maxHeartbeats 8000000 in
theorem specTableOk_any (t : Tb) {v : Value} {w : World} (h : RRowN 0 w v t.rs) (hs : SmT t) :
    Calls Tryz.prog 24 #[tbV t v] w fun e w' => e = .returned (.bool (tabB t)) ∧ Below w.heap.size w w' := by
  obtain ⟨ua, n, uc, rfl, hn, hr⟩ := h
  have hlen : n ≤ 1048576 := by rw [← hn]; exact hs.1
  have HR : Hid (0 < n → ∃ b off, ua = some ⟨b, off, none⟩ ∧ 0 ≤ b ∧ b < w.heap.size ∧ ∀ i, i < n → ∃ cs : List Value, cs.length = 2 ∧ RwN 0 w cs (t.rs.getD i Rw.none) ∧ ∀ j, j < 2 → w.cell? ⟨b, off + i * 2 + j, none⟩ = cs[j]?) := hr
  have HS : Hid (∀ i, i < n → SmW (t.rs.getD i Rw.none)) := hideP (by rw [← hn]; exact hs.2)
  have HV : Hid (tabB t = (decide (1 ≤ t.co) && decide (t.co ≤ 20) && glB t.gs t.gp t.gpo t.gm t.gmo && decide (n ≤ 200) && rowsB t.rs t.co n)) := hideP (by unfold tabB headB; rw [← hn])
  have HG : Hid (∀ W, Calls Tryz.prog 57 #[glueV t.gs t.gp t.gpo t.gm t.gmo] W fun e w' => e = .returned (.bool (glB t.gs t.gp t.gpo t.gm t.gmo)) ∧ Below W.heap.size W w') := hideP (fun W => specGlueOk_any _ _ _ _ _ W)
  clear hr hs hn
  obtain ⟨co, gs, gp, gpo, gm, gmo, rs⟩ := t
  dsimp only at HR HS HV HG ⊢
  by_cases e1 : co < 1
  · go_enter Tryz.func24, Tryz.ntmps24
    go_wp2
    go_ret
    refine ⟨retB ?_, below1 _ _⟩
    rw [HV.out, decide_eq_false (show ¬ 1 ≤ co by omega)]
    simp
  by_cases e2 : 20 < co
  · go_enter Tryz.func24, Tryz.ntmps24
    go_wp2
    go_ret
    refine ⟨retB ?_, below1 _ _⟩
    rw [HV.out, decide_eq_false (show ¬ co ≤ 20 by omega)]
    simp
  cases e3 : glB gs gp gpo gm gmo with
  | false =>
    rw [e3] at HG HV
    go_enter Tryz.func24, Tryz.ntmps24
    go_wp2_with fail
    refine (HG.out _).mono ?_
    rintro e w1 ⟨rfl, hb1⟩
    have hx1 : w.heap.size < w1.heap.size := by have := hb1.size; simp at this; omega
    have B1 : Hid (Below w.heap.size w w1) := hideP (below_more (below1 _ _) hb1 (by simp))
    obtain ⟨hc1, hf1⟩ := bcell hb1
    simp only [World.size_alloc, World.size_setCell] at hc1 hf1
    clear hb1
    go_wp2
    go_ret
    refine ⟨retB ?_, B1.out⟩
    rw [HV.out]
    simp
  | true =>
    rw [e3] at HG HV
    by_cases e4 : 200 < n
    · have e5 : (200 : Int) < n := by omega
      go_enter Tryz.func24, Tryz.ntmps24
      go_wp2_with fail
      refine (HG.out _).mono ?_
      rintro e w1 ⟨rfl, hb1⟩
      have hx1 : w.heap.size < w1.heap.size := by have := hb1.size; simp at this; omega
      have B1 : Hid (Below w.heap.size w w1) := hideP (below_more (below1 _ _) hb1 (by simp))
      obtain ⟨hc1, hf1⟩ := bcell hb1
      simp only [World.size_alloc, World.size_setCell] at hc1 hf1
      clear hb1
      go_wp2
      go_ret
      refine ⟨retB ?_, B1.out⟩
      rw [HV.out, decide_eq_false (show ¬ n ≤ 200 by omega)]
      simp
    · have e5 : ¬ (200 : Int) < n := by omega
      have HV2 : Hid (tabB ⟨co, gs, gp, gpo, gm, gmo, rs⟩ = rowsB rs co n) := hideP (by
        rw [HV.out, decide_eq_true (show 1 ≤ co by omega), decide_eq_true (show co ≤ 20 by omega), decide_eq_true (show n ≤ 200 by omega)]
        simp)
      clear HV
      go_enter Tryz.func24, Tryz.ntmps24
      go_wp2_with fail
      refine (HG.out _).mono ?_
      rintro e w1 ⟨rfl, hb1⟩
      have hx1 : w.heap.size < w1.heap.size := by have := hb1.size; simp at this; omega
      have B1 : Hid (Below (w.heap.size + 1) (w.alloc (tbO ⟨co, gs, gp, gpo, gm, gmo, rs⟩ (.slice ua n uc))) w1) := hideP (hb1.mono (by simp))
      obtain ⟨hc1, hf1⟩ := bcell hb1
      simp only [World.size_alloc, World.size_setCell] at hc1 hf1
      clear hb1
      go_wp2
      clear hc1 hf1 hx1
      go_loopw [3] (fun i wr => ∃ (k : Nat), k ≤ n ∧ i = .int .i64 k ∧ Hid (rowsB rs co k = true) ∧ Below (w.heap.size + 1) (w.alloc (tbO ⟨co, gs, gp, gpo, gm, gmo, rs⟩ (.slice ua n uc))) wr)
        (fun i _ => n - (intOf i).toNat)
      case atStart => exact ⟨0, by omega, rfl, hideP rfl, B1.out⟩
      case round =>
        obtain ⟨k, hk, rfl, HM, hbel⟩ := hrel
        have HB : Hid (Below w.heap.size w wr) := hideP ((below1 w _).trans (hbel.mono (by omega)))
        have hxs : w.heap.size < wr.heap.size := by have := hbel.size; simp at this; omega
        have QT : Hid (∀ x, Below (w.heap.size + 1) (w.alloc (tbO ⟨co, gs, gp, gpo, gm, gmo, rs⟩ (.slice ua n uc))) x → x.cell? ⟨w.heap.size, 0, none⟩ = some (.int .i64 co) ∧ x.cell? ⟨w.heap.size, 6, none⟩ = some (.slice ua n uc)) := hideP (fun x hx => ⟨(hx.cell (p := ⟨w.heap.size, 0, none⟩) (by simp)).trans (by simp), (hx.cell (p := ⟨w.heap.size, 6, none⟩) (by simp)).trans (by simp)⟩)
        have t6 := (QT.out _ hbel).2
        by_cases hkn : k < n
        · have hki : (k : Int) < (n : Int) := by omega
          obtain ⟨b, off, rfl, hlo, hb, hc⟩ := HR (by omega)
          obtain ⟨cs, hcl, hRel, hcj⟩ := hc k hkn
          have hsk := HS k hkn
          obtain ⟨t, ht⟩ : ∃ t, t = rs.getD k Rw.none := ⟨_, rfl⟩
          rw [← ht] at hRel hsk
          have HT : Hid (t = rs.getD k Rw.none) := ht
          obtain ⟨u, hcs, hu⟩ := hRel
          obtain ⟨va, vn, vc, rfl⟩ : ∃ a n c, u = .slice a n c := by obtain ⟨a, c, rfl⟩ := hu.shape; exact ⟨_, _, _, rfl⟩
          obtain ⟨R, hR⟩ : ∃ R, R = rowB t co := ⟨_, rfl⟩
          have HC : Hid (∀ W : World, Below w.heap.size w W → Calls Tryz.prog 58 #[rwV t (.slice va vn vc), .int .i64 co] W fun e w' => e = .returned (.bool R) ∧ Below W.heap.size W w') := hideP (fun W hW => by rw [hR]; exact l12RowOk_any t co (hu.below clNStable hW) hsk (by omega) (by omega))
          have HR9 := hideP hR
          clear hu hsk hR
          obtain ⟨rcs, ru⟩ := t
          rw [show cs = _ from hcs] at hcj
          dsimp only at hcj
          simp only [rwV] at HC
          have QA : Hid (∀ x, Below (w.heap.size + 1) (w.alloc (tbO ⟨co, gs, gp, gpo, gm, gmo, rs⟩ (.slice (some ⟨b, off, none⟩) n uc))) x → x.cell? ⟨b, off + k * 2, none⟩ = some (.slice va vn vc) ∧ x.cell? ⟨b, off + k * 2 + 1, none⟩ = some (.int .i64 ru)) := hideP (fun x hx => by
            have h2 : Below w.heap.size w x := (below1 w _).trans (hx.mono (by omega))
            exact ⟨(h2.cell (p := ⟨b, off + k * 2 + 0, none⟩) hb).trans (hcj 0 (by omega)), (h2.cell (p := ⟨b, off + k * 2 + 1, none⟩) hb).trans (hcj 1 (by omega))⟩)
          have HBT : Hid (Below (w.heap.size + 1) (w.alloc (tbO ⟨co, gs, gp, gpo, gm, gmo, rs⟩ (.slice (some ⟨b, off, none⟩) n uc))) wr) := hideP hbel
          have HBD : Hid (Below (w.heap.size + 1) (w.alloc (tbO ⟨co, gs, gp, gpo, gm, gmo, rs⟩ (.slice (some ⟨b, off, none⟩) n uc))) wr.drew) := hideP (Below.drew hbel)
          have HB2 : Hid (Below w.heap.size w wr.drew) := hideP (Below.drew HB.out)
          have hxd : w.heap.size + 1 ≤ wr.drew.heap.size := hxs
          have HSZ := hideP hxd
          clear hc hcj hcl hbel ht hcs hxd
          go_wp2_with fail
          go_region_held3 (fun x => (x.cell? ⟨b, off + k * 2, none⟩ = some (.slice va vn vc) ∧ x.cell? ⟨b, off + k * 2 + 1, none⟩ = some (.int .i64 ru)) ∧ (x.cell? ⟨w.heap.size, 0, none⟩ = some (.int .i64 co) ∧ x.cell? ⟨w.heap.size, 6, none⟩ = some (.slice (some ⟨b, off, none⟩) n uc))) (first | exact ⟨QA.out _ HBD.out, QT.out _ HBD.out⟩ | exact ⟨QA.out _ ‹Hid (Below (w.heap.size + 1) _ w2)›, QT.out _ ‹Hid (Below (w.heap.size + 1) _ w2)›⟩) ((go_at_call 58; refine (HC.out _ HB2.out).mono ?_; rintro e w2 ⟨rfl, hb1⟩; have hb2 : Hid (Below (w.heap.size + 1) (w.alloc (tbO ⟨co, gs, gp, gpo, gm, gmo, rs⟩ (.slice (some ⟨b, off, none⟩) n uc))) w2) := hideP (below_more HBD.out hb1 HSZ.out); clear hb1))
          all_goals
            cases R with
            | false =>
              go_wp2
              go_ret
              refine ⟨retB ?_, (below1 w _).trans (Below.mono ‹Hid (Below (w.heap.size + 1) _ w2)› (by omega))⟩
              have h0 : rowsB rs co (k + 1) = false := by unfold rowsB; rw [← HT.out, ← HR9.out, Bool.and_false]
              rw [HV2.out, rowsB_down (show k + 1 ≤ n by omega) h0]
            | true =>
              go_wp2
              go_roundw
              case rel =>
                refine ⟨k + 1, by omega, by go_num, hideP ?_, ‹Hid (Below (w.heap.size + 1) _ w2)›⟩
                unfold rowsB
                rw [HM.out, ← HT.out, ← HR9.out]
                rfl
              case measure => simp [intOf]; omega
        · have hki : ¬ (k : Int) < (n : Int) := by omega
          obtain rfl : k = n := by omega
          clear hbel
          go_wp2
          go_ret
          refine ⟨retB ?_, HB.out⟩
          rw [HV2.out, HM.out]
end Go.Proofs.YticalmdhbgkbbaaGreat

