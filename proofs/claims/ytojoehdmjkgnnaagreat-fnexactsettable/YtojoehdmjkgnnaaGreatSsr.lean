import Derived.Test.YtojoehdmjkgnnaaGreatSrp
import Derived.Test.YtojoehdmjkgnnaaGreatSsc
namespace Go.Proofs.YtojoehdmjkgnnaaGreat
open Go.RowKit
set_option linter.unusedVariables false
set_option linter.unusedSimpArgs false
def IntsAt (w : World) (g n : Nat) (f : Nat → Int) : Prop := ∃ arr : Array Value, w.heap[g]? = some (.cells arr 2 (0, 0)) ∧ arr.size = n ∧ ∀ i, i < n → arr[i]? = some (.int .i64 (f i))
theorem IntsAt.cell {w : World} {g n : Nat} {f : Nat → Int} (h : IntsAt w g n f) {i : Nat} (hi : i < n) : w.cell? ⟨g, i, none⟩ = some (.int .i64 (f i)) := by
 obtain ⟨arr, h1, h2, h3⟩ := h
 rw [cell_of_row _ _ i _ 2 _ h1]
 exact h3 i hi
theorem IntsAt.lt {w : World} {g n : Nat} {f : Nat → Int} (h : IntsAt w g n f) : g < w.heap.size := by
 obtain ⟨arr, h1, _⟩ := h
 exact (glt h1)
theorem IntsAt.free {w : World} {g n : Nat} {f : Nat → Int} (h : IntsAt w g n f) (j : Nat) : w.frozen? ⟨g, j, none⟩ = false := by
 obtain ⟨arr, h1, _⟩ := h
 exact frozen_of_row _ _ j _ _ h1
theorem IntsAt.same {w w' : World} {g n : Nat} {f : Nat → Int} (h : IntsAt w g n f) (hb : w'.heap[g]? = w.heap[g]?) : IntsAt w' g n f := by
 obtain ⟨arr, h1, h2⟩ := h
 exact ⟨arr, hb.trans h1, h2⟩
theorem IntsAt.below {w w' : World} {g n : Nat} {f : Nat → Int} (h : IntsAt w g n f) (hb : Below w.heap.size w w') : IntsAt w' g n f := h.same (hb.block _ h.lt)
theorem IntsAt.set {w : World} {g n : Nat} {f : Nat → Int} (h : IntsAt w g n f) {k : Nat} (hk : k < n) (x : Int) : IntsAt (w.setCell ⟨g, k, none⟩ (.int .i64 x)) g n (upd f k x) := by
 obtain ⟨arr, h1, h2, h3⟩ := h
 refine ⟨_, heap_setCell_same w g k arr 2 _ h1, by simp [h2], fun i hi => ?_⟩
 rw [Array.getElem?_setIfInBounds]
 unfold upd
 by_cases e : k = i
 ·subst e
  rw [if_pos rfl, if_pos (by omega), if_pos rfl]
 ·rw [if_neg e, if_neg (fun h => e h.symm)]
  exact h3 i hi
theorem IntsAt.congr {w : World} {g n : Nat} {f f' : Nat → Int} (h : IntsAt w g n f) (hf : ∀ i, i < n → f i = f' i) : IntsAt w g n f' := by
 obtain ⟨arr, h1, h2, h3⟩ := h
 exact ⟨arr, h1, h2, fun i hi => by rw [← hf i hi]; exact h3 i hi⟩
set_option maxRecDepth 20000 in
set_option maxHeartbeats 4000000 in
theorem l12Across_any {w : World} {g n cap : Nat} {f : Nat → Int} {gs : Int} (a b : Nat) (hA : IntsAt w g n f) (hf : Bd f) (hab : a ≤ b) (hb : b < n) (hn : n ≤ 20) (hg : -1073741823 ≤ gs ∧ gs ≤ 1073741823) (sp : Int) (hsp : sp = (b : Int) + 1 - a) :
 Calls Tryz.prog 102 #[.slice (some ⟨g, 0, none⟩) n cap, .int .i64 gs, .int .i64 a, .int .i64 sp] w fun e w' => e = .returned (.int .i64 (acr f gs a b)) ∧ w' = w := by
 have hAl := hA.lt
 have HA := hideP hA
 have HF := hideP hf
 obtain ⟨D, hD⟩ := exq (gs * (sp - 1))
 have hD2 : D = ((b : Int) - a) * gs := by rw [hD, hsp, Int.mul_comm]; congr 1; omega
 have hDb : -20401094637 ≤ D ∧ D ≤ 20401094637 := by rw [hD2]; exact mul_bd (by omega) (by omega) hg
 have w1 : IntKind.i64.wrap (gs * (sp - 1)) = D := by rw [← hD, IntKind.wrap_i64]; omega
 have HD : Hid (acr f gs a b = D + sumF f a (b + 1 - a)) := hideP (by rw [hD2]; rfl)
 have w2 : IntKind.i64.wrap ((a : Int) + sp) = a + sp := by rw [IntKind.wrap_i64]; omega
 have w3 : IntKind.i64.wrap (sp - 1) = sp - 1 := by rw [IntKind.wrap_i64]; omega
 have HSP := hideP hsp
 have hs1 : 1 ≤ sp := by omega
 have hs2 : sp ≤ 20 := by omega
 have hs3 : (a : Int) + sp ≤ 20 := by omega
 clear hA hf hD hD2 hg hsp
 go_enter Tryz.func102, Tryz.ntmps102
 go_wp2
 go_loopw [9, 10] (fun s i wr => ∃ (k : Nat) (m : Int), k ≤ b + 1 - a ∧ i = .int .i64 ((a + k : Nat) : Int) ∧ s = .int .i64 (D + m) ∧ Hid (m = sumF f a k) ∧ wr = w) (fun _ i _ => b + 1 - (intOf i).toNat)
 case atStart => exact ⟨0, 0, by omega, by simp, by simp, hideP rfl, rfl⟩
 case round =>
  obtain ⟨k, m, hk, rfl, rfl, HM, hww⟩ := hrel
  have hww' := hww.symm
  subst hww'
  clear hww
  have hm := sumF_bd HF.out a k
  rw [← HM.out] at hm
  obtain ⟨q, hq⟩ := exq (a + k)
  rw [← hq]
  have hsp := HSP.out
  by_cases hkn : k < b + 1 - a
  ·have hki : (q : Int) < (a : Int) + sp := by omega
   have hqn : (q : Int) < (n : Int) := by omega
   have hc := HA.out.cell (i := q) (by omega)
   have hfb := HF.out q
   obtain ⟨y, hy⟩ := exq (f q)
   have HY := hideP hy
   rw [← hy] at hc hfb
   have HQ := hideP hq
   have hq2 : q ≤ b := by omega
   clear hy hq hsp
   go_wp2
   go_roundw
   case rel => exact ⟨k + 1, m + y, by have := HQ.out; omega, by first | (rw [HQ.out]; go_num) | (congr 1; omega), by first | rfl | (congr 1; omega), hideP (by rw [sumF_succ, ← HM.out, ← HQ.out, ← HY.out]), by trivial⟩
   case measure => have := HQ.out; simp [intOf]; omega
  ·have hki : ¬ (q : Int) < (a : Int) + sp := by omega
   have hkb : k = b + 1 - a := by omega
   have HKB := hideP hkb
   clear hq hsp hkb
   go_wp2
   go_ret
   refine ⟨?_, rfl⟩
   rw [HD.out, HM.out, HKB.out]
   rfl
theorem own_oneA {w : World} {g base : Nat} {x : Nd} (hb : base ≤ g) (h : w.heap[g]? = some (ndO x)) : w.ownsRow base 36 15 (.slice (some ⟨g, 0, none⟩) 1 1) 1 (flatN [x]) := by
 refine ⟨by rw [flatN_len]; rfl, .inr ⟨g, 1, ndA x, rfl, hb, h, Nat.le_refl _, by unfold maxLen; omega, rfl, ?_⟩⟩
 simp [flatN, Nd.cells]
theorem own_mtS {w : World} {g base : Nat} (hb : base ≤ g) (h : w.heap[g]? = some (.cells #[] 36 (0, 0))) : w.ownsRow base 36 15 (.slice (some ⟨g, 0, none⟩) 0 0) 0 (flatN []) :=
 ⟨rfl, .inr ⟨g, 0, #[], rfl, hb, h, Nat.le_refl _, by decide, rfl, rfl⟩⟩
set_option maxRecDepth 20000 in
set_option maxHeartbeats 8000000 in
theorem l12Row_rule (x : Tb) (r : Rw) {tv rv : Value} {w : World} {g n cap : Nat} {f : Nat → Int} (hru : 0 < r.ru) (hn : (n : Int) = x.co) (h1 : 1 ≤ n) (h2 : n ≤ 20) (hgs : -1073741823 ≤ x.gs ∧ x.gs ≤ 1073741823) (hA : IntsAt w g n f) (hf : Bd f) :
 Calls Tryz.prog 61 #[tbV x tv, rwV r rv, .slice (some ⟨g, 0, none⟩) n cap] w fun e w' => ∃ u, e = .returned u ∧ w'.ownsRow w.heap.size 36 15 u (rowR f x.gs (gapN x.gs x.gp x.gpo x.gm x.gmo) x.co r).length (flatN (rowR f x.gs (gapN x.gs x.gp x.gpo x.gm x.gmo) x.co r)) ∧ Below w.heap.size w w' := by
 obtain ⟨R, hR⟩ := exq (rowR f x.gs (gapN x.gs x.gp x.gpo x.gm x.gmo) x.co r)
 rw [← hR]
 unfold rowR at hR
 rw [if_pos hru] at hR
 obtain ⟨co, gs, gp, gpo, gm, gmo, rs⟩ := x
 obtain ⟨cs, ru⟩ := r
 dsimp only at hru hn hgs hR ⊢
 subst hn
 rw [show ((n : Int)).toNat = n by omega] at hR
 have HC : Hid (∀ W : World, Below w.heap.size w W → Calls Tryz.prog 102 #[.slice (some ⟨g, 0, none⟩) n cap, .int .i64 gs, .int .i64 0, .int .i64 (n : Int)] W fun e w' => e = .returned (.int .i64 (acr f gs 0 (n - 1))) ∧ w' = W) := hideP (fun W hW => by
  have h := l12Across_any (cap := cap) 0 (n - 1) (hA.below hW) hf (by omega) (by omega) h2 hgs (n : Int) (by omega)
  exact h)
 obtain ⟨S, hS⟩ := exq (acr f gs 0 (n - 1))
 rw [← hS] at HC hR
 have HFC : Hid (∀ W, Calls Tryz.prog 103 #[.int .i64 S] W fun e w' => e = .returned (.bool (fitsB S)) ∧ w' = W) := hideP (fun W => Shr.specFits_any S W)
 have HR := hideP hR
 clear hS hR hA hf hgs
 cases hfb : fitsB S with
 | false =>
  have hR0 : R = [] := by rw [HR.out]; exact hpR_rule hfb
  subst hR0
  rw [hfb] at HFC
  go_enter Tryz.func61, Tryz.ntmps61
  go_wp2_with (first | (go_at_call 102; refine (HC.out _ (below2 _ _ _)).mono ?_; rintro e w1 ⟨rfl, rfl⟩) | (go_at_call 103; refine (HFC.out _).mono ?_; rintro e w2 ⟨rfl, rfl⟩))
  go_ret
  have q := heap_alloc_new ((w.alloc (.cells #[.int .i64 (n : Int), .int .i64 gs, .int .i64 gp, .int .i64 gpo, .int .i64 gm, .int .i64 gmo, tv] 44)).alloc (.cells #[rv, .int .i64 ru] 51)) (.cells #[] 36)
  rw [World.size_alloc, World.size_alloc] at q
  exact ⟨_, rfl, own_mtS (by omega) q, (below2 _ _ _).alloc (by simp; omega) _⟩
 | true =>
  rw [hfb] at HFC
  have HHP : Hid (∀ W g, W.heap[g]? = some (ndO (rulN S ru)) → Calls Tryz.prog 104 #[.slice (some ⟨g, 0, none⟩) 1 1, .int .i64 0, .int .i64 0] W fun e w' => ∃ a c s, e = .returned (packV (.slice a R.length c) s) ∧ w'.ownsRow W.heap.size 36 15 (.slice a R.length c) R.length (flatN R) ∧ Below W.heap.size W w') := hideP (fun W g hg => by
   rw [HR.out]
   refine (specH 0 0 (own_oneA (Nat.zero_le g) hg) rfl (by omega)).mono (fun e w' ⟨u, q1, q2, q3⟩ => ?_)
   obtain ⟨a9, c9, rfl⟩ := ownG_shape q2
   exact ⟨a9, c9, _, q1, q2, q3⟩)
  go_enter Tryz.func61, Tryz.ntmps61
  go_upto_region 5 with (first | (go_at_call 102; refine (HC.out _ (below2 _ _ _)).mono ?_; rintro e w1 ⟨rfl, rfl⟩) | (go_at_call 103; refine (HFC.out _).mono ?_; rintro e w2 ⟨rfl, rfl⟩))
  go_wp2_with fail
  generalize hWW : ((w.alloc _).alloc _).alloc _ = wz
  have E1 : Hid (wz.heap[w.heap.size + 1 + 1]? = some (ndO (rulN S ru))) := hideP (by
   have q := heap_alloc_new ((w.alloc (.cells #[.int .i64 (n : Int), .int .i64 gs, .int .i64 gp, .int .i64 gpo, .int .i64 gm, .int .i64 gmo, tv] 44)).alloc (.cells #[rv, .int .i64 ru] 51)) (.cells (ndA (rulN S ru)) 36)
   rw [World.size_alloc, World.size_alloc] at q
   rw [← hWW]
   exact q)
  have BZ : Hid (Below w.heap.size w wz) := hideP (by rw [← hWW]; exact (below2 _ _ _).alloc (by simp; omega) _)
  clear hWW
  refine (HHP.out _ _ E1.out).mono ?_
  rintro e w3 ⟨a3, c3, s3, rfl, ho3, hb3⟩
  have hfd := fld28 (.slice a3 R.length c3) s3 w3
  have O3 := hideP (ownG_base ho3 BZ.out.size)
  have B3 := hideP (below_more BZ.out hb3 BZ.out.size)
  clear ho3 hb3
  go_wp2
  go_ret
  exact ⟨_, rfl, O3.out, B3.out⟩
end Go.Proofs.YtojoehdmjkgnnaaGreat
