import Derived.Test.YtojoehdmjkgnnaaGreatTrs
import Derived.Deep.RegionHeld3
import Derived.Deep.DeepCutAuto
namespace Go.Proofs.YtojoehdmjkgnnaaGreat
open Go.RowKit
set_option linter.unusedVariables false
set_option linter.unusedSimpArgs false
abbrev clO (sp al : Int) (v : Value) : Obj := .cells #[.int .i64 sp, .int .i64 al, v] 53 (0, 0)
structure CI (w wr : World) (sp al : Int) (v : Value) (a : Option Addr) (n c : Nat) (L : List Nd) : Prop where
 bel : Below w.heap.size w wr
 box : wr.heap[w.heap.size]? = some (clO sp al v)
 fil : wr.heap[w.heap.size + 1]? = some (ndO filN)
 own : wr.ownsRow (w.heap.size + 1 + 1) 36 15 (.slice a n c) n (flatN L)
 len : L.length = n
theorem CI.lt {w wr : World} {sp al : Int} {v : Value} {a : Option Addr} {n c : Nat} {L : List Nd} (h : CI w wr sp al v a n c L) : w.heap.size < wr.heap.size ∧ w.heap.size + 1 < wr.heap.size := ⟨(Array.getElem?_eq_some_iff.1 h.box).1, (Array.getElem?_eq_some_iff.1 h.fil).1⟩
theorem CI.below {w wr w2 : World} {sp al : Int} {v : Value} {a : Option Addr} {n c : Nat} {L : List Nd} (h : CI w wr sp al v a n c L) (hb : Below wr.heap.size wr w2) : CI w w2 sp al v a n c L :=
 ⟨below_more h.bel hb h.bel.size, (hb.block _ h.lt.1).trans h.box, (hb.block _ h.lt.2).trans h.fil, ownG_below h.own hb, h.len⟩
theorem CI.grown {w wr w2 : World} {sp al : Int} {v : Value} {a a' : Option Addr} {n c n' c' : Nat} {L L' : List Nd} (h : CI w wr sp al v a n c L) (hg : wr.grownBy w2 (Value.slice a n c).ownBlock) (ho : w2.ownsRow (w.heap.size + 1 + 1) 36 15 (.slice a' n' c') n' (flatN L')) (hl : L'.length = n') : CI w w2 sp al v a' n' c' L' :=
 ⟨Below.grown h.bel hg h.bel.size (fun j hj => by have := (h.own.lt j hj).1; omega), (hg.block _ h.lt.1 (fun e => by have := (h.own.lt _ e.symm).1; omega)).trans h.box, (hg.block _ h.lt.2 (fun e => by have := (h.own.lt _ e.symm).1; omega)).trans h.fil, ho, hl⟩
theorem CI.start (w : World) (sp al : Int) (v : Value) : CI w (((w.alloc (.cells #[.int .i64 sp, .int .i64 al, v] 53)).alloc (.cells (ndA filN) 36)).alloc (.cells #[] 36)) sp al v (some ⟨w.heap.size + 1 + 1, 0, none⟩) 0 0 [] := by
 have e1 := heap_alloc_new w (.cells #[.int .i64 sp, .int .i64 al, v] 53)
 have e2 := heap_alloc_new (w.alloc (.cells #[.int .i64 sp, .int .i64 al, v] 53)) (.cells (ndA filN) 36)
 have e3 := heap_alloc_new ((w.alloc (.cells #[.int .i64 sp, .int .i64 al, v] 53)).alloc (.cells (ndA filN) 36)) (.cells #[] 36)
 rw [World.size_alloc] at e2
 rw [World.size_alloc, World.size_alloc] at e3
 refine ⟨(below2 _ _ _).alloc (by simp; omega) _, ?_, ?_, ⟨rfl, .inr ⟨_, 0, #[], rfl, Nat.le_refl _, e3, Nat.le_refl _, by decide, rfl, rfl⟩⟩, rfl⟩
 ·rw [Below.heap_alloc _ _ _ (by simp; omega), Below.heap_alloc _ _ _ (by simp)]
  exact e1
 ·rw [Below.heap_alloc _ _ _ (by simp)]
  exact e2
set_option maxRecDepth 20000 in
set_option maxHeartbeats 8000000 in
theorem l12Cell_any (x : Cl) {v : Value} {w : World} (width : Int) (hNN : NN 0 w v x.ns) (hs : x.ns.length ≤ 20000) :
 Calls Tryz.prog 105 #[.agg #[.int .i64 x.sp, .int .i64 x.al, v], .int .i64 width] w fun e w' => ∃ r, e = .returned r ∧ w'.ownsRow w.heap.size 36 15 r (hpR (celN x.al x.ns) 1 width).length (flatN (hpR (celN x.al x.ns) 1 width)) ∧ Below w.heap.size w w' := by
 obtain ⟨va, vc, rfl⟩ : ∃ a c, v = .slice a x.ns.length c := by
  rcases hNN with ⟨rfl, h⟩ | ⟨b, off, cap, rfl, _⟩
  ·exact ⟨_, _, by rw [h]; rfl⟩
  ·exact ⟨_, _, rfl⟩
 obtain ⟨R, hR⟩ : ∃ R, R = hpR (celN x.al x.ns) 1 width := ⟨_, rfl⟩
 rw [← hR]
 have HR := hideP hR
 obtain ⟨sp, al, ns⟩ := x
 dsimp only at hNN hs HR ⊢
 obtain ⟨m, hm⟩ : ∃ m, m = ns.length := ⟨_, rfl⟩
 rw [← hm] at hNN hs ⊢
 have HM := hideP hm
 have HNN := hideP hNN
 obtain ⟨L1, hL1⟩ : ∃ L1 : List Nd, L1 = if al = 0 then [] else [filN] := ⟨_, rfl⟩
 obtain ⟨L2, hL2⟩ : ∃ L2 : List Nd, L2 = if al = 2 then [] else [filN] := ⟨_, rfl⟩
 have HL1 := hideP hL1
 have HL2 := hideP hL2
 have hl1 : L1.length ≤ 1 := by rw [hL1]; split <;> simp
 have hl2 : L2.length ≤ 1 := by rw [hL2]; split <;> simp
 obtain ⟨n1, hn1⟩ : ∃ n, n = L1.length := ⟨_, rfl⟩
 obtain ⟨n2, hn2⟩ : ∃ n, n = L2.length := ⟨_, rfl⟩
 have HN1 := hideP hn1
 have HN2 := hideP hn2
 rw [← hn1] at hl1
 rw [← hn2] at hl2
 clear hR hm hNN hL1 hL2 hn1 hn2
 go_enter Tryz.func105, Tryz.ntmps105
 go_upto_region 3 with fail
 generalize hWW : ((w.alloc _).alloc _).alloc _ = wr
 have HI : Hid (CI w wr sp al (.slice va m vc) (some ⟨w.heap.size + 1 + 1, 0, none⟩) 0 0 []) := hideP (by rw [← hWW]; exact CI.start w sp al _)
 clear hWW
 obtain ⟨hx, hx2⟩ := HI.out.lt
 have d1 : wr.cell? ⟨w.heap.size, 1, none⟩ = some (.int .i64 al) := cell_of_row _ _ 1 _ 53 _ HI.out.box
 go_upto_if 12 with fail
 clear d1
 go_cut [6] (fun s6 wc => ∃ a n c, s6 = .slice a n c ∧ n ≤ 1 ∧ Hid (CI w wc sp al (.slice va m vc) a n c L1))
 case first =>
  by_cases e0 : al = 0
  ·have HLN : Hid (L1 = []) := hideP (by rw [HL1.out, if_pos e0])
   have ne : (al != 0) = false := by simpa using e0
   clear e0
   go_wp2
   go_meet
   case rel => exact ⟨_, _, _, rfl, by omega, by rw [HLN.out]; exact HI⟩
  ·have ne : (al != 0) = true := by simpa using e0
   have HLN : Hid (L1 = [] ++ [filN]) := hideP (by rw [HL1.out, if_neg e0]; rfl)
   obtain ⟨q0, q1, q2, q3, q4, q5, q6, q7, q8, q9, q10, q11, q12, q13, q14⟩ := nd_cells HI.out.fil
   go_wp2_with (at_builtin; refine wpList_appN rfl _ _ rfl (w.heap.size + 1 + 1) (.slice (some ⟨w.heap.size + 1 + 1, 0, none⟩) 0 0) 0 [] rfl (HI.out.below (below1 _ _)).own (.slice (some ⟨wr.heap.size, 0, none⟩) 1 1) [filN] rfl (nn_one (heap_alloc_new wr _)) (by first | (simp; done) | (simp; omega)) (by first | (simp; done) | (simp; omega)) ?_; intro v6 w6 ho6 hg6 ha6; obtain ⟨u6, d6, rfl⟩ := ownG_shape ho6; have I6 : Hid (CI w w6 sp al (.slice va m vc) u6 (0 + [filN].length) d6 ([] ++ [filN])) := hideP ((HI.out.below (below1 _ _)).grown hg6 ho6 (by rw [List.length_append, HI.out.len])); clear ho6 hg6 ha6)
   go_meet
   case rel => exact ⟨u6, _, d6, rfl, by simp, by rw [HLN.out]; exact I6⟩
 case rest =>
  obtain ⟨a, n, c, rfl, hn, HJ⟩ := hcut
  obtain ⟨hy, hy2⟩ := HJ.out.lt
  have hB := HJ.out.bel.size
  have d2 : wc.cell? ⟨w.heap.size, 2, none⟩ = some (.slice va m vc) := cell_of_row _ _ 2 _ 53 _ HJ.out.box
  have HNW : Hid (NN 0 wc (.slice va m vc) ns) := hideP (HNN.out.bel HJ.out.bel)
  clear HI hx hx2
  rw [HM.out] at hs
  go_upto_region 6 with (at_builtin; refine wpList_appN rfl _ _ rfl (w.heap.size + 1 + 1) (.slice a n c) n L1 rfl HJ.out.own (.slice va m vc) ns rfl HNW.out (by omega) (by omega) ?_; intro v6 w6 ho6 hg6 ha6; obtain ⟨u6, d6, rfl⟩ := ownG_shape ho6; have I6 : Hid (CI w w6 sp al (.slice va m vc) u6 (n + ns.length) d6 (L1 ++ ns)) := hideP (HJ.out.grown hg6 ho6 (by rw [List.length_append, HJ.out.len])); clear ho6 hg6 ha6)
  obtain ⟨hz, hz2⟩ := I6.out.lt
  have hB6 := I6.out.bel.size
  have d1 : w6.cell? ⟨w.heap.size, 1, none⟩ = some (.int .i64 al) := cell_of_row _ _ 1 _ 53 _ I6.out.box
  clear d2 HJ HNW HNN hy hy2 hB
  obtain ⟨N1, hN1⟩ : ∃ N1, N1 = n + ns.length := ⟨_, rfl⟩
  rw [← hN1] at I6 ⊢
  have hN1b : N1 ≤ 20001 := by omega
  have HN1x := hideP hN1
  clear hN1
  go_upto_if 23 with fail
  clear d1
  go_cut [6] (fun s6 wc => ∃ a n c, s6 = .slice a n c ∧ n ≤ 20002 ∧ Hid (CI w wc sp al (.slice va m vc) a n c (L1 ++ ns ++ L2)))
  case first =>
   by_cases e0 : al = 2
   ·have HLN : Hid (L2 = []) := hideP (by rw [HL2.out, if_pos e0])
    have ne : (al != 2) = false := by simpa using e0
    clear e0
    go_wp2
    go_meet
    case rel => exact ⟨_, _, _, rfl, by omega, by rw [HLN.out, List.append_nil]; exact I6⟩
   ·have ne : (al != 2) = true := by simpa using e0
    have HLN : Hid (L2 = [filN]) := hideP (by rw [HL2.out, if_neg e0])
    obtain ⟨q0, q1, q2, q3, q4, q5, q6, q7, q8, q9, q10, q11, q12, q13, q14⟩ := nd_cells I6.out.fil
    go_wp2_with (at_builtin; refine wpList_appN rfl _ _ rfl (w.heap.size + 1 + 1) (.slice u6 N1 d6) N1 (L1 ++ ns) rfl (I6.out.below (below1 _ _)).own (.slice (some ⟨w6.heap.size, 0, none⟩) 1 1) [filN] rfl (nn_one (heap_alloc_new w6 _)) (by first | (simp; done) | (simp; omega)) (by first | (simp; done) | (simp; omega)) ?_; intro v7 w7 ho7 hg7 ha7; obtain ⟨u7, d7, rfl⟩ := ownG_shape ho7; have I7 : Hid (CI w w7 sp al (.slice va m vc) u7 (N1 + [filN].length) d7 ((L1 ++ ns) ++ [filN])) := hideP ((I6.out.below (below1 _ _)).grown hg7 ho7 (by rw [List.length_append, I6.out.len])); clear ho7 hg7 ha7)
    go_meet
    case rel => exact ⟨u7, _, d7, rfl, by simp; omega, by rw [HLN.out]; exact I7⟩
  case rest =>
   obtain ⟨a2, k2, c2, rfl, hk2, HK⟩ := hcut
   have HC : Hid (Calls Tryz.prog 104 #[.slice a2 k2 c2, .int .i64 1, .int .i64 width] wc fun e w' => ∃ u s, e = .returned (packV u s) ∧ w'.ownsRow wc.heap.size 36 15 u R.length (flatN R) ∧ Below wc.heap.size wc w') := hideP (by
    have e : R = hpR (L1 ++ ns ++ L2) 1 width := by rw [HR.out, HL1.out, HL2.out]; rfl
    rw [e]
    exact (specH 1 width HK.out.own HK.out.len (by omega)).mono (fun e w' ⟨u, h1, h2, h3⟩ => ⟨u, _, h1, h2, h3⟩))
   have BK := hideP HK.out.bel
   clear HK I6
   go_wp2_with fail
   refine HC.out.mono ?_
   rintro e w9 ⟨u9, s9, rfl, ho9, hb9⟩
   obtain ⟨a9, c9, rfl⟩ := ownG_shape ho9
   have hfd := fld28 (.slice a9 R.length c9) s9 w9
   have HO9 := hideP (ownG_base ho9 BK.out.size)
   have B9 := hideP (below_more BK.out hb9 BK.out.size)
   clear ho9 hb9
   go_wp2
   go_ret
   exact ⟨_, rfl, HO9.out, B9.out⟩
def IntsAt (w : World) (g n : Nat) (f : Nat → Int) : Prop := ∃ arr : Array Value, w.heap[g]? = some (.cells arr 2 (0, 0)) ∧ arr.size = n ∧ ∀ i, i < n → arr[i]? = some (.int .i64 (f i))
theorem IntsAt.cell {w : World} {g n : Nat} {f : Nat → Int} (h : IntsAt w g n f) {i : Nat} (hi : i < n) : w.cell? ⟨g, i, none⟩ = some (.int .i64 (f i)) := by
 obtain ⟨arr, h1, h2, h3⟩ := h
 rw [cell_of_row _ _ i _ 2 _ h1]
 exact h3 i hi
theorem IntsAt.lt {w : World} {g n : Nat} {f : Nat → Int} (h : IntsAt w g n f) : g < w.heap.size := by
 obtain ⟨arr, h1, _⟩ := h
 exact (Array.getElem?_eq_some_iff.1 h1).1
theorem IntsAt.free {w : World} {g n : Nat} {f : Nat → Int} (h : IntsAt w g n f) (j : Nat) : w.frozen? ⟨g, j, none⟩ = false := by
 obtain ⟨arr, h1, _⟩ := h
 exact frozen_of_row _ _ j _ _ h1
theorem IntsAt.same {w w' : World} {g n : Nat} {f : Nat → Int} (h : IntsAt w g n f) (hb : w'.heap[g]? = w.heap[g]?) : IntsAt w' g n f := by
 obtain ⟨arr, h1, h2⟩ := h
 exact ⟨arr, hb.trans h1, h2⟩
theorem IntsAt.below {w w' : World} {g n : Nat} {f : Nat → Int} (h : IntsAt w g n f) (hb : Below w.heap.size w w') : IntsAt w' g n f := h.same (hb.block _ h.lt)
theorem IntsAt.set {w : World} {g n : Nat} {f : Nat → Int} (h : IntsAt w g n f) {k : Nat} (hk : k < n) (x : Int) : IntsAt (w.setCell ⟨g, k, none⟩ (.int .i64 x)) g n (upd f k x) := by
 obtain ⟨arr, h1, h2, h3⟩ := h
 refine ⟨_, heap_setCell_same w g k arr 2 _ h1, by simp [h2], fun i hi => ?_⟩
 rw [Array.getElem?_setIfInBounds]
 unfold upd
 by_cases e : k = i
 ·subst e
  rw [if_pos rfl, if_pos (by omega), if_pos rfl]
 ·rw [if_neg e, if_neg (fun h => e h.symm)]
  exact h3 i hi
theorem IntsAt.congr {w : World} {g n : Nat} {f f' : Nat → Int} (h : IntsAt w g n f) (hf : ∀ i, i < n → f i = f' i) : IntsAt w g n f' := by
 obtain ⟨arr, h1, h2, h3⟩ := h
 exact ⟨arr, h1, h2, fun i hi => by rw [← hf i hi]; exact h3 i hi⟩
set_option maxRecDepth 20000 in
set_option maxHeartbeats 4000000 in
theorem l12Across_any {w : World} {g n cap : Nat} {f : Nat → Int} {gs : Int} (a b : Nat) (hA : IntsAt w g n f) (hf : Bd f) (hab : a ≤ b) (hb : b < n) (hn : n ≤ 20) (hg : -1073741823 ≤ gs ∧ gs ≤ 1073741823) (sp : Int) (hsp : sp = (b : Int) + 1 - a) :
 Calls Tryz.prog 102 #[.slice (some ⟨g, 0, none⟩) n cap, .int .i64 gs, .int .i64 a, .int .i64 sp] w fun e w' => e = .returned (.int .i64 (acr f gs a b)) ∧ w' = w := by
 have hAl := hA.lt
 have HA := hideP hA
 have HF := hideP hf
 obtain ⟨D, hD⟩ : ∃ D, D = gs * (sp - 1) := ⟨_, rfl⟩
 have hD2 : D = ((b : Int) - a) * gs := by rw [hD, hsp, Int.mul_comm]; congr 1; omega
 have hDb : -20401094637 ≤ D ∧ D ≤ 20401094637 := by rw [hD2]; exact mul_bd (by omega) (by omega) hg
 have w1 : IntKind.i64.wrap (gs * (sp - 1)) = D := by rw [← hD, IntKind.wrap_i64]; omega
 have HD : Hid (acr f gs a b = D + sumF f a (b + 1 - a)) := hideP (by rw [hD2]; rfl)
 have w2 : IntKind.i64.wrap ((a : Int) + sp) = a + sp := by rw [IntKind.wrap_i64]; omega
 have w3 : IntKind.i64.wrap (sp - 1) = sp - 1 := by rw [IntKind.wrap_i64]; omega
 have HSP := hideP hsp
 have hs1 : 1 ≤ sp := by omega
 have hs2 : sp ≤ 20 := by omega
 have hs3 : (a : Int) + sp ≤ 20 := by omega
 clear hA hf hD hD2 hg hsp
 go_enter Tryz.func102, Tryz.ntmps102
 go_wp2
 go_loopw [9, 10] (fun s i wr => ∃ (k : Nat) (m : Int), k ≤ b + 1 - a ∧ i = .int .i64 ((a + k : Nat) : Int) ∧ s = .int .i64 (D + m) ∧ Hid (m = sumF f a k) ∧ wr = w) (fun _ i _ => b + 1 - (intOf i).toNat)
 case atStart => exact ⟨0, 0, by omega, by simp, by simp, hideP rfl, rfl⟩
 case round =>
  obtain ⟨k, m, hk, rfl, rfl, HM, hww⟩ := hrel
  have hww' := hww.symm
  subst hww'
  clear hww
  have hm := sumF_bd HF.out a k
  rw [← HM.out] at hm
  obtain ⟨q, hq⟩ : ∃ q, q = a + k := ⟨_, rfl⟩
  rw [← hq]
  have hsp := HSP.out
  by_cases hkn : k < b + 1 - a
  ·have hki : (q : Int) < (a : Int) + sp := by omega
   have hqn : (q : Int) < (n : Int) := by omega
   have hc := HA.out.cell (i := q) (by omega)
   have hfb := HF.out q
   obtain ⟨y, hy⟩ : ∃ y, y = f q := ⟨_, rfl⟩
   have HY := hideP hy
   rw [← hy] at hc hfb
   have HQ := hideP hq
   have hq2 : q ≤ b := by omega
   clear hy hq hsp
   go_wp2
   go_roundw
   case rel => exact ⟨k + 1, m + y, by have := HQ.out; omega, by first | (rw [HQ.out]; go_num) | (congr 1; omega), by first | rfl | (congr 1; omega), hideP (by rw [sumF_succ, ← HM.out, ← HQ.out, ← HY.out]), by trivial⟩
   case measure => have := HQ.out; simp [intOf]; omega
  ·have hki : ¬ (q : Int) < (a : Int) + sp := by omega
   have hkb : k = b + 1 - a := by omega
   have HKB := hideP hkb
   clear hq hsp hkb
   go_wp2
   go_ret
   refine ⟨?_, rfl⟩
   rw [HD.out, HM.out, HKB.out]
   rfl
theorem own_oneA {w : World} {g base : Nat} {x : Nd} (hb : base ≤ g) (h : w.heap[g]? = some (ndO x)) : w.ownsRow base 36 15 (.slice (some ⟨g, 0, none⟩) 1 1) 1 (flatN [x]) := by
 refine ⟨by rw [flatN_len]; rfl, .inr ⟨g, 1, ndA x, rfl, hb, h, Nat.le_refl _, by unfold maxLen; omega, rfl, ?_⟩⟩
 simp [flatN, Nd.cells]
theorem own_mtS {w : World} {g base : Nat} (hb : base ≤ g) (h : w.heap[g]? = some (.cells #[] 36 (0, 0))) : w.ownsRow base 36 15 (.slice (some ⟨g, 0, none⟩) 0 0) 0 (flatN []) :=
 ⟨rfl, .inr ⟨g, 0, #[], rfl, hb, h, Nat.le_refl _, by decide, rfl, rfl⟩⟩
set_option maxRecDepth 20000 in
set_option maxHeartbeats 8000000 in
theorem l12Row_rule (x : Tb) (r : Rw) {tv rv : Value} {w : World} {g n cap : Nat} {f : Nat → Int} (hru : 0 < r.ru) (hn : (n : Int) = x.co) (h1 : 1 ≤ n) (h2 : n ≤ 20) (hgs : -1073741823 ≤ x.gs ∧ x.gs ≤ 1073741823) (hA : IntsAt w g n f) (hf : Bd f) :
 Calls Tryz.prog 61 #[tbV x tv, rwV r rv, .slice (some ⟨g, 0, none⟩) n cap] w fun e w' => ∃ u, e = .returned u ∧ w'.ownsRow w.heap.size 36 15 u (rowR f x.gs (gapN x.gs x.gp x.gpo x.gm x.gmo) x.co r).length (flatN (rowR f x.gs (gapN x.gs x.gp x.gpo x.gm x.gmo) x.co r)) ∧ Below w.heap.size w w' := by
 obtain ⟨R, hR⟩ : ∃ R, R = rowR f x.gs (gapN x.gs x.gp x.gpo x.gm x.gmo) x.co r := ⟨_, rfl⟩
 rw [← hR]
 unfold rowR at hR
 rw [if_pos hru] at hR
 obtain ⟨co, gs, gp, gpo, gm, gmo, rs⟩ := x
 obtain ⟨cs, ru⟩ := r
 dsimp only at hru hn hgs hR ⊢
 subst hn
 rw [show ((n : Int)).toNat = n by omega] at hR
 have HC : Hid (∀ W : World, Below w.heap.size w W → Calls Tryz.prog 102 #[.slice (some ⟨g, 0, none⟩) n cap, .int .i64 gs, .int .i64 0, .int .i64 (n : Int)] W fun e w' => e = .returned (.int .i64 (acr f gs 0 (n - 1))) ∧ w' = W) := hideP (fun W hW => by
  have h := l12Across_any (cap := cap) 0 (n - 1) (hA.below hW) hf (by omega) (by omega) h2 hgs (n : Int) (by omega)
  exact h)
 obtain ⟨S, hS⟩ : ∃ S, S = acr f gs 0 (n - 1) := ⟨_, rfl⟩
 rw [← hS] at HC hR
 have HFC : Hid (∀ W, Calls Tryz.prog 103 #[.int .i64 S] W fun e w' => e = .returned (.bool (fitsB S)) ∧ w' = W) := hideP (fun W => Shr.specFits_any S W)
 have HR := hideP hR
 clear hS hR hA hf hgs
 cases hfb : fitsB S with
 | false =>
  have hR0 : R = [] := by rw [HR.out]; exact hpR_rule hfb
  subst hR0
  rw [hfb] at HFC
  go_enter Tryz.func61, Tryz.ntmps61
  go_wp2_with (first | (go_at_call 102; refine (HC.out _ (below2 _ _ _)).mono ?_; rintro e w1 ⟨rfl, rfl⟩) | (go_at_call 103; refine (HFC.out _).mono ?_; rintro e w2 ⟨rfl, rfl⟩))
  go_ret
  have q := heap_alloc_new ((w.alloc (.cells #[.int .i64 (n : Int), .int .i64 gs, .int .i64 gp, .int .i64 gpo, .int .i64 gm, .int .i64 gmo, tv] 44)).alloc (.cells #[rv, .int .i64 ru] 51)) (.cells #[] 36)
  rw [World.size_alloc, World.size_alloc] at q
  exact ⟨_, rfl, own_mtS (by omega) q, (below2 _ _ _).alloc (by simp; omega) _⟩
 | true =>
  rw [hfb] at HFC
  have HHP : Hid (∀ W g, W.heap[g]? = some (ndO (rulN S ru)) → Calls Tryz.prog 104 #[.slice (some ⟨g, 0, none⟩) 1 1, .int .i64 0, .int .i64 0] W fun e w' => ∃ a c s, e = .returned (packV (.slice a R.length c) s) ∧ w'.ownsRow W.heap.size 36 15 (.slice a R.length c) R.length (flatN R) ∧ Below W.heap.size W w') := hideP (fun W g hg => by
   rw [HR.out]
   refine (specH 0 0 (own_oneA (Nat.zero_le g) hg) rfl (by omega)).mono (fun e w' ⟨u, q1, q2, q3⟩ => ?_)
   obtain ⟨a9, c9, rfl⟩ := ownG_shape q2
   exact ⟨a9, c9, _, q1, q2, q3⟩)
  go_enter Tryz.func61, Tryz.ntmps61
  go_upto_region 5 with (first | (go_at_call 102; refine (HC.out _ (below2 _ _ _)).mono ?_; rintro e w1 ⟨rfl, rfl⟩) | (go_at_call 103; refine (HFC.out _).mono ?_; rintro e w2 ⟨rfl, rfl⟩))
  go_wp2_with fail
  generalize hWW : ((w.alloc _).alloc _).alloc _ = wz
  have E1 : Hid (wz.heap[w.heap.size + 1 + 1]? = some (ndO (rulN S ru))) := hideP (by
   have q := heap_alloc_new ((w.alloc (.cells #[.int .i64 (n : Int), .int .i64 gs, .int .i64 gp, .int .i64 gpo, .int .i64 gm, .int .i64 gmo, tv] 44)).alloc (.cells #[rv, .int .i64 ru] 51)) (.cells (ndA (rulN S ru)) 36)
   rw [World.size_alloc, World.size_alloc] at q
   rw [← hWW]
   exact q)
  have BZ : Hid (Below w.heap.size w wz) := hideP (by rw [← hWW]; exact (below2 _ _ _).alloc (by simp; omega) _)
  clear hWW
  refine (HHP.out _ _ E1.out).mono ?_
  rintro e w3 ⟨a3, c3, s3, rfl, ho3, hb3⟩
  have hfd := fld28 (.slice a3 R.length c3) s3 w3
  have O3 := hideP (ownG_base ho3 BZ.out.size)
  have B3 := hideP (below_more BZ.out hb3 BZ.out.size)
  clear ho3 hb3
  go_wp2
  go_ret
  exact ⟨_, rfl, O3.out, B3.out⟩
end Go.Proofs.YtojoehdmjkgnnaaGreat
