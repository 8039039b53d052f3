import Derived.Test.YtojoehdmjkgnnaaGreatTow
import Derived.Test.YtojoehdmjkgnnaaGreatRof
namespace Go.Proofs.YtojoehdmjkgnnaaGreat
open Go.RowKit
set_option linter.unusedVariables false
set_option linter.unusedSimpArgs false
def nsK (cs : List Cl) : Nat → Nat
 | 0 => 0
 | k + 1 => nsK cs k + (cs.getD k Cl.none).ns.length
theorem nsK_succ (cs : List Cl) (k : Nat) : nsK cs (k + 1) = nsK cs k + (cs.getD k Cl.none).ns.length := rfl
theorem nsK_le (cs : List Cl) : ∀ {n k : Nat}, k ≤ n → nsK cs k ≤ nsK cs n
 | 0, k, h => by
  obtain rfl : k = 0 := by omega
  exact Nat.le_refl _
 | n + 1, k, h => by
  by_cases e : k = n + 1
  ·subst e; exact Nat.le_refl _
  ·have := nsK_le cs (show k ≤ n by omega)
   rw [nsK_succ]
   omega
def mkW (r : Rw) : Nat := 2 * r.cs.length + 15 * nsK r.cs r.cs.length + 1
def mkK (rs : List Rw) : Nat → Nat
 | 0 => 0
 | k + 1 => mkK rs k + mkW (rs.getD k Rw.none)
theorem mkK_succ (rs : List Rw) (k : Nat) : mkK rs (k + 1) = mkK rs k + mkW (rs.getD k Rw.none) := rfl
theorem mkK_le (rs : List Rw) : ∀ {n k : Nat}, k ≤ n → mkK rs k ≤ mkK rs n
 | 0, k, h => by
  obtain rfl : k = 0 := by omega
  exact Nat.le_refl _
 | n + 1, k, h => by
  by_cases e : k = n + 1
  ·subst e; exact Nat.le_refl _
  ·have := mkK_le rs (show k ≤ n by omega)
   rw [mkK_succ]
   omega
structure Mk (lo : Nat) (w w' : World) : Prop where
 bel : Below lo w w'
 blk : ∀ (b : Nat) (cur : Array Value) (ty : TypeId), w.heap[b]? = some (Obj.cells cur ty (0, 0)) → ∃ cur' : Array Value, w'.heap[b]? = some (.cells cur' ty (0, 0)) ∧ cur'.size = cur.size ∧ (ty = 53 → ∀ i, cur'[i * 3 + 2]? = cur[i * 3 + 2]?) ∧ (ty = 51 → ∀ i, cur'[i * 2]? = cur[i * 2]?) ∧ (ty ≠ 36 → ty ≠ 53 → ty ≠ 51 → cur' = cur)
theorem Mk.refl (lo : Nat) (w : World) : Mk lo w w := ⟨Below.refl _ _, fun b cur ty h => ⟨cur, h, rfl, fun _ _ => rfl, fun _ _ => rfl, fun _ _ _ => rfl⟩⟩
theorem Mk.trans {lo : Nat} {a b c : World} (h : Mk lo a b) (k : Mk lo b c) : Mk lo a c := ⟨h.bel.trans k.bel, fun x cur ty hx => by
 obtain ⟨c1, e1, e2, e3, e4, e5⟩ := h.blk x cur ty hx
 obtain ⟨c2, f1, f2, f3, f4, f5⟩ := k.blk x c1 ty e1
 exact ⟨c2, f1, f2.trans e2, fun ht i => (f3 ht i).trans (e3 ht i), fun ht i => (f4 ht i).trans (e4 ht i), fun h1 h2 h3 => (f5 h1 h2 h3).trans (e5 h1 h2 h3)⟩⟩
theorem Mk.below {lo : Nat} {w w' : World} (h : Below w.heap.size w w') (hl : lo ≤ w.heap.size) : Mk lo w w' := ⟨h.mono hl, fun b cur ty hb => ⟨cur, (h.block b (glt hb)).trans hb, rfl, fun _ _ => rfl, fun _ _ => rfl, fun _ _ _ => rfl⟩⟩
theorem Mk.one {lo g : Nat} {w w' : World} {cur cur' : Array Value} {ty : Nat} (hb : Below lo w w') (hg : w.heap[g]? = some (.cells cur ty (0, 0))) (hg' : w'.heap[g]? = some (.cells cur' ty (0, 0))) (hs : cur'.size = cur.size) (h1 : ty = 53 → ∀ i, cur'[i * 3 + 2]? = cur[i * 3 + 2]?) (h2 : ty = 51 → ∀ i, cur'[i * 2]? = cur[i * 2]?) (h3 : ty = 36 ∨ ty = 53 ∨ ty = 51) (ho : ∀ b, b < w.heap.size → b ≠ g → w'.heap[b]? = w.heap[b]?) : Mk lo w w' := ⟨hb, fun b c t hbc => by
 by_cases e : b = g
 ·subst e
  rw [hg] at hbc
  cases hbc
  exact ⟨cur', hg', hs, h1, h2, fun a b c => by rcases h3 with h | h | h; exact absurd h a; exact absurd h b; exact absurd h c⟩
 ·exact ⟨c, (ho b (glt hbc) e).trans hbc, rfl, fun _ _ => rfl, fun _ _ => rfl, fun _ _ _ => rfl⟩⟩
theorem Mk.set {lo g o : Nat} {w : World} {cur : Array Value} {ty : Nat} (x : Value) (hg : w.heap[g]? = some (.cells cur ty (0, 0))) (hl : lo ≤ g) (h1 : ty = 53 → o % 3 ≠ 2) (h2 : ty = 51 → o % 2 ≠ 0) (h3 : ty = 53 ∨ ty = 51) : Mk lo w (w.setCell ⟨g, o, none⟩ x) := by
 refine Mk.one ((Below.refl _ _).setCell hl _) hg (heap_setCell_same w g o cur ty x hg) (by simp) (fun e i => ?_) (fun e i => ?_) (by omega) (fun b _ hne => Below.heap_setCell _ _ _ _ (by simpa using hne))
 ·rw [Array.getElem?_setIfInBounds, if_neg (by have := h1 e; omega)]
 ·rw [Array.getElem?_setIfInBounds, if_neg (by have := h2 e; omega)]
theorem NOw.mk {lo n : Nat} {w w' : World} {v : Value} (h : NOw lo w v n) (hm : Mk lo w w') : NOw lo w' v n := by
 obtain ⟨g, L, rfl, ho⟩ := h
 rcases ho.2 with ⟨e, _⟩ | ⟨g', cap, cur, e, hb, hh, hn, hx, hs, ht⟩
 ·simp at e
 ·simp at e
  obtain ⟨rfl, rfl⟩ := e
  obtain ⟨cur', e1, e2, _⟩ := hm.blk _ _ _ hh
  refine ⟨g, cur'.toList.take (n * 15), rfl, ?_, .inr ⟨g, n, cur', rfl, hb, e1, hn, hx, by omega, rfl⟩⟩
  rw [List.length_take]
  simp
  omega
def CSh (lo : Nat) (w : World) (v : Value) (cs : List Cl) : Prop := ∃ (g : Nat) (cur : Array Value), v = .slice (some ⟨g, 0, none⟩) cs.length cs.length ∧ lo ≤ g ∧ w.heap[g]? = some (.cells cur 53 (0, 0)) ∧ cur.size = cs.length * 3 ∧ ∀ i, i < cs.length → ∃ u, cur[i * 3 + 2]? = some u ∧ NOw lo w u (cs.getD i Cl.none).ns.length
theorem CSh.mk {lo : Nat} {w w' : World} {v : Value} {cs : List Cl} (h : CSh lo w v cs) (hm : Mk lo w w') : CSh lo w' v cs := by
 obtain ⟨g, cur, rfl, h1, h2, h3, h4⟩ := h
 obtain ⟨cur', e1, e2, e3, _⟩ := hm.blk _ _ _ h2
 refine ⟨g, cur', rfl, h1, e1, e2.trans h3, fun i hi => ?_⟩
 obtain ⟨u, k1, k2⟩ := h4 i hi
 exact ⟨u, (e3 rfl i).trans k1, k2.mk hm⟩
theorem COw.sh {lo : Nat} {w : World} {v : Value} {cs : List Cl} (h : COw lo w v cs) : CSh lo w v cs := by
 obtain ⟨g, rfl, h1, cur, h2, h3, h4⟩ := h
 refine ⟨g, cur, rfl, h1, h2, h3, fun i hi => ?_⟩
 obtain ⟨c, hl, ⟨u, rfl, hu⟩, hj⟩ := h4 i hi
 exact ⟨u, hj 2 (by omega), hu.2.mono (by omega)⟩
def RSh (lo : Nat) (w : World) (v : Value) (rs : List Rw) : Prop := ∃ (g : Nat) (cur : Array Value), v = .slice (some ⟨g, 0, none⟩) rs.length rs.length ∧ lo ≤ g ∧ w.heap[g]? = some (.cells cur 51 (0, 0)) ∧ cur.size = rs.length * 2 ∧ ∀ i, i < rs.length → ∃ u, cur[i * 2]? = some u ∧ CSh lo w u (rs.getD i Rw.none).cs
theorem RSh.mk {lo : Nat} {w w' : World} {v : Value} {rs : List Rw} (h : RSh lo w v rs) (hm : Mk lo w w') : RSh lo w' v rs := by
 obtain ⟨g, cur, rfl, h1, h2, h3, h4⟩ := h
 obtain ⟨cur', e1, e2, _, e3, _⟩ := hm.blk _ _ _ h2
 refine ⟨g, cur', rfl, h1, e1, e2.trans h3, fun i hi => ?_⟩
 obtain ⟨u, k1, k2⟩ := h4 i hi
 exact ⟨u, (e3 rfl i).trans k1, k2.mk hm⟩
theorem CSh.mono {lo lo' : Nat} {w : World} {v : Value} {cs : List Cl} (h : CSh lo w v cs) (hl : lo' ≤ lo) : CSh lo' w v cs := by
 obtain ⟨g, cur, h0, h1, h2, h3, h4⟩ := h
 refine ⟨g, cur, h0, by omega, h2, h3, fun i hi => ?_⟩
 obtain ⟨u, k1, k2⟩ := h4 i hi
 exact ⟨u, k1, k2.mono hl⟩
theorem ROw.sh {lo : Nat} {w : World} {v : Value} {rs : List Rw} (h : ROw lo w v rs) : RSh lo w v rs := by
 obtain ⟨g, rfl, h1, cur, h2, h3, h4⟩ := h
 refine ⟨g, cur, rfl, h1, h2, h3, fun i hi => ?_⟩
 obtain ⟨c, hl, ⟨u, rfl, hu⟩, hj⟩ := h4 i hi
 exact ⟨u, hj 0 (by omega), hu.sh.mono (by omega)⟩
theorem frsP_trans {P : Nat → Prop} {a b c : World} (h : Frs P a b) (k : Frs P b c) : Frs P a c :=
 ⟨k.os.trans h.os, k.tape.trans h.tape, k.out.trans h.out, Nat.le_trans h.size k.size, fun x hx hn => (k.block x (Nat.lt_of_lt_of_le hx h.size) hn).trans (h.block x hx hn)⟩
structure MkP (P : Nat → Prop) (w w' : World) : Prop where
 bel : Frs P w w'
 blk : ∀ (b : Nat) (cur : Array Value) (ty : TypeId), w.heap[b]? = some (Obj.cells cur ty (0, 0)) → ∃ cur' : Array Value, w'.heap[b]? = some (.cells cur' ty (0, 0)) ∧ cur'.size = cur.size ∧ (ty = 53 → ∀ i, cur'[i * 3 + 2]? = cur[i * 3 + 2]?) ∧ (ty = 51 → ∀ i, cur'[i * 2]? = cur[i * 2]?) ∧ (ty ≠ 36 → ty ≠ 53 → ty ≠ 51 → cur' = cur)
theorem MkP.refl (P : Nat → Prop) (w : World) : MkP P w w := ⟨Frs.refl _ _, fun b cur ty h => ⟨cur, h, rfl, fun _ _ => rfl, fun _ _ => rfl, fun _ _ _ => rfl⟩⟩
theorem MkP.trans {P : Nat → Prop} {a b c : World} (h : MkP P a b) (k : MkP P b c) : MkP P a c := ⟨frsP_trans h.bel k.bel, fun x cur ty hx => by
 obtain ⟨c1, e1, e2, e3, e4, e5⟩ := h.blk x cur ty hx
 obtain ⟨c2, f1, f2, f3, f4, f5⟩ := k.blk x c1 ty e1
 exact ⟨c2, f1, f2.trans e2, fun ht i => (f3 ht i).trans (e3 ht i), fun ht i => (f4 ht i).trans (e4 ht i), fun h1 h2 h3 => (f5 h1 h2 h3).trans (e5 h1 h2 h3)⟩⟩
theorem MkP.below {P : Nat → Prop} {w w' : World} (h : Below w.heap.size w w') : MkP P w w' := ⟨(Frs.refl _ _).below h, fun b cur ty hb => ⟨cur, (h.block b (glt hb)).trans hb, rfl, fun _ _ => rfl, fun _ _ => rfl, fun _ _ _ => rfl⟩⟩
theorem MkP.one {P : Nat → Prop} {g : Nat} {w w' : World} {cur cur' : Array Value} {ty : Nat} (hb : Frs P w w') (hg : w.heap[g]? = some (.cells cur ty (0, 0))) (hg' : w'.heap[g]? = some (.cells cur' ty (0, 0))) (hs : cur'.size = cur.size) (h1 : ty = 53 → ∀ i, cur'[i * 3 + 2]? = cur[i * 3 + 2]?) (h2 : ty = 51 → ∀ i, cur'[i * 2]? = cur[i * 2]?) (h3 : ty = 36 ∨ ty = 53 ∨ ty = 51) (ho : ∀ b, b < w.heap.size → b ≠ g → w'.heap[b]? = w.heap[b]?) : MkP P w w' := ⟨hb, fun b c t hbc => by
 by_cases e : b = g
 ·subst e
  rw [hg] at hbc
  cases hbc
  exact ⟨cur', hg', hs, h1, h2, fun a b c => by rcases h3 with h | h | h; exact absurd h a; exact absurd h b; exact absurd h c⟩
 ·exact ⟨c, (ho b (glt hbc) e).trans hbc, rfl, fun _ _ => rfl, fun _ _ => rfl, fun _ _ _ => rfl⟩⟩
theorem MkP.set {P : Nat → Prop} {g o : Nat} {w : World} {cur : Array Value} {ty : Nat} (x : Value) (hg : w.heap[g]? = some (.cells cur ty (0, 0))) (hl : P g) (h1 : ty = 53 → o % 3 ≠ 2) (h2 : ty = 51 → o % 2 ≠ 0) (h3 : ty = 53 ∨ ty = 51) : MkP P w (w.setCell ⟨g, o, none⟩ x) := by
 refine MkP.one ((Frs.refl _ _).set (p := ⟨g, o, none⟩) hl _) hg (heap_setCell_same w g o cur ty x hg) (by simp) (fun e i => ?_) (fun e i => ?_) (by omega) (fun b _ hne => Below.heap_setCell _ _ _ _ (by simpa using hne))
 ·rw [Array.getElem?_setIfInBounds, if_neg (by have := h1 e; omega)]
 ·rw [Array.getElem?_setIfInBounds, if_neg (by have := h2 e; omega)]
def NOP (P : Nat → Prop) (w : World) (v : Value) (n : Nat) : Prop := ∃ g L, v = .slice (some ⟨g, 0, none⟩) n n ∧ P g ∧ w.ownsRow 0 36 15 v n L
theorem NOP.mk {P : Nat → Prop} {n : Nat} {w w' : World} {v : Value} (h : NOP P w v n) (hm : MkP P w w') : NOP P w' v n := by
 obtain ⟨g, L, rfl, hP, ho⟩ := h
 rcases ho.2 with ⟨e, _⟩ | ⟨g', cap, cur, e, hb, hh, hn, hx, hs, ht⟩
 ·simp at e
 ·simp at e
  obtain ⟨rfl, rfl⟩ := e
  obtain ⟨cur', e1, e2, _⟩ := hm.blk _ _ _ hh
  refine ⟨g, cur'.toList.take (n * 15), rfl, hP, ?_, .inr ⟨g, n, cur', rfl, hb, e1, hn, hx, by omega, rfl⟩⟩
  rw [List.length_take]
  simp
  omega
theorem markN_P {P : Nat → Prop} {n k : Nat} {v : Value} {w : World} (h : NOP P w v n) (hn : n ≤ 1048576) (hk0 : 0 < k) (hk1 : k ≤ 16777216) :
 Calls Tryz.prog 33 #[v, .int .i64 (k : Int)] w fun e w' => e = .returned (.int .i64 ((k + 15 * n : Nat) : Int)) ∧ MkP P w w' := by
 obtain ⟨g, L, rfl, hP, ho⟩ := h
 refine (markNodeS_any ho hn hk0 hk1).mono ?_
 rintro e w' ⟨rfl, ho2, hs⟩
 refine ⟨rfl, ?_⟩
 rcases ho.2 with ⟨e, _⟩ | ⟨g1, cap1, cur, e, hb, hh, hn1, hx1, hs1, ht1⟩
 ·simp at e
 ·simp at e
  obtain ⟨rfl, rfl⟩ := e
  rcases ho2.2 with ⟨e, _⟩ | ⟨g2, cap2, cur2, e, hb2, hh2, hn2, hx2, hs2, ht2⟩
  ·simp at e
  ·simp at e
   obtain ⟨rfl, rfl⟩ := e
   exact MkP.one ⟨hs.below.os, hs.below.tape, hs.below.output, hs.below.size, fun b hb hnP => hs.other b hb (fun e => hnP (by rw [e]; exact hP))⟩ hh hh2 (by omega) (fun e => by omega) (fun e => by omega) (.inl rfl) hs.other
def CShP (P : Nat → Prop) (w : World) (v : Value) (cs : List Cl) : Prop := ∃ (g : Nat) (cur : Array Value), v = .slice (some ⟨g, 0, none⟩) cs.length cs.length ∧ P g ∧ w.heap[g]? = some (.cells cur 53 (0, 0)) ∧ cur.size = cs.length * 3 ∧ ∀ i, i < cs.length → ∃ u, cur[i * 3 + 2]? = some u ∧ NOP P w u (cs.getD i Cl.none).ns.length
theorem CShP.mk {P : Nat → Prop} {w w' : World} {v : Value} {cs : List Cl} (h : CShP P w v cs) (hm : MkP P w w') : CShP P w' v cs := by
 obtain ⟨g, cur, rfl, h1, h2, h3, h4⟩ := h
 obtain ⟨cur', e1, e2, e3, _⟩ := hm.blk _ _ _ h2
 refine ⟨g, cur', rfl, h1, e1, e2.trans h3, fun i hi => ?_⟩
 obtain ⟨u, k1, k2⟩ := h4 i hi
 exact ⟨u, (e3 rfl i).trans k1, k2.mk hm⟩
theorem COw.shP {P : Nat → Prop} {lo : Nat} {w : World} {v : Value} {cs : List Cl} (hP : ∀ g, lo ≤ g → g < w.heap.size → P g) (h : COw lo w v cs) : CShP P w v cs := by
 obtain ⟨g, rfl, h1, cur, h2, h3, h4⟩ := h
 refine ⟨g, cur, rfl, hP g h1 (glt h2), h2, h3, fun i hi => ?_⟩
 obtain ⟨c, hl, ⟨u, rfl, hu⟩, hj⟩ := h4 i hi
 obtain ⟨gn, L, rfl, ho⟩ := hu.2
 have hlt := ho.lt gn rfl
 exact ⟨_, hj 2 (by omega), gn, L, rfl, hP gn (by omega) hlt.2, ownG_base ho (Nat.zero_le _)⟩
def RShP (P : Nat → Prop) (w : World) (v : Value) (rs : List Rw) : Prop := ∃ (g : Nat) (cur : Array Value), v = .slice (some ⟨g, 0, none⟩) rs.length rs.length ∧ P g ∧ w.heap[g]? = some (.cells cur 51 (0, 0)) ∧ cur.size = rs.length * 2 ∧ ∀ i, i < rs.length → ∃ u, cur[i * 2]? = some u ∧ CShP P w u (rs.getD i Rw.none).cs
theorem RShP.mk {P : Nat → Prop} {w w' : World} {v : Value} {rs : List Rw} (h : RShP P w v rs) (hm : MkP P w w') : RShP P w' v rs := by
 obtain ⟨g, cur, rfl, h1, h2, h3, h4⟩ := h
 obtain ⟨cur', e1, e2, _, e3, _⟩ := hm.blk _ _ _ h2
 refine ⟨g, cur', rfl, h1, e1, e2.trans h3, fun i hi => ?_⟩
 obtain ⟨u, k1, k2⟩ := h4 i hi
 exact ⟨u, (e3 rfl i).trans k1, k2.mk hm⟩
theorem ROw.shP {P : Nat → Prop} {lo : Nat} {w : World} {v : Value} {rs : List Rw} (hP : ∀ g, lo ≤ g → g < w.heap.size → P g) (h : ROw lo w v rs) : RShP P w v rs := by
 obtain ⟨g, rfl, h1, cur, h2, h3, h4⟩ := h
 refine ⟨g, cur, rfl, hP g h1 (glt h2), h2, h3, fun i hi => ?_⟩
 obtain ⟨c, hl, ⟨u, rfl, hu⟩, hj⟩ := h4 i hi
 exact ⟨u, hj 0 (by omega), COw.shP (fun g' hg' => hP g' (by omega)) hu⟩
set_option maxRecDepth 20000 in
set_option maxHeartbeats 8000000 in
theorem markCellS_P {P : Nat → Prop} {k : Nat} {v : Value} {cs : List Cl} {w : World} (h : CShP P w v cs) (hn : cs.length ≤ 1048576) (hns : ∀ i, i < cs.length → (cs.getD i Cl.none).ns.length ≤ 1048576) (hk0 : 0 < k) (hk1 : k + 2 * cs.length + 15 * nsK cs cs.length ≤ 16777216) :
 Calls Tryz.prog 108 #[v, .int .i64 (k : Int)] w fun e w' => e = .returned (.int .i64 ((k + 2 * cs.length + 15 * nsK cs cs.length : Nat) : Int)) ∧ MkP P w w' := by
 obtain ⟨n, hnl⟩ := exq (cs.length)
 have HSH := hideP h
 obtain ⟨g, cur0, rfl, hlg, hg0, hsz0, hc0⟩ := h
 rw [← hnl] at hn hns hk1 ⊢
 have HNS := hideP hns
 have HNL := hideP hnl
 clear hg0 hsz0 hc0 cur0 hns hnl
 go_enter Tryz.func108, Tryz.ntmps108
 go_wp2
 go_loopw [1, 5] (fun s i wr => ∃ (j q : Nat), j ≤ n ∧ i = .int .i64 (j : Int) ∧ s = .int .i64 (q : Int) ∧ Hid (q = k + 2 * j + 15 * nsK cs j) ∧ MkP P w wr) (fun _ i _ => n - (intOf i).toNat)
 case atStart => exact ⟨0, k, by omega, rfl, rfl, hideP (by simp [nsK]), MkP.refl _ _⟩
 case round =>
  obtain ⟨j, q, hj, rfl, rfl, HQ, hmk⟩ := hrel
  have HMK := hideP hmk
  clear hmk
  by_cases hjn : j < n
  ·have hji : (j : Int) < (n : Int) := by omega
   obtain ⟨g2, cur, hv, _, hg, hsz, hcell⟩ := HSH.out.mk HMK.out
   obtain ⟨u, hu, hno⟩ := hcell j (by rw [← HNL.out]; exact hjn)
   simp only [Value.slice.injEq, Option.some.injEq, Addr.mk.injEq, and_true, true_and] at hv
   obtain ⟨rfl, _⟩ := hv
   rw [← HNL.out] at hsz
   obtain ⟨m, hm⟩ := exq ((cs.getD j Cl.none).ns.length)
   rw [← hm] at hno
   have hmb : m ≤ 1048576 := by rw [hm]; exact HNS.out j hjn
   have hqb : q + 2 + 15 * m ≤ 16777216 := by
    have h1 := nsK_le cs (show j + 1 ≤ n by omega)
    rw [nsK_succ, ← hm] at h1
    have := HQ.out
    omega
   have HQ2 : Hid (q + 1 + 1 + 15 * m = k + 2 * (j + 1) + 15 * nsK cs (j + 1)) := hideP (by rw [nsK_succ, ← hm]; have := HQ.out; omega)
   obtain ⟨gn, L, hus, hpn, hown⟩ := hno
   subst hus
   obtain ⟨x0, hx0⟩ : ∃ x, cur[j * 3]? = some x := ⟨_, Array.getElem?_eq_getElem (by omega)⟩
   obtain ⟨x1, hx1⟩ : ∃ x, cur[j * 3 + 1]? = some x := ⟨_, Array.getElem?_eq_getElem (by omega)⟩
   have c0 : wr.cell? ⟨g, j * 3, none⟩ = some x0 := (cell_of_row _ _ _ _ 53 _ hg).trans hx0
   have c1 : wr.cell? ⟨g, j * 3 + 1, none⟩ = some x1 := (cell_of_row _ _ _ _ 53 _ hg).trans hx1
   have c2 : wr.cell? ⟨g, j * 3 + 2, none⟩ = some (.slice (some ⟨gn, 0, none⟩) m m) := (cell_of_row _ _ _ _ 53 _ hg).trans hu
   have fz : ∀ t, wr.frozen? ⟨g, t, none⟩ = false := fun t => frozen_of_row _ _ t _ _ hg
   have hgw : g < wr.heap.size := (glt hg)
   have M2 : Hid (MkP P wr ((wr.setCell ⟨g, j * 3, none⟩ (.int .i64 (q : Int))).setCell ⟨g, j * 3 + 1, none⟩ (.int .i64 ((q : Int) + 1)))) := hideP ((MkP.set _ hg hlg (fun _ => by omega) (fun e => by omega) (.inl rfl)).trans (MkP.set _ (heap_setCell_same _ g (j * 3) _ 53 _ hg) hlg (fun _ => by omega) (fun e => by omega) (.inl rfl)))
   have HC : Hid (Calls Tryz.prog 33 #[.slice (some ⟨gn, 0, none⟩) m m, .int .i64 ((q : Int) + 1 + 1)] ((wr.setCell ⟨g, j * 3, none⟩ (.int .i64 (q : Int))).setCell ⟨g, j * 3 + 1, none⟩ (.int .i64 ((q : Int) + 1))) fun e w' => e = .returned (.int .i64 ((q + 1 + 1 + 15 * m : Nat) : Int)) ∧ MkP P ((wr.setCell ⟨g, j * 3, none⟩ (.int .i64 (q : Int))).setCell ⟨g, j * 3 + 1, none⟩ (.int .i64 ((q : Int) + 1))) w') := hideP (by
    have h1 : NOP P wr (.slice (some ⟨gn, 0, none⟩) m m) m := ⟨gn, L, rfl, hpn, hown⟩
    have h2 := markN_P (k := q + 1 + 1) (h1.mk M2.out) hmb (by omega) (by omega)
    have e : ((q + 1 + 1 : Nat) : Int) = (q : Int) + 1 + 1 := by omega
    rw [e] at h2
    exact h2)
   clear hcell hu hx0 hx1 hown hm hg hsz
   go_wp2_with fail
   refine HC.out.mono ?_
   rintro e w2 ⟨rfl, hm2⟩
   have M3 : Hid (MkP P w w2) := hideP ((HMK.out.trans M2.out).trans hm2)
   clear hm2
   go_wp2
   go_roundw
   case rel => exact ⟨j + 1, q + 1 + 1 + 15 * m, by omega, by go_num, rfl, HQ2, M3.out⟩
   case measure => simp [intOf]; omega
  ·have hji : ¬ (j : Int) < (n : Int) := by omega
   obtain rfl : j = n := by omega
   go_wp2
   go_ret
   refine ⟨?_, HMK.out⟩
   rw [HQ.out]
   rfl
set_option maxRecDepth 20000 in
set_option maxHeartbeats 8000000 in
theorem markRowS_P {P : Nat → Prop} {k : Nat} {v : Value} {rs : List Rw} {w : World} (h : RShP P w v rs) (hn : rs.length ≤ 1048576) (hsm : ∀ i, i < rs.length → SmW (rs.getD i Rw.none)) (hk0 : 0 < k) (hk1 : k + mkK rs rs.length ≤ 16777216) :
 Calls Tryz.prog 68 #[v, .int .i64 (k : Int)] w fun e w' => e = .returned (.int .i64 ((k + mkK rs rs.length : Nat) : Int)) ∧ MkP P w w' := by
 obtain ⟨n, hnl⟩ := exq (rs.length)
 have HSH := hideP h
 obtain ⟨g, cur0, rfl, hlg, hg0, hsz0, hc0⟩ := h
 rw [← hnl] at hn hsm hk1 ⊢
 have HSM := hideP hsm
 have HNL := hideP hnl
 clear hg0 hsz0 hc0 cur0 hsm hnl
 go_enter Tryz.func68, Tryz.ntmps68
 go_wp2
 go_loopw [1, 5] (fun s i wr => ∃ (j q : Nat), j ≤ n ∧ i = .int .i64 (j : Int) ∧ s = .int .i64 (q : Int) ∧ Hid (q = k + mkK rs j) ∧ MkP P w wr) (fun _ i _ => n - (intOf i).toNat)
 case atStart => exact ⟨0, k, by omega, rfl, rfl, hideP (by simp [mkK]), MkP.refl _ _⟩
 case round =>
  obtain ⟨j, q, hj, rfl, rfl, HQ, hmk⟩ := hrel
  have HMK := hideP hmk
  clear hmk
  by_cases hjn : j < n
  ·have hji : (j : Int) < (n : Int) := by omega
   obtain ⟨g2, cur, hv, _, hg, hsz, hcell⟩ := HSH.out.mk HMK.out
   obtain ⟨u, hu, hsh⟩ := hcell j (by rw [← HNL.out]; exact hjn)
   simp only [Value.slice.injEq, Option.some.injEq, Addr.mk.injEq, and_true, true_and] at hv
   obtain ⟨rfl, _⟩ := hv
   rw [← HNL.out] at hsz
   obtain ⟨r, hr⟩ := exq (rs.getD j Rw.none)
   have hsj := HSM.out j hjn
   rw [← hr] at hsh hsj
   have hqb : q + mkW r ≤ 16777216 := by
    have h1 := mkK_le rs (show j + 1 ≤ n by omega)
    rw [mkK_succ, ← hr] at h1
    have := HQ.out
    omega
   have hq0 : 0 < q := by have := HQ.out; omega
   obtain ⟨s, hs⟩ := exq (q + 2 * r.cs.length + 15 * nsK r.cs r.cs.length)
   have HQ2 : Hid (s + 1 = k + mkK rs (j + 1)) := hideP (by rw [mkK_succ, ← hr, hs]; unfold mkW; have := HQ.out; omega)
   have hsb : s + 1 ≤ 16777216 := by rw [hs]; unfold mkW at hqb; omega
   have HC : Hid (Calls Tryz.prog 108 #[u, .int .i64 (q : Int)] wr fun e w' => e = .returned (.int .i64 (s : Int)) ∧ MkP P wr w') := hideP (by
    rw [hs]
    exact markCellS_P hsh hsj.1 (fun i hi => (hsj.2 i hi).1) hq0 (by unfold mkW at hqb; omega))
   obtain ⟨gc, curc, rfl, _⟩ := hsh
   have c0 : wr.cell? ⟨g, j * 2, none⟩ = some (.slice (some ⟨gc, 0, none⟩) r.cs.length r.cs.length) := (cell_of_row _ _ _ _ 51 _ hg).trans hu
   have hgw : g < wr.heap.size := (glt hg)
   have HG := hideP hg
   obtain ⟨m, hm⟩ := exq (r.cs.length)
   rw [← hm] at c0 HC
   clear hcell hu hg hs hr hsj hqb hm
   go_wp2_with fail
   refine HC.out.mono ?_
   rintro e w2 ⟨rfl, hm2⟩
   obtain ⟨cur2, hg2, hsz2, _⟩ := hm2.blk _ _ _ HG.out
   have M2 : Hid (MkP P w w2) := hideP (HMK.out.trans hm2)
   obtain ⟨x1, hx1⟩ : ∃ x, cur2[j * 2 + 1]? = some x := ⟨_, Array.getElem?_eq_getElem (by omega)⟩
   have c1 : w2.cell? ⟨g, j * 2 + 1, none⟩ = some x1 := (cell_of_row _ _ _ _ 51 _ hg2).trans hx1
   have fz : ∀ t, w2.frozen? ⟨g, t, none⟩ = false := fun t => frozen_of_row _ _ t _ _ hg2
   have hgw2 : g < w2.heap.size := (glt hg2)
   have M3 : Hid (MkP P w (w2.setCell ⟨g, j * 2 + 1, none⟩ (.int .i64 (s : Int)))) := hideP (M2.out.trans (MkP.set _ hg2 hlg (fun e => by omega) (fun e => by omega) (.inr rfl)))
   clear hm2 hg2 hsz2 hx1 hsz
   go_wp2
   go_roundw
   case rel => exact ⟨j + 1, s + 1, by omega, by go_num, by first | rfl | go_num, HQ2, M3.out⟩
   case measure => simp [intOf]; omega
  ·have hji : ¬ (j : Int) < (n : Int) := by omega
   obtain rfl : j = n := by omega
   go_wp2
   go_ret
   refine ⟨?_, HMK.out⟩
   rw [HQ.out]
   rfl
set_option maxHeartbeats 2000000 in
theorem markTable_P {P : Nat → Prop} {k : Nat} (x : Tb) {v : Value} {w : World} (h : RShP P w v x.rs) (hs : SmT x) (hk0 : 0 < k) (hk1 : k + mkK x.rs x.rs.length ≤ 16777216) :
 Calls Tryz.prog 31 #[tbV x v, .int .i64 (k : Int)] w fun e w' => e = .returned (.int .i64 ((k + mkK x.rs x.rs.length : Nat) : Int)) ∧ MkP P w w' := by
 obtain ⟨s, hs2⟩ := exq (k + mkK x.rs x.rs.length)
 have HC : Hid (∀ W, MkP P w W → Calls Tryz.prog 68 #[v, .int .i64 (k : Int)] W fun e w' => e = .returned (.int .i64 (s : Int)) ∧ MkP P W w') := hideP (fun W hW => by rw [hs2]; exact markRowS_P (h.mk hW) hs.1 hs.2 hk0 hk1)
 rw [← hs2]
 have B0 : ∀ o, MkP P w (w.alloc o) := fun o => MkP.below (below1 _ _)
 have HB0 := hideP B0
 obtain ⟨g, cur, rfl, _⟩ := h
 obtain ⟨m, hm⟩ := exq (x.rs.length)
 rw [← hm] at HC ⊢
 clear hs2 hs hk1 B0 hm
 obtain ⟨co, gs, gp, gpo, gm, gmo, rs⟩ := x
 simp only [tbV]
 go_enter Tryz.func31, Tryz.ntmps31
 go_wp2_with fail
 refine (HC.out _ (HB0.out _)).mono ?_
 rintro e w1 ⟨rfl, hm1⟩
 have M1 : Hid (MkP P w w1) := hideP ((HB0.out _).trans hm1)
 clear hm1
 go_wp2
 go_ret
 exact ⟨rfl, M1.out⟩
end Go.Proofs.YtojoehdmjkgnnaaGreat
