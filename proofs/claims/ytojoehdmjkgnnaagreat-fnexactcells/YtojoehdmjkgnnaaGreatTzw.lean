/-
  Tables weighed: what all marks together come to.
-/
import Derived.Test.YtojoehdmjkgnnaaGreatTow
import Derived.Test.YtojoehdmjkgnnaaGreatFtd
import Derived.Deep.RegionHeld3
namespace Go.Proofs.YtojoehdmjkgnnaaGreat
open Go.RowKit
set_option linter.unusedVariables false
set_option linter.unusedSimpArgs false

/-- How many nodes the first k cells hold. -/
def nsK (cs : List Cl) : Nat → Nat
  | 0 => 0
  | k + 1 => nsK cs k + (cs.getD k Cl.none).ns.length
theorem nsK_succ (cs : List Cl) (k : Nat) : nsK cs (k + 1) = nsK cs k + (cs.getD k Cl.none).ns.length := rfl
theorem nsK_le (cs : List Cl) : ∀ {n k : Nat}, k ≤ n → nsK cs k ≤ nsK cs n
  | 0, k, h => by obtain rfl : k = 0 := by omega
                  exact Nat.le_refl _
  | n + 1, k, h => by
    by_cases e : k = n + 1
    · subst e; exact Nat.le_refl _
    · have := nsK_le cs (show k ≤ n by omega)
      rw [nsK_succ]
      omega
/-- What the marks of a row come to. -/
def mkW (r : Rw) : Nat := 2 * r.cs.length + 15 * nsK r.cs r.cs.length + 1
def mkK (rs : List Rw) : Nat → Nat
  | 0 => 0
  | k + 1 => mkK rs k + mkW (rs.getD k Rw.none)
theorem mkK_succ (rs : List Rw) (k : Nat) : mkK rs (k + 1) = mkK rs k + mkW (rs.getD k Rw.none) := rfl
theorem mkK_le (rs : List Rw) : ∀ {n k : Nat}, k ≤ n → mkK rs k ≤ mkK rs n
  | 0, k, h => by obtain rfl : k = 0 := by omega
                  exact Nat.le_refl _
  | n + 1, k, h => by
    by_cases e : k = n + 1
    · subst e; exact Nat.le_refl _
    · have := mkK_le rs (show k ≤ n by omega)
      rw [mkK_succ]
      omega
/-- Only marks of tables were written, from block lo on: every block keeps its kind and its size, what leads on stays. -/
structure Mk (lo : Nat) (w w' : World) : Prop where
  bel : Below lo w w'
  blk : ∀ (b : Nat) (cur : Array Value) (ty : TypeId), w.heap[b]? = some (Obj.cells cur ty (0, 0)) → ∃ cur' : Array Value, w'.heap[b]? = some (.cells cur' ty (0, 0)) ∧ cur'.size = cur.size ∧ (ty = 53 → ∀ i, cur'[i * 3 + 2]? = cur[i * 3 + 2]?) ∧ (ty = 51 → ∀ i, cur'[i * 2]? = cur[i * 2]?) ∧ (ty ≠ 36 → ty ≠ 53 → ty ≠ 51 → cur' = cur)
theorem Mk.refl (lo : Nat) (w : World) : Mk lo w w := ⟨Below.refl _ _, fun b cur ty h => ⟨cur, h, rfl, fun _ _ => rfl, fun _ _ => rfl, fun _ _ _ => rfl⟩⟩
theorem Mk.trans {lo : Nat} {a b c : World} (h : Mk lo a b) (k : Mk lo b c) : Mk lo a c := ⟨h.bel.trans k.bel, fun x cur ty hx => by
  obtain ⟨c1, e1, e2, e3, e4, e5⟩ := h.blk x cur ty hx
  obtain ⟨c2, f1, f2, f3, f4, f5⟩ := k.blk x c1 ty e1
  exact ⟨c2, f1, f2.trans e2, fun ht i => (f3 ht i).trans (e3 ht i), fun ht i => (f4 ht i).trans (e4 ht i), fun h1 h2 h3 => (f5 h1 h2 h3).trans (e5 h1 h2 h3)⟩⟩
theorem Mk.below {lo : Nat} {w w' : World} (h : Below w.heap.size w w') (hl : lo ≤ w.heap.size) : Mk lo w w' := ⟨h.mono hl, fun b cur ty hb => ⟨cur, (h.block b (Array.getElem?_eq_some_iff.1 hb).1).trans hb, rfl, fun _ _ => rfl, fun _ _ => rfl, fun _ _ _ => rfl⟩⟩
theorem Mk.one {lo g : Nat} {w w' : World} {cur cur' : Array Value} {ty : Nat} (hb : Below lo w w') (hg : w.heap[g]? = some (.cells cur ty (0, 0))) (hg' : w'.heap[g]? = some (.cells cur' ty (0, 0))) (hs : cur'.size = cur.size) (h1 : ty = 53 → ∀ i, cur'[i * 3 + 2]? = cur[i * 3 + 2]?) (h2 : ty = 51 → ∀ i, cur'[i * 2]? = cur[i * 2]?) (h3 : ty = 36 ∨ ty = 53 ∨ ty = 51) (ho : ∀ b, b < w.heap.size → b ≠ g → w'.heap[b]? = w.heap[b]?) : Mk lo w w' := ⟨hb, fun b c t hbc => by
  by_cases e : b = g
  · subst e
    rw [hg] at hbc
    cases hbc
    exact ⟨cur', hg', hs, h1, h2, fun a b c => by rcases h3 with h | h | h; exact absurd h a; exact absurd h b; exact absurd h c⟩
  · exact ⟨c, (ho b (Array.getElem?_eq_some_iff.1 hbc).1 e).trans hbc, rfl, fun _ _ => rfl, fun _ _ => rfl, fun _ _ _ => rfl⟩⟩
theorem Mk.set {lo g o : Nat} {w : World} {cur : Array Value} {ty : Nat} (x : Value) (hg : w.heap[g]? = some (.cells cur ty (0, 0))) (hl : lo ≤ g) (h1 : ty = 53 → o % 3 ≠ 2) (h2 : ty = 51 → o % 2 ≠ 0) (h3 : ty = 53 ∨ ty = 51) : Mk lo w (w.setCell ⟨g, o, none⟩ x) := by
  refine Mk.one ((Below.refl _ _).setCell hl _) hg (heap_setCell_same w g o cur ty x hg) (by simp) (fun e i => ?_) (fun e i => ?_) (by omega) (fun b _ hne => Below.heap_setCell _ _ _ _ (by simpa using hne))
  · rw [Array.getElem?_setIfInBounds, if_neg (by have := h1 e; omega)]
  · rw [Array.getElem?_setIfInBounds, if_neg (by have := h2 e; omega)]
theorem NOw.mk {lo n : Nat} {w w' : World} {v : Value} (h : NOw lo w v n) (hm : Mk lo w w') : NOw lo w' v n := by
  obtain ⟨g, L, rfl, ho⟩ := h
  rcases ho.2 with ⟨e, _⟩ | ⟨g', cap, cur, e, hb, hh, hn, hx, hs, ht⟩
  · simp at e
  · simp at e
    obtain ⟨rfl, rfl⟩ := e
    obtain ⟨cur', e1, e2, _⟩ := hm.blk _ _ _ hh
    refine ⟨g, cur'.toList.take (n * 15), rfl, ?_, .inr ⟨g, n, cur', rfl, hb, e1, hn, hx, by omega, rfl⟩⟩
    rw [List.length_take]
    simp
    omega
theorem markN_mk {lo n k : Nat} {v : Value} {w : World} (h : NOw lo w v n) (hn : n ≤ 1048576) (hk0 : 0 < k) (hk1 : k ≤ 16777216) :
    Calls Tryz.prog 33 #[v, .int .i64 (k : Int)] w fun e w' => e = .returned (.int .i64 ((k + 15 * n : Nat) : Int)) ∧ Mk lo w w' := by
  obtain ⟨g, L, rfl, ho⟩ := h
  refine (markNodeS_any ho hn hk0 hk1).mono ?_
  rintro e w' ⟨rfl, ho2, hs⟩
  refine ⟨rfl, ?_⟩
  have hlt := ho.lt g rfl
  rcases ho.2 with ⟨e, _⟩ | ⟨g1, cap1, cur, e, hb, hh, hn1, hx1, hs1, ht1⟩
  · simp at e
  · simp at e
    obtain ⟨rfl, rfl⟩ := e
    rcases ho2.2 with ⟨e, _⟩ | ⟨g2, cap2, cur2, e, hb2, hh2, hn2, hx2, hs2, ht2⟩
    · simp at e
    · simp at e
      obtain ⟨rfl, rfl⟩ := e
      exact Mk.one (hs.below.mono hlt.1) hh hh2 (by omega) (fun e => by omega) (fun e => by omega) (.inl rfl) hs.other
/-- Cells of a copy, by what leads on from them. -/
def CSh (lo : Nat) (w : World) (v : Value) (cs : List Cl) : Prop := ∃ (g : Nat) (cur : Array Value), v = .slice (some ⟨g, 0, none⟩) cs.length cs.length ∧ lo ≤ g ∧ w.heap[g]? = some (.cells cur 53 (0, 0)) ∧ cur.size = cs.length * 3 ∧ ∀ i, i < cs.length → ∃ u, cur[i * 3 + 2]? = some u ∧ NOw lo w u (cs.getD i Cl.none).ns.length
theorem CSh.mk {lo : Nat} {w w' : World} {v : Value} {cs : List Cl} (h : CSh lo w v cs) (hm : Mk lo w w') : CSh lo w' v cs := by
  obtain ⟨g, cur, rfl, h1, h2, h3, h4⟩ := h
  obtain ⟨cur', e1, e2, e3, _⟩ := hm.blk _ _ _ h2
  refine ⟨g, cur', rfl, h1, e1, e2.trans h3, fun i hi => ?_⟩
  obtain ⟨u, k1, k2⟩ := h4 i hi
  exact ⟨u, (e3 rfl i).trans k1, k2.mk hm⟩
theorem COw.sh {lo : Nat} {w : World} {v : Value} {cs : List Cl} (h : COw lo w v cs) : CSh lo w v cs := by
  obtain ⟨g, rfl, h1, cur, h2, h3, h4⟩ := h
  refine ⟨g, cur, rfl, h1, h2, h3, fun i hi => ?_⟩
  obtain ⟨c, hl, ⟨u, rfl, hu⟩, hj⟩ := h4 i hi
  exact ⟨u, hj 2 (by omega), hu.2.mono (by omega)⟩
def RSh (lo : Nat) (w : World) (v : Value) (rs : List Rw) : Prop := ∃ (g : Nat) (cur : Array Value), v = .slice (some ⟨g, 0, none⟩) rs.length rs.length ∧ lo ≤ g ∧ w.heap[g]? = some (.cells cur 51 (0, 0)) ∧ cur.size = rs.length * 2 ∧ ∀ i, i < rs.length → ∃ u, cur[i * 2]? = some u ∧ CSh lo w u (rs.getD i Rw.none).cs
theorem RSh.mk {lo : Nat} {w w' : World} {v : Value} {rs : List Rw} (h : RSh lo w v rs) (hm : Mk lo w w') : RSh lo w' v rs := by
  obtain ⟨g, cur, rfl, h1, h2, h3, h4⟩ := h
  obtain ⟨cur', e1, e2, _, e3, _⟩ := hm.blk _ _ _ h2
  refine ⟨g, cur', rfl, h1, e1, e2.trans h3, fun i hi => ?_⟩
  obtain ⟨u, k1, k2⟩ := h4 i hi
  exact ⟨u, (e3 rfl i).trans k1, k2.mk hm⟩
theorem CSh.mono {lo lo' : Nat} {w : World} {v : Value} {cs : List Cl} (h : CSh lo w v cs) (hl : lo' ≤ lo) : CSh lo' w v cs := by
  obtain ⟨g, cur, h0, h1, h2, h3, h4⟩ := h
  refine ⟨g, cur, h0, by omega, h2, h3, fun i hi => ?_⟩
  obtain ⟨u, k1, k2⟩ := h4 i hi
  exact ⟨u, k1, k2.mono hl⟩
theorem ROw.sh {lo : Nat} {w : World} {v : Value} {rs : List Rw} (h : ROw lo w v rs) : RSh lo w v rs := by
  obtain ⟨g, rfl, h1, cur, h2, h3, h4⟩ := h
  refine ⟨g, cur, rfl, h1, h2, h3, fun i hi => ?_⟩
  obtain ⟨c, hl, ⟨u, rfl, hu⟩, hj⟩ := h4 i hi
  exact ⟨u, hj 0 (by omega), hu.sh.mono (by omega)⟩

set_option maxRecDepth 20000 in
set_option maxHeartbeats 8000000 in
theorem markCellS_any {lo k : Nat} {v : Value} {cs : List Cl} {w : World} (h : CSh lo w v cs) (hn : cs.length ≤ 1048576) (hns : ∀ i, i < cs.length → (cs.getD i Cl.none).ns.length ≤ 1048576) (hk0 : 0 < k) (hk1 : k + 2 * cs.length + 15 * nsK cs cs.length ≤ 16777216) :
    Calls Tryz.prog 108 #[v, .int .i64 (k : Int)] w fun e w' => e = .returned (.int .i64 ((k + 2 * cs.length + 15 * nsK cs cs.length : Nat) : Int)) ∧ Mk lo w w' := by
  obtain ⟨n, hnl⟩ : ∃ n, n = cs.length := ⟨_, rfl⟩
  have HSH := hideP h
  obtain ⟨g, cur0, rfl, hlg, hg0, hsz0, hc0⟩ := h
  rw [← hnl] at hn hns hk1 ⊢
  have HNS := hideP hns
  have HNL := hideP hnl
  clear hg0 hsz0 hc0 cur0 hns hnl
  go_enter Tryz.func108, Tryz.ntmps108
  go_wp2
  go_loopw [1, 5] (fun s i wr => ∃ (j q : Nat), j ≤ n ∧ i = .int .i64 (j : Int) ∧ s = .int .i64 (q : Int) ∧ Hid (q = k + 2 * j + 15 * nsK cs j) ∧ Mk lo w wr) (fun _ i _ => n - (intOf i).toNat)
  case atStart => exact ⟨0, k, by omega, rfl, rfl, hideP (by simp [nsK]), Mk.refl _ _⟩
  case round =>
    obtain ⟨j, q, hj, rfl, rfl, HQ, hmk⟩ := hrel
    have HMK := hideP hmk
    clear hmk
    by_cases hjn : j < n
    · have hji : (j : Int) < (n : Int) := by omega
      obtain ⟨g2, cur, hv, _, hg, hsz, hcell⟩ := HSH.out.mk HMK.out
      obtain ⟨u, hu, hno⟩ := hcell j (by rw [← HNL.out]; exact hjn)
      simp only [Value.slice.injEq, Option.some.injEq, Addr.mk.injEq, and_true, true_and] at hv
      obtain ⟨rfl, _⟩ := hv
      rw [← HNL.out] at hsz
      obtain ⟨m, hm⟩ : ∃ m, m = (cs.getD j Cl.none).ns.length := ⟨_, rfl⟩
      rw [← hm] at hno
      have hmb : m ≤ 1048576 := by rw [hm]; exact HNS.out j hjn
      have hqb : q + 2 + 15 * m ≤ 16777216 := by
        have h1 := nsK_le cs (show j + 1 ≤ n by omega)
        rw [nsK_succ, ← hm] at h1
        have := HQ.out
        omega
      have HQ2 : Hid (q + 1 + 1 + 15 * m = k + 2 * (j + 1) + 15 * nsK cs (j + 1)) := hideP (by rw [nsK_succ, ← hm]; have := HQ.out; omega)
      obtain ⟨gn, L, hus, hown⟩ := hno
      subst hus
      obtain ⟨x0, hx0⟩ : ∃ x, cur[j * 3]? = some x := ⟨_, Array.getElem?_eq_getElem (by omega)⟩
      obtain ⟨x1, hx1⟩ : ∃ x, cur[j * 3 + 1]? = some x := ⟨_, Array.getElem?_eq_getElem (by omega)⟩
      have c0 : wr.cell? ⟨g, j * 3, none⟩ = some x0 := (cell_of_row _ _ _ _ 53 _ hg).trans hx0
      have c1 : wr.cell? ⟨g, j * 3 + 1, none⟩ = some x1 := (cell_of_row _ _ _ _ 53 _ hg).trans hx1
      have c2 : wr.cell? ⟨g, j * 3 + 2, none⟩ = some (.slice (some ⟨gn, 0, none⟩) m m) := (cell_of_row _ _ _ _ 53 _ hg).trans hu
      have fz : ∀ t, wr.frozen? ⟨g, t, none⟩ = false := fun t => frozen_of_row _ _ t _ _ hg
      have hgw : g < wr.heap.size := (Array.getElem?_eq_some_iff.1 hg).1
      have M2 : Hid (Mk lo wr ((wr.setCell ⟨g, j * 3, none⟩ (.int .i64 (q : Int))).setCell ⟨g, j * 3 + 1, none⟩ (.int .i64 ((q : Int) + 1)))) := hideP ((Mk.set _ hg hlg (fun _ => by omega) (fun e => by omega) (.inl rfl)).trans (Mk.set _ (heap_setCell_same _ g (j * 3) _ 53 _ hg) hlg (fun _ => by omega) (fun e => by omega) (.inl rfl)))
      have HC : Hid (Calls Tryz.prog 33 #[.slice (some ⟨gn, 0, none⟩) m m, .int .i64 ((q : Int) + 1 + 1)] ((wr.setCell ⟨g, j * 3, none⟩ (.int .i64 (q : Int))).setCell ⟨g, j * 3 + 1, none⟩ (.int .i64 ((q : Int) + 1))) fun e w' => e = .returned (.int .i64 ((q + 1 + 1 + 15 * m : Nat) : Int)) ∧ Mk lo ((wr.setCell ⟨g, j * 3, none⟩ (.int .i64 (q : Int))).setCell ⟨g, j * 3 + 1, none⟩ (.int .i64 ((q : Int) + 1))) w') := hideP (by
        have h1 : NOw lo wr (.slice (some ⟨gn, 0, none⟩) m m) m := ⟨gn, L, rfl, hown⟩
        have h2 := markN_mk (k := q + 1 + 1) (h1.mk M2.out) hmb (by omega) (by omega)
        have e : ((q + 1 + 1 : Nat) : Int) = (q : Int) + 1 + 1 := by omega
        rw [e] at h2
        exact h2)
      clear hcell hu hx0 hx1 hown hm hg hsz
      go_wp2_with fail
      refine HC.out.mono ?_
      rintro e w2 ⟨rfl, hm2⟩
      have M3 : Hid (Mk lo w w2) := hideP ((HMK.out.trans M2.out).trans hm2)
      clear hm2
      go_wp2
      go_roundw
      case rel => exact ⟨j + 1, q + 1 + 1 + 15 * m, by omega, by go_num, rfl, HQ2, M3.out⟩
      case measure => simp [intOf]; omega
    · have hji : ¬ (j : Int) < (n : Int) := by omega
      obtain rfl : j = n := by omega
      go_wp2
      go_ret
      refine ⟨?_, HMK.out⟩
      rw [HQ.out]
      rfl

set_option maxRecDepth 20000 in
set_option maxHeartbeats 8000000 in
theorem markRowS_any {lo k : Nat} {v : Value} {rs : List Rw} {w : World} (h : RSh lo w v rs) (hn : rs.length ≤ 1048576) (hsm : ∀ i, i < rs.length → SmW (rs.getD i Rw.none)) (hk0 : 0 < k) (hk1 : k + mkK rs rs.length ≤ 16777216) :
    Calls Tryz.prog 68 #[v, .int .i64 (k : Int)] w fun e w' => e = .returned (.int .i64 ((k + mkK rs rs.length : Nat) : Int)) ∧ Mk lo w w' := by
  obtain ⟨n, hnl⟩ : ∃ n, n = rs.length := ⟨_, rfl⟩
  have HSH := hideP h
  obtain ⟨g, cur0, rfl, hlg, hg0, hsz0, hc0⟩ := h
  rw [← hnl] at hn hsm hk1 ⊢
  have HSM := hideP hsm
  have HNL := hideP hnl
  clear hg0 hsz0 hc0 cur0 hsm hnl
  go_enter Tryz.func68, Tryz.ntmps68
  go_wp2
  go_loopw [1, 5] (fun s i wr => ∃ (j q : Nat), j ≤ n ∧ i = .int .i64 (j : Int) ∧ s = .int .i64 (q : Int) ∧ Hid (q = k + mkK rs j) ∧ Mk lo w wr) (fun _ i _ => n - (intOf i).toNat)
  case atStart => exact ⟨0, k, by omega, rfl, rfl, hideP (by simp [mkK]), Mk.refl _ _⟩
  case round =>
    obtain ⟨j, q, hj, rfl, rfl, HQ, hmk⟩ := hrel
    have HMK := hideP hmk
    clear hmk
    by_cases hjn : j < n
    · have hji : (j : Int) < (n : Int) := by omega
      obtain ⟨g2, cur, hv, _, hg, hsz, hcell⟩ := HSH.out.mk HMK.out
      obtain ⟨u, hu, hsh⟩ := hcell j (by rw [← HNL.out]; exact hjn)
      simp only [Value.slice.injEq, Option.some.injEq, Addr.mk.injEq, and_true, true_and] at hv
      obtain ⟨rfl, _⟩ := hv
      rw [← HNL.out] at hsz
      obtain ⟨r, hr⟩ : ∃ r, r = rs.getD j Rw.none := ⟨_, rfl⟩
      have hsj := HSM.out j hjn
      rw [← hr] at hsh hsj
      have hqb : q + mkW r ≤ 16777216 := by
        have h1 := mkK_le rs (show j + 1 ≤ n by omega)
        rw [mkK_succ, ← hr] at h1
        have := HQ.out
        omega
      have hq0 : 0 < q := by have := HQ.out; omega
      obtain ⟨s, hs⟩ : ∃ s, s = q + 2 * r.cs.length + 15 * nsK r.cs r.cs.length := ⟨_, rfl⟩
      have HQ2 : Hid (s + 1 = k + mkK rs (j + 1)) := hideP (by rw [mkK_succ, ← hr, hs]; unfold mkW; have := HQ.out; omega)
      have hsb : s + 1 ≤ 16777216 := by rw [hs]; unfold mkW at hqb; omega
      have HC : Hid (Calls Tryz.prog 108 #[u, .int .i64 (q : Int)] wr fun e w' => e = .returned (.int .i64 (s : Int)) ∧ Mk lo wr w') := hideP (by
        rw [hs]
        exact markCellS_any hsh hsj.1 (fun i hi => (hsj.2 i hi).1) hq0 (by unfold mkW at hqb; omega))
      obtain ⟨gc, curc, rfl, _⟩ := hsh
      have c0 : wr.cell? ⟨g, j * 2, none⟩ = some (.slice (some ⟨gc, 0, none⟩) r.cs.length r.cs.length) := (cell_of_row _ _ _ _ 51 _ hg).trans hu
      have hgw : g < wr.heap.size := (Array.getElem?_eq_some_iff.1 hg).1
      have HG := hideP hg
      obtain ⟨m, hm⟩ : ∃ m, m = r.cs.length := ⟨_, rfl⟩
      rw [← hm] at c0 HC
      clear hcell hu hg hs hr hsj hqb hm
      go_wp2_with fail
      refine HC.out.mono ?_
      rintro e w2 ⟨rfl, hm2⟩
      obtain ⟨cur2, hg2, hsz2, _⟩ := hm2.blk _ _ _ HG.out
      have M2 : Hid (Mk lo w w2) := hideP (HMK.out.trans hm2)
      obtain ⟨x1, hx1⟩ : ∃ x, cur2[j * 2 + 1]? = some x := ⟨_, Array.getElem?_eq_getElem (by omega)⟩
      have c1 : w2.cell? ⟨g, j * 2 + 1, none⟩ = some x1 := (cell_of_row _ _ _ _ 51 _ hg2).trans hx1
      have fz : ∀ t, w2.frozen? ⟨g, t, none⟩ = false := fun t => frozen_of_row _ _ t _ _ hg2
      have hgw2 : g < w2.heap.size := (Array.getElem?_eq_some_iff.1 hg2).1
      have M3 : Hid (Mk lo w (w2.setCell ⟨g, j * 2 + 1, none⟩ (.int .i64 (s : Int)))) := hideP (M2.out.trans (Mk.set _ hg2 hlg (fun e => by omega) (fun e => by omega) (.inr rfl)))
      clear hm2 hg2 hsz2 hx1 hsz
      go_wp2
      go_roundw
      case rel => exact ⟨j + 1, s + 1, by omega, by go_num, by first | rfl | go_num, HQ2, M3.out⟩
      case measure => simp [intOf]; omega
    · have hji : ¬ (j : Int) < (n : Int) := by omega
      obtain rfl : j = n := by omega
      go_wp2
      go_ret
      refine ⟨?_, HMK.out⟩
      rw [HQ.out]
      rfl
set_option maxHeartbeats 2000000 in
theorem markTable_any {lo k : Nat} (x : Tb) {v : Value} {w : World} (h : RSh lo w v x.rs) (hs : SmT x) (hl : lo ≤ w.heap.size) (hk0 : 0 < k) (hk1 : k + mkK x.rs x.rs.length ≤ 16777216) :
    Calls Tryz.prog 31 #[tbV x v, .int .i64 (k : Int)] w fun e w' => e = .returned (.int .i64 ((k + mkK x.rs x.rs.length : Nat) : Int)) ∧ Mk lo w w' := by
  obtain ⟨s, hs2⟩ : ∃ s, s = k + mkK x.rs x.rs.length := ⟨_, rfl⟩
  have HC : Hid (∀ W, Mk lo w W → Calls Tryz.prog 68 #[v, .int .i64 (k : Int)] W fun e w' => e = .returned (.int .i64 (s : Int)) ∧ Mk lo W w') := hideP (fun W hW => by rw [hs2]; exact markRowS_any (h.mk hW) hs.1 hs.2 hk0 hk1)
  rw [← hs2]
  have B0 : ∀ o, Mk lo w (w.alloc o) := fun o => Mk.below (below1 _ _) hl
  have HB0 := hideP B0
  obtain ⟨g, cur, rfl, _⟩ := h
  obtain ⟨m, hm⟩ : ∃ m, m = x.rs.length := ⟨_, rfl⟩
  rw [← hm] at HC ⊢
  clear hs2 hs hk1 B0 hm
  obtain ⟨co, gs, gp, gpo, gm, gmo, rs⟩ := x
  simp only [tbV]
  go_enter Tryz.func31, Tryz.ntmps31
  go_wp2_with fail
  refine (HC.out _ (HB0.out _)).mono ?_
  rintro e w1 ⟨rfl, hm1⟩
  have M1 : Hid (Mk lo w w1) := hideP ((HB0.out _).trans hm1)
  clear hm1
  go_wp2
  go_ret
  exact ⟨rfl, M1.out⟩
end Go.Proofs.YtojoehdmjkgnnaaGreat

namespace Go.Proofs.YtojoehdmjkgnnaaGreat
open Go.RowKit
set_option linter.unusedVariables false
set_option linter.unusedSimpArgs false

def T3.list (t : T3) : List Int := [t.a, t.b, t.c]
theorem t3_own {w : World} {B g : Nat} {t : T3} (h : w.heap[g]? = some (t3O t)) (hb : B ≤ g) : w.ownsRow B 2 1 (slG g) 3 (t.list.map (Value.int .i64)) :=
  ⟨rfl, .inr ⟨g, 3, _, rfl, hb, h, Nat.le_refl _, by decide, rfl, rfl⟩⟩
theorem t3_row {w : World} {g : Nat} {t : T3} (h : w.heap[g]? = some (t3O t)) : Shr.Row w (slG g) t.list := Shr.Row.own (t3_own h (Nat.zero_le _)) rfl (Array.getElem?_eq_some_iff.1 h).1
theorem own_t3 {w : World} {B g : Nat} {t : T3} (h : w.ownsRow B 2 1 (slG g) 3 (t.list.map (Value.int .i64))) : w.heap[g]? = some (t3O t) := by
  rcases h.2 with ⟨e, _⟩ | ⟨g', cap, cur, e, _, hh, _, _, hs, ht⟩
  · simp at e
  · simp at e
    obtain ⟨rfl, rfl⟩ := e
    have h1 : cur.toList = t.list.map (Value.int .i64) := by
      rw [← ht, List.take_of_length_le (by simp; omega)]
    have h2 : cur = #[.int .i64 t.a, .int .i64 t.b, .int .i64 t.c] := Array.toList_inj.1 (by rw [h1]; rfl)
    rw [hh, h2]
theorem SSO.cell {base : Nat} {w : World} {g c : Nat} {ts : List T3} {gs : List Nat} (h : SSO base w (.slice (some ⟨g, 0, none⟩) gs.length c) ts gs) {i : Nat} (hi : i < gs.length) : w.cell? ⟨g, i, none⟩ = some (slG (gs.getD i 0)) := by
  have hl := h.own
  rcases hl.2 with ⟨e, _⟩ | ⟨g', cap, cur, e, _, hh, _, _, hs, ht⟩
  · simp at e
  · simp at e
    obtain ⟨rfl, rfl⟩ := e
    rw [cell_of_row _ _ i _ _ _ hh]
    have h1 : (gs.map slG)[i]? = some (slG (gs.getD i 0)) := by
      rw [List.getElem?_map, List.getElem?_eq_getElem hi]
      simp [List.getD, List.getElem?_eq_getElem hi]
    rw [← ht, List.getElem?_take, if_pos (by omega)] at h1
    simpa using h1
theorem SSO.addr {base : Nat} {w : World} {a : Option Addr} {c : Nat} {ts : List T3} {gs : List Nat} (h : SSO base w (.slice a gs.length c) ts gs) (hp : 0 < gs.length) : ∃ g, a = some ⟨g, 0, none⟩ ∧ base ≤ g ∧ g < w.heap.size := by
  rcases h.own.2 with ⟨e, _⟩ | ⟨g, cap, cur, e, hb, hh, _⟩
  · simp at e; omega
  · simp at e
    exact ⟨g, e.1, hb, (Array.getElem?_eq_some_iff.1 hh).1⟩
theorem SSO.mkd {base lo : Nat} {w w' : World} {v : Value} {ts : List T3} {gs : List Nat} (h : SSO base w v ts gs) (hm : Mk lo w w') : SSO base w' v ts gs := by
  refine ⟨ownG_same h.own (fun k hk => ?_), h.len, fun i hi => ⟨(h.at_ i hi).1, ?_⟩, h.up⟩
  · rcases h.own.2 with ⟨rfl, _⟩ | ⟨g, cap, cur, rfl, _, hh, _⟩
    · cases hk
    · simp only [Value.ownBlock, Option.some.injEq] at hk
      subst hk
      obtain ⟨c, e1, _, _, _, e5⟩ := hm.blk _ _ _ hh
      rw [e5 (by decide) (by decide) (by decide)] at e1
      exact e1.trans hh.symm
  · have hh := (h.at_ i hi).2
    obtain ⟨c, e1, _, _, _, e5⟩ := hm.blk _ _ _ hh
    rw [e5 (by decide) (by decide) (by decide)] at e1
    exact e1

set_option maxRecDepth 20000 in
set_option maxHeartbeats 4000000 in
theorem eqSS_same {B1 B2 : Nat} {a1 a2 : Option Addr} {c1 c2 : Nat} {ts : List T3} {gs1 gs2 : List Nat} {w : World} (h1 : SSO B1 w (.slice a1 gs1.length c1) ts gs1) (h2 : SSO B2 w (.slice a2 gs2.length c2) ts gs2) (hs : ts.length ≤ 1048576) :
    Calls Tryz.prog 37 #[.slice a1 gs1.length c1, .slice a2 gs2.length c2] w fun e w' => e = .returned (.bool true) ∧ Below w.heap.size w w' := by
  obtain ⟨n, hn⟩ : ∃ n, n = ts.length := ⟨_, rfl⟩
  have e1 : gs1.length = n := by rw [hn]; exact h1.len
  have e2 : gs2.length = n := by rw [hn]; exact h2.len
  have H1 := hideP h1
  have H2 := hideP h2
  have HE1 := hideP e1
  have HE2 := hideP e2
  rw [e1, e2]
  rw [← hn] at hs
  clear h1 h2 e1 e2 hn
  go_enter Tryz.func37, Tryz.ntmps37
  go_wp2
  go_loopw [5] (fun i wr => ∃ k : Nat, k ≤ n ∧ i = .int .i64 k ∧ Below w.heap.size w wr) (fun i _ => n - (intOf i).toNat)
  case atStart => exact ⟨0, by omega, rfl, Below.refl _ _⟩
  case round =>
    obtain ⟨k, hk, rfl, hbel⟩ := hrel
    by_cases hkn : k < n
    · have hki : (k : Int) < (n : Int) := by omega
      obtain ⟨b, hb0, _, hb⟩ := H1.out.addr (by rw [HE1.out]; omega)
      obtain ⟨b', hb0', _, hb'⟩ := H2.out.addr (by rw [HE2.out]; omega)
      subst hb0 hb0'
      have k1 := H1.out.cell (i := k) (by rw [HE1.out]; exact hkn)
      have k2 := H2.out.cell (i := k) (by rw [HE2.out]; exact hkn)
      have t1 := (H1.out.at_ k (by rw [HE1.out]; exact hkn)).2
      have t2 := (H2.out.at_ k (by rw [HE2.out]; exact hkn)).2
      obtain ⟨g1, hg1⟩ : ∃ g1, g1 = gs1.getD k 0 := ⟨_, rfl⟩
      obtain ⟨g2, hg2⟩ : ∃ g2, g2 = gs2.getD k 0 := ⟨_, rfl⟩
      obtain ⟨t, ht⟩ : ∃ t, t = ts.getD k T3.none := ⟨_, rfl⟩
      rw [← hg1] at k1 t1
      rw [← hg2] at k2 t2
      rw [← ht] at t1 t2
      have HC : Hid (∀ W, Below w.heap.size w W → Calls Tryz.prog 30 #[slG g1, slG g2] W fun r w' => r = .returned (.bool true) ∧ Below W.heap.size W w') := hideP (fun W hW => by
        have h3 := Shr.eqInts_any (t3_row ((hW.block _ (Array.getElem?_eq_some_iff.1 t1).1).trans t1)) (t3_row ((hW.block _ (Array.getElem?_eq_some_iff.1 t2).1).trans t2)) (by show 3 ≤ _; omega)
        rw [decide_eq_true rfl] at h3
        exact h3)
      have BD : Below w.heap.size w wr.drew := Below.drew hbel
      have QA : Hid (∀ x, Below w.heap.size w x → x.cell? ⟨b, k, none⟩ = some (slG g1) ∧ x.cell? ⟨b', k, none⟩ = some (slG g2)) := hideP (fun x hx => ⟨(hx.cell (p := ⟨b, k, none⟩) hb).trans k1, (hx.cell (p := ⟨b', k, none⟩) hb').trans k2⟩)
      have HB : Hid (Below w.heap.size w wr) := hbel
      have HBD : Hid (Below w.heap.size w wr.drew) := BD
      clear k1 k2 t1 t2 hg1 hg2 ht hbel BD
      go_wp2_with fail
      go_region_held3 (fun x => x.cell? ⟨b, k, none⟩ = some (slG g1) ∧ x.cell? ⟨b', k, none⟩ = some (slG g2)) (first | exact QA.out _ HBD.out | exact QA.out _ ‹Hid (Below w.heap.size w _)›) ((go_at_call 30; refine (HC.out _ HBD.out).mono ?_; rintro e w2 ⟨rfl, hb1⟩; have hb2 : Hid (Below w.heap.size w w2) := below_more HBD.out hb1 HBD.out.size; clear hb1))
      all_goals
        go_wp2
        go_roundw
        case rel => exact ⟨k + 1, by omega, by go_num, ‹Hid (Below w.heap.size w w2)›⟩
        case measure => simp [intOf]; omega
    · have hki : ¬ (k : Int) < (n : Int) := by omega
      have HB : Hid (Below w.heap.size w wr) := hbel
      clear hbel
      go_wp2
      go_ret
      exact ⟨rfl, HB⟩

def mT (k n : Nat) : List T3 := (List.range n).map (fun i => (⟨((k + 3 * i : Nat) : Int), ((k + 3 * i : Nat) : Int) + 1, ((k + 3 * i : Nat) : Int) + 2⟩ : T3))
theorem mT_len (k n : Nat) : (mT k n).length = n := by simp [mT]
theorem mT_at {k n i : Nat} (h : i < n) : (mT k n).getD i T3.none = ⟨((k + 3 * i : Nat) : Int), ((k + 3 * i : Nat) : Int) + 1, ((k + 3 * i : Nat) : Int) + 2⟩ := by
  simp [mT, List.getD, h]
theorem ups3 (q : Int) : (Shr.ups q 3) = (⟨q, q + 1, q + 2⟩ : T3).list := by
  simp [Shr.ups, List.range_succ, T3.list]
/-- The first j of the rows are marked, the others as they were. -/
def mix (k : Nat) (ts : List T3) (j i : Nat) : T3 := if i < j then ⟨((k + 3 * i : Nat) : Int), ((k + 3 * i : Nat) : Int) + 1, ((k + 3 * i : Nat) : Int) + 2⟩ else ts.getD i T3.none
set_option maxRecDepth 20000 in
set_option maxHeartbeats 4000000 in
theorem markSS_any {B k : Nat} {a : Option Addr} {c : Nat} {ts : List T3} {gs : List Nat} {w : World} (h : SSO B w (.slice a gs.length c) ts gs) (hs : ts.length ≤ 1048576) (hk0 : 0 < k) (hk1 : k ≤ 1048576) (hB : B ≤ w.heap.size) :
    Calls Tryz.prog 38 #[.slice a gs.length c, .int .i64 (k : Int)] w fun e w' => e = .returned (.int .i64 ((k + 3 * gs.length : Nat) : Int)) ∧ SSO B w' (.slice a gs.length c) (mT k gs.length) gs ∧ Below B w w' ∧ (∀ b, (∀ i, i < gs.length → gs.getD i 0 ≠ b) → w'.heap[b]? = w.heap[b]?) := by
  obtain ⟨n, hn⟩ : ∃ n, n = gs.length := ⟨_, rfl⟩
  have hlen : n ≤ 1048576 := by rw [hn, h.len]; exact hs
  have H := hideP h
  have HN := hideP hn
  rw [← hn]
  clear h hs hn
  have HOUT : Hid (∀ i, i < n → ∀ g, a = some ⟨g, 0, none⟩ → gs.getD i 0 ≠ g) := hideP (fun i hi g e e2 => by
    have h1 := (H.out.at_ i (by rw [← HN.out]; exact hi)).2
    rw [e2] at h1
    have h2 := own_neB h1 H.out.own (by decide)
    rw [e] at h2
    exact h2 rfl)
  go_enter Tryz.func38, Tryz.ntmps38
  go_wp2
  go_loopw [1, 5] (fun s i wr => ∃ (j q : Nat), j ≤ n ∧ i = .int .i64 (j : Int) ∧ s = .int .i64 (q : Int) ∧ q = k + 3 * j ∧ Hid ((∀ i, i < n → wr.heap[gs.getD i 0]? = some (t3O (mix k ts j i))) ∧ (∀ b, (∀ i, i < n → gs.getD i 0 ≠ b) → wr.heap[b]? = w.heap[b]?)) ∧ Below B w wr) (fun _ i _ => n - (intOf i).toNat)
  case atStart => exact ⟨0, k, by omega, rfl, rfl, by omega, hideP ⟨fun i hi => (H.out.at_ i (by rw [← HN.out]; exact hi)).2, fun _ _ => rfl⟩, Below.refl _ _⟩
  case round =>
    obtain ⟨j, q, hj, rfl, rfl, hq, HM, hbel⟩ := hrel
    have HQ := hideP hq
    have HB := hideP hbel
    have hqb : q ≤ 8388608 := by omega
    clear hq hbel
    by_cases hjn : j < n
    · have hji : (j : Int) < (n : Int) := by omega
      obtain ⟨g, rfl, hgb, hg⟩ := H.out.addr (by rw [← HN.out]; omega)
      have hkeep : wr.heap[g]? = w.heap[g]? := HM.out.2 g (fun i hi => HOUT.out i hi g rfl)
      have c0 : wr.cell? ⟨g, j, none⟩ = some (slG (gs.getD j 0)) := (World.cell?_of_block (w := w) (a := ⟨g, j, none⟩) hkeep).trans (H.out.cell (by rw [← HN.out]; exact hjn))
      have hgw : g < wr.heap.size := Nat.lt_of_lt_of_le hg HB.out.size
      have t0 := HM.out.1 j hjn
      have hbj := (H.out.at_ j (by rw [← HN.out]; exact hjn)).1
      have HUP : Hid (∀ i, i < n → i ≠ j → gs.getD i 0 ≠ gs.getD j 0) := hideP (fun i hi hne e => by
        rcases Nat.lt_or_gt_of_ne hne with h1 | h1
        · have := H.out.up i j h1 (by rw [← HN.out]; exact hjn); omega
        · have := H.out.up j i h1 (by rw [← HN.out]; exact hi); omega)
      obtain ⟨gj, hgj⟩ : ∃ gj, gj = gs.getD j 0 := ⟨_, rfl⟩
      rw [← hgj] at c0 t0 hbj HUP
      have HC : Hid (Calls Tryz.prog 32 #[slG gj, .int .i64 (q : Int)] wr fun e w' => e = .returned (.int .i64 ((q : Int) + (3 : Nat))) ∧ w'.ownsRow B 2 1 (slG gj) 3 ((Shr.ups (q : Int) 3).map (Value.int .i64)) ∧ Below gj wr w' ∧ w'.heap.size = wr.heap.size ∧ (∀ b, b ≠ gj → w'.heap[b]? = wr.heap[b]?)) := hideP (Shr.markInts_any (t3_own t0 hbj) (by omega) (by omega) (by omega))
      have HGJ := hideP hgj
      clear t0 hkeep hgj
      go_wp2_with fail
      refine HC.out.mono ?_
      rintro e w2 ⟨rfl, ho2, hb2, hs2, hoth⟩
      have M2 : Hid ((∀ i, i < n → w2.heap[gs.getD i 0]? = some (t3O (mix k ts (j + 1) i))) ∧ (∀ b, (∀ i, i < n → gs.getD i 0 ≠ b) → w2.heap[b]? = w.heap[b]?)) := hideP (by
        refine ⟨fun i hi => ?_, fun b hb => (hoth b (by rw [HGJ.out]; exact fun e => hb j hjn e.symm)).trans (HM.out.2 b hb)⟩
        by_cases e : i = j
        · subst e
          rw [← HGJ.out]
          have h3 := own_t3 (t := ⟨(q : Int), (q : Int) + 1, (q : Int) + 2⟩) (by rw [← ups3]; exact ho2)
          rw [h3]
          unfold mix
          rw [if_pos (by omega), ← HQ.out]
        · rw [hoth _ (HUP.out i hi e), HM.out.1 i hi]
          unfold mix
          by_cases e2 : i < j
          · rw [if_pos e2, if_pos (by omega)]
          · rw [if_neg e2, if_neg (by omega)])
      have B2 : Hid (Below B w w2) := hideP (HB.out.trans (hb2.mono hbj))
      clear ho2 hb2 hs2 hoth c0
      go_wp2
      go_roundw
      case rel => exact ⟨j + 1, q + 3, by omega, by go_num, by first | rfl | (congr 1) , by have := HQ.out; omega, M2, B2.out⟩
      case measure => simp [intOf]; omega
    · have hji : ¬ (j : Int) < (n : Int) := by omega
      obtain rfl : j = n := by omega
      go_wp2
      go_ret
      refine ⟨by rw [HQ.out]; rfl, ⟨?_, by rw [mT_len]; exact HN.out.symm, fun i hi => ⟨(H.out.at_ i hi).1, ?_⟩, H.out.up⟩, HB.out, HM.out.2⟩
      · have h0 := H.out.own
        rw [← HN.out] at h0 ⊢
        refine ownG_same h0 (fun g hg => HM.out.2 g (fun i hi e => ?_))
        have h1 := (H.out.at_ i (by rw [← HN.out]; exact hi)).2
        rw [e] at h1
        exact own_neB h1 h0 (by decide) hg
      · rw [HM.out.1 i (by rw [HN.out]; exact hi), mT_at (by rw [HN.out]; exact hi)]
        unfold mix
        rw [if_pos (by rw [HN.out]; exact hi)]
set_option maxRecDepth 20000 in
set_option maxHeartbeats 4000000 in
theorem heldSS_any {B k : Nat} {a : Option Addr} {c : Nat} {gs : List Nat} {w : World} (h : SSO B w (.slice a gs.length c) (mT k gs.length) gs) (hs : gs.length ≤ 1048576) (hk0 : 0 < k) (hk1 : k ≤ 1048576) :
    Calls Tryz.prog 39 #[.slice a gs.length c, .int .i64 (k : Int)] w fun e w' => e = .returned (.int .i64 ((k + 3 * gs.length : Nat) : Int)) ∧ w' = w := by
  obtain ⟨n, hn⟩ : ∃ n, n = gs.length := ⟨_, rfl⟩
  have H := hideP h
  have HN := hideP hn
  rw [← hn] at hs ⊢
  clear h hn
  go_enter Tryz.func39, Tryz.ntmps39
  go_wp2
  go_loopw [1, 5] (fun s i wr => ∃ (j q : Nat), j ≤ n ∧ i = .int .i64 (j : Int) ∧ s = .int .i64 (q : Int) ∧ q = k + 3 * j ∧ wr = w) (fun _ i _ => n - (intOf i).toNat)
  case atStart => exact ⟨0, k, by omega, rfl, rfl, by omega, rfl⟩
  case round =>
    obtain ⟨j, q, hj, rfl, rfl, hq, hww⟩ := hrel
    have hww' := hww.symm
    subst hww'
    clear hww
    have HQ := hideP hq
    have hqb : q ≤ 8388608 := by omega
    clear hq
    by_cases hjn : j < n
    · have hji : (j : Int) < (n : Int) := by omega
      obtain ⟨g, rfl, hgb, hg⟩ := H.out.addr (by rw [← HN.out]; omega)
      have c0 := H.out.cell (i := j) (by rw [← HN.out]; exact hjn)
      have t0 := (H.out.at_ j (by rw [← HN.out]; exact hjn)).2
      rw [mT_at (by rw [← HN.out]; exact hjn), ← HQ.out] at t0
      obtain ⟨gj, hgj⟩ : ∃ gj, gj = gs.getD j 0 := ⟨_, rfl⟩
      rw [← hgj] at c0 t0
      have HC : Hid (Calls Tryz.prog 72 #[slG gj, .int .i64 (q : Int)] w fun e w' => e = .returned (.int .i64 ((q : Int) + (3 : Nat))) ∧ w' = w) := hideP (Shr.heldInts_any (by rw [ups3]; exact t3_row t0) (by omega) (by omega) (by omega))
      have hng : ¬ (q : Int) + 3 < 0 := by omega
      clear t0 hgj
      go_wp2_with fail
      refine HC.out.mono ?_
      rintro e w2 ⟨rfl, h2⟩
      have h2' := h2.symm
      subst h2'
      clear h2
      go_wp2
      go_roundw
      case rel => exact ⟨j + 1, q + 3, by omega, by go_num, by first | rfl | (congr 1), by have := HQ.out; omega, trivial⟩
      case measure => simp [intOf]; omega
    · have hji : ¬ (j : Int) < (n : Int) := by omega
      obtain rfl : j = n := by omega
      go_wp2
      go_ret
      exact ⟨by rw [HQ.out]; rfl, rfl⟩
end Go.Proofs.YtojoehdmjkgnnaaGreat

namespace Go.Proofs.YtojoehdmjkgnnaaGreat
open Go.RowKit
set_option linter.unusedVariables false
set_option linter.unusedSimpArgs false

set_option maxHeartbeats 4000000 in
theorem szNodeS_w {v : Value} {xs : List Nd} {w : World} {l : Int} (h : NRow 0 w v xs) (hf : xs.length ≤ 9223372036854775807 ∧ ∀ i, i < xs.length → FnN (xs.getD i Nd.none)) (hl0 : 0 ≤ l) (hl1 : l ≤ 1048576) :
    Calls Tryz.prog 162 #[v, .int .i64 l] w fun e w' => (∃ m : Int, e = .returned (.int .i64 m) ∧ (0 ≤ m → m + xs.length ≤ l ∧ xs.length ≤ 1048576 ∧ ∀ i, i < xs.length → SmN (xs.getD i Nd.none))) ∧ Below w.heap.size w w' := by
  obtain ⟨ao, n, cap, rfl, hl, hr⟩ := h
  have hn : n ≤ 9223372036854775807 := by rw [← hl]; exact hf.1
  by_cases hbig : l - (n : Int) < 0
  · go_enter Tryz.func162, Tryz.ntmps162
    go_wp2
    go_ret
    exact ⟨⟨-1, rfl, fun h => by omega⟩, Below.refl _ _⟩
  · have HR : Hid (0 < n → ∃ b off, ao = some ⟨b, off, none⟩ ∧ 0 ≤ b ∧ b < w.heap.size ∧ ∀ i, i < n → ∃ cs : List Value, cs.length = 15 ∧ NdR 0 w cs (xs.getD i Nd.none) ∧ ∀ j, j < 15 → w.cell? ⟨b, off + i * 15 + j, none⟩ = cs[j]?) := hr
    have HS : Hid (∀ i, i < xs.length → FnN (xs.getD i Nd.none)) := hf.2
    have HL : Hid (xs.length = n) := hl
    clear hr hf hl
    go_enter Tryz.func162, Tryz.ntmps162
    go_wp2
    go_loopw [1, 5] (fun s i wr => ∃ (k : Nat) (m : Int), k ≤ n ∧ i = .int .i64 k ∧ s = .int .i64 m ∧ 0 ≤ m ∧ m + n ≤ l ∧ Hid (∀ i, i < k → SmN (xs.getD i Nd.none)) ∧ Below w.heap.size w wr)
      (fun _ i _ => n - (intOf i).toNat)
    case atStart => exact ⟨0, l - n, by omega, rfl, rfl, by omega, by omega, fun i hi => absurd hi (by omega), Below.refl _ _⟩
    case round =>
      obtain ⟨k, m, hk, rfl, rfl, hm0, hm1, HM, hbel⟩ := hrel
      by_cases hkn : k < n
      · have hki : (k : Int) < (n : Int) := by omega
        obtain ⟨b, off, rfl, hlo, hb, hc⟩ := HR (by omega)
        have hfk : FnN (xs.getD k Nd.none) := HS k (by rw [show xs.length = n from HL]; exact hkn)
        obtain ⟨cs, hcl, hRel, hcj⟩ := hc k hkn
        obtain ⟨t, ht⟩ : ∃ t, t = xs.getD k Nd.none := ⟨_, rfl⟩
        rw [← ht] at hRel hfk
        have HT : Hid (t = xs.getD k Nd.none) := ht
        have HC : Hid (∀ (l : Int) (w : World), 0 ≤ l → l ≤ 1048576 → Calls Tryz.prog 178 #[ndV t, .int .i64 l] w fun r w' => (∃ m : Int, r = .returned (.int .i64 m) ∧ m ≤ l ∧ (0 ≤ m → SmN t)) ∧ Below w.heap.size w w') := hideP (fun l w a b => szNode_any t l w a b hfk)
        obtain ⟨kd, wd, hh, dp, sh, fo, ch, nn, gs, gp, gpo, gm, gmo, tx, kids⟩ := t
        rw [show cs = _ from hRel] at hcj
        simp only [Nd.cells] at hcj
        have g0 : wr.cell? ⟨b, off + k * 15, none⟩ = some (.int .i64 kd) := (hbel.cell (p := ⟨b, off + k * 15, none⟩) hb).trans (hcj 0 (by omega))
        have g1 : wr.cell? ⟨b, off + k * 15 + 1, none⟩ = some (.int .i64 wd) := (hbel.cell (p := ⟨b, off + k * 15 + 1, none⟩) hb).trans (hcj 1 (by omega))
        have g2 : wr.cell? ⟨b, off + k * 15 + 2, none⟩ = some (.int .i64 hh) := (hbel.cell (p := ⟨b, off + k * 15 + 2, none⟩) hb).trans (hcj 2 (by omega))
        have g3 : wr.cell? ⟨b, off + k * 15 + 3, none⟩ = some (.int .i64 dp) := (hbel.cell (p := ⟨b, off + k * 15 + 3, none⟩) hb).trans (hcj 3 (by omega))
        have g4 : wr.cell? ⟨b, off + k * 15 + 4, none⟩ = some (.int .i64 sh) := (hbel.cell (p := ⟨b, off + k * 15 + 4, none⟩) hb).trans (hcj 4 (by omega))
        have g5 : wr.cell? ⟨b, off + k * 15 + 5, none⟩ = some (.int .i64 fo) := (hbel.cell (p := ⟨b, off + k * 15 + 5, none⟩) hb).trans (hcj 5 (by omega))
        have g6 : wr.cell? ⟨b, off + k * 15 + 6, none⟩ = some (.int .i64 ch) := (hbel.cell (p := ⟨b, off + k * 15 + 6, none⟩) hb).trans (hcj 6 (by omega))
        have g7 : wr.cell? ⟨b, off + k * 15 + 7, none⟩ = some (.int .i64 nn) := (hbel.cell (p := ⟨b, off + k * 15 + 7, none⟩) hb).trans (hcj 7 (by omega))
        have g8 : wr.cell? ⟨b, off + k * 15 + 8, none⟩ = some (.int .i64 gs) := (hbel.cell (p := ⟨b, off + k * 15 + 8, none⟩) hb).trans (hcj 8 (by omega))
        have g9 : wr.cell? ⟨b, off + k * 15 + 9, none⟩ = some (.int .i64 gp) := (hbel.cell (p := ⟨b, off + k * 15 + 9, none⟩) hb).trans (hcj 9 (by omega))
        have g10 : wr.cell? ⟨b, off + k * 15 + 10, none⟩ = some (.int .i64 gpo) := (hbel.cell (p := ⟨b, off + k * 15 + 10, none⟩) hb).trans (hcj 10 (by omega))
        have g11 : wr.cell? ⟨b, off + k * 15 + 11, none⟩ = some (.int .i64 gm) := (hbel.cell (p := ⟨b, off + k * 15 + 11, none⟩) hb).trans (hcj 11 (by omega))
        have g12 : wr.cell? ⟨b, off + k * 15 + 12, none⟩ = some (.int .i64 gmo) := (hbel.cell (p := ⟨b, off + k * 15 + 12, none⟩) hb).trans (hcj 12 (by omega))
        have g13 : wr.cell? ⟨b, off + k * 15 + 13, none⟩ = some (.string tx) := (hbel.cell (p := ⟨b, off + k * 15 + 13, none⟩) hb).trans (hcj 13 (by omega))
        have g14 : wr.cell? ⟨b, off + k * 15 + 14, none⟩ = some (.int .i64 kids) := (hbel.cell (p := ⟨b, off + k * 15 + 14, none⟩) hb).trans (hcj 14 (by omega))
        have HB : Hid (Below w.heap.size w wr) := hbel
        clear hc hcj hcl hbel ht hfk hRel
        go_wp2_with fail
        refine (HC.out _ _ hm0 (by omega)).mono ?_
        rintro e w2 ⟨⟨m2, rfl, hm2l, hm2⟩, hb1⟩
        have B2 : Hid (Below w.heap.size w w2) := below_more HB hb1 (Below.size HB)
        have HM2 := hideP hm2
        clear hb1 hm2
        by_cases hneg : m2 < 0
        · go_wp2
          go_ret
          exact ⟨⟨-1, rfl, fun h => by omega⟩, B2⟩
        · go_wp2
          go_roundw
          case rel =>
            refine ⟨k + 1, m2, by omega, by go_num, rfl, by omega, by omega, fun i hi => ?_, B2⟩
            by_cases hik : i = k
            · subst hik; rw [← HT.out]; exact HM2.out (by omega)
            · exact HM i (by omega)
          case measure => simp [intOf]; omega
      · have hki : ¬ (k : Int) < (n : Int) := by omega
        obtain rfl : k = n := by omega
        have HB : Hid (Below w.heap.size w wr) := hbel
        clear hbel
        go_wp2
        go_ret
        refine ⟨⟨m, rfl, fun _ => ⟨?_, ?_, fun i hi => HM i ?_⟩⟩, HB⟩
        · have hl : xs.length = k := HL
          rw [hl]; exact hm1
        · have hl : xs.length = k := HL
          omega
        · have hl : xs.length = k := HL
          omega
set_option maxHeartbeats 1000000 in
theorem szCell_w (x : Cl) {v : Value} {w : World} {l : Int} (h : NRow 0 w v x.ns) (hf : FnC x) (hl0 : 0 ≤ l) (hl1 : l ≤ 1048576) :
    Calls Tryz.prog 145 #[clV x v, .int .i64 l] w fun r w' => (∃ m : Int, r = .returned (.int .i64 m) ∧ (0 ≤ m → m + x.ns.length ≤ l ∧ SmC x)) ∧ Below w.heap.size w w' := by
  obtain ⟨ua, un, uc, rfl⟩ : ∃ a n c, v = .slice a n c := by obtain ⟨a, c, rfl⟩ := h.shape; exact ⟨_, _, _, rfl⟩
  have HC : Hid (∀ (W : World), Below w.heap.size w W → Calls Tryz.prog 162 #[.slice ua un uc, .int .i64 l] W fun r w' => (∃ m : Int, r = .returned (.int .i64 m) ∧ (0 ≤ m → m + x.ns.length ≤ l ∧ SmC x)) ∧ Below W.heap.size W w') := hideP (fun W hW => szNodeS_w (h.below ndStable hW) hf hl0 hl1)
  clear h hf
  obtain ⟨sp, al, ns⟩ := x
  simp only [clV, rwV, tbV]
  go_enter Tryz.func145, Tryz.ntmps145
  go_wp2_with fail
  refine (HC.out _ (below1 _ _)).mono ?_
  rintro e w1 ⟨⟨m, rfl, hm⟩, hb1⟩
  have B1 : Hid (Below w.heap.size w w1) := hideP (below_more (below1 _ _) hb1 (by simp))
  have HM := hideP hm
  clear hb1 hm
  by_cases hneg : m < 0
  · go_wp2
    go_ret
    exact ⟨⟨-1, rfl, fun h => by omega⟩, B1⟩
  · go_wp2
    go_ret
    exact ⟨⟨m, rfl, HM.out⟩, B1⟩

set_option maxHeartbeats 4000000 in
theorem szCellS_w {v : Value} {xs : List Cl} {w : World} {l : Int} (h : CRow 0 w v xs) (hf : xs.length ≤ 9223372036854775807 ∧ ∀ i, i < xs.length → FnC (xs.getD i Cl.none)) (hl0 : 0 ≤ l) (hl1 : l ≤ 1048576) :
    Calls Tryz.prog 125 #[v, .int .i64 l] w fun e w' => (∃ m : Int, e = .returned (.int .i64 m) ∧ (0 ≤ m → m + xs.length + nsK xs xs.length ≤ l ∧ xs.length ≤ 1048576 ∧ ∀ i, i < xs.length → SmC (xs.getD i Cl.none))) ∧ Below w.heap.size w w' := by
  obtain ⟨ao, n, cap, rfl, hl, hr⟩ := h
  have hn : n ≤ 9223372036854775807 := by rw [← hl]; exact hf.1
  by_cases hbig : l - (n : Int) < 0
  · go_enter Tryz.func125, Tryz.ntmps125
    go_wp2
    go_ret
    exact ⟨⟨-1, rfl, fun h => by omega⟩, Below.refl _ _⟩
  · have HR : Hid (0 < n → ∃ b off, ao = some ⟨b, off, none⟩ ∧ 0 ≤ b ∧ b < w.heap.size ∧ ∀ i, i < n → ∃ cs : List Value, cs.length = 3 ∧ ClR 0 w cs (xs.getD i Cl.none) ∧ ∀ j, j < 3 → w.cell? ⟨b, off + i * 3 + j, none⟩ = cs[j]?) := hr
    have HS : Hid (∀ i, i < xs.length → FnC (xs.getD i Cl.none)) := hf.2
    have HL : Hid (xs.length = n) := hl
    clear hr hf hl
    go_enter Tryz.func125, Tryz.ntmps125
    go_wp2
    go_loopw [1, 5] (fun s i wr => ∃ (k : Nat) (m : Int), k ≤ n ∧ i = .int .i64 k ∧ s = .int .i64 m ∧ 0 ≤ m ∧ m ≤ l ∧ Hid (m + n + nsK xs k ≤ l) ∧ Hid (∀ i, i < k → SmC (xs.getD i Cl.none)) ∧ Below w.heap.size w wr)
      (fun _ i _ => n - (intOf i).toNat)
    case atStart => exact ⟨0, l - n, by omega, rfl, rfl, by omega, by omega, hideP (by show l - (n : Int) + n + ((0 : Nat) : Int) ≤ l; omega), fun i hi => absurd hi (by omega), Below.refl _ _⟩
    case round =>
      obtain ⟨k, m, hk, rfl, rfl, hm0, hm1, HWT, HM, hbel⟩ := hrel
      by_cases hkn : k < n
      · have hki : (k : Int) < (n : Int) := by omega
        obtain ⟨b, off, rfl, hlo, hb, hc⟩ := HR (by omega)
        have hfk : FnC (xs.getD k Cl.none) := HS k (by rw [show xs.length = n from HL]; exact hkn)
        obtain ⟨cs, hcl, hRel, hcj⟩ := hc k hkn
        obtain ⟨t, ht⟩ : ∃ t, t = xs.getD k Cl.none := ⟨_, rfl⟩
        rw [← ht] at hRel hfk
        have HT : Hid (t = xs.getD k Cl.none) := ht
        obtain ⟨u, hcs, hu⟩ := hRel
        obtain ⟨ua, un, uc, rfl⟩ : ∃ a n c, u = .slice a n c := by obtain ⟨a, c, rfl⟩ := hu.shape; exact ⟨_, _, _, rfl⟩
        have HC : Hid (∀ (l : Int) (W : World), Below w.heap.size w W → 0 ≤ l → l ≤ 1048576 → Calls Tryz.prog 145 #[clV t (.slice ua un uc), .int .i64 l] W fun r w' => (∃ m : Int, r = .returned (.int .i64 m) ∧ (0 ≤ m → m + t.ns.length ≤ l ∧ SmC t)) ∧ Below W.heap.size W w') := hideP (fun l W hW a b => szCell_w t (hu.below ndStable hW) hfk a b)
        clear hu
        obtain ⟨sp, al, ns⟩ := t
        rw [show cs = _ from hcs] at hcj
        dsimp only at hcj
        simp only [clV, rwV, tbV] at HC
        have g0 : wr.cell? ⟨b, off + k * 3, none⟩ = some (.int .i64 sp) := (hbel.cell (p := ⟨b, off + k * 3, none⟩) hb).trans (hcj 0 (by omega))
        have g1 : wr.cell? ⟨b, off + k * 3 + 1, none⟩ = some (.int .i64 al) := (hbel.cell (p := ⟨b, off + k * 3 + 1, none⟩) hb).trans (hcj 1 (by omega))
        have g2 : wr.cell? ⟨b, off + k * 3 + 2, none⟩ = some (.slice ua un uc) := (hbel.cell (p := ⟨b, off + k * 3 + 2, none⟩) hb).trans (hcj 2 (by omega))
        have HB : Hid (Below w.heap.size w wr) := hbel
        clear hc hcj hcl hbel ht hfk hcs
        go_wp2_with fail
        refine (HC.out _ _ HB.out hm0 (by omega)).mono ?_
        rintro e w2 ⟨⟨m2, rfl, hm2⟩, hb1⟩
        have B2 : Hid (Below w.heap.size w w2) := below_more HB hb1 (Below.size HB)
        have HM2 := hideP hm2
        clear hb1 hm2
        by_cases hneg : m2 < 0
        · go_wp2
          go_ret
          exact ⟨⟨-1, rfl, fun h => by omega⟩, B2⟩
        · go_wp2
          go_roundw
          case rel =>
            refine ⟨k + 1, m2, by omega, by go_num, rfl, by omega, by have := (HM2.out (by omega)).1; (try dsimp only at this); omega, hideP (by have h1 := (HM2.out (by omega)).1; have h2 := HWT.out; rw [nsK_succ, ← HT.out]; (try dsimp only at h1 ⊢); omega), fun i hi => ?_, B2⟩
            by_cases hik : i = k
            · subst hik; rw [← HT.out]; exact (HM2.out (by omega)).2
            · exact HM i (by omega)
          case measure => simp [intOf]; omega
      · have hki : ¬ (k : Int) < (n : Int) := by omega
        obtain rfl : k = n := by omega
        have HB : Hid (Below w.heap.size w wr) := hbel
        clear hbel
        go_wp2
        go_ret
        refine ⟨⟨m, rfl, fun _ => ⟨?_, ?_, fun i hi => HM i ?_⟩⟩, HB⟩
        · have hl : xs.length = k := HL
          have := HWT.out
          rw [hl]; exact this
        · have hl : xs.length = k := HL
          omega
        · have hl : xs.length = k := HL
          omega

set_option maxHeartbeats 1000000 in
theorem szRow_w (x : Rw) {v : Value} {w : World} {l : Int} (h : CRow 0 w v x.cs) (hf : FnW x) (hl0 : 0 ≤ l) (hl1 : l ≤ 1048576) :
    Calls Tryz.prog 99 #[rwV x v, .int .i64 l] w fun r w' => (∃ m : Int, r = .returned (.int .i64 m) ∧ (0 ≤ m → m + x.cs.length + nsK x.cs x.cs.length ≤ l ∧ SmW x)) ∧ Below w.heap.size w w' := by
  obtain ⟨ua, un, uc, rfl⟩ : ∃ a n c, v = .slice a n c := by obtain ⟨a, c, rfl⟩ := h.shape; exact ⟨_, _, _, rfl⟩
  have HC : Hid (∀ (W : World), Below w.heap.size w W → Calls Tryz.prog 125 #[.slice ua un uc, .int .i64 l] W fun r w' => (∃ m : Int, r = .returned (.int .i64 m) ∧ (0 ≤ m → m + x.cs.length + nsK x.cs x.cs.length ≤ l ∧ SmW x)) ∧ Below W.heap.size W w') := hideP (fun W hW => szCellS_w (h.below clStable hW) hf hl0 hl1)
  clear h hf
  obtain ⟨rcs, ru⟩ := x
  simp only [clV, rwV, tbV]
  go_enter Tryz.func99, Tryz.ntmps99
  go_wp2_with fail
  refine (HC.out _ (below1 _ _)).mono ?_
  rintro e w1 ⟨⟨m, rfl, hm⟩, hb1⟩
  have B1 : Hid (Below w.heap.size w w1) := hideP (below_more (below1 _ _) hb1 (by simp))
  have HM := hideP hm
  clear hb1 hm
  by_cases hneg : m < 0
  · go_wp2
    go_ret
    exact ⟨⟨-1, rfl, fun h => by omega⟩, B1⟩
  · go_wp2
    go_ret
    exact ⟨⟨m, rfl, HM.out⟩, B1⟩

set_option maxHeartbeats 4000000 in
theorem szRowS_w {v : Value} {xs : List Rw} {w : World} {l : Int} (h : RRow 0 w v xs) (hf : xs.length ≤ 9223372036854775807 ∧ ∀ i, i < xs.length → FnW (xs.getD i Rw.none)) (hl0 : 0 ≤ l) (hl1 : l ≤ 1048576) :
    Calls Tryz.prog 59 #[v, .int .i64 l] w fun e w' => (∃ m : Int, e = .returned (.int .i64 m) ∧ (0 ≤ m → 15 * m + mkK xs xs.length ≤ 15 * l ∧ xs.length ≤ 1048576 ∧ ∀ i, i < xs.length → SmW (xs.getD i Rw.none))) ∧ Below w.heap.size w w' := by
  obtain ⟨ao, n, cap, rfl, hl, hr⟩ := h
  have hn : n ≤ 9223372036854775807 := by rw [← hl]; exact hf.1
  by_cases hbig : l - (n : Int) < 0
  · go_enter Tryz.func59, Tryz.ntmps59
    go_wp2
    go_ret
    exact ⟨⟨-1, rfl, fun h => by omega⟩, Below.refl _ _⟩
  · have HR : Hid (0 < n → ∃ b off, ao = some ⟨b, off, none⟩ ∧ 0 ≤ b ∧ b < w.heap.size ∧ ∀ i, i < n → ∃ cs : List Value, cs.length = 2 ∧ RwR 0 w cs (xs.getD i Rw.none) ∧ ∀ j, j < 2 → w.cell? ⟨b, off + i * 2 + j, none⟩ = cs[j]?) := hr
    have HS : Hid (∀ i, i < xs.length → FnW (xs.getD i Rw.none)) := hf.2
    have HL : Hid (xs.length = n) := hl
    clear hr hf hl
    go_enter Tryz.func59, Tryz.ntmps59
    go_wp2
    go_loopw [1, 5] (fun s i wr => ∃ (k : Nat) (m : Int), k ≤ n ∧ i = .int .i64 k ∧ s = .int .i64 m ∧ 0 ≤ m ∧ m ≤ l ∧ Hid (15 * m + mkK xs k ≤ 15 * (l - n) + k) ∧ Hid (∀ i, i < k → SmW (xs.getD i Rw.none)) ∧ Below w.heap.size w wr)
      (fun _ i _ => n - (intOf i).toNat)
    case atStart => exact ⟨0, l - n, by omega, rfl, rfl, by omega, by omega, hideP (by show 15 * (l - (n : Int)) + ((0 : Nat) : Int) ≤ 15 * (l - n) + ((0 : Nat) : Int); omega), fun i hi => absurd hi (by omega), Below.refl _ _⟩
    case round =>
      obtain ⟨k, m, hk, rfl, rfl, hm0, hm1, HWT, HM, hbel⟩ := hrel
      by_cases hkn : k < n
      · have hki : (k : Int) < (n : Int) := by omega
        obtain ⟨b, off, rfl, hlo, hb, hc⟩ := HR (by omega)
        have hfk : FnW (xs.getD k Rw.none) := HS k (by rw [show xs.length = n from HL]; exact hkn)
        obtain ⟨cs, hcl, hRel, hcj⟩ := hc k hkn
        obtain ⟨t, ht⟩ : ∃ t, t = xs.getD k Rw.none := ⟨_, rfl⟩
        rw [← ht] at hRel hfk
        have HT : Hid (t = xs.getD k Rw.none) := ht
        obtain ⟨u, hcs, hu⟩ := hRel
        obtain ⟨ua, un, uc, rfl⟩ : ∃ a n c, u = .slice a n c := by obtain ⟨a, c, rfl⟩ := hu.shape; exact ⟨_, _, _, rfl⟩
        have HC : Hid (∀ (l : Int) (W : World), Below w.heap.size w W → 0 ≤ l → l ≤ 1048576 → Calls Tryz.prog 99 #[rwV t (.slice ua un uc), .int .i64 l] W fun r w' => (∃ m : Int, r = .returned (.int .i64 m) ∧ (0 ≤ m → m + t.cs.length + nsK t.cs t.cs.length ≤ l ∧ SmW t)) ∧ Below W.heap.size W w') := hideP (fun l W hW a b => szRow_w t (hu.below clStable hW) hfk a b)
        clear hu
        obtain ⟨rcs, ru⟩ := t
        rw [show cs = _ from hcs] at hcj
        dsimp only at hcj
        simp only [clV, rwV, tbV] at HC
        have g0 : wr.cell? ⟨b, off + k * 2, none⟩ = some (.slice ua un uc) := (hbel.cell (p := ⟨b, off + k * 2, none⟩) hb).trans (hcj 0 (by omega))
        have g1 : wr.cell? ⟨b, off + k * 2 + 1, none⟩ = some (.int .i64 ru) := (hbel.cell (p := ⟨b, off + k * 2 + 1, none⟩) hb).trans (hcj 1 (by omega))
        have HB : Hid (Below w.heap.size w wr) := hbel
        clear hc hcj hcl hbel ht hfk hcs
        go_wp2_with fail
        refine (HC.out _ _ HB.out hm0 (by omega)).mono ?_
        rintro e w2 ⟨⟨m2, rfl, hm2⟩, hb1⟩
        have B2 : Hid (Below w.heap.size w w2) := below_more HB hb1 (Below.size HB)
        have HM2 := hideP hm2
        clear hb1 hm2
        by_cases hneg : m2 < 0
        · go_wp2
          go_ret
          exact ⟨⟨-1, rfl, fun h => by omega⟩, B2⟩
        · go_wp2
          go_roundw
          case rel =>
            refine ⟨k + 1, m2, by omega, by go_num, rfl, by omega, by have := (HM2.out (by omega)).1; (try dsimp only at this); omega, hideP (by have h1 := (HM2.out (by omega)).1; have h2 := HWT.out; rw [mkK_succ, ← HT.out]; unfold mkW; (try dsimp only at h1 ⊢); omega), fun i hi => ?_, B2⟩
            by_cases hik : i = k
            · subst hik; rw [← HT.out]; exact (HM2.out (by omega)).2
            · exact HM i (by omega)
          case measure => simp [intOf]; omega
      · have hki : ¬ (k : Int) < (n : Int) := by omega
        obtain rfl : k = n := by omega
        have HB : Hid (Below w.heap.size w wr) := hbel
        clear hbel
        go_wp2
        go_ret
        refine ⟨⟨m, rfl, fun _ => ⟨?_, ?_, fun i hi => HM i ?_⟩⟩, HB⟩
        · have hl : xs.length = k := HL
          have := HWT.out
          rw [hl]; omega
        · have hl : xs.length = k := HL
          omega
        · have hl : xs.length = k := HL
          omega

set_option maxHeartbeats 1000000 in
theorem szTable_w (x : Tb) {v : Value} {w : World} {l : Int} (h : RRow 0 w v x.rs) (hf : FnT x) (hl0 : 0 ≤ l) (hl1 : l ≤ 1048576) :
    Calls Tryz.prog 23 #[tbV x v, .int .i64 l] w fun r w' => (∃ m : Int, r = .returned (.int .i64 m) ∧ (0 ≤ m → 15 * m + mkK x.rs x.rs.length ≤ 15 * l ∧ SmT x)) ∧ Below w.heap.size w w' := by
  obtain ⟨ua, un, uc, rfl⟩ : ∃ a n c, v = .slice a n c := by obtain ⟨a, c, rfl⟩ := h.shape; exact ⟨_, _, _, rfl⟩
  have HC : Hid (∀ (W : World), Below w.heap.size w W → Calls Tryz.prog 59 #[.slice ua un uc, .int .i64 l] W fun r w' => (∃ m : Int, r = .returned (.int .i64 m) ∧ (0 ≤ m → 15 * m + mkK x.rs x.rs.length ≤ 15 * l ∧ SmT x)) ∧ Below W.heap.size W w') := hideP (fun W hW => szRowS_w (h.below rwStable hW) hf hl0 hl1)
  clear h hf
  obtain ⟨co, gs, gp, gpo, gm, gmo, rs⟩ := x
  simp only [clV, rwV, tbV]
  go_enter Tryz.func23, Tryz.ntmps23
  go_wp2_with fail
  refine (HC.out _ (below1 _ _)).mono ?_
  rintro e w1 ⟨⟨m, rfl, hm⟩, hb1⟩
  have B1 : Hid (Below w.heap.size w w1) := hideP (below_more (below1 _ _) hb1 (by simp))
  have HM := hideP hm
  clear hb1 hm
  by_cases hneg : m < 0
  · go_wp2
    go_ret
    exact ⟨⟨-1, rfl, fun h => by omega⟩, B1⟩
  · go_wp2
    go_ret
    exact ⟨⟨m, rfl, HM.out⟩, B1⟩
end Go.Proofs.YtojoehdmjkgnnaaGreat

