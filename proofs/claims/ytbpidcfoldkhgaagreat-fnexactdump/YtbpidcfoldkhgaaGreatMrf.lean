import Derived.Test.YtbpidcfoldkhgaaGreatSzt
namespace Go.Proofs.YtbpidcfoldkhgaaGreat
open Go.RowKit
set_option linter.unusedVariables false
set_option linter.unusedSimpArgs false
def KeepTy (w w' : World) : Prop := ∀ (j : Nat) (cur : Array Value) (ty : Nat), w.heap[j]? = some (Obj.cells cur ty (0, 0)) → ((ty = 45 ∨ ty = 52) → w'.heap[j]? = w.heap[j]?) ∧ (ty = 58 → ∃ cur' : Array Value, w'.heap[j]? = some (Obj.cells cur' 58 (0, 0)) ∧ cur'.size = cur.size ∧ ∀ i, cur'[i * 9 + 6]? = cur[i * 9 + 6]? ∧ cur'[i * 9 + 8]? = cur[i * 9 + 8]?)
structure Frm (lo hi : Nat) (w w' : World) : Prop where
 below : Below lo w w'
 abv : Abv hi w w'
 shp : Shp w w'
 keep : KeepTy w w'
theorem Frm.refl (lo hi : Nat) (w : World) : Frm lo hi w w := ⟨Below.refl _ _, Abv.refl _ _, Shp.refl _, fun j cur ty h => ⟨fun _ => rfl, fun e => ⟨cur, by rw [← e]; exact h, rfl, fun i => ⟨rfl, rfl⟩⟩⟩⟩
theorem Frm.trans {lo hi : Nat} {a b c : World} (h : Frm lo hi a b) (k : Frm lo hi b c) : Frm lo hi a c := by
 refine ⟨h.below.trans k.below, h.abv.trans k.abv, h.shp.trans k.shp, fun j cur ty hj => ⟨fun ht => ?_, fun ht => ?_⟩⟩
 ·have h1 := (h.keep j cur ty hj).1 ht
  exact ((k.keep j cur ty (h1.trans hj)).1 ht).trans h1
 ·obtain ⟨c1, g1, s1, q1⟩ := (h.keep j cur ty hj).2 ht
  obtain ⟨c2, g2, s2, q2⟩ := (k.keep j c1 58 g1).2 rfl
  exact ⟨c2, g2, s2.trans s1, fun i => ⟨(q2 i).1.trans (q1 i).1, (q2 i).2.trans (q1 i).2⟩⟩
theorem Frm.of_below {lo hi : Nat} {w w' : World} (h : Below w.heap.size w w') (hl : lo ≤ w.heap.size) : Frm lo hi w w' := by
 refine ⟨h.mono hl, Abv.below h, Shp.below h, fun j cur ty hj => ?_⟩
 have e := h.block j (Array.getElem?_eq_some_iff.1 hj).1
 exact ⟨fun _ => e, fun ht => ⟨cur, by rw [e, ← ht]; exact hj, rfl, fun i => ⟨rfl, rfl⟩⟩⟩
theorem Frm.only {lo hi g : Nat} {w w' : World} {cur : Array Value} {ty : Nat} (hb : Below g w w') (ha : Abv (g + 1) w w') (hs : Shp w w') (hg : w.heap[g]? = some (Obj.cells cur ty (0, 0))) (h89 : ty ≠ 45) (h32 : ty ≠ 52) (h96 : ty ≠ 58) (hl : lo ≤ g) (hh : g < hi) : Frm lo hi w w' := by
 refine ⟨hb.mono hl, ha.mono hh, hs, fun j c t hj => ?_⟩
 have hjl := (Array.getElem?_eq_some_iff.1 hj).1
 by_cases e : j = g
 ·subst e
  rw [hg] at hj
  simp at hj
  obtain ⟨rfl, rfl⟩ := hj
  exact ⟨fun ht => by rcases ht with ht | ht <;> contradiction, fun ht => by contradiction⟩
 ·have e2 : w'.heap[j]? = w.heap[j]? := by
   rcases Nat.lt_or_ge j g with h | h
   ·exact hb.block j h
   ·exact ha.block j (by omega) hjl
  exact ⟨fun _ => e2, fun ht => ⟨c, by rw [e2, ← ht]; exact hj, rfl, fun i => ⟨rfl, rfl⟩⟩⟩
def BLK (ty sz lo hi : Nat) (w : World) (v : Value) (n : Nat) : Prop := ∃ g, v = .slice (some ⟨g, 0, none⟩) n n ∧ lo ≤ g ∧ g < hi ∧ ∃ cur : Array Value, w.heap[g]? = some (Obj.cells cur ty (0, 0)) ∧ cur.size = n * sz
theorem BLK.shp {ty sz lo hi : Nat} {w w' : World} {v : Value} {n : Nat} (h : BLK ty sz lo hi w v n) (hs : Shp w w') : BLK ty sz lo hi w' v n := by
 obtain ⟨g, rfl, h1, h2, cur, h3, h4⟩ := h
 obtain ⟨c, h5, h6⟩ := hs g cur ty h3
 exact ⟨g, rfl, h1, h2, c, h5, by omega⟩
theorem SRowP.blk {α : Type} {sz : Nat} {R : Nat → World → List Value → α → Prop} {d : α} {ty lo hi : Nat} {w : World} {v : Value} {xs : List α} (h : SRowP sz R d ty lo w v xs) (hh : w.heap.size ≤ hi) : BLK ty sz lo hi w v xs.length := by
 obtain ⟨o, rfl, ho, cur, hg, hs, hc⟩ := h
 exact ⟨o, rfl, ho, Nat.lt_of_lt_of_le (Array.getElem?_eq_some_iff.1 hg).1 hh, cur, hg, hs⟩
theorem markRow_f {lo hi : Nat} {v : Value} {n : Nat} {w : World} (k : Nat) (hk : 0 < k) (hkn : k + 3 * n ≤ 4611686018427387904) (h : MR lo hi w v n) :
 Calls Tryz.prog 84 #[v, .int .i64 (k : Int)] w fun e w' => e = .returned (.int .i64 ((k + 3 * n : Nat) : Int)) ∧ Frm lo hi w w' := by
 obtain ⟨g, rfl, h1, h2, cur, hg, hs, hc⟩ := h
 have hgw := (Array.getElem?_eq_some_iff.1 hg).1
 refine (markRow_any (lo := g) (hi := g + 1) k hk hkn (by omega) ⟨g, rfl, Nat.le_refl _, Nat.lt_succ_self _, cur, hg, hs, hc⟩).mono ?_
 rintro e w' ⟨rfl, hb, ha, hs2⟩
 exact ⟨rfl, Frm.only hb ha hs2 hg (by decide) (by decide) (by decide) h1 h2⟩
set_option maxRecDepth 100000 in
set_option maxHeartbeats 2000000 in
theorem markInts_f {lo hi : Nat} {v : Value} {n : Nat} {w : World} (k : Nat) (hk : 0 < k) (hn : n ≤ 1048576) (hkn : k + n ≤ 4611686018427387904) (h : BLK 2 1 lo hi w v n) :
 Calls Tryz.prog 51 #[v, .int .i64 (k : Int)] w fun e w' => e = .returned (.int .i64 ((k + n : Nat) : Int)) ∧ Frm lo hi w w' := by
 obtain ⟨g, rfl, h1, h2, cur0, hg0, hs0⟩ := h
 rw [Nat.mul_one] at hs0
 have HW : Hid (∀ w', Below g w w' ∧ Abv (g + 1) w w' ∧ Shp w w' → Frm lo hi w w') := fun w' ⟨a, b, c⟩ => Frm.only a b c hg0 (by decide) (by decide) (by decide) h1 h2
 have HG : Hid (w.heap[g]? = some (Obj.cells cur0 2 (0, 0)) ∧ cur0.size = n) := ⟨hg0, hs0⟩
 have hgw : g < w.heap.size := (Array.getElem?_eq_some_iff.1 hg0).1
 clear hg0 hs0
 go_enter Tryz.func51, Tryz.ntmps51
 go_wp2_with fail
 go_loopw [1, 5] (fun kv i wr => ∃ q : Nat, q ≤ n ∧ i = .int .i64 q ∧ kv = .int .i64 ((k + q : Nat) : Int) ∧ Below g w wr ∧ Abv (g + 1) w wr ∧ Shp w wr) (fun _ i _ => n - (intOf i).toNat)
 case atStart => exact ⟨0, by omega, rfl, rfl, Below.refl _ _, Abv.refl _ _, Shp.refl _⟩
 case round =>
  obtain ⟨q, hq, rfl, rfl, hbel, habv, hshp⟩ := hrel
  have HP : Hid (Below g w wr ∧ Abv (g + 1) w wr ∧ Shp w wr) := ⟨hbel, habv, hshp⟩
  obtain ⟨cur, hcur, hcs⟩ := hshp g cur0 2 HG.1
  rw [HG.2] at hcs
  have HC : Hid (wr.heap[g]? = some (Obj.cells cur 2 (0, 0))) := hcur
  clear hbel habv hshp
  obtain ⟨kk, hkk⟩ : ∃ x, x = k + q := ⟨_, rfl⟩
  have HKK : Hid (kk = k + q) := hkk
  rw [← hkk]
  by_cases hqn : q < n
  ·have hqi : (q : Int) < (n : Int) := by omega
   have hk4 : kk + 1 ≤ 4611686018427387904 := by omega
   have hx : ∃ x, wr.cell? ⟨g, q, none⟩ = some x := by rw [cell_of_row wr g _ cur 2 _ hcur]; exact ⟨_, Array.getElem?_eq_getElem (by omega)⟩
   obtain ⟨x, hx⟩ := hx
   have hfz : ∀ j, wr.frozen? ⟨g, j, none⟩ = false := fun j => frozen_of_row wr g j cur 2 hcur
   clear hcur hkk
   go_wp2
   go_roundw
   case rel => exact ⟨q + 1, by omega, by go_num, by rw [show kk = _ from HKK]; go_num, HP.1.setCell (Nat.le_refl _) _, HP.2.1.trans (Abv.set (Nat.lt_succ_self _) _), HP.2.2.trans (Shp.set HC _)⟩
   case measure => simp [intOf]; omega
  ·have hqi : ¬ (q : Int) < (n : Int) := by omega
   obtain rfl : q = n := by omega
   clear hkk hcur
   go_wp2
   go_ret
   refine ⟨?_, HW _ HP⟩
   have hx : (k : Int) + (q : Int) = (kk : Int) := by have := show kk = _ from HKK; omega
   first
    | rw [hx]
    | rw [show ((k + q : Nat) : Int) = (kk : Int) by omega]
   rfl
end Go.Proofs.YtbpidcfoldkhgaaGreat
namespace Go.Proofs.YtbpidcfoldkhgaaGreat
open Go.RowKit
set_option linter.unusedVariables false
set_option linter.unusedSimpArgs false
theorem Shp.put {g ty : Nat} : ∀ (cs : List Value) (o : Nat) (w : World) (cur : Array Value), w.heap[g]? = some (Obj.cells cur ty (0, 0)) → Shp w (putC w g o cs)
 | [], o, w, cur, h => Shp.refl w
 | c :: cs, o, w, cur, h => (Shp.set h c).trans (Shp.put cs (o + 1) _ _ (heap_setCell_same w g o cur ty c h))
set_option maxRecDepth 100000 in
set_option maxHeartbeats 2000000 in
theorem markGlues_f {lo hi : Nat} {v : Value} {n : Nat} {w : World} (k : Nat) (hk : 0 < k) (hn : n ≤ 1048576) (hkn : k + 5 * n ≤ 4611686018427387904) (h : BLK 61 5 lo hi w v n) :
 Calls Tryz.prog 53 #[v, .int .i64 (k : Int)] w fun e w' => e = .returned (.int .i64 ((k + 5 * n : Nat) : Int)) ∧ Frm lo hi w w' := by
 obtain ⟨g, rfl, h1, h2, cur0, hg0, hs0⟩ := h
 have HW : Hid (∀ w', Below g w w' ∧ Abv (g + 1) w w' ∧ Shp w w' → Frm lo hi w w') := fun w' ⟨a, b, c⟩ => Frm.only a b c hg0 (by decide) (by decide) (by decide) h1 h2
 have HG : Hid (w.heap[g]? = some (Obj.cells cur0 61 (0, 0)) ∧ cur0.size = n * 5) := ⟨hg0, hs0⟩
 have hgw : g < w.heap.size := (Array.getElem?_eq_some_iff.1 hg0).1
 clear hg0 hs0
 go_enter Tryz.func53, Tryz.ntmps53
 go_wp2_with fail
 go_loopw [1, 5] (fun kv i wr => ∃ q : Nat, q ≤ n ∧ i = .int .i64 q ∧ kv = .int .i64 ((k + 5 * q : Nat) : Int) ∧ Below g w wr ∧ Abv (g + 1) w wr ∧ Shp w wr) (fun _ i _ => n - (intOf i).toNat)
 case atStart => exact ⟨0, by omega, rfl, rfl, Below.refl _ _, Abv.refl _ _, Shp.refl _⟩
 case round =>
  obtain ⟨q, hq, rfl, rfl, hbel, habv, hshp⟩ := hrel
  have HP : Hid (Below g w wr ∧ Abv (g + 1) w wr ∧ Shp w wr) := ⟨hbel, habv, hshp⟩
  obtain ⟨cur, hcur, hcs⟩ := hshp g cur0 61 HG.1
  rw [HG.2] at hcs
  have HC : Hid (wr.heap[g]? = some (Obj.cells cur 61 (0, 0))) := hcur
  clear hbel habv hshp
  obtain ⟨kk, hkk⟩ : ∃ x, x = k + 5 * q := ⟨_, rfl⟩
  have HKK : Hid (kk = k + 5 * q) := hkk
  rw [← hkk]
  by_cases hqn : q < n
  ·have hqi : (q : Int) < (n : Int) := by omega
   have hk4 : kk + 5 ≤ 4611686018427387904 := by omega
   have hx : ∀ j, j < 5 → ∃ x, wr.cell? ⟨g, q * 5 + j, none⟩ = some x := fun j hj => by rw [cell_of_row wr g _ cur 61 _ hcur]; exact ⟨_, Array.getElem?_eq_getElem (by omega)⟩
   obtain ⟨x0, hx0⟩ := hx 0 (by omega)
   obtain ⟨x1, hx1⟩ := hx 1 (by omega)
   obtain ⟨x2, hx2⟩ := hx 2 (by omega)
   obtain ⟨x3, hx3⟩ := hx 3 (by omega)
   obtain ⟨x4, hx4⟩ := hx 4 (by omega)
   rw [Nat.add_zero] at hx0
   have hfz : ∀ j, wr.frozen? ⟨g, j, none⟩ = false := fun j => frozen_of_row wr g j cur 61 hcur
   clear hcur hkk hx
   go_wp2
   go_roundw
   case rel =>
    refine ⟨q + 1, by omega, by go_num, by rw [show kk = _ from HKK]; go_num, ?_, ?_, ?_⟩
    ·exact putC_below (Nat.le_refl _) [.int .i64 (kk : Int), .int .i64 ((kk : Int) + 1), .int .i64 ((kk : Int) + 1 + 1), .int .i64 ((kk : Int) + 1 + 1 + 1), .int .i64 ((kk : Int) + 1 + 1 + 1 + 1)] (q * 5) wr HP.1
    ·exact HP.2.1.trans (putC_abv (Nat.lt_succ_self _) [.int .i64 (kk : Int), .int .i64 ((kk : Int) + 1), .int .i64 ((kk : Int) + 1 + 1), .int .i64 ((kk : Int) + 1 + 1 + 1), .int .i64 ((kk : Int) + 1 + 1 + 1 + 1)] (q * 5) wr)
    ·exact HP.2.2.trans (Shp.put [.int .i64 (kk : Int), .int .i64 ((kk : Int) + 1), .int .i64 ((kk : Int) + 1 + 1), .int .i64 ((kk : Int) + 1 + 1 + 1), .int .i64 ((kk : Int) + 1 + 1 + 1 + 1)] (q * 5) wr cur HC)
   case measure => simp [intOf]; omega
  ·have hqi : ¬ (q : Int) < (n : Int) := by omega
   obtain rfl : q = n := by omega
   clear hkk hcur
   go_wp2
   go_ret
   refine ⟨?_, HW _ HP⟩
   have hx : (k : Int) + 5 * (q : Int) = (kk : Int) := by have := show kk = _ from HKK; omega
   first
    | rw [hx]
    | rw [show ((k + 5 * q : Nat) : Int) = (kk : Int) by omega]
   rfl
def MBs (lo hi : Nat) (w : World) (o : Nat) (bs : List Bd) : Prop := ∃ cur : Array Value, w.heap[o]? = some (Obj.cells cur 58 (0, 0)) ∧ cur.size = bs.length * 9 ∧ ∀ i, i < bs.length → ∃ vp vb, cur[i * 9 + 6]? = some vp ∧ MR lo hi w vp (bs.getD i Bd.none).m.p.length ∧ cur[i * 9 + 8]? = some vb ∧ MR lo hi w vb (bs.getD i Bd.none).m.b.length
theorem MBs.frm {lo hi o : Nat} {w w' : World} {bs : List Bd} (h : MBs lo hi w o bs) (hf : Frm lo hi w w') : MBs lo hi w' o bs := by
 obtain ⟨cur, hc, hs, hi2⟩ := h
 obtain ⟨c, g, s, q⟩ := (hf.keep o cur 58 hc).2 rfl
 refine ⟨c, g, by omega, fun i hi => ?_⟩
 obtain ⟨vp, vb, h1, h2, h3, h4⟩ := hi2 i hi
 exact ⟨vp, vb, (q i).1.trans h1, h2.shp hf.shp, (q i).2.trans h3, h4.shp hf.shp⟩
theorem MBs.put {lo hi o q j : Nat} {w : World} {bs : List Bd} {x : Value} (h : MBs lo hi w o bs) (hl : lo ≤ o) (hh : o < hi) (hj : j < 9) (h6 : j ≠ 6) (h8 : j ≠ 8) : Frm lo hi w (w.setCell ⟨o, q * 9 + j, none⟩ x) := by
 obtain ⟨cur, hc, hs, hi2⟩ := h
 refine ⟨(Below.refl _ _).setCell hl _, Abv.set hh _, Shp.set hc _, fun a c t ha => ?_⟩
 by_cases e : a = o
 ·subst e
  rw [hc] at ha
  simp at ha
  obtain ⟨rfl, rfl⟩ := ha
  refine ⟨fun ht => by rcases ht with ht | ht <;> contradiction, fun _ => ⟨_, heap_setCell_same w a (q * 9 + j) cur 58 x hc, by simp, fun i => ⟨?_, ?_⟩⟩⟩
  ·rw [Array.getElem?_setIfInBounds, if_neg (by omega)]
  ·rw [Array.getElem?_setIfInBounds, if_neg (by omega)]
 ·have e2 := heap_setCell_other w ⟨o, q * 9 + j, none⟩ a x e
  exact ⟨fun _ => e2, fun ht => ⟨c, by rw [e2, ← ht]; exact ha, rfl, fun i => ⟨rfl, rfl⟩⟩⟩
theorem MBs.facts {lo hi o q : Nat} {w : World} {bs : List Bd} (h : MBs lo hi w o bs) (hq : q < bs.length) : (∀ j, w.frozen? ⟨o, j, none⟩ = false) ∧ (∀ j, j < 9 → ∃ x, w.cell? ⟨o, q * 9 + j, none⟩ = some x) ∧ ∃ vp vb, w.cell? ⟨o, q * 9 + 6, none⟩ = some vp ∧ MR lo hi w vp (bs.getD q Bd.none).m.p.length ∧ w.cell? ⟨o, q * 9 + 8, none⟩ = some vb ∧ MR lo hi w vb (bs.getD q Bd.none).m.b.length := by
 obtain ⟨cur, hc, hs, hi2⟩ := h
 obtain ⟨vp, vb, h1, h2, h3, h4⟩ := hi2 q hq
 refine ⟨fun j => frozen_of_row w o j cur 58 hc, fun j hj => ?_, vp, vb, ?_, h2, ?_, h4⟩
 ·rw [cell_of_row w o _ cur 58 _ hc]
  exact ⟨_, Array.getElem?_eq_getElem (by omega)⟩
 ·rw [cell_of_row w o _ cur 58 _ hc]; exact h1
 ·rw [cell_of_row w o _ cur 58 _ hc]; exact h3
theorem SRowP.mbs {lo hi : Nat} {w : World} {v : Value} {bs : List Bd} (h : BRowP lo w v bs) (hh : w.heap.size ≤ hi) : ∃ o, v = .slice (some ⟨o, 0, none⟩) bs.length bs.length ∧ lo ≤ o ∧ o < hi ∧ MBs lo hi w o bs := by
 obtain ⟨o, rfl, ho, cur, hg, hs, hc⟩ := h
 refine ⟨o, rfl, ho, Nat.lt_of_lt_of_le (Array.getElem?_eq_some_iff.1 hg).1 hh, cur, hg, hs, fun i hi => ?_⟩
 obtain ⟨cs, hl, ⟨vp, vb, rfl, h1, h2⟩, hj⟩ := hc i hi
 exact ⟨vp, vb, hj 6 (by omega), (h1.mono (by omega)).mr hh, hj 8 (by omega), (h2.mono (by omega)).mr hh⟩
set_option maxRecDepth 100000 in
set_option maxHeartbeats 4000000 in
theorem markBinds_f {lo hi o n : Nat} {bs : List Bd} {w : World} (k : Nat) (hk : 0 < k) (hn : n = bs.length) (hn2 : n ≤ 1048576) (hkn : k + 7 * n + 3 * bcost bs ≤ 4611686018427387904) (hl : lo ≤ o) (hh : o < hi) (h : MBs lo hi w o bs) (hlw : lo ≤ w.heap.size) :
 Calls Tryz.prog 52 #[.slice (some ⟨o, 0, none⟩) n n, .int .i64 (k : Int)] w fun e w' => e = .returned (.int .i64 ((k + 7 * n + 3 * bcost bs : Nat) : Int)) ∧ Frm lo hi w w' := by
 have HM : Hid (MBs lo hi w o bs) := h
 have HN : Hid (n = bs.length) := hn
 clear h hn
 go_enter Tryz.func52, Tryz.ntmps52
 go_wp2_with fail
 go_loopw [1, 5] (fun kv i wr => ∃ q : Nat, q ≤ n ∧ i = .int .i64 q ∧ kv = .int .i64 ((k + 7 * q + 3 * bcost (bs.take q) : Nat) : Int) ∧ Frm lo hi w wr) (fun _ i _ => n - (intOf i).toNat)
 case atStart => exact ⟨0, by omega, rfl, rfl, Frm.refl _ _ _⟩
 case round =>
  obtain ⟨q, hq, rfl, rfl, hfr⟩ := hrel
  have HF : Hid (Frm lo hi w wr) := hfr
  clear hfr
  obtain ⟨kk, hkk⟩ : ∃ x, x = k + 7 * q + 3 * bcost (bs.take q) := ⟨_, rfl⟩
  have HKK : Hid (kk = k + 7 * q + 3 * bcost (bs.take q)) := hkk
  rw [← hkk]
  by_cases hqn : q < n
  ·have hqi : (q : Int) < (n : Int) := by omega
   have hqb : q < bs.length := by rw [← show n = bs.length from HN]; exact hqn
   obtain ⟨P, hP⟩ : ∃ P, P = (bs.getD q Bd.none).m.p.length := ⟨_, rfl⟩
   obtain ⟨Q, hQ⟩ : ∃ Q, Q = (bs.getD q Bd.none).m.b.length := ⟨_, rfl⟩
   have hst : bcost (bs.take (q + 1)) = bcost (bs.take q) + (P + Q) := by rw [bcost_take hqb, hP, hQ]
   have hle : bcost (bs.take (q + 1)) ≤ bcost bs := by
    unfold bcost
    conv => rhs; rw [← List.take_append_drop (q + 1) bs, List.map_append, List.sum_append]
    omega
   have hk4 : kk + 7 + 3 * P + 3 * Q ≤ 4611686018427387904 := by omega
   have hk0 : 0 < kk := by omega
   have HST : Hid (bcost (bs.take (q + 1)) = bcost (bs.take q) + (P + Q)) := hst
   have FACTS : Hid (∀ W, MBs lo hi W o bs → (∀ j, W.frozen? ⟨o, j, none⟩ = false) ∧ (∀ j, j < 9 → ∃ x, W.cell? ⟨o, q * 9 + j, none⟩ = some x) ∧ ∃ vp vb, W.cell? ⟨o, q * 9 + 6, none⟩ = some vp ∧ MR lo hi W vp P ∧ W.cell? ⟨o, q * 9 + 8, none⟩ = some vb ∧ MR lo hi W vb Q) := fun W hW => by rw [hP, hQ]; exact MBs.facts hW hqb
   clear hst hle hkk hP hQ
   -- the name
   go_wp2_with fail
   refine (markText_any kk hk0 (by omega) _).mono ?_
   rintro e w1 ⟨rfl, hb1⟩
   have F1 : Hid (Frm lo hi w w1) := HF.trans (Frm.of_below hb1 (Nat.le_trans hlw (Below.size HF.below)))
   have M1 : Hid (MBs lo hi w1 o bs) := HM.frm F1
   clear hb1
   obtain ⟨fz, ex, _⟩ := FACTS w1 M1
   obtain ⟨x0, hx0⟩ := ex 0 (by omega)
   obtain ⟨x1, hx1⟩ := ex 1 (by omega)
   obtain ⟨x2, hx2⟩ := ex 2 (by omega)
   obtain ⟨x3, hx3⟩ := ex 3 (by omega)
   obtain ⟨x4, hx4⟩ := ex 4 (by omega)
   rw [Nat.add_zero] at hx0
   clear ex
   go_wp2_with fail
   have G1 : Frm lo hi w1 (w1.setCell ⟨o, q * 9, none⟩ (.string (mtext kk))) := MBs.put (q := q) (j := 0) M1 hl hh (by decide) (by decide) (by decide)
   have N1 := MBs.frm M1 G1
   have G2 := MBs.put (q := q) (j := 1) (x := .int .i64 ((kk : Int) + 1)) N1 hl hh (by decide) (by decide) (by decide)
   have N2 := MBs.frm N1 G2
   have G3 := MBs.put (q := q) (j := 2) (x := .int .i64 ((kk : Int) + 1 + 1)) N2 hl hh (by decide) (by decide) (by decide)
   have N3 := MBs.frm N2 G3
   have G4 := MBs.put (q := q) (j := 3) (x := .int .i64 ((kk : Int) + 1 + 1 + 1)) N3 hl hh (by decide) (by decide) (by decide)
   have N4 := MBs.frm N3 G4
   have G5 := MBs.put (q := q) (j := 4) (x := .int .i64 ((kk : Int) + 1 + 1 + 1 + 1)) N4 hl hh (by decide) (by decide) (by decide)
   have FF := ((((F1.trans G1).trans G2).trans G3).trans G4).trans G5
   clear G1 N1 G2 N2 G3 N3 G4 N4 G5
   rw [show (kk : Int) + 1 + 1 + 1 + 1 + 1 = ((kk + 5 : Nat) : Int) by omega]
   refine (markText_any (kk + 5) (by omega) (by omega) _).mono ?_
   rintro e w2 ⟨rfl, hb2⟩
   have F2 : Hid (Frm lo hi w w2) := FF.trans (Frm.of_below hb2 (Nat.le_trans hlw (Below.size FF.below)))
   have M2 : Hid (MBs lo hi w2 o bs) := HM.frm F2
   clear hb2 FF hx0 hx1 hx2 hx3 hx4 fz F1 M1
   obtain ⟨fz, ex, vp, vb, c6, mr6, c8, mr8⟩ := FACTS w2 M2
   obtain ⟨x5, hx5⟩ := ex 5 (by omega)
   have mr6' := mr6
   obtain ⟨g6, rfl, _⟩ := mr6'
   clear ex mr6 mr8 c8 vb
   go_wp2_with fail
   have G5 := MBs.put (q := q) (j := 5) (x := .string (mtext (kk + 5))) M2 hl hh (by decide) (by decide) (by decide)
   have FF := F2.trans G5
   have N5 := HM.frm FF
   have hmr := (FACTS _ N5).2.2
   obtain ⟨vp', vb', d6, mr6, _⟩ := hmr
   have e6 : Value.slice (some ⟨g6, 0, none⟩) P P = vp' := by
    have h1 : (w2.setCell ⟨o, q * 9 + 5, none⟩ (.string (mtext (kk + 5)))).cell? ⟨o, q * 9 + 6, none⟩ = w2.cell? ⟨o, q * 9 + 6, none⟩ := by
     obtain ⟨cur, hcur, _⟩ := M2
     rw [cell_of_row _ o _ _ 58 _ (heap_setCell_same w2 o (q * 9 + 5) cur 58 _ hcur), cell_of_row w2 o _ cur 58 _ hcur, Array.getElem?_setIfInBounds, if_neg (by omega)]
    rw [h1, c6] at d6
    simpa using d6
   rw [← e6] at mr6
   rw [show (kk : Int) + 5 + 1 = ((kk + 6 : Nat) : Int) by omega]
   refine (markRow_f (kk + 6) (by omega) (by omega) mr6).mono ?_
   rintro e w3 ⟨rfl, hf3⟩
   have F3 : Hid (Frm lo hi w w3) := FF.trans hf3
   have M3 : Hid (MBs lo hi w3 o bs) := HM.frm F3
   clear hf3 FF N5 G5 d6 mr6 e6 c6 hx5 fz F2 M2
   obtain ⟨fz, ex, vp, vb, c6, mr6, c8, mr8⟩ := FACTS w3 M3
   obtain ⟨x7, hx7⟩ := ex 7 (by omega)
   have mr8' := mr8
   obtain ⟨g8, rfl, _⟩ := mr8'
   clear ex mr6 mr8 c6 vp
   obtain ⟨k3, hk3⟩ : ∃ x, x = kk + 6 + 3 * P := ⟨_, rfl⟩
   rw [← hk3]
   have HK3 : Hid (k3 = kk + 6 + 3 * P) := hk3
   have hk34 : k3 + 1 + 3 * Q ≤ 4611686018427387904 := by omega
   clear hk3
   go_wp2_with fail
   have G7 := MBs.put (q := q) (j := 7) (x := .int .i64 (k3 : Int)) M3 hl hh (by decide) (by decide) (by decide)
   have FF := F3.trans G7
   have N7 := HM.frm FF
   have hmr := (FACTS _ N7).2.2
   obtain ⟨vp', vb', _, _, d8, mr8⟩ := hmr
   have e8 : Value.slice (some ⟨g8, 0, none⟩) Q Q = vb' := by
    have h1 : (w3.setCell ⟨o, q * 9 + 7, none⟩ (.int .i64 (k3 : Int))).cell? ⟨o, q * 9 + 8, none⟩ = w3.cell? ⟨o, q * 9 + 8, none⟩ := by
     obtain ⟨cur, hcur, _⟩ := M3
     rw [cell_of_row _ o _ _ 58 _ (heap_setCell_same w3 o (q * 9 + 7) cur 58 _ hcur), cell_of_row w3 o _ cur 58 _ hcur, Array.getElem?_setIfInBounds, if_neg (by omega)]
    rw [h1, c8] at d8
    simpa using d8
   rw [← e8] at mr8
   rw [show (k3 : Int) + 1 = ((k3 + 1 : Nat) : Int) by omega]
   refine (markRow_f (k3 + 1) (by omega) (by omega) mr8).mono ?_
   rintro e w4 ⟨rfl, hf4⟩
   have F4 : Hid (Frm lo hi w w4) := FF.trans hf4
   clear hf4 FF N7 G7 d8 mr8 e8 c8 hx7 fz F3 M3
   have HKE : Hid (k3 + 1 + 3 * Q = k + 7 * (q + 1) + 3 * bcost (bs.take (q + 1))) := by
    show k3 + 1 + 3 * Q = _
    rw [show bcost (bs.take (q + 1)) = _ from HST, show k3 = _ from HK3, show kk = _ from HKK]
    omega
   go_wp2
   go_roundw
   case rel => exact ⟨q + 1, by omega, by go_num, by rw [← show k3 + 1 + 3 * Q = _ from HKE]; congr 1, F4⟩
   case measure => simp [intOf]; omega
  ·have hqi : ¬ (q : Int) < (n : Int) := by omega
   obtain rfl : q = n := by omega
   have HKE : Hid (kk = k + 7 * q + 3 * bcost bs) := by
    have := show kk = _ from HKK
    rwa [show bs.take q = bs by rw [show q = bs.length from HN, List.take_length]] at this
   clear hkk
   go_wp2
   go_ret
   refine ⟨?_, HF⟩
   have hx : (k : Int) + 7 * (q : Int) + 3 * (bcost bs : Int) = (kk : Int) := by have := show kk = _ from HKE; omega
   first
    | rw [hx]
    | rw [show ((k + 7 * q + 3 * bcost bs : Nat) : Int) = (kk : Int) by omega]
   rfl
end Go.Proofs.YtbpidcfoldkhgaaGreat
