import Derived.Test.YtbpidcfoldkhgaaGreatMrf
namespace Go.Proofs.YtbpidcfoldkhgaaGreat
open Go.RowKit
set_option linter.unusedVariables false
set_option linter.unusedSimpArgs false
def MTs (lo hi : Nat) (w : World) (o : Nat) (xs : List (List Tk)) : Prop := ∃ cur : Array Value, w.heap[o]? = some (Obj.cells cur 52 (0, 0)) ∧ ∀ i, i < xs.length → ∃ v, cur[i]? = some v ∧ MR lo hi w v (xs.getD i []).length
theorem MTs.frm {lo hi o : Nat} {w w' : World} {xs : List (List Tk)} (h : MTs lo hi w o xs) (hf : Frm lo hi w w') : MTs lo hi w' o xs := by
 obtain ⟨cur, hc, hi2⟩ := h
 refine ⟨cur, ((hf.keep o cur 52 hc).1 (.inr rfl)).trans hc, fun i hi => ?_⟩
 obtain ⟨v, h1, h2⟩ := hi2 i hi
 exact ⟨v, h1, h2.shp hf.shp⟩
theorem SRowP.mts {lo hi : Nat} {w : World} {v : Value} {xs : List (List Tk)} (h : TsRowP lo w v xs) (hh : w.heap.size ≤ hi) : ∃ o, v = .slice (some ⟨o, 0, none⟩) xs.length xs.length ∧ lo ≤ o ∧ o < hi ∧ MTs lo hi w o xs := by
 obtain ⟨o, rfl, ho, cur, hg, hs, hc⟩ := h
 refine ⟨o, rfl, ho, Nat.lt_of_lt_of_le (Array.getElem?_eq_some_iff.1 hg).1 hh, cur, hg, fun i hi => ?_⟩
 obtain ⟨cs, hl, ⟨v, rfl, hp⟩, hj⟩ := hc i hi
 have := hj 0 (by omega)
 rw [Nat.mul_one, Nat.add_zero] at this
 exact ⟨v, this, (hp.mono (by omega)).mr hh⟩
set_option maxRecDepth 100000 in
set_option maxHeartbeats 4000000 in
theorem markTss_f {lo hi o n : Nat} {xs : List (List Tk)} {w : World} (k : Nat) (hk : 0 < k) (hkn : k + 3 * total xs ≤ 4611686018427387904) (hn : n = xs.length) (hn2 : n ≤ 1048576) (h : MTs lo hi w o xs) :
 Calls Tryz.prog 54 #[.slice (some ⟨o, 0, none⟩) n n, .int .i64 (k : Int)] w fun e w' => e = .returned (.int .i64 ((k + 3 * total xs : Nat) : Int)) ∧ Frm lo hi w w' := by
 have HM : Hid (MTs lo hi w o xs) := h
 have HN : Hid (n = xs.length) := hn
 clear h hn
 go_enter Tryz.func54, Tryz.ntmps54
 go_wp2_with fail
 go_loopw [1, 5] (fun kv i wr => ∃ q : Nat, q ≤ n ∧ i = .int .i64 q ∧ kv = .int .i64 ((k + 3 * total (xs.take q) : Nat) : Int) ∧ Frm lo hi w wr) (fun _ i _ => n - (intOf i).toNat)
 case atStart => exact ⟨0, by omega, rfl, rfl, Frm.refl _ _ _⟩
 case round =>
  obtain ⟨q, hq, rfl, rfl, hfr⟩ := hrel
  have HP : Hid (Frm lo hi w wr) := hfr
  clear hfr
  obtain ⟨kk, hkk⟩ : ∃ x, x = k + 3 * total (xs.take q) := ⟨_, rfl⟩
  have HKK : Hid (kk = k + 3 * total (xs.take q)) := hkk
  rw [← hkk]
  by_cases hqn : q < n
  ·have hqi : (q : Int) < (n : Int) := by omega
   have hqx : q < xs.length := by rw [← show n = xs.length from HN]; exact hqn
   have hms := MTs.frm HM HP
   obtain ⟨cur, hcur, hel⟩ := hms
   obtain ⟨v, hv, hmr⟩ := hel q hqx
   have hmr2 := hmr
   obtain ⟨g, rfl, _⟩ := hmr2
   obtain ⟨m, hm⟩ : ∃ m, m = (xs.getD q []).length := ⟨_, rfl⟩
   rw [← hm] at hmr hv
   have c0 : wr.cell? ⟨o, q, none⟩ = some (.slice (some ⟨g, 0, none⟩) m m) := by rw [cell_of_row wr o _ cur 52 _ hcur]; exact hv
   have hst : total (xs.take (q + 1)) = total (xs.take q) + m := by rw [total_take hqx, hm]
   have hle : total (xs.take (q + 1)) ≤ total xs := by
    unfold total
    conv => rhs; rw [← List.take_append_drop (q + 1) xs, List.flatten_append, List.length_append]
    omega
   have HST : Hid (total (xs.take (q + 1)) = total (xs.take q) + m) := hst
   have hk4 : kk + 3 * m ≤ 4611686018427387904 := by omega
   have hk0 : 0 < kk := by omega
   have HMR : Hid (MR lo hi wr (.slice (some ⟨g, 0, none⟩) m m) m) := hmr
   clear hcur hel hv hmr hm hst hle hkk
   go_wp2_with fail
   refine (markRow_f kk hk0 hk4 HMR).mono ?_
   rintro e w3 ⟨rfl, hf3⟩
   have H3 : Hid (Frm lo hi w w3) := HP.trans hf3
   clear hf3
   go_wp2
   go_roundw
   case rel => exact ⟨q + 1, by omega, by go_num, by rw [show total (xs.take (q + 1)) = _ from HST, show kk = _ from HKK]; congr 1; omega, H3⟩
   case measure => simp [intOf]; omega
  ·have hqi : ¬ (q : Int) < (n : Int) := by omega
   obtain rfl : q = n := by omega
   have HKE : Hid (kk = k + 3 * total xs) := by
    have := show kk = _ from HKK
    rwa [show q = xs.length from HN, List.take_length] at this
   clear hkk
   go_wp2
   go_ret
   refine ⟨?_, HP⟩
   have hx : (k : Int) + 3 * (total xs : Int) = (kk : Int) := by have := show kk = _ from HKE; omega
   first
    | rw [hx]
    | rw [show ((k + 3 * total xs : Nat) : Int) = (kk : Int) by omega]
   rfl
def MLv (lo hi : Nat) (w : World) (cs : List Value) (x : Lv) : Prop := ∃ v0 o1 v2 v3 v4 o5, cs = [v0, .slice (some ⟨o1, 0, none⟩) x.binds.length x.binds.length, v2, v3, v4, .slice (some ⟨o5, 0, none⟩) x.toks.length x.toks.length] ∧ BLK 2 1 lo hi w v0 x.cats.length ∧ (lo ≤ o1 ∧ o1 < hi ∧ MBs lo hi w o1 x.binds) ∧ BLK 2 1 lo hi w v2 x.counts.length ∧ BLK 2 1 lo hi w v3 x.lens.length ∧ BLK 61 5 lo hi w v4 x.glues.length ∧ MTs lo hi w o5 x.toks
theorem MLv.frm {lo hi : Nat} {w w' : World} {cs : List Value} {x : Lv} (h : MLv lo hi w cs x) (hf : Frm lo hi w w') : MLv lo hi w' cs x := by
 obtain ⟨v0, o1, v2, v3, v4, o5, rfl, h0, h1, h2, h3, h4, h5⟩ := h
 exact ⟨v0, o1, v2, v3, v4, o5, rfl, h0.shp hf.shp, ⟨h1.1, h1.2.1, h1.2.2.frm hf⟩, h2.shp hf.shp, h3.shp hf.shp, h4.shp hf.shp, h5.frm hf⟩
theorem LvP.ml {lo hi : Nat} {w : World} {cs : List Value} {x : Lv} (h : LvP lo w cs x) (hh : w.heap.size ≤ hi) : MLv lo hi w cs x := by
 obtain ⟨v0, v1, v2, v3, v4, v5, rfl, h0, h1, h2, h3, h4, h5⟩ := h
 obtain ⟨o1, rfl, a1, b1, m1⟩ := SRowP.mbs h1 hh
 obtain ⟨o5, rfl, a5, b5, m5⟩ := SRowP.mts h5 hh
 exact ⟨v0, o1, v2, v3, v4, o5, rfl, SRowP.blk h0 hh, ⟨a1, b1, m1⟩, SRowP.blk h2 hh, SRowP.blk h3 hh, SRowP.blk h4 hh, m5⟩
def MLs (lo hi : Nat) (w : World) (o : Nat) (xs : List Lv) : Prop := ∃ cur : Array Value, w.heap[o]? = some (Obj.cells cur 45 (0, 0)) ∧ ∀ i, i < xs.length → ∃ cs : List Value, cs.length = 6 ∧ MLv lo hi w cs (xs.getD i Lv.none) ∧ ∀ j, j < 6 → cur[i * 6 + j]? = cs[j]?
theorem MLs.frm {lo hi o : Nat} {w w' : World} {xs : List Lv} (h : MLs lo hi w o xs) (hf : Frm lo hi w w') : MLs lo hi w' o xs := by
 obtain ⟨cur, hc, hi2⟩ := h
 refine ⟨cur, ((hf.keep o cur 45 hc).1 (.inl rfl)).trans hc, fun i hi => ?_⟩
 obtain ⟨cs, h1, h2, h3⟩ := hi2 i hi
 exact ⟨cs, h1, h2.frm hf, h3⟩
theorem SRowP.mls {lo hi : Nat} {w : World} {v : Value} {xs : List Lv} (h : LRowP lo w v xs) (hh : w.heap.size ≤ hi) : ∃ o, v = .slice (some ⟨o, 0, none⟩) xs.length xs.length ∧ MLs lo hi w o xs := by
 obtain ⟨o, rfl, ho, cur, hg, hs, hc⟩ := h
 refine ⟨o, rfl, cur, hg, fun i hi => ?_⟩
 obtain ⟨cs, hl, hr, hj⟩ := hc i hi
 exact ⟨cs, hl, LvP.ml (lpStable.mono hr (by omega)) hh, hj⟩
def lcost (x : Lv) : Nat := x.cats.length + (7 * x.binds.length + 3 * bcost x.binds) + x.counts.length + x.lens.length + 5 * x.glues.length + 3 * total x.toks
theorem lcost_le {x : Lv} (h : SmL2 x) : lcost x ≤ 22020096 := by
 obtain ⟨⟨h0, h1, h2, h3, h4, h5⟩, h6, h7⟩ := h
 unfold lcost
 have := h1.1
 omega
set_option maxRecDepth 100000 in
set_option maxHeartbeats 4000000 in
theorem markLevels_f {lo hi o n : Nat} {xs : List Lv} {w : World} (k : Nat) (hk : 0 < k) (hk1 : k ≤ 1048576) (hn : n = xs.length) (hn2 : n ≤ 1048576) (hs : ∀ i, i < xs.length → SmL2 (xs.getD i Lv.none)) (hlw : lo ≤ w.heap.size) (h : MLs lo hi w o xs) :
 Calls Tryz.prog 29 #[.slice (some ⟨o, 0, none⟩) n n, .int .i64 (k : Int)] w fun e w' => (∃ K : Nat, e = .returned (.int .i64 (K : Int))) ∧ Frm lo hi w w' := by
 have HM : Hid (MLs lo hi w o xs) := h
 have HN : Hid (n = xs.length) := hn
 have HS : Hid (∀ i, i < xs.length → SmL2 (xs.getD i Lv.none)) := hs
 clear h hn hs
 go_enter Tryz.func29, Tryz.ntmps29
 go_wp2_with fail
 go_loopw [1, 5] (fun kv i wr => ∃ q kq : Nat, q ≤ n ∧ i = .int .i64 q ∧ kv = .int .i64 (kq : Int) ∧ 0 < kq ∧ kq ≤ 1048576 + q * 22020096 ∧ Frm lo hi w wr) (fun _ i _ => n - (intOf i).toNat)
 case atStart => exact ⟨0, k, by omega, rfl, rfl, hk, by omega, Frm.refl _ _ _⟩
 case round =>
  obtain ⟨q, kq, hq, rfl, rfl, hkq0, hkq1, hfr⟩ := hrel
  have HP : Hid (Frm lo hi w wr) := hfr
  clear hfr
  by_cases hqn : q < n
  ·have hqi : (q : Int) < (n : Int) := by omega
   have hqx : q < xs.length := by rw [← show n = xs.length from HN]; exact hqn
   obtain ⟨x, hx⟩ : ∃ x, x = xs.getD q Lv.none := ⟨_, rfl⟩
   have hsx : SmL2 x := by rw [hx]; exact HS q hqx
   have hcost := lcost_le hsx
   have hms := MLs.frm HM HP
   obtain ⟨cur, hcur, hel⟩ := hms
   obtain ⟨cs, hcl, hml, hcj⟩ := hel q hqx
   rw [← hx] at hml
   obtain ⟨v0, o1, v2, v3, v4, o5, rfl, m0, m1, m2, m3, m4, m5⟩ := hml
   have m0' := m0
   have m2' := m2
   have m3' := m3
   have m4' := m4
   obtain ⟨g0, rfl, _⟩ := m0'
   obtain ⟨g2, rfl, _⟩ := m2'
   obtain ⟨g3, rfl, _⟩ := m3'
   obtain ⟨g4, rfl, _⟩ := m4'
   obtain ⟨L0, hL0⟩ : ∃ L, L = x.cats.length := ⟨_, rfl⟩
   obtain ⟨L1, hL1⟩ : ∃ L, L = x.binds.length := ⟨_, rfl⟩
   obtain ⟨L2, hL2⟩ : ∃ L, L = x.counts.length := ⟨_, rfl⟩
   obtain ⟨L3, hL3⟩ : ∃ L, L = x.lens.length := ⟨_, rfl⟩
   obtain ⟨L4, hL4⟩ : ∃ L, L = x.glues.length := ⟨_, rfl⟩
   obtain ⟨L5, hL5⟩ : ∃ L, L = x.toks.length := ⟨_, rfl⟩
   rw [← hL0, ← hL1, ← hL2, ← hL3, ← hL4, ← hL5] at hcj
   rw [← hL0] at m0
   rw [← hL2] at m2
   rw [← hL3] at m3
   rw [← hL4] at m4
   have CELLS : Hid (∀ W, Frm lo hi wr W → W.cell? ⟨o, q * 6, none⟩ = some (.slice (some ⟨g0, 0, none⟩) L0 L0) ∧ W.cell? ⟨o, q * 6 + 1, none⟩ = some (.slice (some ⟨o1, 0, none⟩) L1 L1) ∧ W.cell? ⟨o, q * 6 + 2, none⟩ = some (.slice (some ⟨g2, 0, none⟩) L2 L2) ∧ W.cell? ⟨o, q * 6 + 3, none⟩ = some (.slice (some ⟨g3, 0, none⟩) L3 L3) ∧ W.cell? ⟨o, q * 6 + 4, none⟩ = some (.slice (some ⟨g4, 0, none⟩) L4 L4) ∧ W.cell? ⟨o, q * 6 + 5, none⟩ = some (.slice (some ⟨o5, 0, none⟩) L5 L5)) := fun W hW => by
    have hc := ((hW.keep o cur 45 hcur).1 (.inl rfl)).trans hcur
    rw [cell_of_row W o _ cur 45 _ hc, cell_of_row W o _ cur 45 _ hc, cell_of_row W o _ cur 45 _ hc, cell_of_row W o _ cur 45 _ hc, cell_of_row W o _ cur 45 _ hc, cell_of_row W o _ cur 45 _ hc]
    exact ⟨hcj 0 (by omega), hcj 1 (by omega), hcj 2 (by omega), hcj 3 (by omega), hcj 4 (by omega), hcj 5 (by omega)⟩
   have HMM : Hid (BLK 2 1 lo hi wr (.slice (some ⟨g0, 0, none⟩) L0 L0) L0 ∧ (lo ≤ o1 ∧ o1 < hi ∧ MBs lo hi wr o1 x.binds) ∧ BLK 2 1 lo hi wr (.slice (some ⟨g2, 0, none⟩) L2 L2) L2 ∧ BLK 2 1 lo hi wr (.slice (some ⟨g3, 0, none⟩) L3 L3) L3 ∧ BLK 61 5 lo hi wr (.slice (some ⟨g4, 0, none⟩) L4 L4) L4 ∧ MTs lo hi wr o5 x.toks) := ⟨m0, m1, m2, m3, m4, m5⟩
   have HLS : Hid (L1 = x.binds.length ∧ L5 = x.toks.length) := ⟨hL1, hL5⟩
   obtain ⟨BC, hBC⟩ : ∃ b, b = bcost x.binds := ⟨_, rfl⟩
   obtain ⟨TC, hTC⟩ : ∃ b, b = total x.toks := ⟨_, rfl⟩
   have HBT : Hid (BC = bcost x.binds ∧ TC = total x.toks) := ⟨hBC, hTC⟩
   have hsum : L0 + (7 * L1 + 3 * BC) + L2 + L3 + 5 * L4 + 3 * TC ≤ 22020096 := by
    have := hcost
    unfold lcost at this
    rw [← hL0, ← hL1, ← hL2, ← hL3, ← hL4, ← hBC, ← hTC] at this
    exact this
   have hlen : L0 ≤ 1048576 ∧ L1 ≤ 1048576 ∧ L2 ≤ 1048576 ∧ L3 ≤ 1048576 ∧ L4 ≤ 1048576 ∧ L5 ≤ 1048576 := by
    rw [hL0, hL1, hL2, hL3, hL4, hL5]
    obtain ⟨⟨h0, h1, h2, h3, h4, h5⟩, _⟩ := hsx
    exact ⟨h0, h1.1, h2, h3, h4, h5.1⟩
   obtain ⟨l0, l1, l2, l3, l4, l5⟩ := hlen
   have hkb : kq ≤ 23089744936960 := by omega
   have hlr : lo ≤ wr.heap.size := Nat.le_trans hlw (Below.size HP.below)
   clear hel hcl hcj m0 m1 m2 m3 m4 m5 hL0 hL1 hL2 hL3 hL4 hL5 hBC hTC hcost hsx hcur hx
   obtain ⟨c0, _⟩ := CELLS wr (Frm.refl _ _ _)
   go_wp2_with fail
   refine (markInts_f kq hkq0 l0 (by omega) HMM.1).mono ?_
   rintro e w1 ⟨rfl, f1⟩
   have F1 : Hid (Frm lo hi wr w1) := f1
   clear f1 c0
   obtain ⟨k1, hk1⟩ : ∃ x, x = kq + L0 := ⟨_, rfl⟩
   rw [← hk1]
   have HK1 : Hid (k1 = kq + L0) := hk1
   clear hk1
   obtain ⟨_, c1, _⟩ := CELLS w1 F1
   go_wp2_with fail
   refine (markBinds_f k1 (by have e1 := show k1 = _ from HK1; omega) HLS.1 l1 (by rw [← HBT.1]; have e1 := show k1 = _ from HK1; omega) HMM.2.1.1 HMM.2.1.2.1 (MBs.frm HMM.2.1.2.2 F1) (Nat.le_trans hlr (Below.size F1.below))).mono ?_
   rintro e w2 ⟨rfl, f2⟩
   have F2 : Hid (Frm lo hi wr w2) := F1.trans f2
   clear f2 c1
   rw [← HBT.1]
   obtain ⟨k2, hk2⟩ : ∃ x, x = k1 + 7 * L1 + 3 * BC := ⟨_, rfl⟩
   rw [← hk2]
   have HK2 : Hid (k2 = k1 + 7 * L1 + 3 * BC) := hk2
   clear hk2
   obtain ⟨_, _, c2, _⟩ := CELLS w2 F2
   go_wp2_with fail
   refine (markInts_f k2 (by have e1 := show k1 = _ from HK1; have e2 := show k2 = _ from HK2; omega) l2 (by have e1 := show k1 = _ from HK1; have e2 := show k2 = _ from HK2; omega) (HMM.2.2.1.shp F2.shp)).mono ?_
   rintro e w3 ⟨rfl, f3⟩
   have F3 : Hid (Frm lo hi wr w3) := F2.trans f3
   clear f3 c2
   obtain ⟨k3, hk3⟩ : ∃ x, x = k2 + L2 := ⟨_, rfl⟩
   rw [← hk3]
   have HK3 : Hid (k3 = k2 + L2) := hk3
   clear hk3
   obtain ⟨_, _, _, c3, _⟩ := CELLS w3 F3
   go_wp2_with fail
   refine (markInts_f k3 (by have e1 := show k1 = _ from HK1; have e2 := show k2 = _ from HK2; have e3 := show k3 = _ from HK3; omega) l3 (by have e1 := show k1 = _ from HK1; have e2 := show k2 = _ from HK2; have e3 := show k3 = _ from HK3; omega) (HMM.2.2.2.1.shp F3.shp)).mono ?_
   rintro e w4 ⟨rfl, f4⟩
   have F4 : Hid (Frm lo hi wr w4) := F3.trans f4
   clear f4 c3
   obtain ⟨k4, hk4⟩ : ∃ x, x = k3 + L3 := ⟨_, rfl⟩
   rw [← hk4]
   have HK4 : Hid (k4 = k3 + L3) := hk4
   clear hk4
   obtain ⟨_, _, _, _, c4, _⟩ := CELLS w4 F4
   go_wp2_with fail
   refine (markGlues_f k4 (by have e1 := show k1 = _ from HK1; have e2 := show k2 = _ from HK2; have e3 := show k3 = _ from HK3; have e4 := show k4 = _ from HK4; omega) l4 (by have e1 := show k1 = _ from HK1; have e2 := show k2 = _ from HK2; have e3 := show k3 = _ from HK3; have e4 := show k4 = _ from HK4; omega) (HMM.2.2.2.2.1.shp F4.shp)).mono ?_
   rintro e w5 ⟨rfl, f5⟩
   have F5 : Hid (Frm lo hi wr w5) := F4.trans f5
   clear f5 c4
   obtain ⟨k5, hk5⟩ : ∃ x, x = k4 + 5 * L4 := ⟨_, rfl⟩
   rw [← hk5]
   have HK5 : Hid (k5 = k4 + 5 * L4) := hk5
   clear hk5
   obtain ⟨_, _, _, _, _, c5⟩ := CELLS w5 F5
   go_wp2_with fail
   refine (markTss_f k5 (by have e1 := show k1 = _ from HK1; have e2 := show k2 = _ from HK2; have e3 := show k3 = _ from HK3; have e4 := show k4 = _ from HK4; have e5 := show k5 = _ from HK5; omega) (by rw [← HBT.2]; have e1 := show k1 = _ from HK1; have e2 := show k2 = _ from HK2; have e3 := show k3 = _ from HK3; have e4 := show k4 = _ from HK4; have e5 := show k5 = _ from HK5; omega) HLS.2 l5 (HMM.2.2.2.2.2.frm F5)).mono ?_
   rintro e w6 ⟨rfl, f6⟩
   have F6 : Hid (Frm lo hi w w6) := (HP.trans F5).trans f6
   clear f6 c5
   rw [← HBT.2]
   obtain ⟨k6, hk6⟩ : ∃ x, x = k5 + 3 * TC := ⟨_, rfl⟩
   rw [← hk6]
   have HK6 : Hid (k6 = k5 + 3 * TC) := hk6
   clear hk6
   go_wp2
   go_roundw
   case rel => exact ⟨q + 1, k6, by omega, by go_num, rfl, by have e1 := show k1 = _ from HK1; have e2 := show k2 = _ from HK2; have e3 := show k3 = _ from HK3; have e4 := show k4 = _ from HK4; have e5 := show k5 = _ from HK5; have e6 := show k6 = _ from HK6; omega, by have e1 := show k1 = _ from HK1; have e2 := show k2 = _ from HK2; have e3 := show k3 = _ from HK3; have e4 := show k4 = _ from HK4; have e5 := show k5 = _ from HK5; have e6 := show k6 = _ from HK6; omega, F6⟩
   case measure => simp [intOf]; omega
  ·have hqi : ¬ (q : Int) < (n : Int) := by omega
   go_wp2
   go_ret
   exact ⟨⟨kq, rfl⟩, HP⟩
set_option maxRecDepth 100000 in
set_option maxHeartbeats 4000000 in
theorem markEnv_f {lo hi o n : Nat} {xs : List Lv} {w : World} (hn : n = xs.length) (hs : SmE2 xs) (hlw : lo ≤ w.heap.size) (h : MLs lo hi w o xs) :
 Calls Tryz.prog 11 #[.agg #[.slice (some ⟨o, 0, none⟩) n n], .int .i64 1] w fun e w' => (∃ K : Nat, e = .returned (.int .i64 (K : Int))) ∧ Frm lo hi w w' := by
 have HM : Hid (MLs lo hi w o xs) := h
 have HN : Hid (n = xs.length) := hn
 have HS : Hid (SmE2 xs) := hs
 clear h hn hs
 go_enter Tryz.func11, Tryz.ntmps11
 go_wp2_with fail
 refine (markLevels_f (lo := lo) (hi := hi) 1 (by decide) (by decide) HN (by rw [show n = _ from HN]; exact HS.1) HS.2 (by simp; omega) (MLs.frm HM (Frm.of_below (below1 _ _) hlw))).mono ?_
 rintro e w1 ⟨⟨K, rfl⟩, f1⟩
 have F1 : Hid (Frm lo hi w w1) := (Frm.of_below (below1 _ _) hlw).trans f1
 clear f1
 go_wp2
 go_ret
 exact ⟨⟨K, rfl⟩, F1⟩
end Go.Proofs.YtbpidcfoldkhgaaGreat
