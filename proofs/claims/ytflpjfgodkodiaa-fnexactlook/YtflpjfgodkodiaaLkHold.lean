/-
  Proved: for every environment and every name, laws.FnExactLook returns true and its arguments read behind the call as before it; no condition.
-/
import Derived.Test.YtflpjfgodkodiaaLkg
import Derived.Deep.RegionWith
import Derived.Deep.Cut
import Derived.Test.YtflpjfgodkodiaaOpen
import Derived.Test.YtflpjfgodkodiaaOpenE
namespace Go.Proofs.Ytflpjfgodkodiaa
open Go.RowKit
set_option linter.unusedVariables false
set_option linter.unusedSimpArgs false

theorem own_keep2 {lo n : Nat} {w w' : World} {v : Value} {xs : List Value} (h : w.ownsRow lo 31 3 v n xs) (hk : ∀ g, v.ownBlock = some g → w'.heap[g]? = w.heap[g]?) : w'.ownsRow lo 31 3 v n xs := by
  obtain ⟨hl, h | ⟨g, cap, cur, rfl, hg, hb, hr⟩⟩ := h
  · exact ⟨hl, .inl h⟩
  · exact ⟨hl, .inr ⟨g, cap, cur, rfl, hg, (hk g rfl).trans hb, hr⟩⟩

set_option maxRecDepth 100000 in
set_option maxHeartbeats 4000000 in
theorem lawLook_any {v : Value} {xs : List Lv} {nm : ByteArray} {w : World} (h : LRow 0 w v xs) (hf : FnE xs) (hnm : nm.size ≤ 9223372036854775807) :
    Calls Try.prog 5 #[.agg #[v], .string nm] w fun e w' => e = .returned (.bool true) ∧ Below w.heap.size w w' := by
  have HX : Hid (LRow 0 w v xs) := h
  have HF : Hid (FnE xs) := hf
  obtain ⟨ao, cap, rfl⟩ := h.shape
  obtain ⟨nx, hnx⟩ : ∃ n, n = xs.length := ⟨_, rfl⟩
  rw [← hnx] at HX
  rw [← hnx]
  have HNX : Hid (nx = xs.length) := hnx
  clear h hf hnx
  by_cases hbig : (1048576 : Int) < (nm.size : Int)
  · go_enter Try.func5, Try.ntmps5
    go_wp2
    go_ret
    exact ⟨rfl, below1 _ _⟩
  · go_enter Try.func5, Try.ntmps5
    go_wp2_with fail
    refine (szEnv_t (SRow.below lvStable HX (below1 _ _)) HF (by omega) (by omega)).mono ?_
    rintro e w1 ⟨⟨m, rfl, hml, hm⟩, hb1⟩
    have B1 : Hid (Below w.heap.size w w1) := (below1 _ _).trans (hb1.mono (by simp))
    have K1 : Hid (w1.heap[w.heap.size]? = some (.cells #[.slice ao nx cap] 42 (0, 0)) ∧ w.heap.size < w1.heap.size) := ⟨(hb1.block _ (by simp)).trans (heap_alloc_new w _), by have := hb1.size; simp at this; omega⟩
    have HM : Hid (0 ≤ m → SmE2 xs) := hm
    clear hb1 hm
    by_cases hneg : m < 0
    · go_wp2
      go_ret
      exact ⟨rfl, B1⟩
    · have HS : Hid (SmE2 xs) := HM (by omega)
      clear HM
      obtain ⟨M, hM⟩ : ∃ M, M = lookR xs nm := ⟨_, rfl⟩
      have HST : Hid (M.p.length ≤ 1048576 ∧ M.b.length ≤ 1048576) := by
        rw [hM]
        unfold lookR
        split
        · next hok => exact ⟨(look_str (env_binds hok)).1.1, (look_str (env_binds hok)).2.1.1⟩
        · exact ⟨none_str.1.1, none_str.2.1.1⟩
      have CS : Hid (∀ {v : Value} {w : World}, LRowP 0 w v xs → Calls Try.prog 18 #[.agg #[v], .string nm] w fun e w' => ∃ vp vb, e = .returned (mnV M vp vb) ∧ (∃ n, w'.ownsRow w.heap.size 31 3 vp n (flat M.p)) ∧ (∃ n, w'.ownsRow w.heap.size 31 3 vb n (flat M.b)) ∧ Below w.heap.size w w') := by
        intro v w h
        rw [hM]
        exact specLookAll_any (h.row lpStable lvP_R) (h.row lpStable lvP_S) HS.old
      have CI : Hid (∀ {v : Value} {w : World}, LRowP 0 w v xs → Calls Try.prog 19 #[.agg #[v], .string nm] w fun e w' => ∃ vp vb, e = .returned (mnV M vp vb) ∧ (∃ n, w'.ownsRow w.heap.size 31 3 vp n (flat M.p)) ∧ (∃ n mid, w'.ownsRow mid 31 3 vb n (flat M.b) ∧ w.heap.size ≤ mid ∧ ∀ g, vp.ownBlock = some g → g < mid) ∧ Below w.heap.size w w') := by
        intro v w h
        rw [hM]
        exact implLookAll_any (h.row lpStable lvP_R) (h.row lpStable lvP_S) HS.old
      clear hM
      obtain ⟨mk, mn, mt, mp, ms, mb⟩ := M
      have c1 : w1.cell? ⟨w.heap.size, 0, none⟩ = some (.slice ao nx cap) := by rw [cell_of_row w1 _ 0 _ 42 _ K1.1]; rfl
      have hz1 : w.heap.size < w1.heap.size := K1.2
      go_wp2_with fail
      refine (toEnv_p (SRow.below lvStable HX B1) HS.old).mono ?_
      rintro e w2 ⟨v2, rfl, hp2, hb2⟩
      have P2 : Hid (LRowP 0 w2 v2 xs) := SRowP.mono lpStable hp2 (Nat.zero_le _)
      have B2 : Hid (Below w.heap.size w w2) := below_more B1 hb2 (Below.size B1)
      have K2 : Hid (w2.heap[w.heap.size]? = some (.cells #[.slice ao nx cap] 42 (0, 0)) ∧ w.heap.size < w2.heap.size) := ⟨(hb2.block _ hz1).trans K1.1, Nat.lt_of_lt_of_le hz1 hb2.size⟩
      obtain ⟨a2, d2, rfl⟩ := hp2.shape
      clear hb2 hp2 c1
      go_wp2_with fail
      refine (CS P2).mono ?_
      rintro e w3 ⟨vp3, vb3, rfl, ⟨n3, ho3⟩, ⟨m3, hq3⟩, hb3⟩
      obtain ⟨a3, c3, rfl, _⟩ := own_shape ho3
      obtain ⟨a4, c4, rfl, _⟩ := own_shape hq3
      have B3 : Hid (Below w.heap.size w w3) := below_more B2 hb3 (Below.size B2)
      have K3 : Hid (w3.heap[w.heap.size]? = some (.cells #[.slice ao nx cap] 42 (0, 0)) ∧ w.heap.size < w3.heap.size) := ⟨(hb3.block _ K2.2).trans K2.1, Nat.lt_of_lt_of_le K2.2 hb3.size⟩
      have O3 : Hid (w3.ownsRow w2.heap.size 31 3 (.slice a3 n3 c3) n3 (flat mp) ∧ w3.ownsRow w2.heap.size 31 3 (.slice a4 m3 c4) m3 (flat mb)) := ⟨ho3, hq3⟩
      have c3' : w3.cell? ⟨w.heap.size, 0, none⟩ = some (.slice ao nx cap) := by rw [cell_of_row w3 _ 0 _ 42 _ K3.1]; rfl
      have hz3 : w.heap.size < w3.heap.size := K3.2
      clear hb3 ho3 hq3
      go_wp2_with fail
      have D3 : Below w3.heap.size w3 (w3.alloc (.cells #[.int .i64 mk, .int .i64 mn, .int .i64 mt.c, .int .i64 mt.h, .string mt.s, .slice a3 n3 c3, .int .i64 ms, .slice a4 m3 c4] 36)) := below1 _ _
      refine (toEnv_p (SRow.below lvStable HX (below_more B3 D3 (Below.size B3))) HS.old).mono ?_
      rintro e w4 ⟨v4, rfl, hp4, hb4⟩
      simp only [World.size_alloc] at hp4
      obtain ⟨o4, rfl, hml4⟩ := SRowP.mls hp4 (Nat.le_refl _)
      have D4 : Hid (Below w3.heap.size w3 w4) := below_more D3 hb4 (by simp)
      have B4 : Hid (Below w.heap.size w w4) := below_more B3 D4 (Below.size B3)
      have P4 : Hid (LRowP 0 w4 (.slice (some ⟨o4, 0, none⟩) xs.length xs.length) xs ∧ MLs (w3.heap.size + 1) w4.heap.size w4 o4 xs) := ⟨SRowP.mono lpStable hp4 (Nat.zero_le _), hml4⟩
      have K4 : Hid (w4.heap[w.heap.size]? = some (.cells #[.slice ao nx cap] 42 (0, 0)) ∧ w4.heap[w3.heap.size]? = some (.cells #[.int .i64 mk, .int .i64 mn, .int .i64 mt.c, .int .i64 mt.h, .string mt.s, .slice a3 n3 c3, .int .i64 ms, .slice a4 m3 c4] 36 (0, 0)) ∧ w3.heap.size < w4.heap.size) :=
        ⟨(D4.block _ K3.2).trans K3.1, (hb4.block _ (by simp)).trans (heap_alloc_new w3 _), by have := hb4.size; simp at this; omega⟩
      have hz4 : w3.heap.size < w4.heap.size := K4.2.2
      obtain ⟨nxx, hnxx⟩ : ∃ n, n = xs.length := ⟨_, rfl⟩
      rw [← hnxx] at P4
      rw [← hnxx]
      have HNY : Hid (nxx = xs.length) := hnxx
      clear hb4 hp4 hml4 D3 c3' hnxx
      go_wp2_with fail
      have D5 : Below w4.heap.size w4 (w4.alloc (.cells #[.slice (some ⟨o4, 0, none⟩) nxx nxx] 47)) := below1 _ _
      refine (CI (SRowP.below lpStable P4.1 D5)).mono ?_
      rintro e w5 ⟨vp5, vb5, rfl, ⟨n5, ho5⟩, ⟨m5, mid, hq5, hmid, hsep⟩, hb5⟩
      simp only [World.size_alloc] at ho5 hmid
      obtain ⟨a5, c5, rfl, _⟩ := own_shape ho5
      obtain ⟨a6, c6, rfl, _⟩ := own_shape hq5
      have E5 : Hid (Below w4.heap.size w4 w5) := below_more D5 hb5 (by simp)
      have B5 : Hid (Below w.heap.size w w5) := below_more B4 E5 (Below.size B4)
      have K5 : Hid (w5.heap[w.heap.size]? = some (.cells #[.slice ao nx cap] 42 (0, 0)) ∧ w5.heap[w3.heap.size]? = some (.cells #[.int .i64 mk, .int .i64 mn, .int .i64 mt.c, .int .i64 mt.h, .string mt.s, .slice a3 n3 c3, .int .i64 ms, .slice a4 m3 c4] 36 (0, 0)) ∧ w5.heap[w4.heap.size]? = some (.cells #[.slice (some ⟨o4, 0, none⟩) nxx nxx] 47 (0, 0)) ∧ w4.heap.size < w5.heap.size) :=
        ⟨(E5.block _ (Nat.lt_trans hz3 hz4)).trans K4.1, (E5.block _ hz4).trans K4.2.1, (hb5.block _ (by simp)).trans (heap_alloc_new w4 _), by have := hb5.size; simp at this; omega⟩
      have O5 : Hid (w5.ownsRow (w4.heap.size + 1) 31 3 (.slice a5 n5 c5) n5 (flat mp) ∧ w5.ownsRow mid 31 3 (.slice a6 m5 c6) m5 (flat mb) ∧ w4.heap.size + 1 ≤ mid ∧ ∀ g, (Value.slice a5 n5 c5).ownBlock = some g → g < mid) := ⟨ho5, hq5, hmid, hsep⟩
      have hz5 : w4.heap.size < w5.heap.size := K5.2.2.2
      clear hb5 ho5 hq5 hmid hsep D5
      -- from here on: the looks
      have y0 : w5.cell? ⟨w3.heap.size, 0, none⟩ = some (.int .i64 mk) := by rw [cell_of_row w5 _ 0 _ 36 _ K5.2.1]; rfl
      have y1 : w5.cell? ⟨w3.heap.size, 1, none⟩ = some (.int .i64 mn) := by rw [cell_of_row w5 _ 1 _ 36 _ K5.2.1]; rfl
      have y2 : w5.cell? ⟨w3.heap.size, 2, none⟩ = some (.int .i64 mt.c) := by rw [cell_of_row w5 _ 2 _ 36 _ K5.2.1]; rfl
      have y3 : w5.cell? ⟨w3.heap.size, 3, none⟩ = some (.int .i64 mt.h) := by rw [cell_of_row w5 _ 3 _ 36 _ K5.2.1]; rfl
      have y4 : w5.cell? ⟨w3.heap.size, 4, none⟩ = some (.string mt.s) := by rw [cell_of_row w5 _ 4 _ 36 _ K5.2.1]; rfl
      have y5 : w5.cell? ⟨w3.heap.size, 5, none⟩ = some (.slice a3 n3 c3) := by rw [cell_of_row w5 _ 5 _ 36 _ K5.2.1]; rfl
      have y6 : w5.cell? ⟨w3.heap.size, 6, none⟩ = some (.int .i64 ms) := by rw [cell_of_row w5 _ 6 _ 36 _ K5.2.1]; rfl
      have y7 : w5.cell? ⟨w3.heap.size, 7, none⟩ = some (.slice a4 m3 c4) := by rw [cell_of_row w5 _ 7 _ 36 _ K5.2.1]; rfl
      have hy5 : w3.heap.size < w5.heap.size := Nat.lt_trans hz4 hz5
      go_wp2_with fail
      have D6 : Below w5.heap.size w5 (w5.alloc (.cells #[.int .i64 mk, .int .i64 mn, .int .i64 mt.c, .int .i64 mt.h, .string mt.s, .slice a5 n5 c5, .int .i64 ms, .slice a6 m5 c6] 36)) := below1 _ _
      have R3 : Hid (w5.ownsRow w2.heap.size 31 3 (.slice a3 n3 c3) n3 (flat mp) ∧ w5.ownsRow w2.heap.size 31 3 (.slice a4 m3 c4) m3 (flat mb)) := ⟨own_below (own_below O3.1 D4) E5, own_below (own_below O3.2 D4) E5⟩
      refine (eqMean_same (TN.row (own_n (own_below O5.1 D6))) (TN.row (own_n (own_below O5.2.1 D6))) (TN.row (own_n (own_below R3.1 D6))) (TN.row (own_n (own_below R3.2 D6))) HST.1 HST.2).mono ?_
      rintro e w6 ⟨rfl, hb6⟩
      have E6 : Hid (Below w5.heap.size w5 w6) := below_more D6 hb6 (by simp)
      have B6 : Hid (Below w.heap.size w w6) := below_more B5 E6 (Below.size B5)
      have K6 : Hid (w6.heap[w.heap.size]? = some (.cells #[.slice ao nx cap] 42 (0, 0)) ∧ w6.heap[w3.heap.size]? = some (.cells #[.int .i64 mk, .int .i64 mn, .int .i64 mt.c, .int .i64 mt.h, .string mt.s, .slice a3 n3 c3, .int .i64 ms, .slice a4 m3 c4] 36 (0, 0)) ∧ w6.heap[w4.heap.size]? = some (.cells #[.slice (some ⟨o4, 0, none⟩) nxx nxx] 47 (0, 0)) ∧ w6.heap[w5.heap.size]? = some (.cells #[.int .i64 mk, .int .i64 mn, .int .i64 mt.c, .int .i64 mt.h, .string mt.s, .slice a5 n5 c5, .int .i64 ms, .slice a6 m5 c6] 36 (0, 0)) ∧ w5.heap.size < w6.heap.size) :=
        ⟨(E6.block _ (Nat.lt_trans (Nat.lt_trans hz3 hz4) hz5)).trans K5.1, (E6.block _ hy5).trans K5.2.1, (E6.block _ hz5).trans K5.2.2.1, (hb6.block _ (by simp)).trans (heap_alloc_new w5 _), by have := hb6.size; simp at this; omega⟩
      clear hb6 D6 y0 y1 y2 y3 y4 y5 y6 y7
      have hz6 : w5.heap.size < w6.heap.size := K6.2.2.2.2
      have q0 : w6.cell? ⟨w.heap.size, 0, none⟩ = some (.slice ao nx cap) := by rw [cell_of_row w6 _ 0 _ 42 _ K6.1]; rfl
      have x0 : w6.cell? ⟨w4.heap.size, 0, none⟩ = some (.slice (some ⟨o4, 0, none⟩) nxx nxx) := by rw [cell_of_row w6 _ 0 _ 47 _ K6.2.2.1]; rfl
      have hza : w.heap.size < w6.heap.size := Nat.lt_trans (Nat.lt_trans (Nat.lt_trans hz3 hz4) hz5) hz6
      have hzx : w4.heap.size < w6.heap.size := Nat.lt_trans hz5 hz6
      have BD : Below w6.heap.size w6 w6.drew := Below.drew (Below.refl _ _)
      have E46 : Hid (Below w4.heap.size w4 w6) := below_more E5 E6 (Below.size E5)
      have HXX : Hid (LRow 0 w6.drew (.slice ao nx cap) xs ∧ LRow 0 w6.drew (.slice (some ⟨o4, 0, none⟩) nxx nxx) xs ∧ Below w6.heap.size w6 w6.drew) := ⟨SRow.below lvStable (SRow.below lvStable HX B6) BD, SRow.below lvStable ((SRowP.below lpStable P4.1 E46).row lpStable lvP_R) BD, BD⟩
      clear BD
      go_upto_region 12 with fail
      go_cut [38] from 13 (fun s38 wc => s38 = .bool false ∧ Hid (Below w6.heap.size w6 wc))
      case first =>
        go_region_with (first
          | (go_at_call 15; refine (toEnv_any HXX.1 HS.old).mono ?_; rintro e w7 ⟨v7, rfl, hp7, hb7⟩; obtain ⟨a7, d7, rfl⟩ := hp7.shape; have P7 : Hid (LRow 0 w7 (.slice (some ⟨o4, 0, none⟩) nxx nxx) xs ∧ LRow 0 w7 (.slice a7 xs.length d7) xs ∧ Below w6.heap.size w6 w7) := ⟨SRow.below lvStable HXX.2.1 hb7, SRow.mono lvStable hp7 (Nat.zero_le _), below_more HXX.2.2 hb7 (Below.size HXX.2.2)⟩; have xx0 : w7.cell? ⟨w4.heap.size, 0, none⟩ = some (.slice (some ⟨o4, 0, none⟩) nxx nxx) := (Below.cell P7.2.2 (p := ⟨w4.heap.size, 0, none⟩) hzx).trans x0; have hzx7 : w4.heap.size < w7.heap.size := Nat.lt_of_lt_of_le hzx (Below.size P7.2.2); clear hb7 hp7)
          | (go_at_call 17; refine (eqEnv_same P7.1 P7.2.1 HS.old).mono ?_; rintro e w8 ⟨rfl, hb8⟩; have C8 : Hid (Below w6.heap.size w6 w8) := below_more P7.2.2 hb8 (Below.size P7.2.2); clear hb8))
        all_goals
          go_wp2_with fail
          go_meet
          case rel => exact ⟨rfl, ‹Hid (Below w6.heap.size w6 w8)›⟩
      case rest =>
        obtain ⟨rfl, CC⟩ := hcut
        clear q0 x0 HXX
        -- where all lies
        have S : Hid (w.heap.size < w3.heap.size ∧ w3.heap.size < w4.heap.size ∧ w4.heap.size < w5.heap.size ∧ w5.heap.size < w6.heap.size ∧ w6.heap.size ≤ wc.heap.size) := ⟨hz3, hz4, hz5, hz6, Below.size CC⟩
        have Bc : Hid (Below w.heap.size w wc) := below_more B6 CC (Below.size B6)
        have Kc : Hid (wc.heap[w.heap.size]? = some (.cells #[.slice ao nx cap] 42 (0, 0)) ∧ wc.heap[w3.heap.size]? = some (.cells #[.int .i64 mk, .int .i64 mn, .int .i64 mt.c, .int .i64 mt.h, .string mt.s, .slice a3 n3 c3, .int .i64 ms, .slice a4 m3 c4] 36 (0, 0)) ∧ wc.heap[w4.heap.size]? = some (.cells #[.slice (some ⟨o4, 0, none⟩) nxx nxx] 47 (0, 0)) ∧ wc.heap[w5.heap.size]? = some (.cells #[.int .i64 mk, .int .i64 mn, .int .i64 mt.c, .int .i64 mt.h, .string mt.s, .slice a5 n5 c5, .int .i64 ms, .slice a6 m5 c6] 36 (0, 0))) :=
          ⟨(CC.block _ hza).trans K6.1, (CC.block _ (by obtain ⟨s1, s2, s3, s4, s5⟩ := S; omega)).trans K6.2.1, (CC.block _ hzx).trans K6.2.2.1, (CC.block _ hz6).trans K6.2.2.2.1⟩
        have Ec : Hid (Below w4.heap.size w4 wc) := below_more E46 CC (Below.size E46)
        have E5c : Hid (Below w5.heap.size w5 wc) := below_more E6 CC (Below.size E6)
        have Rc : Hid (wc.ownsRow w2.heap.size 31 3 (.slice a3 n3 c3) n3 (flat mp) ∧ wc.ownsRow w2.heap.size 31 3 (.slice a4 m3 c4) m3 (flat mb)) := ⟨own_below R3.1 E5c, own_below R3.2 E5c⟩
        have RB : Hid ((∀ g, (Value.slice a3 n3 c3).ownBlock = some g → g < w3.heap.size) ∧ ∀ g, (Value.slice a4 m3 c4).ownBlock = some g → g < w3.heap.size) := ⟨fun g hg => (World.ownsRow.lt O3.1 g hg).2, fun g hg => (World.ownsRow.lt O3.2 g hg).2⟩
        have Oc : Hid (wc.ownsRow (w4.heap.size + 1) 31 3 (.slice a5 n5 c5) n5 (flat mp) ∧ wc.ownsRow mid 31 3 (.slice a6 m5 c6) m5 (flat mb)) := ⟨own_below O5.1 E5c, own_below O5.2.1 E5c⟩
        have OB : Hid ((∀ g, (Value.slice a5 n5 c5).ownBlock = some g → g < mid) ∧ (∀ g, (Value.slice a6 m5 c6).ownBlock = some g → g < w5.heap.size) ∧ w4.heap.size + 1 ≤ mid ∧ ∀ g, (Value.slice a5 n5 c5).ownBlock = some g → g < w5.heap.size) := ⟨O5.2.2.2, fun g hg => (World.ownsRow.lt O5.2.1 g hg).2, O5.2.2.1, fun g hg => (World.ownsRow.lt O5.1 g hg).2⟩
        have x0 : wc.cell? ⟨w4.heap.size, 0, none⟩ = some (.slice (some ⟨o4, 0, none⟩) nxx nxx) := by rw [cell_of_row wc _ 0 _ 47 _ Kc.2.2.1]; rfl
        have hzc : w4.heap.size < wc.heap.size := by obtain ⟨s1, s2, s3, s4, s5⟩ := S; omega
        go_wp2_with fail
        refine (markEnv_f (lo := w3.heap.size + 1) (hi := w4.heap.size) HNY HS (by obtain ⟨s1, s2, s3, s4, s5⟩ := S; omega) (MLs.frm P4.2 (Frm.of_below Ec (by obtain ⟨s1, s2, s3, s4, s5⟩ := S; omega)))).mono ?_
        rintro e wd ⟨⟨K, rfl⟩, fd⟩
        have Bd : Hid (Below w.heap.size w wd) := Below.trans Bc (fd.below.mono (by obtain ⟨s1, s2, s3, s4, s5⟩ := S; omega))
        have Kd : Hid (wd.heap[w.heap.size]? = some (.cells #[.slice ao nx cap] 42 (0, 0)) ∧ wd.heap[w3.heap.size]? = some (.cells #[.int .i64 mk, .int .i64 mn, .int .i64 mt.c, .int .i64 mt.h, .string mt.s, .slice a3 n3 c3, .int .i64 ms, .slice a4 m3 c4] 36 (0, 0)) ∧ wd.heap[w5.heap.size]? = some (.cells #[.int .i64 mk, .int .i64 mn, .int .i64 mt.c, .int .i64 mt.h, .string mt.s, .slice a5 n5 c5, .int .i64 ms, .slice a6 m5 c6] 36 (0, 0)) ∧ wc.heap.size ≤ wd.heap.size) :=
          ⟨(fd.below.block _ (by obtain ⟨s1, s2, s3, s4, s5⟩ := S; omega)).trans Kc.1, (fd.below.block _ (Nat.lt_succ_self _)).trans Kc.2.1, (fd.abv.block _ (Nat.le_of_lt hz5) (by obtain ⟨s1, s2, s3, s4, s5⟩ := S; omega)).trans Kc.2.2.2, fd.below.size⟩
        have Rd : Hid (wd.ownsRow w2.heap.size 31 3 (.slice a3 n3 c3) n3 (flat mp) ∧ wd.ownsRow w2.heap.size 31 3 (.slice a4 m3 c4) m3 (flat mb)) := ⟨own_keep2 Rc.1 (fun g hg => fd.below.block g (by have := RB.1 g hg; omega)), own_keep2 Rc.2 (fun g hg => fd.below.block g (by have := RB.2 g hg; omega))⟩
        have Od : Hid (wd.ownsRow (w4.heap.size + 1) 31 3 (.slice a5 n5 c5) n5 (flat mp) ∧ wd.ownsRow mid 31 3 (.slice a6 m5 c6) m5 (flat mb)) := ⟨own_keep2 Oc.1 (fun g hg => fd.abv.block g (by have := (World.ownsRow.lt Oc.1 g hg).1; omega) (World.ownsRow.lt Oc.1 g hg).2), own_keep2 Oc.2 (fun g hg => fd.abv.block g (by have := (World.ownsRow.lt Oc.2 g hg).1; have := OB.2.2.1; omega) (World.ownsRow.lt Oc.2 g hg).2)⟩
        clear fd x0
        have hKn : ¬ (K : Int) < 0 := by omega
        have y0 : wd.cell? ⟨w3.heap.size, 0, none⟩ = some (.int .i64 mk) := by rw [cell_of_row wd _ 0 _ 36 _ Kd.2.1]; rfl
        have y1 : wd.cell? ⟨w3.heap.size, 1, none⟩ = some (.int .i64 mn) := by rw [cell_of_row wd _ 1 _ 36 _ Kd.2.1]; rfl
        have y2 : wd.cell? ⟨w3.heap.size, 2, none⟩ = some (.int .i64 mt.c) := by rw [cell_of_row wd _ 2 _ 36 _ Kd.2.1]; rfl
        have y3 : wd.cell? ⟨w3.heap.size, 3, none⟩ = some (.int .i64 mt.h) := by rw [cell_of_row wd _ 3 _ 36 _ Kd.2.1]; rfl
        have y4 : wd.cell? ⟨w3.heap.size, 4, none⟩ = some (.string mt.s) := by rw [cell_of_row wd _ 4 _ 36 _ Kd.2.1]; rfl
        have y5 : wd.cell? ⟨w3.heap.size, 5, none⟩ = some (.slice a3 n3 c3) := by rw [cell_of_row wd _ 5 _ 36 _ Kd.2.1]; rfl
        have y6 : wd.cell? ⟨w3.heap.size, 6, none⟩ = some (.int .i64 ms) := by rw [cell_of_row wd _ 6 _ 36 _ Kd.2.1]; rfl
        have y7 : wd.cell? ⟨w3.heap.size, 7, none⟩ = some (.slice a4 m3 c4) := by rw [cell_of_row wd _ 7 _ 36 _ Kd.2.1]; rfl
        have gg0 : wd.cell? ⟨w5.heap.size, 0, none⟩ = some (.int .i64 mk) := by rw [cell_of_row wd _ 0 _ 36 _ Kd.2.2.1]; rfl
        have gg1 : wd.cell? ⟨w5.heap.size, 1, none⟩ = some (.int .i64 mn) := by rw [cell_of_row wd _ 1 _ 36 _ Kd.2.2.1]; rfl
        have gg2 : wd.cell? ⟨w5.heap.size, 2, none⟩ = some (.int .i64 mt.c) := by rw [cell_of_row wd _ 2 _ 36 _ Kd.2.2.1]; rfl
        have gg3 : wd.cell? ⟨w5.heap.size, 3, none⟩ = some (.int .i64 mt.h) := by rw [cell_of_row wd _ 3 _ 36 _ Kd.2.2.1]; rfl
        have gg4 : wd.cell? ⟨w5.heap.size, 4, none⟩ = some (.string mt.s) := by rw [cell_of_row wd _ 4 _ 36 _ Kd.2.2.1]; rfl
        have gg5 : wd.cell? ⟨w5.heap.size, 5, none⟩ = some (.slice a5 n5 c5) := by rw [cell_of_row wd _ 5 _ 36 _ Kd.2.2.1]; rfl
        have gg6 : wd.cell? ⟨w5.heap.size, 6, none⟩ = some (.int .i64 ms) := by rw [cell_of_row wd _ 6 _ 36 _ Kd.2.2.1]; rfl
        have gg7 : wd.cell? ⟨w5.heap.size, 7, none⟩ = some (.slice a6 m5 c6) := by rw [cell_of_row wd _ 7 _ 36 _ Kd.2.2.1]; rfl
        have hyd : w3.heap.size < wd.heap.size := by have := Kd.2.2.2; obtain ⟨s1, s2, s3, s4, s5⟩ := S; omega
        have hgd : w5.heap.size < wd.heap.size := by have := Kd.2.2.2; obtain ⟨s1, s2, s3, s4, s5⟩ := S; omega
        go_wp2_with fail
        refine (eqMean_same (TN.row (own_n Od.1)) (TN.row (own_n Od.2)) (TN.row (own_n Rd.1)) (TN.row (own_n Rd.2)) HST.1 HST.2).mono ?_
        rintro e we ⟨rfl, hbe⟩
        have Be : Hid (Below w.heap.size w we) := below_more Bd hbe (Below.size Bd)
        have Ke : Hid (we.heap[w.heap.size]? = some (.cells #[.slice ao nx cap] 42 (0, 0)) ∧ we.heap[w3.heap.size]? = some (.cells #[.int .i64 mk, .int .i64 mn, .int .i64 mt.c, .int .i64 mt.h, .string mt.s, .slice a3 n3 c3, .int .i64 ms, .slice a4 m3 c4] 36 (0, 0)) ∧ we.heap[w5.heap.size]? = some (.cells #[.int .i64 mk, .int .i64 mn, .int .i64 mt.c, .int .i64 mt.h, .string mt.s, .slice a5 n5 c5, .int .i64 ms, .slice a6 m5 c6] 36 (0, 0)) ∧ wd.heap.size ≤ we.heap.size) :=
          ⟨(hbe.block _ (by obtain ⟨s1, s2, s3, s4, s5⟩ := S; omega)).trans Kd.1, (hbe.block _ hyd).trans Kd.2.1, (hbe.block _ hgd).trans Kd.2.2.1, hbe.size⟩
        have Re : Hid (we.ownsRow w2.heap.size 31 3 (.slice a3 n3 c3) n3 (flat mp) ∧ we.ownsRow w2.heap.size 31 3 (.slice a4 m3 c4) m3 (flat mb)) := ⟨own_below Rd.1 hbe, own_below Rd.2 hbe⟩
        have Oe : Hid (we.ownsRow (w4.heap.size + 1) 31 3 (.slice a5 n5 c5) n5 (flat mp) ∧ we.ownsRow mid 31 3 (.slice a6 m5 c6) m5 (flat mb)) := ⟨own_below Od.1 hbe, own_below Od.2 hbe⟩
        clear hbe y0 y1 y2 y3 y4 y5 y6 y7 gg0 gg1 gg2 gg3 gg4 gg5 gg6 gg7
        obtain ⟨md, hmd⟩ : ∃ x, x = min mid w5.heap.size := ⟨_, rfl⟩
        have hlm : w4.heap.size + 1 ≤ md := by have := OB.2.2.1; rw [hmd]; omega
        have hmh : md ≤ w5.heap.size := by rw [hmd]; omega
        have T2 : Hid (TwoOwn (w4.heap.size + 1) md w5.heap.size we a5 n5 c5 a6 m5 c6) := by
          refine ⟨fun h0 => ?_, fun h0 => ?_⟩
          · obtain ⟨g, e, h1, h2, h3, h4⟩ := own_mark Oe.1 h0
            have hg : (Value.slice a5 n5 c5).ownBlock = some g := by rw [e]; rfl
            exact ⟨g, e, h1, h2, by have i1 := OB.1 g hg; have i2 := OB.2.2.2 g hg; rw [hmd]; omega, h4⟩
          · obtain ⟨g, e, h1, h2, h3, h4⟩ := own_mark Oe.2 h0
            have hg : (Value.slice a6 m5 c6).ownBlock = some g := by rw [e]; rfl
            exact ⟨g, e, h1, by rw [hmd]; omega, OB.2.1 g hg, h4⟩
        have hn5 : n5 ≤ 1048576 := by have h1 := Oe.1.1; rw [flat_len] at h1; have h2 := HST.1; omega
        have hm5 : m5 ≤ 1048576 := by have h1 := Oe.2.1; rw [flat_len] at h1; have h2 := HST.2; omega
        have hwe : w5.heap.size ≤ we.heap.size := by have := Ke.2.2.2; omega
        clear hmd
        have gg0 : we.cell? ⟨w5.heap.size, 0, none⟩ = some (.int .i64 mk) := by rw [cell_of_row we _ 0 _ 36 _ Ke.2.2.1]; rfl
        have gg1 : we.cell? ⟨w5.heap.size, 1, none⟩ = some (.int .i64 mn) := by rw [cell_of_row we _ 1 _ 36 _ Ke.2.2.1]; rfl
        have gg2 : we.cell? ⟨w5.heap.size, 2, none⟩ = some (.int .i64 mt.c) := by rw [cell_of_row we _ 2 _ 36 _ Ke.2.2.1]; rfl
        have gg3 : we.cell? ⟨w5.heap.size, 3, none⟩ = some (.int .i64 mt.h) := by rw [cell_of_row we _ 3 _ 36 _ Ke.2.2.1]; rfl
        have gg4 : we.cell? ⟨w5.heap.size, 4, none⟩ = some (.string mt.s) := by rw [cell_of_row we _ 4 _ 36 _ Ke.2.2.1]; rfl
        have gg5 : we.cell? ⟨w5.heap.size, 5, none⟩ = some (.slice a5 n5 c5) := by rw [cell_of_row we _ 5 _ 36 _ Ke.2.2.1]; rfl
        have gg6 : we.cell? ⟨w5.heap.size, 6, none⟩ = some (.int .i64 ms) := by rw [cell_of_row we _ 6 _ 36 _ Ke.2.2.1]; rfl
        have gg7 : we.cell? ⟨w5.heap.size, 7, none⟩ = some (.slice a6 m5 c6) := by rw [cell_of_row we _ 7 _ 36 _ Ke.2.2.1]; rfl
        have hge : w5.heap.size < we.heap.size := by have := Ke.2.2.2; omega
        go_wp2_with fail
        refine (markMean_o (m := ⟨mk, mn, mt, mp, ms, mb⟩) hn5 hm5 hlm hmh hwe T2).mono ?_
        rintro e wf ⟨rfl, t1, t2, hbf, haf⟩
        have Bf : Hid (Below w.heap.size w wf) := Below.trans Be (hbf.mono (by obtain ⟨s1, s2, s3, s4, s5⟩ := S; omega))
        have Kf : Hid (wf.heap[w.heap.size]? = some (.cells #[.slice ao nx cap] 42 (0, 0)) ∧ wf.heap[w3.heap.size]? = some (.cells #[.int .i64 mk, .int .i64 mn, .int .i64 mt.c, .int .i64 mt.h, .string mt.s, .slice a3 n3 c3, .int .i64 ms, .slice a4 m3 c4] 36 (0, 0)) ∧ wf.heap[w5.heap.size]? = some (.cells #[.int .i64 mk, .int .i64 mn, .int .i64 mt.c, .int .i64 mt.h, .string mt.s, .slice a5 n5 c5, .int .i64 ms, .slice a6 m5 c6] 36 (0, 0)) ∧ we.heap.size ≤ wf.heap.size) :=
          ⟨(hbf.block _ (by obtain ⟨s1, s2, s3, s4, s5⟩ := S; omega)).trans Ke.1, (hbf.block _ (by omega)).trans Ke.2.1, (haf.block _ (Nat.le_refl _) hge).trans Ke.2.2.1, hbf.size⟩
        have Rf : Hid (wf.ownsRow w2.heap.size 31 3 (.slice a3 n3 c3) n3 (flat mp) ∧ wf.ownsRow w2.heap.size 31 3 (.slice a4 m3 c4) m3 (flat mb)) := ⟨own_keep2 Re.1 (fun g hg => hbf.block g (by have := RB.1 g hg; omega)), own_keep2 Re.2 (fun g hg => hbf.block g (by have := RB.2 g hg; omega))⟩
        obtain ⟨KK, hKK⟩ : ∃ x, x = 1 + 3 * n5 + 3 * m5 := ⟨_, rfl⟩
        have CH : Hid (∀ W, Below wf.heap.size wf W → Calls Try.prog 22 #[mnV ⟨mk, mn, mt, mp, ms, mb⟩ (.slice a5 n5 c5) (.slice a6 m5 c6), .int .i64 1] W fun e w' => e = .returned (.int .i64 (KK : Int)) ∧ Below W.heap.size W w') := fun W hW => by rw [hKK]; exact heldMean_any hn5 hm5 (TRow.below t1 hW) (TRow.below t2 hW)
        rw [← hKK]
        have hKKn : ¬ (KK : Int) < 0 := by omega
        clear t1 t2 hbf haf hKK gg0 gg1 gg2 gg3 gg4 gg5 gg6 gg7 T2 Oe
        have gg0 : wf.cell? ⟨w5.heap.size, 0, none⟩ = some (.int .i64 mk) := by rw [cell_of_row wf _ 0 _ 36 _ Kf.2.2.1]; rfl
        have gg1 : wf.cell? ⟨w5.heap.size, 1, none⟩ = some (.int .i64 mn) := by rw [cell_of_row wf _ 1 _ 36 _ Kf.2.2.1]; rfl
        have gg2 : wf.cell? ⟨w5.heap.size, 2, none⟩ = some (.int .i64 mt.c) := by rw [cell_of_row wf _ 2 _ 36 _ Kf.2.2.1]; rfl
        have gg3 : wf.cell? ⟨w5.heap.size, 3, none⟩ = some (.int .i64 mt.h) := by rw [cell_of_row wf _ 3 _ 36 _ Kf.2.2.1]; rfl
        have gg4 : wf.cell? ⟨w5.heap.size, 4, none⟩ = some (.string mt.s) := by rw [cell_of_row wf _ 4 _ 36 _ Kf.2.2.1]; rfl
        have gg5 : wf.cell? ⟨w5.heap.size, 5, none⟩ = some (.slice a5 n5 c5) := by rw [cell_of_row wf _ 5 _ 36 _ Kf.2.2.1]; rfl
        have gg6 : wf.cell? ⟨w5.heap.size, 6, none⟩ = some (.int .i64 ms) := by rw [cell_of_row wf _ 6 _ 36 _ Kf.2.2.1]; rfl
        have gg7 : wf.cell? ⟨w5.heap.size, 7, none⟩ = some (.slice a6 m5 c6) := by rw [cell_of_row wf _ 7 _ 36 _ Kf.2.2.1]; rfl
        have hgf : w5.heap.size < wf.heap.size := by have := Kf.2.2.2; omega
        go_wp2_with fail
        refine (CH _ (Below.refl _ _)).mono ?_
        rintro e wg ⟨rfl, hbg⟩
        have Cg : Hid (Below wf.heap.size wf wg) := hbg
        have Bg : Hid (Below w.heap.size w wg) := below_more Bf hbg (Below.size Bf)
        clear gg0 gg1 gg2 gg3 gg4 gg5 gg6 gg7 hbg
        have q0 : wg.cell? ⟨w.heap.size, 0, none⟩ = some (.slice ao nx cap) := by rw [cell_of_row wg _ 0 _ 42 _ ((Cg.block _ (by obtain ⟨s1, s2, s3, s4, s5⟩ := S; omega)).trans Kf.1)]; rfl
        have hzg : w.heap.size < wg.heap.size := by have := Below.size Cg; obtain ⟨s1, s2, s3, s4, s5⟩ := S; omega
        go_wp2_with fail
        refine (toEnv_p (SRow.below lvStable HX Bg) HS.old).mono ?_
        rintro e wh ⟨vh, rfl, hph, hbh⟩
        have Ph : Hid (LRowP 0 wh vh xs) := SRowP.mono lpStable hph (Nat.zero_le _)
        have Ch : Hid (Below wf.heap.size wf wh) := below_more Cg hbh (Below.size Cg)
        have Bh : Hid (Below w.heap.size w wh) := below_more Bg hbh (Below.size Bg)
        obtain ⟨ah, dh, rfl⟩ := hph.shape
        clear hbh hph q0
        go_wp2_with fail
        refine (CI Ph).mono ?_
        rintro e wi ⟨vp9, vb9, rfl, ⟨n9, ho9⟩, ⟨m9, mid9, hq9, _, _⟩, hbi⟩
        obtain ⟨a9, c9, rfl, _⟩ := own_shape ho9
        obtain ⟨a10, c10, rfl, _⟩ := own_shape hq9
        have Ci : Hid (Below wf.heap.size wf wi) := below_more Ch hbi (Below.size Ch)
        have Bi : Hid (Below w.heap.size w wi) := below_more Bh hbi (Below.size Bh)
        have O9 : Hid (wi.ownsRow wh.heap.size 31 3 (.slice a9 n9 c9) n9 (flat mp) ∧ wi.ownsRow mid9 31 3 (.slice a10 m9 c10) m9 (flat mb)) := ⟨ho9, hq9⟩
        have Ri : Hid (wi.ownsRow w2.heap.size 31 3 (.slice a3 n3 c3) n3 (flat mp) ∧ wi.ownsRow w2.heap.size 31 3 (.slice a4 m3 c4) m3 (flat mb)) := ⟨own_below Rf.1 Ci, own_below Rf.2 Ci⟩
        have Ki : Hid (wi.heap[w3.heap.size]? = some (.cells #[.int .i64 mk, .int .i64 mn, .int .i64 mt.c, .int .i64 mt.h, .string mt.s, .slice a3 n3 c3, .int .i64 ms, .slice a4 m3 c4] 36 (0, 0)) ∧ wi.heap[w5.heap.size]? = some (.cells #[.int .i64 mk, .int .i64 mn, .int .i64 mt.c, .int .i64 mt.h, .string mt.s, .slice a5 n5 c5, .int .i64 ms, .slice a6 m5 c6] 36 (0, 0)) ∧ wf.heap.size ≤ wi.heap.size) := ⟨(Ci.block _ (by obtain ⟨s1, s2, s3, s4, s5⟩ := S; omega)).trans Kf.2.1, (Ci.block _ hgf).trans Kf.2.2.1, Below.size Ci⟩
        clear hbi ho9 hq9
        have y0 : wi.cell? ⟨w3.heap.size, 0, none⟩ = some (.int .i64 mk) := by rw [cell_of_row wi _ 0 _ 36 _ Ki.1]; rfl
        have y1 : wi.cell? ⟨w3.heap.size, 1, none⟩ = some (.int .i64 mn) := by rw [cell_of_row wi _ 1 _ 36 _ Ki.1]; rfl
        have y2 : wi.cell? ⟨w3.heap.size, 2, none⟩ = some (.int .i64 mt.c) := by rw [cell_of_row wi _ 2 _ 36 _ Ki.1]; rfl
        have y3 : wi.cell? ⟨w3.heap.size, 3, none⟩ = some (.int .i64 mt.h) := by rw [cell_of_row wi _ 3 _ 36 _ Ki.1]; rfl
        have y4 : wi.cell? ⟨w3.heap.size, 4, none⟩ = some (.string mt.s) := by rw [cell_of_row wi _ 4 _ 36 _ Ki.1]; rfl
        have y5 : wi.cell? ⟨w3.heap.size, 5, none⟩ = some (.slice a3 n3 c3) := by rw [cell_of_row wi _ 5 _ 36 _ Ki.1]; rfl
        have y6 : wi.cell? ⟨w3.heap.size, 6, none⟩ = some (.int .i64 ms) := by rw [cell_of_row wi _ 6 _ 36 _ Ki.1]; rfl
        have y7 : wi.cell? ⟨w3.heap.size, 7, none⟩ = some (.slice a4 m3 c4) := by rw [cell_of_row wi _ 7 _ 36 _ Ki.1]; rfl
        have hyi : w3.heap.size < wi.heap.size := by have := Ki.2.2; obtain ⟨s1, s2, s3, s4, s5⟩ := S; omega
        go_wp2_with fail
        have Dj : Below wi.heap.size wi (wi.alloc (.cells #[.int .i64 mk, .int .i64 mn, .int .i64 mt.c, .int .i64 mt.h, .string mt.s, .slice a9 n9 c9, .int .i64 ms, .slice a10 m9 c10] 36)) := below1 _ _
        refine (eqMean_same (TN.row (own_n (own_below O9.1 Dj))) (TN.row (own_n (own_below O9.2 Dj))) (TN.row (own_n (own_below Ri.1 Dj))) (TN.row (own_n (own_below Ri.2 Dj))) HST.1 HST.2).mono ?_
        rintro e wj ⟨rfl, hbj⟩
        have Ej : Hid (Below wi.heap.size wi wj) := below_more Dj hbj (by simp)
        have Cj : Hid (Below wf.heap.size wf wj) := below_more Ci Ej (Below.size Ci)
        have Bj : Hid (Below w.heap.size w wj) := below_more Bi Ej (Below.size Bi)
        have Kj : Hid (wj.heap[w5.heap.size]? = some (.cells #[.int .i64 mk, .int .i64 mn, .int .i64 mt.c, .int .i64 mt.h, .string mt.s, .slice a5 n5 c5, .int .i64 ms, .slice a6 m5 c6] 36 (0, 0))) := (Cj.block _ hgf).trans Kf.2.2.1
        clear hbj Dj y0 y1 y2 y3 y4 y5 y6 y7
        have gg0 : wj.cell? ⟨w5.heap.size, 0, none⟩ = some (.int .i64 mk) := by rw [cell_of_row wj _ 0 _ 36 _ Kj]; rfl
        have gg1 : wj.cell? ⟨w5.heap.size, 1, none⟩ = some (.int .i64 mn) := by rw [cell_of_row wj _ 1 _ 36 _ Kj]; rfl
        have gg2 : wj.cell? ⟨w5.heap.size, 2, none⟩ = some (.int .i64 mt.c) := by rw [cell_of_row wj _ 2 _ 36 _ Kj]; rfl
        have gg3 : wj.cell? ⟨w5.heap.size, 3, none⟩ = some (.int .i64 mt.h) := by rw [cell_of_row wj _ 3 _ 36 _ Kj]; rfl
        have gg4 : wj.cell? ⟨w5.heap.size, 4, none⟩ = some (.string mt.s) := by rw [cell_of_row wj _ 4 _ 36 _ Kj]; rfl
        have gg5 : wj.cell? ⟨w5.heap.size, 5, none⟩ = some (.slice a5 n5 c5) := by rw [cell_of_row wj _ 5 _ 36 _ Kj]; rfl
        have gg6 : wj.cell? ⟨w5.heap.size, 6, none⟩ = some (.int .i64 ms) := by rw [cell_of_row wj _ 6 _ 36 _ Kj]; rfl
        have gg7 : wj.cell? ⟨w5.heap.size, 7, none⟩ = some (.slice a6 m5 c6) := by rw [cell_of_row wj _ 7 _ 36 _ Kj]; rfl
        have hgj : w5.heap.size < wj.heap.size := Nat.lt_of_lt_of_le hgf (Below.size Cj)
        go_wp2_with fail
        refine (CH _ Cj).mono ?_
        rintro e wk ⟨rfl, hbk⟩
        have Bk : Hid (Below w.heap.size w wk) := below_more Bj hbk (Below.size Bj)
        clear hbk gg0 gg1 gg2 gg3 gg4 gg5 gg6 gg7
        go_wp2
        go_ret
        exact ⟨rfl, Bk⟩
end Go.Proofs.Ytflpjfgodkodiaa

namespace Go.Proofs.Ytflpjfgodkodiaa
open Go.ChangeShapes Go.WideShapes Go.ChangeAt Go.RowKit Go.Joins
set_option linter.unusedVariables false
set_option linter.unusedSimpArgs false

set_option maxRecDepth 100000 in
theorem look_lifted (os : Os) (started : os.Started) (H : Type) (enc : TypeId × Value → H) :
    ReturnsInHanded {} Try.checked os 5 .any (Rows.fnExactLookSpec.pre6 enc Try.prog Try.f5 Rows.fnExactLookRow.domain false) (Rows.fnExactLookSpec.post enc Try.prog Try.f5 false true false false) := by
  refine returnsInHanded_of_change (C := Try.checked) ownT started (by kernel_rfl) Try.func5
    (ChangeSpec.witness6 (enc := enc) (C := Try.checked) false ⟨#[], #[.agg #[.slice none 0 0], .string ⟨#[]⟩], []⟩ 8 (by kernel_rfl) (by kernel_rfl) (by kernel_rfl) (by kernel_rfl)) ?_
  intro W base args ds gs before hval0 hW hcnd _
  have hval : ∀ (j : Nat) t v, Try.f5.params[j]? = some t → args[j]? = some v → Value.okWide Try.prog W .any base t v := hval0
  have hW' := hW
  obtain ⟨p, q, hA0, hV, rfl, hfz, hnd⟩ := hW
  have hA : DataW.TrodAll enc Try.prog W 0 (fun _ => true) true Try.f5.params.toList args.toList ds p := hA0
  rw [Try.params5] at hA hval
  obtain ⟨v0, v1, d0, d1, p0, p1, rfl, rfl, rfl, h0, h1⟩ := trodAll_two hA
  obtain ⟨rfl, rfl⟩ := trodVars_none hV
  have k0 := h0
  have k1 := h1
  have lt0 : ∀ x ∈ p0, x.block < W.heap.size := by obtain ⟨m, hm⟩ := k0; exact DataW.trod_lt m _ _ _ hm
  have lt1 : ∀ x ∈ p1, x.block < W.heap.size := by obtain ⟨m, hm⟩ := k1; exact DataW.trod_lt m _ _ _ hm
  obtain ⟨cs, rfl, hsz⟩ := okWide_struct Try.underlying42 (hval 0 42 v0 rfl rfl)
  obtain ⟨nm, rfl⟩ := okWide_string Try.underlying9 (hval 1 9 v1 rfl rfl)
  obtain ⟨fuel, hf⟩ := h0
  obtain ⟨fuel1, hf1⟩ := h1
  have hnm : nm.size ≤ 9223372036854775807 := by
    obtain ⟨s, e2, _, hs⟩ := DataW.trod_string Try.underlying9 hf1
    simp [Value.cells] at e2
    subst e2
    exact hs
  obtain ⟨y0, n', _, hlc, g0⟩ := trod_struct1 Try.underlying42 hf
  obtain ⟨l⟩ := cs
  simp only [Value.cells] at hlc g0
  obtain ⟨c0, rfl⟩ := list1 (cs := l) (by simpa using hlc.trans (by kernel_rfl : Try.prog.cellsOf 42 = 1))
  have g1 : DataW.trod enc Try.prog W 0 (fun _ => true) true n' 40 [c0] = some y0 := by simpa [cells40] using g0
  obtain ⟨ls, hrow, hfine⟩ := openLevels g1
  clear hA0 hval0
  refine (lawLook_any hrow hfine hnm).mono fun e W' ⟨he, bel⟩ => ?_
  subst he
  exact ⟨_, rfl, _, _, _, [], _, [], hW', trodAll_mk1 (shut_bool Try.underlying4 _), (trodAll_cons_mk (Below.trod laidOut (by kernel_rfl) (of_decide_eq_true (by kernel_rfl)) k0 bel lt0) (trodAll_cons_mk (Below.trod laidOut (by kernel_rfl) (of_decide_eq_true (by kernel_rfl)) k1 bel lt1) trodAll_mk0)), rfl, bel.frame _, fun h => by cases h⟩

theorem look_holds : Rows.FnExactLookSaid :=
  OpenClaim.holds_of_wide 5 Try.f5 rfl rfl rfl rfl rfl rfl rfl ⟨rfl, rfl, rfl, rfl, rfl⟩ rfl rfl rfl rfl rfl (by kernel_rfl) Try.func5 (by kernel_rfl)
    (of_decide_eq_true (by kernel_rfl)) (by unfold Func.isWrapper; first | (rw [if_pos (by decide +kernel)]; kernel_rfl) | (rw [if_neg (by decide +kernel)]; exact ⟨rfl, rfl⟩))
    (fun os started H enc _ => look_lifted os started H enc)
#print axioms look_holds
end Go.Proofs.Ytflpjfgodkodiaa
