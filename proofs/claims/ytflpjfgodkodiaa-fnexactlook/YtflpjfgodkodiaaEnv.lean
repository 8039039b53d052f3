/-
  Environments: the walks of the functions that weigh, copy and compare them.
-/
import Derived.Test.YtflpjfgodkodiaaLevs
import Derived.Deep.RegionWith
namespace Go.Proofs.Ytflpjfgodkodiaa
open Go.RowKit
set_option linter.unusedVariables false
set_option linter.unusedSimpArgs false

abbrev SmE (xs : List Lv) : Prop := xs.length ≤ 1048576 ∧ ∀ i, i < xs.length → SmL (xs.getD i Lv.none)
abbrev FnE (xs : List Lv) : Prop := xs.length ≤ 9223372036854775807 ∧ ∀ i, i < xs.length → FnL (xs.getD i Lv.none)
set_option maxHeartbeats 2000000 in
theorem szEnv_any {v : Value} {xs : List Lv} {w : World} {l : Int} (h : LRow 0 w v xs) (hf : FnE xs) (hl0 : 0 ≤ l) (hl1 : l ≤ 1048576) :
    Calls Try.prog 13 #[.agg #[v], .int .i64 l] w fun e w' => (∃ m : Int, e = .returned (.int .i64 m) ∧ m ≤ l ∧ (0 ≤ m → SmE xs)) ∧ Below w.heap.size w w' := by
  have HX : Hid (LRow 0 w v xs) := h
  obtain ⟨ao, cap, rfl⟩ := h.shape
  have HF : Hid (FnE xs) := hf
  clear h hf
  go_enter Try.func13, Try.ntmps13
  go_wp2_with fail
  refine (szLevels_any (SRow.below lvStable HX (below1 _ _)) HF hl0 hl1).mono ?_
  rintro e w1 ⟨⟨m, rfl, hml, hm⟩, hb1⟩
  have B1 : Hid (Below w.heap.size w w1) := below_more (below1 _ _) hb1 (by simp)
  have HM : Hid (0 ≤ m → SmE xs) := hm
  clear hb1 hm
  by_cases hneg : m < 0
  · go_wp2
    go_ret
    exact ⟨⟨-1, rfl, by omega, fun h => by omega⟩, B1⟩
  · go_wp2
    go_ret
    exact ⟨⟨m, rfl, by omega, HM⟩, B1⟩

set_option maxHeartbeats 2000000 in
theorem toEnv_any {v : Value} {xs : List Lv} {w : World} (h : LRow 0 w v xs) (hs : SmE xs) :
    Calls Try.prog 15 #[.agg #[v]] w fun e w' => ∃ v', e = .returned (.agg #[v']) ∧ LRow w.heap.size w' v' xs ∧ Below w.heap.size w w' := by
  have HX : Hid (LRow 0 w v xs) := h
  obtain ⟨ao, cap, rfl⟩ := h.shape
  have HS : Hid (SmE xs) := hs
  clear h hs
  go_enter Try.func15, Try.ntmps15
  go_wp2_with fail
  refine (toLevels_any (SRow.below lvStable HX (below3 _ _ _ _)) HS).mono ?_
  rintro e w1 ⟨u, rfl, hp1, hb1⟩
  obtain ⟨a1, c1, rfl⟩ := hp1.shape
  have hz1 : w.heap.size + 1 + 1 < w1.heap.size := by have := hb1.size; simp at this; omega
  have hy1 : w.heap.size + 1 < w1.heap.size := by omega
  have hx1 : w.heap.size < w1.heap.size := by omega
  obtain ⟨hc1, hf1⟩ := bcell hb1
  have B1 : Hid (Below w.heap.size w w1) := below_more (below3 _ _ _ _) hb1 (by simp; omega)
  simp only [World.size_alloc, World.size_setCell] at hc1 hf1
  have P2 : Hid (LRow (w.heap.size + 1 + 1 + 1) w1 (.slice a1 xs.length c1) xs) := hp1.mono lvStable (by simp)
  clear hb1 hp1
  go_wp2
  refine bodyPost_ret (v := .agg #[.slice a1 xs.length c1]) (by simp [results, Try.results15, go_sem, hc1, hx1, hy1, hz1]) rfl ⟨_, rfl, ?_, ?_⟩
  · exact SRow.mono lvStable (SRow.abv lvStable (SRow.abv lvStable P2 (Abv.set (by omega) _)) (Abv.set (by omega) _)) (by omega)
  · exact Below.setCell (Below.setCell B1 (by first | (simp; done) | (simp; omega)) _) (by first | (simp; done) | (simp; omega)) _

set_option maxHeartbeats 2000000 in
theorem eqEnv_same {v u : Value} {xs : List Lv} {w : World} (h : LRow 0 w v xs) (g : LRow 0 w u xs) (hs : SmE xs) :
    Calls Try.prog 17 #[.agg #[v], .agg #[u]] w fun e w' => e = .returned (.bool true) ∧ Below w.heap.size w w' := by
  have HX : Hid (LRow 0 w v xs ∧ LRow 0 w u xs) := ⟨h, g⟩
  obtain ⟨ao, cap, rfl⟩ := h.shape
  obtain ⟨ao2, cap2, rfl⟩ := g.shape
  have HS : Hid (SmE xs) := hs
  clear h g hs
  go_enter Try.func17, Try.ntmps17
  go_wp2_with fail
  refine (eqLevels_same (SRow.below lvStable HX.1 (below2 _ _ _)) (SRow.below lvStable HX.2 (below2 _ _ _)) HS).mono ?_
  rintro e w1 ⟨rfl, hb1⟩
  have B1 : Hid (Below w.heap.size w w1) := below_more (below2 _ _ _) hb1 (by simp; omega)
  clear hb1
  go_wp2
  go_ret
  exact ⟨rfl, B1⟩
end Go.Proofs.Ytflpjfgodkodiaa
