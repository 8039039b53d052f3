/-
  The walks of impl.CatsOk and of the law on it.
-/
import Derived.Test.YthecefbejopigaaTable
namespace Go.Proofs.Ythecefbejopigaa
open Go.RowKit
set_option linter.unusedVariables false
set_option linter.unusedSimpArgs false

theorem tableOf_any {v : Value} {zs : List Int} {w : World} (h : Row w v zs) :
    Calls Try.prog 33 #[v] w fun e w' => (∃ gs : List Int, e = .returned (.tuple #[.agg (cellsI gs), .bool (catsB zs)]) ∧ gs.length = 256 ∧ (catsB zs = true → gs = zs)) ∧ Below w.heap.size w w' := by
  obtain ⟨ao, n, cap, rfl, hn, hr⟩ := h
  by_cases hl : n = 256
  · subst hl
    obtain ⟨b, off, rfl, hb, hc⟩ := hr (by omega)
    refine (tableOf_full hn hb hc).mono ?_
    rintro e w' ⟨rfl, hb'⟩
    exact ⟨⟨zs, rfl, hn, fun _ => rfl⟩, hb'⟩
  · refine (tableOf_short hl).mono ?_
    rintro e w' ⟨⟨gs, rfl, hgl⟩, hb'⟩
    have hc := catsB_len (zs := zs) (by omega)
    rw [hc]
    exact ⟨⟨gs, rfl, hgl, fun h => by cases h⟩, hb'⟩

set_option maxRecDepth 20000 in
set_option maxHeartbeats 1000000 in
theorem implCatsOk_any {v : Value} {zs : List Int} {w : World} (h : Row w v zs) : Calls Try.prog 11 #[v] w fun e w' => e = .returned (.bool (catsB zs)) ∧ Below w.heap.size w w' := by
  go_enter Try.func11, Try.ntmps11
  go_wp2_with fail
  refine (tableOf_any h).mono ?_
  rintro e w1 ⟨⟨gs, rfl, hgl, _⟩, hb1⟩
  obtain ⟨hv, hi⟩ := zero_of_info Try.info53
  rw [cellsI_zero] at hv
  obtain ⟨os, ho⟩ : ∃ os : List Int, os = List.replicate 256 0 := ⟨_, rfl⟩
  rw [← ho] at hv
  have hol : os.length = 256 := by rw [ho, List.length_replicate]
  have hcs : (cellsI gs).size = 256 := by rw [cellsI_size, hgl]
  have hst := (Blk.new w1 os).store hol hgl
  have HB : Hid (Below w.heap.size w ((w1.alloc (Obj.cells (cellsI os) 53)).setRow w1.heap.size (cellsI gs))) := Below.setRow (hb1.alloc hb1.size _) hb1.size _
  clear ho hi hol hb1
  go_wp2
  go_ret
  exact ⟨rfl, HB⟩

theorem Copied.row {B n : Nat} {w w' : World} {zs : List Int} (h : Copied B n w w' zs) : Row w' (.slice (some ⟨B, 0, none⟩) n n) zs := Row.own h.1 h.2.1 h.2.2.2

set_option maxHeartbeats 1000000 in
theorem lawCatsOk_any {v : Value} {zs : List Int} {w : World} (h : Row w v zs) : Calls Try.prog 3 #[v] w fun e w' => e = .returned (.bool true) ∧ Below w.heap.size w w' := by
  have hrow := h
  obtain ⟨ao, n, cap, rfl, hn, hr⟩ := h
  by_cases hsz : n ≤ 1048576
  · subst hn
    have HR : Hid (Row w (.slice ao zs.length cap) zs) := hrow
    clear hrow hr
    go_enter Try.func3, Try.ntmps3
    go_wp2_with fail
    refine (toInts_any HR hsz).mono ?_
    rintro e w1 ⟨rfl, hc1⟩
    go_wp2_with fail
    refine (specCatsOk_any hc1.row).mono ?_
    rintro e w2 ⟨rfl, rfl⟩
    have HR1 : Hid (Row w2 (.slice ao zs.length cap) zs) := Row.below HR hc1.2.2.1
    go_wp2_with fail
    refine (toInts_any HR1 hsz).mono ?_
    rintro e w3 ⟨rfl, hc3⟩
    go_wp2_with fail
    refine (implCatsOk_any hc3.row).mono ?_
    rintro e w4 ⟨rfl, hb4⟩
    have HR4 : Hid (Row w4 (.slice ao zs.length cap) zs) := Row.below (Row.below HR1 hc3.2.2.1) hb4
    have HX4 : Hid (Row w4 (.slice (some ⟨w2.heap.size, 0, none⟩) zs.length zs.length) zs) := Row.below hc3.row hb4
    go_wp2_with fail
    refine (toInts_any HR4 hsz).mono ?_
    rintro e w5 ⟨rfl, hc5⟩
    go_wp2_with fail
    refine (eqInts_any (Row.below HX4 hc5.2.2.1) hc5.row hsz).mono ?_
    rintro e w6 ⟨rfl, hb6⟩
    have HF : Hid (Below w.heap.size w w6) := by
      have s1 := hc1.2.2.1.size
      have s3 := hc3.2.2.1.size
      have s4 := hb4.size
      have s5 := hc5.2.2.1.size
      exact (((hc1.2.2.1.trans (hc3.2.2.1.mono s1)).trans (hb4.mono (by omega))).trans (hc5.2.2.1.mono (by omega))).trans (hb6.mono (by omega))
    clear hb4 hb6 hc1 hc3 hc5
    go_wp2
    go_ret
    exact ⟨rfl, HF⟩
  · have hgt : (1048576 : Int) < (n : Int) := by omega
    go_enter Try.func3, Try.ntmps3
    go_wp2
    go_ret
    exact ⟨rfl, Below.refl _ _⟩
end Go.Proofs.Ythecefbejopigaa
