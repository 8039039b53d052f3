/-
  The walks of impl.CatsOk and of the law on it.
-/
import Derived.Test.YtflpjfgodkodiaaTable
namespace Go.Proofs.Ytflpjfgodkodiaa
open Go.RowKit
set_option linter.unusedVariables false
set_option linter.unusedSimpArgs false

theorem tableOf_any {v : Value} {zs : List Int} {w : World} (h : Row w v zs) :
    Calls Try.prog 123 #[v] w fun e w' => (∃ gs : List Int, e = .returned (.tuple #[.agg (cellsI gs), .bool (catsB zs)]) ∧ gs.length = 256 ∧ (catsB zs = true → gs = zs)) ∧ Below w.heap.size w w' := by
  obtain ⟨ao, n, cap, rfl, hn, hr⟩ := h
  by_cases hl : n = 256
  · subst hl
    obtain ⟨b, off, rfl, hb, hc⟩ := hr (by omega)
    refine (tableOf_full hn hb hc).mono ?_
    rintro e w' ⟨rfl, hb'⟩
    exact ⟨⟨zs, rfl, hn, fun _ => rfl⟩, hb'⟩
  · refine (tableOf_short hl).mono ?_
    rintro e w' ⟨⟨gs, rfl, hgl⟩, hb'⟩
    have hc := catsB_len (zs := zs) (by omega)
    rw [hc]
    exact ⟨⟨gs, rfl, hgl, fun h => by cases h⟩, hb'⟩

set_option maxRecDepth 20000 in
set_option maxHeartbeats 1000000 in
theorem implCatsOk_any {v : Value} {zs : List Int} {w : World} (h : Row w v zs) : Calls Try.prog 88 #[v] w fun e w' => e = .returned (.bool (catsB zs)) ∧ Below w.heap.size w w' := by
  go_enter Try.func88, Try.ntmps88
  go_wp2_with fail
  refine (tableOf_any h).mono ?_
  rintro e w1 ⟨⟨gs, rfl, hgl, _⟩, hb1⟩
  obtain ⟨hv, hi⟩ := zero_of_info Try.info161
  rw [cellsI_zero] at hv
  obtain ⟨os, ho⟩ : ∃ os : List Int, os = List.replicate 256 0 := ⟨_, rfl⟩
  rw [← ho] at hv
  have hol : os.length = 256 := by rw [ho, List.length_replicate]
  have hcs : (cellsI gs).size = 256 := by rw [cellsI_size, hgl]
  have hst := (Blk.new w1 os).store hol hgl
  have HB : Hid (Below w.heap.size w ((w1.alloc (Obj.cells (cellsI os) 161)).setRow w1.heap.size (cellsI gs))) := Below.setRow (hb1.alloc hb1.size _) hb1.size _
  clear ho hi hol hb1
  go_wp2
  go_ret
  exact ⟨rfl, HB⟩

theorem Copied.row {B n : Nat} {w w' : World} {zs : List Int} (h : Copied B n w w' zs) : Row w' (.slice (some ⟨B, 0, none⟩) n n) zs := Row.own h.1 h.2.1 h.2.2.2
end Go.Proofs.Ytflpjfgodkodiaa
