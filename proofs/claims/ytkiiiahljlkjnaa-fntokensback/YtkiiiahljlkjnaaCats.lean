/-
  The walks of impl.CatsOk and of the law on it.
-/
import Derived.Test.YtkiiiahljlkjnaaTable
namespace Go.Proofs.Ytkiiiahljlkjnaa
open Go.RowKit
set_option linter.unusedVariables false
set_option linter.unusedSimpArgs false

theorem tableOf_any {v : Value} {zs : List Int} {w : World} (h : Row w v zs) :
    Calls Try.prog 40 #[v] w fun e w' => (∃ gs : List Int, e = .returned (.tuple #[.agg (cellsI gs), .bool (catsB zs)]) ∧ gs.length = 256 ∧ (catsB zs = true → gs = zs)) ∧ Below w.heap.size w w' := by
  obtain ⟨ao, n, cap, rfl, hn, hr⟩ := h
  by_cases hl : n = 256
  · subst hl
    obtain ⟨b, off, rfl, hb, hc⟩ := hr (by omega)
    refine (tableOf_full hn hb hc).mono ?_
    rintro e w' ⟨rfl, hb'⟩
    exact ⟨⟨zs, rfl, hn, fun _ => rfl⟩, hb'⟩
  · refine (tableOf_short hl).mono ?_
    rintro e w' ⟨⟨gs, rfl, hgl⟩, hb'⟩
    have hc := catsB_len (zs := zs) (by omega)
    rw [hc]
    exact ⟨⟨gs, rfl, hgl, fun h => by cases h⟩, hb'⟩
end Go.Proofs.Ytkiiiahljlkjnaa
