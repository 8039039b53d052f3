/-
  What a font that can be is.
-/
import Derived.Test.YtggcfgbpameppaaSpg
namespace Go.Proofs.Ytggcfgbpameppaa
open Go.RowKit Go.Maps
set_option linter.unusedVariables false
set_option linter.unusedSimpArgs false

/-- A font that can be. -/
def fontB (f : Fo) (gs ps : List Q4) : Bool := decide (f.s.size ≤ 40) && decide (ps.length ≤ 2000) && gsB gs && psB gs ps && spB f.g0 f.g1 f.g2 f.g3 f.g4 && szB f.q && szB f.r

theorem gB_code {x : Q4} (h : gB x = true) : 0 ≤ x.a ∧ x.a ≤ 255 := by
  simp only [gB, cdB, Bool.and_eq_true, decide_eq_true_eq] at h
  exact h.1.1.1
theorem asc_room {gs : List Q4} (h1 : AllG gs) (h2 : AscG gs) : ∀ k, k < gs.length → (k : Int) ≤ (gs.getD k Q4.none).a := by
  intro k
  induction k with
  | zero =>
    intro hk
    exact (gB_code (h1 0 hk)).1
  | succ k ih =>
    intro hk
    have := ih (by omega)
    have h3 := h2 k (by omega)
    simp only [glB2, decide_eq_true_eq] at h3
    omega
theorem gs_len {gs : List Q4} (h : gsB gs = true) : gs.length ≤ 256 := by
  obtain ⟨h1, h2⟩ := of_decide_eq_true h
  by_cases hl : gs.length ≤ 256
  · exact hl
  · have h3 := asc_room h1 h2 256 (by omega)
    have h4 := (gB_code (h1 256 (by omega))).2
    omega
theorem gs_long {gs : List Q4} (h : 256 < gs.length) : gsB gs = false := by
  cases hg : gsB gs
  · rfl
  · have := gs_len hg
    omega
theorem gs_back {gs : List Q4} {j : Nat} (hj : j + 1 < gs.length) (h : glB2 (gs.getD j Q4.none) (gs.getD (j + 1) Q4.none) = false) : gsB gs = false := decide_eq_false fun hp => by rw [hp.2 j (by omega)] at h; cases h
theorem ps_back {gs ps : List Q4} {j : Nat} (hj : j + 1 < ps.length) (h : plB (ps.getD j Q4.none) (ps.getD (j + 1) Q4.none) = false) : psB gs ps = false := decide_eq_false fun hp => by rw [hp.2 j (by omega)] at h; cases h
theorem hasB_iff {gs : List Q4} {c : Int} : hasB gs c = true ↔ ∃ k, k < gs.length ∧ (gs.getD k Q4.none).a = c := by
  unfold hasB look1
  rw [List.find?_isSome]
  constructor
  · rintro ⟨x, hx, hc⟩
    rw [List.mem_reverse] at hx
    obtain ⟨k, hk, rfl⟩ := List.getElem_of_mem hx
    exact ⟨k, hk, by rw [List.getD_eq_getElem?_getD, List.getElem?_eq_getElem hk]; simpa using hc⟩
  · rintro ⟨k, hk, hc⟩
    refine ⟨gs.getD k Q4.none, ?_, by simpa using hc⟩
    rw [List.mem_reverse, List.getD_eq_getElem?_getD, List.getElem?_eq_getElem hk]
    exact List.getElem_mem _
theorem gi_neg {gs : List Q4} (h : AscG gs) (c : Int) : decide (gi gs c < 0) = !hasB gs c := by
  cases hb : hasB gs c
  · rw [gi_none]
    · rfl
    · intro k hk hc
      rw [hasB_iff.2 ⟨k, hk, hc⟩] at hb
      cases hb
  · obtain ⟨k, hk, hc⟩ := hasB_iff.1 hb
    rw [gi_at h hk hc]
    simp

/-- The font in its box. -/
def BoxF (wr : World) (B : Nat) (cs : Array Value) : Prop := wr.heap[B]? = some (.cells cs 34 (0, 0))
theorem BoxF.lt {wr : World} {B : Nat} {cs : Array Value} (h : BoxF wr B cs) : B < wr.heap.size := (Array.getElem?_eq_some_iff.1 h).1
theorem BoxF.below {wr w' : World} {B : Nat} {cs : Array Value} (h : BoxF wr B cs) (hb : Below wr.heap.size wr w') : BoxF w' B cs := (hb.block _ h.lt).trans h
theorem BoxF.at {wr : World} {B : Nat} {v0 v1 v2 v3 v4 v5 v6 v7 v8 v9 : Value} (h : BoxF wr B #[v0, v1, v2, v3, v4, v5, v6, v7, v8, v9]) : wr.cell? ⟨B, 0, none⟩ = some v0 ∧ wr.cell? ⟨B, 1, none⟩ = some v1 ∧ wr.cell? ⟨B, 2, none⟩ = some v2 ∧ wr.cell? ⟨B, 3, none⟩ = some v3 ∧ wr.cell? ⟨B, 4, none⟩ = some v4 ∧ wr.cell? ⟨B, 5, none⟩ = some v5 ∧ wr.cell? ⟨B, 6, none⟩ = some v6 ∧ wr.cell? ⟨B, 7, none⟩ = some v7 ∧ wr.cell? ⟨B, 8, none⟩ = some v8 ∧ wr.cell? ⟨B, 9, none⟩ = some v9 :=
  ⟨by rw [cell_of_row _ _ _ _ _ _ h]; rfl, by rw [cell_of_row _ _ _ _ _ _ h]; rfl, by rw [cell_of_row _ _ _ _ _ _ h]; rfl, by rw [cell_of_row _ _ _ _ _ _ h]; rfl, by rw [cell_of_row _ _ _ _ _ _ h]; rfl, by rw [cell_of_row _ _ _ _ _ _ h]; rfl, by rw [cell_of_row _ _ _ _ _ _ h]; rfl, by rw [cell_of_row _ _ _ _ _ _ h]; rfl, by rw [cell_of_row _ _ _ _ _ _ h]; rfl, by rw [cell_of_row _ _ _ _ _ _ h]; rfl⟩

end Go.Proofs.Ytggcfgbpameppaa
