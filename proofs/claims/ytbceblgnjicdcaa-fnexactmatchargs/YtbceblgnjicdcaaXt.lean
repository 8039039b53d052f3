/-
  The program's taking of a token: with none left it gives up.
-/
import Derived.Test.YtbceblgnjicdcaaXs
namespace Go.Proofs.Ytbceblgnjicdcaa
open Go.RowKit
set_option linter.unusedVariables false
set_option linter.unusedSimpArgs false

/-- A code on its way out. -/
abbrev up (c : Int) : Ending := .panicked [{ v := .iface 148 (.int .i64 c), recovered := false }]

set_option maxRecDepth 100000 in
set_option maxHeartbeats 2000000 in
theorem take_none {w : World} {x : Nat} (h : Xs w x []) : Calls Try.prog 110 #[ptr x] w fun e w' => e = up 1 ∧ Below w.heap.size w w' := by
  have H : Hid (Xs w x []) := h
  have hsz := h.lt
  clear h
  go_enter Try.func110, Try.ntmps110
  go_wp2_with fail
  refine (first_none (Xs.fr H (below1 _ _))).mono ?_
  rintro e w1 ⟨rfl, hb1⟩
  have B1 : Hid (Below w.heap.size w w1) := below_more (below1 _ _) hb1 (by simp)
  clear hb1
  rw [show Tk.none.v = tokV 0 0 ⟨#[]⟩ from rfl]
  go_wp2
  exact ⟨rfl, rfl, Below.alloc B1 (Below.size B1) _⟩

theorem Xs.bel {w w' : World} {x : Nat} {rest : List Tk} (h : Xs w x rest) (hb : Below (x + 1) w w') : Xs w' x rest := by
  obtain ⟨fv, h, ht⟩ := h
  refine ⟨fv, h.keep (hb.block _ (Nat.lt_succ_self _)), ?_⟩
  rcases ht with ht | ⟨b, off, n, cap, rfl, hbx, b2, off2, cap2, e, hcap, hlo, hb2, hc⟩
  · exact .inl ht
  · simp at e
    obtain ⟨⟨rfl, rfl⟩, rfl, rfl⟩ := e
    exact .inr ⟨b, off, _, cap, rfl, hbx, b, off, cap, rfl, hcap, hlo, Nat.lt_of_lt_of_le hb2 hb.size, fun j u hj => (hb.cell (p := ⟨b, off + j, none⟩) (by show b < x + 1; omega)).trans (hc j u hj)⟩
theorem Xs.put {w : World} {x : Nat} {fv v : Value} {len : Int} {n : Nat} {r : List Tk} (h : XH w x fv len) (ht : TNb w x v r) (hn : n = r.length) : Xs ((w.setCell ⟨x, 0, none⟩ v).setCell ⟨x, 2, none⟩ (.int .i64 n)) x r := by
  subst hn
  exact ⟨v, (h.front v).leng _, ht.fr ((Fr.set w v).trans (Fr.set _ _))⟩

theorem take_world {w w1 : World} {x n : Nat} {v fv : Value} {len : Int} {r : List Tk} {tc th : Int} {ts : ByteArray} (hsz : x < w.heap.size) (B1 : Below w.heap.size w w1) (hz1 : w.heap.size < w1.heap.size) (X1 : XH w1 x fv len) (q1 : w1.heap[w.heap.size]? = some (.cells #[.int .i64 0, .int .i64 0, .string ⟨#[]⟩] 31)) (ht : TNb w x v r) (hn : n = r.length) :
    ∃ V, V = ((((w1.setCell ⟨x, 0, none⟩ v).setCell ⟨x, 2, none⟩ (.int .i64 n)).setCell ⟨w.heap.size, 0, none⟩ (.int .i64 tc)).setCell ⟨w.heap.size, 1, none⟩ (.int .i64 th)).setCell ⟨w.heap.size, 2, none⟩ (.string ts) ∧
      V.cell? ⟨w.heap.size, 0, none⟩ = some (.int .i64 tc) ∧ V.cell? ⟨w.heap.size, 1, none⟩ = some (.int .i64 th) ∧ V.cell? ⟨w.heap.size, 2, none⟩ = some (.string ts) ∧ Xs V x r ∧ Fr x w V ∧ x < V.heap.size := by
  have hne2 : w.heap.size ≠ x := by omega
  have e00 : (w1.setCell ⟨x, 0, none⟩ v).heap[w.heap.size]? = some (.cells #[.int .i64 0, .int .i64 0, .string ⟨#[]⟩] 31) := (Below.heap_setCell w1 ⟨x, 0, none⟩ _ _ hne2).trans q1
  have e0 : ((w1.setCell ⟨x, 0, none⟩ v).setCell ⟨x, 2, none⟩ (.int .i64 n)).heap[w.heap.size]? = some (.cells #[.int .i64 0, .int .i64 0, .string ⟨#[]⟩] 31) := (Below.heap_setCell _ ⟨x, 2, none⟩ _ _ hne2).trans e00
  have e1 := heap_setCell_same _ w.heap.size 0 _ 31 (.int .i64 tc) e0
  have e2 := heap_setCell_same _ w.heap.size 1 _ 31 (.int .i64 th) e1
  have e3 := heap_setCell_same _ w.heap.size 2 _ 31 (.string ts) e2
  have a0 : Fr x w1 ((w1.setCell ⟨x, 0, none⟩ v).setCell ⟨x, 2, none⟩ (.int .i64 n)) := (Fr.set w1 v).trans (Fr.set _ _)
  have a3 : Xs ((w1.setCell ⟨x, 0, none⟩ v).setCell ⟨x, 2, none⟩ (.int .i64 n)) x r := Xs.put X1 (ht.below B1) hn
  have a4 := ((((Fr.below B1 (by omega)).trans a0).put hsz (Nat.le_refl _) (o := 0) (.int .i64 tc)).put hsz (Nat.le_refl _) (o := 1) (.int .i64 th)).put hsz (Nat.le_refl _) (o := 2) (.string ts)
  have a5 := Xs.bel a3 ((((Below.refl _ _).setCell (p := ⟨w.heap.size, 0, none⟩) hsz (.int .i64 tc)).setCell (p := ⟨w.heap.size, 1, none⟩) hsz (.int .i64 th)).setCell (p := ⟨w.heap.size, 2, none⟩) hsz (.string ts))
  exact ⟨_, rfl, (cell_of_row _ w.heap.size 0 _ 31 _ e3).trans rfl, (cell_of_row _ w.heap.size 1 _ 31 _ e3).trans rfl, (cell_of_row _ w.heap.size 2 _ 31 _ e3).trans rfl, a5, a4, Nat.lt_of_lt_of_le hsz a4.size⟩

theorem TNb.tail {w : World} {x b off n cap : Nat} {t : Tk} {r : List Tk} (hb : b < x) (h : TOn 0 w (.slice (some ⟨b, off, none⟩) (n + 1) cap) (t :: r)) : (cap = 1 → TNb w x (.slice (some ⟨b, off, none⟩) 0 0) r) ∧ (1 < cap → TNb w x (.slice (some ⟨b, off + 3, none⟩) n (cap - 1)) r) ∧ 1 ≤ cap ∧ n + 1 ≤ cap ∧ n = r.length := by
  have hn : n = r.length := by obtain ⟨b2, off2, cap2, e, _⟩ := h; simp at e; exact e.2.1
  have hcap : n + 1 ≤ cap := by obtain ⟨b2, off2, cap2, e, hc, _⟩ := h; simp at e; rw [← e.2.2, List.length_cons, ← hn] at hc; exact hc
  refine ⟨fun h1 => ?_, fun h1 => ?_, by omega, hcap, hn⟩
  · have : r = [] := List.eq_nil_of_length_eq_zero (by omega)
    subst this
    refine .inr ⟨b, off, 0, 0, rfl, hb, b, off, 0, rfl, Nat.le_refl _, Nat.zero_le _, ?_, fun j u hj => by simp [flat] at hj⟩
    obtain ⟨b2, off2, cap2, e, _, _, hbb, _⟩ := h
    simp at e
    rw [e.1.1]; exact hbb
  · have := TOn.drop h (k := 1) (by omega)
    simp only [List.drop_succ_cons, List.drop_zero, Nat.add_sub_cancel] at this
    exact .inr ⟨b, off + 3, n, cap - 1, rfl, hb, by simpa using this⟩

set_option maxRecDepth 100000 in
set_option maxHeartbeats 2000000 in
theorem take_some {w : World} {x : Nat} {t : Tk} {r : List Tk} (h : Xs w x (t :: r)) (hl : r.length ≤ 1048576) : Calls Try.prog 110 #[ptr x] w fun e w' => e = .returned t.v ∧ Xs w' x r ∧ Fr x w w' := by
  have H : Hid (Xs w x (t :: r)) := h
  have hsz := h.lt
  obtain ⟨fv, h, ht⟩ := h
  rcases ht with ⟨rfl, ht⟩ | ⟨b, off, n0, cap, rfl, hb, ht⟩
  · simp at ht
  obtain ⟨n, rfl⟩ : ∃ n, n0 = n + 1 := ⟨n0 - 1, by obtain ⟨b2, off2, cap2, e, _⟩ := ht; simp at e; omega⟩
  have HX : Hid (XH w x (.slice (some ⟨b, off, none⟩) (n + 1) cap) (n + 1)) := by
    have e := (TNb.tail hb ht).2.2.2.2
    have e2 : ((t :: r).length : Int) = (n : Int) + 1 := by rw [List.length_cons]; omega
    show XH _ _ _ _
    rw [← e2]
    exact h
  have hcap : n + 1 ≤ cap := (TNb.tail hb ht).2.2.2.1
  have hnl : n ≤ 1048576 := by rw [(TNb.tail hb ht).2.2.2.2]; exact hl
  have HT : Hid ((cap = 1 → TNb w x (.slice (some ⟨b, off, none⟩) 0 0) r) ∧ (1 < cap → TNb w x (.slice (some ⟨b, off + 3, none⟩) n (cap - 1)) r) ∧ n = r.length) := ⟨(TNb.tail hb ht).1, (TNb.tail hb ht).2.1, (TNb.tail hb ht).2.2.2.2⟩
  clear h ht
  obtain ⟨tc, th, ts⟩ := t
  rw [show (⟨tc, th, ts⟩ : Tk).v = tokV tc th ts from rfl]
  go_enter Try.func110, Try.ntmps110
  go_wp2_with fail
  refine (first_some (Xs.fr H (below1 _ _)) hl).mono ?_
  rintro e w1 ⟨rfl, hb1⟩
  have B1 : Hid (Below w.heap.size w w1) := below_more (below1 _ _) hb1 (by simp)
  have hz1 : w.heap.size < w1.heap.size := by have := hb1.size; simp at this; omega
  have q1 : w1.heap[w.heap.size]? = some (.cells #[.int .i64 0, .int .i64 0, .string ⟨#[]⟩] 31) := by rw [hb1.block _ (by simp)]; exact Array.getElem?_push_size
  clear hb1
  have X1 : XH w1 x (.slice (some ⟨b, off, none⟩) (n + 1) cap) (n + 1) := XH.keep HX (Below.block B1 _ hsz)
  obtain ⟨g0, g1, g2, g3, hsz1, hfz⟩ := X1.cells
  rw [show (⟨tc, th, ts⟩ : Tk).v = tokV tc th ts from rfl]
  have hf2 : ∀ o, w1.frozen? ⟨w.heap.size, o, none⟩ = false := fun o => frozen_row q1 o
  have c0 : w1.cell? ⟨w.heap.size, 0, none⟩ = some (.int .i64 0) := by rw [cell_of_row w1 _ _ _ 31 _ q1]; rfl
  have c1 : w1.cell? ⟨w.heap.size, 1, none⟩ = some (.int .i64 0) := by rw [cell_of_row w1 _ _ _ 31 _ q1]; rfl
  have c2 : w1.cell? ⟨w.heap.size, 2, none⟩ = some (.string ⟨#[]⟩) := by rw [cell_of_row w1 _ _ _ 31 _ q1]; rfl
  have hne : x ≠ w.heap.size := by omega
  have hne2 : w.heap.size ≠ x := by omega
  have h1n : (1 : Int) ≤ (n : Int) + 1 := by omega
  have h1c : (1 : Int) ≤ (cap : Int) := by omega
  have hnc : (n : Int) + 1 ≤ (cap : Int) := by omega
  have hn1 : (n : Int) + 1 - 1 = (n : Int) := by omega
  by_cases hc1 : cap = 1
  · subst hc1
    obtain rfl : n = 0 := by omega
    obtain ⟨V, hV, z0, z1, z2, R1, R2, R3⟩ := take_world (tc := tc) (th := th) (ts := ts) hsz B1 hz1 X1 q1 (HT.1 rfl) HT.2.2
    have R : Hid (Xs V x r ∧ Fr x w V ∧ x < V.heap.size) := ⟨R1, R2, R3⟩
    have HV : Hid (V = ((((w1.setCell ⟨x, 0, none⟩ (.slice (some ⟨b, off, none⟩) 0 0)).setCell ⟨x, 2, none⟩ (.int .i64 0)).setCell ⟨w.heap.size, 0, none⟩ (.int .i64 tc)).setCell ⟨w.heap.size, 1, none⟩ (.int .i64 th)).setCell ⟨w.heap.size, 2, none⟩ (.string ts)) := hV
    have Z : Hid (V.cell? ⟨w.heap.size, 0, none⟩ = some (.int .i64 tc) ∧ V.cell? ⟨w.heap.size, 1, none⟩ = some (.int .i64 th) ∧ V.cell? ⟨w.heap.size, 2, none⟩ = some (.string ts)) := ⟨z0, z1, z2⟩
    clear R1 R2 R3 hV z0 z1 z2 X1 q1
    go_wp2
    rw [← show V = _ from HV]
    have y0 := Lib.cell?_alloc_some (.cells #[.int .i64 tc, .int .i64 th, .string ts] 31) Z.1
    have y1 := Lib.cell?_alloc_some (.cells #[.int .i64 tc, .int .i64 th, .string ts] 31) Z.2.1
    have y2 := Lib.cell?_alloc_some (.cells #[.int .i64 tc, .int .i64 th, .string ts] 31) Z.2.2
    exact bodyPost_ret (v := tokV tc th ts) (by simp [results, Try.results110, go_sem, y0, y1, y2]; try rfl) rfl ⟨rfl, Xs.fr R.1 (below1 _ _), R.2.1.trans (Fr.below (below1 _ _) (Nat.le_of_lt R.2.2))⟩
  · have hc2 : 1 < cap := by omega
    have hc3 : ¬ cap - 1 = 0 := by omega
    obtain ⟨V, hV, z0, z1, z2, R1, R2, R3⟩ := take_world (tc := tc) (th := th) (ts := ts) hsz B1 hz1 X1 q1 (HT.2.1 hc2) HT.2.2
    have R : Hid (Xs V x r ∧ Fr x w V ∧ x < V.heap.size) := ⟨R1, R2, R3⟩
    have HV : Hid (V = ((((w1.setCell ⟨x, 0, none⟩ (.slice (some ⟨b, off + 3, none⟩) n (cap - 1))).setCell ⟨x, 2, none⟩ (.int .i64 n)).setCell ⟨w.heap.size, 0, none⟩ (.int .i64 tc)).setCell ⟨w.heap.size, 1, none⟩ (.int .i64 th)).setCell ⟨w.heap.size, 2, none⟩ (.string ts)) := hV
    have Z : Hid (V.cell? ⟨w.heap.size, 0, none⟩ = some (.int .i64 tc) ∧ V.cell? ⟨w.heap.size, 1, none⟩ = some (.int .i64 th) ∧ V.cell? ⟨w.heap.size, 2, none⟩ = some (.string ts)) := ⟨z0, z1, z2⟩
    clear R1 R2 R3 hV z0 z1 z2 X1 q1
    go_wp2
    rw [← show V = _ from HV]
    have y0 := Lib.cell?_alloc_some (.cells #[.int .i64 tc, .int .i64 th, .string ts] 31) Z.1
    have y1 := Lib.cell?_alloc_some (.cells #[.int .i64 tc, .int .i64 th, .string ts] 31) Z.2.1
    have y2 := Lib.cell?_alloc_some (.cells #[.int .i64 tc, .int .i64 th, .string ts] 31) Z.2.2
    exact bodyPost_ret (v := tokV tc th ts) (by simp [results, Try.results110, go_sem, y0, y1, y2]; try rfl) rfl ⟨rfl, Xs.fr R.1 (below1 _ _), R.2.1.trans (Fr.below (below1 _ _) (Nat.le_of_lt R.2.2))⟩
end Go.Proofs.Ytbceblgnjicdcaa
