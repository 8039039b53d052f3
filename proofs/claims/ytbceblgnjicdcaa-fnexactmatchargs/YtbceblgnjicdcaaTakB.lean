/-
  The specification's state of matching: a token is taken.
-/
import Derived.Test.YtbceblgnjicdcaaTak
namespace Go.Proofs.Ytbceblgnjicdcaa
open Go.RowKit
set_option linter.unusedVariables false
set_option linter.unusedSimpArgs false

theorem frozen_row {w : World} {g : Nat} {cur : Array Value} {ty : Nat} (h : w.heap[g]? = some (.cells cur ty)) (o : Nat) : w.frozen? ⟨g, o, none⟩ = false := by simp [World.frozen?, h]
theorem St.bel {w w' : World} {s : Nat} {rest : List Tk} {code : Int} (h : St w s rest code) (hb : Below (s + 1) w w') : St w' s rest code := by
  obtain ⟨ib, cap, hib, hh, ht⟩ := h
  refine ⟨ib, cap, hib, ?_, ?_⟩
  · unfold StH
    rw [hb.block s (Nat.lt_succ_self _)]
    exact hh
  · obtain ⟨b2, off2, cap2, e, hcap, hlo, hb2, hc⟩ := ht
    simp at e
    obtain ⟨⟨rfl, rfl⟩, rfl⟩ := e
    exact ⟨ib, 0, cap, by simp, hcap, hlo, Nat.lt_of_lt_of_le hb2 hb.size, fun j u hj => (hb.cell (p := ⟨ib, 0 + j, none⟩) (by show ib < s + 1; omega)).trans (hc j u hj)⟩
theorem Fr.put {s g o : Nat} {a w : World} (h : Fr s a w) (hs : s < a.heap.size) (hg : a.heap.size ≤ g) (x : Value) : Fr s a (w.setCell ⟨g, o, none⟩ x) :=
  ⟨h.1.setCell (p := ⟨g, o, none⟩) (by simp; omega) x, by have := h.2.size; simpa using this, fun k h1 h2 => (Below.heap_setCell w ⟨g, o, none⟩ x k (by simp; omega)).trans (h.2.block k h1 h2)⟩
theorem rev_get (t : Tk) (r : List Tk) : ((t :: r).reverse).getD r.length Tk.none = t := by simp [List.getD]
theorem rev_take (t : Tk) (r : List Tk) : ((t :: r).reverse).take r.length = r.reverse := by
  rw [List.reverse_cons, List.take_append_of_le_length (by simp)]
  exact List.take_of_length_le (by simp)

set_option maxRecDepth 100000 in
set_option maxHeartbeats 2000000 in
theorem l4Take_any {w : World} {s : Nat} {rest : List Tk} {code : Int} (h : St w s rest code) (hl : rest.length ≤ 1048576) :
    Calls Try.prog 104 #[ptr s] w fun e w' => e = .returned (tkT rest code).v ∧ St w' s (tkR rest code) (tkC rest code) ∧ Fr s w w' := by
  have H : Hid (St w s rest code) := h
  obtain ⟨ib, cap, hib, hh, ht⟩ := h
  obtain ⟨g1, g3, g4, g5, g6, hsz⟩ := StH.cells hh
  have HH : Hid (StH w s (.slice (some ⟨ib, 0, none⟩) rest.length cap) code) := hh
  have HT : Hid (TOn 0 w (.slice (some ⟨ib, 0, none⟩) rest.length cap) rest.reverse) := ht
  clear hh ht
  go_enter Try.func104, Try.ntmps104
  by_cases h0 : code = 0
  · subst h0
    match rest with
    | [] =>
      go_wp2_with fail
      refine (l4Has_any (St.fr H (below1 _ _)) hl).mono ?_
      rintro e w1 ⟨rfl, hb1⟩
      have B1 : Hid (Below w.heap.size w w1) := below_more (below1 _ _) hb1 (by simp)
      have hs1 : StH w1 s (.slice (some ⟨ib, 0, none⟩) ([] : List Tk).length cap) 0 := by unfold StH; rw [Below.block B1 _ hsz]; exact HH
      have hz1 : w.heap.size < w1.heap.size := by have := hb1.size; simp at this; omega
      have q1 : w1.heap[w.heap.size]? = some (.cells #[.int .i64 0, .int .i64 0, .string ⟨#[]⟩] 31) := by rw [hb1.block _ (by simp)]; exact Array.getElem?_push_size
      clear hb1
      go_wp2_with fail
      refine (l4Err_any hs1 1).mono ?_
      rintro e w2 ⟨rfl, hs2, hf2⟩
      have R : Hid (St w2 s [] 1 ∧ Fr s w w2) := by
        refine ⟨⟨ib, cap, hib, hs2, TOn.fr (TOn.below HT B1) hib hf2⟩, (Fr.below B1 (by omega)).trans hf2⟩
      have q2 : w2.heap[w.heap.size]? = some (.cells #[.int .i64 0, .int .i64 0, .string ⟨#[]⟩] 31) := by rw [hf2.2.block _ (by omega) hz1]; exact q1
      have f2 := frozen_row q2
      have hz2 : w.heap.size < w2.heap.size := Nat.lt_of_lt_of_le hz1 hf2.size
      have c0 : w2.cell? ⟨w.heap.size, 0, none⟩ = some (.int .i64 0) := by rw [cell_of_row w2 _ _ _ 31 _ q2]; rfl
      have c1 : w2.cell? ⟨w.heap.size, 1, none⟩ = some (.int .i64 0) := by rw [cell_of_row w2 _ _ _ 31 _ q2]; rfl
      have c2 : w2.cell? ⟨w.heap.size, 2, none⟩ = some (.string ⟨#[]⟩) := by rw [cell_of_row w2 _ _ _ 31 _ q2]; rfl
      clear hs2 hf2 hs1 q2 q1
      go_wp2
      refine bodyPost_ret (v := Tk.none.v) (by simp [results, Try.results104, go_sem, c0, c1, c2]; exact ⟨rfl, rfl, rfl⟩) rfl ⟨rfl, ?_, ?_⟩
      · exact St.bel R.1 (((Below.refl _ _).setCell (by simp; omega) _).setCell (by simp; omega) _ |>.setCell (by simp; omega) _)
      · exact ((R.2.put hsz (Nat.le_refl _) _).put hsz (Nat.le_refl _) _).put hsz (Nat.le_refl _) _
    | t :: r =>
      have hl' : r.length + 1 ≤ 1048576 := hl
      obtain ⟨n, hn⟩ : ∃ n, n = r.length := ⟨_, rfl⟩
      have f := flat_get (t :: r).reverse r.length (by simp)
      rw [rev_get, ← hn] at f
      have HT2 := HT
      obtain ⟨b2, off2, cap2, e, hcap, hlo, hb2, hc⟩ := HT2
      simp at e
      obtain ⟨⟨rfl, rfl⟩, rfl⟩ := e
      have x0 := hc _ _ f.1
      have x1 := hc _ _ f.2.1
      have x2 := hc _ _ f.2.2
      simp only [Nat.zero_add] at x0 x1 x2
      clear hc f
      have HT3 : Hid (TOn 0 w (.slice (some ⟨ib, 0, none⟩) n cap) r.reverse) := by
        have := TOn.take HT (k := r.length) (by simp)
        rw [rev_take] at this
        rw [hn]; exact this
      have HHn : Hid (StH w s (.slice (some ⟨ib, 0, none⟩) (n + 1) cap) 0) := by rw [hn]; exact HH
      have hcap' : n + 1 ≤ cap := by rw [hn]; simpa using hcap
      have g1' : w.cell? ⟨s, 1, none⟩ = some (.slice (some ⟨ib, 0, none⟩) (n + 1) cap) := by rw [hn]; exact g1
      rw [← hn] at hl'
      have HN : Hid (n = r.length) := hn
      clear hcap g1 HT HH hn
      go_wp2_with fail
      refine (l4Has_any (St.fr H (below1 _ _)) hl).mono ?_
      rintro e w1 ⟨rfl, hb1⟩
      have B1 : Hid (Below w.heap.size w w1) := below_more (below1 _ _) hb1 (by simp)
      have hz1 : w.heap.size < w1.heap.size := by have := hb1.size; simp at this; omega
      have HS1 : Hid (StH w1 s (.slice (some ⟨ib, 0, none⟩) (n + 1) cap) 0) := by show StH _ _ _ _; unfold StH; rw [Below.block B1 _ hsz]; exact HHn
      obtain ⟨k1, k3, k4, k5, k6, ksz⟩ := StH.cells HS1
      have hfz := StH.frozen HS1
      have y0 := (Below.cell B1 (p := ⟨ib, n * 3, none⟩) hb2).trans x0
      have y1 := (Below.cell B1 (p := ⟨ib, n * 3 + 1, none⟩) hb2).trans x1
      have y2 := (Below.cell B1 (p := ⟨ib, n * 3 + 2, none⟩) hb2).trans x2
      have hbw : ib < w1.heap.size := by omega
      have q1 : w1.heap[w.heap.size]? = some (.cells #[.int .i64 0, .int .i64 0, .string ⟨#[]⟩] 31) := by rw [hb1.block _ (by simp)]; exact Array.getElem?_push_size
      have Q1 : Hid (w1.heap[w.heap.size]? = some (.cells #[.int .i64 0, .int .i64 0, .string ⟨#[]⟩] 31)) := q1
      have g0 : ∀ o, w1.frozen? ⟨w.heap.size, o, none⟩ = false := fun o => frozen_row q1 o
      have c0 : w1.cell? ⟨w.heap.size, 0, none⟩ = some (.int .i64 0) := by rw [cell_of_row w1 _ _ _ 31 _ q1]; rfl
      have c1 : w1.cell? ⟨w.heap.size, 1, none⟩ = some (.int .i64 0) := by rw [cell_of_row w1 _ _ _ 31 _ q1]; rfl
      have c2 : w1.cell? ⟨w.heap.size, 2, none⟩ = some (.string ⟨#[]⟩) := by rw [cell_of_row w1 _ _ _ 31 _ q1]; rfl
      have hne1 : s ≠ w.heap.size := by omega
      have hne2 : w.heap.size ≠ s := by omega
      obtain ⟨c, h, st⟩ := t
      dsimp only at y0 y1 y2
      have a1 := Fr.set (s := s) (o := 1) w1 (.slice (some ⟨ib, 0, none⟩) n cap)
      have e0 : (w1.setCell ⟨s, 1, none⟩ (.slice (some ⟨ib, 0, none⟩) n cap)).heap[w.heap.size]? = some (.cells #[.int .i64 0, .int .i64 0, .string ⟨#[]⟩] 31) := (Below.heap_setCell w1 ⟨s, 1, none⟩ _ _ hne2).trans q1
      have e1 := heap_setCell_same _ w.heap.size 0 _ 31 (.int .i64 c) e0
      have e2 := heap_setCell_same _ w.heap.size 1 _ 31 (.int .i64 h) e1
      have e3 := heap_setCell_same _ w.heap.size 2 _ 31 (.string st) e2
      have a3 : St (w1.setCell ⟨s, 1, none⟩ (.slice (some ⟨ib, 0, none⟩) n cap)) s r 0 := by
        refine ⟨ib, cap, hib, ?_, ?_⟩
        · rw [← show n = r.length from HN]; exact StH.inn HS1 _
        · rw [← show n = r.length from HN]; exact TOn.fr (TOn.below HT3 B1) hib a1
      have a4 := ((((Fr.below B1 (by omega)).trans a1).put hsz (Nat.le_refl _) (o := 0) (.int .i64 c)).put hsz (Nat.le_refl _) (o := 1) (.int .i64 h)).put hsz (Nat.le_refl _) (o := 2) (.string st)
      have a5 := St.bel a3 ((((Below.refl _ _).setCell (p := ⟨w.heap.size, 0, none⟩) hsz (.int .i64 c)).setCell (p := ⟨w.heap.size, 1, none⟩) hsz (.int .i64 h)).setCell (p := ⟨w.heap.size, 2, none⟩) hsz (.string st))
      have z0 := (cell_of_row _ w.heap.size 0 _ 31 _ e3).trans rfl
      have z1 := (cell_of_row _ w.heap.size 1 _ 31 _ e3).trans rfl
      have z2 := (cell_of_row _ w.heap.size 2 _ 31 _ e3).trans rfl
      obtain ⟨V, hV⟩ : ∃ V, V = (((w1.setCell ⟨s, 1, none⟩ (.slice (some ⟨ib, 0, none⟩) n cap)).setCell ⟨w.heap.size, 0, none⟩ (.int .i64 c)).setCell ⟨w.heap.size, 1, none⟩ (.int .i64 h)).setCell ⟨w.heap.size, 2, none⟩ (.string st) := ⟨_, rfl⟩
      rw [← hV] at a4 a5
      have R : Hid (Fr s w V ∧ St V s r 0 ∧ V = (((w1.setCell ⟨s, 1, none⟩ (.slice (some ⟨ib, 0, none⟩) n cap)).setCell ⟨w.heap.size, 0, none⟩ (.int .i64 c)).setCell ⟨w.heap.size, 1, none⟩ (.int .i64 h)).setCell ⟨w.heap.size, 2, none⟩ (.string st)) := ⟨a4, a5, hV⟩
      have Z : Hid (V.cell? ⟨w.heap.size, 0, none⟩ = some (.int .i64 c) ∧ V.cell? ⟨w.heap.size, 1, none⟩ = some (.int .i64 h) ∧ V.cell? ⟨w.heap.size, 2, none⟩ = some (.string st)) := by
        rw [hV]; exact ⟨z0, z1, z2⟩
      clear e0 e1 e2 e3 z0 z1 z2 a1 a3 a4 a5 hV
      clear hb1 q1 x0 x1 x2 g1' g3 g4 g5 g6
      have hx1 : (n : Int) + 1 - 1 = (n : Int) := by omega
      have hx2 : (n : Int) < (n : Int) + 1 := by omega
      have hx3 : (n : Int) ≤ (cap : Int) := by omega
      have hx4 : ¬ (n : Int) < 0 := by omega
      go_wp2
      go_region
      all_goals
        go_wp2
        go_region
        all_goals
          go_wp2
          rw [← show V = _ from R.2.2]
          have z0 := Lib.cell?_alloc_some (.cells #[.int .i64 c, .int .i64 h, .string st] 31) Z.1
          have z1 := Lib.cell?_alloc_some (.cells #[.int .i64 c, .int .i64 h, .string st] 31) Z.2.1
          have z2 := Lib.cell?_alloc_some (.cells #[.int .i64 c, .int .i64 h, .string st] 31) Z.2.2
          have a2 : Below V.heap.size V (V.alloc (.cells #[.int .i64 c, .int .i64 h, .string st] 31)).drew.drew := ((below1 _ _).drew).drew
          have hVs : s < V.heap.size := Nat.lt_of_lt_of_le hsz R.1.size
          refine bodyPost_ret (v := tokV c h st) (by simp [results, Try.results104, go_sem, z0, z1, z2]; try rfl) rfl ⟨rfl, ?_, ?_⟩
          · exact St.bel R.2.1 (a2.mono hVs)
          · exact R.1.trans (Fr.below a2 (Nat.le_of_lt hVs))
  · go_wp2_with fail
    have hs1 : StH (w.alloc (.cells #[.int .i64 0, .int .i64 0, .string ⟨#[]⟩] 31)) s (.slice (some ⟨ib, 0, none⟩) rest.length cap) code := by unfold StH; rw [(below1 w _).block _ hsz]; exact HH
    refine (l4Err_any hs1 1).mono ?_
    rintro e w2 ⟨rfl, hs2, hf2⟩
    rw [if_neg h0] at hs2
    have R : Hid (St w2 s rest code ∧ Fr s w w2) := by
      refine ⟨⟨ib, cap, hib, hs2, TOn.fr (TOn.below HT (below1 _ _)) hib hf2⟩, (Fr.below (below1 _ _) (by omega)).trans hf2⟩
    have q2 : w2.heap[w.heap.size]? = some (.cells #[.int .i64 0, .int .i64 0, .string ⟨#[]⟩] 31) := by rw [hf2.2.block _ (by omega) (by simp)]; exact Array.getElem?_push_size
    have f2 := frozen_row q2
    have hz2 : w.heap.size < w2.heap.size := by have := hf2.size; simp at this; omega
    have c0 : w2.cell? ⟨w.heap.size, 0, none⟩ = some (.int .i64 0) := by rw [cell_of_row w2 _ _ _ 31 _ q2]; rfl
    have c1 : w2.cell? ⟨w.heap.size, 1, none⟩ = some (.int .i64 0) := by rw [cell_of_row w2 _ _ _ 31 _ q2]; rfl
    have c2 : w2.cell? ⟨w.heap.size, 2, none⟩ = some (.string ⟨#[]⟩) := by rw [cell_of_row w2 _ _ _ 31 _ q2]; rfl
    clear hs2 hf2 hs1 q2
    go_wp2
    refine bodyPost_ret (v := Tk.none.v) (by simp [results, Try.results104, go_sem, c0, c1, c2]; exact ⟨rfl, rfl, rfl⟩) rfl ⟨?_, ?_, ?_⟩
    · unfold tkT; rw [if_neg h0]
    · unfold tkR tkC; rw [if_neg h0, if_neg h0]; exact St.bel R.1 (((Below.refl _ _).setCell (by simp; omega) _).setCell (by simp; omega) _ |>.setCell (by simp; omega) _)
    · exact ((R.2.put hsz (Nat.le_refl _) _).put hsz (Nat.le_refl _) _).put hsz (Nat.le_refl _) _
end Go.Proofs.Ytbceblgnjicdcaa
