/-
  The page: the program.
-/
import Derived.Test.YtdgfnceipginkaaBsr
import Derived.Test.YtdgfnceipginkaaLrw
import Derived.Test.YtdgfnceipginkaaSps
import Derived.Deep.RegionHeld3
namespace Go.Proofs.Ytdgfnceipginkaa
open Go.RowKit
set_option linter.unusedVariables false
set_option linter.unusedSimpArgs false

theorem bl_sorted (xs : List Nd) (S : Sy) : List.Pairwise (· < ·) (-1 :: blL xs S) := by
  unfold blL
  split
  · rw [List.pairwise_cons]
    unfold bl0
    refine ⟨fun a ha => ?_, ?_⟩
    · rw [List.mem_map] at ha
      obtain ⟨b, _, rfl⟩ := ha
      omega
    · rw [List.pairwise_map]
      refine List.Pairwise.imp (fun {a b} (h : a < b) => by omega) ?_
      exact List.Pairwise.filter _ List.pairwise_lt_range
  · simp
theorem ts_get {ts : List Tn} {F : List Int} (h : ts.map (fun t => t.1) = F) {p : Nat} (hp : p < ts.length) : (ts.getD p Tn.none).1 = F.getD p 0 := by
  rw [← h]
  simp [List.getD, List.getElem?_eq_getElem hp]
theorem ts_sorted {ts : List Tn} {xs : List Nd} {S : Sy} (h : ts.map (fun t => t.1) = -1 :: blL xs S) : ∀ p q, p < q → q < ts.length → (ts.getD p Tn.none).1 < (ts.getD q Tn.none).1 := fun p q hpq hq => by
  have hl := congrArg List.length h
  rw [List.length_map] at hl
  rw [ts_get h (by omega), ts_get h hq]
  have h1 := List.pairwise_iff_getElem.1 (bl_sorted xs S) p q (by omega) (by omega) hpq
  rw [show (-1 :: blL xs S).getD p 0 = (-1 :: blL xs S)[p]'(by omega) by simp only [List.getD, List.getElem?_eq_getElem (show p < (-1 :: blL xs S).length by omega), Option.getD_some], show (-1 :: blL xs S).getD q 0 = (-1 :: blL xs S)[q]'(by omega) by simp only [List.getD, List.getElem?_eq_getElem (show q < (-1 :: blL xs S).length by omega), Option.getD_some]]
  exact h1
theorem turn_next {hy : Int} {ys : List It} {t : Tn} {W : World} (h : TurnP hy ys t W) : t.2.2.2 = (nxt ys (t.1 + 1).toNat : Int) := by
  rcases h with rfl | ⟨k, q, rfl, _⟩
  · rfl
  · show (nxt ys (k + 1) : Int) = _
    rw [show ((k : Int) + 1).toNat = k + 1 by omega]
theorem turn_low {hy : Int} {ys : List It} {t : Tn} {W : World} (h : TurnP hy ys t W) : -1 ≤ t.1 ∧ t.1 < ys.length := by
  rcases h with rfl | ⟨k, q, rfl, h2, _⟩
  · exact ⟨Int.le_refl _, by show (-1 : Int) < _; omega⟩
  · exact ⟨by show (-1 : Int) ≤ (k : Int); omega, by show (k : Int) < _; omega⟩
theorem turn_cells {w : World} {lo g m c : Nat} {ts : List Tn} (h : w.ownsRow lo 87 4 (.slice (some ⟨g, 0, none⟩) m c) m (flatT ts)) (hl : ts.length = m) {k : Nat} (hk : k < m) : w.cell? ⟨g, k * 4, none⟩ = some (.int .i64 (ts.getD k Tn.none).1) ∧ w.cell? ⟨g, k * 4 + 1, none⟩ = some (.int .i64 (ts.getD k Tn.none).2.1) ∧ w.cell? ⟨g, k * 4 + 2, none⟩ = some (.pointer (ts.getD k Tn.none).2.2.1) ∧ w.cell? ⟨g, k * 4 + 3, none⟩ = some (.int .i64 (ts.getD k Tn.none).2.2.2) := by
  have ht : ∀ j, j < 4 → w.cell? ⟨g, k * 4 + j, none⟩ = (ts.getD k Tn.none).cells[j]? := fun j hj => by
    rw [h.cellAt _ (by omega)]
    exact flatT_at ts k j (by omega) hj
  exact ⟨ht 0 (by omega), ht 1 (by omega), ht 2 (by omega), ht 3 (by omega)⟩

set_option maxRecDepth 20000 in
set_option maxHeartbeats 4000000 in
theorem ends_any {w : World} {lo g m c PB : Nat} {ts : List Tn} {ys : List It} {hy : Int} (i j : Nat) (hP : w.cell? ⟨PB, 26, none⟩ = some (.slice (some ⟨g, 0, none⟩) m c)) (h : w.ownsRow lo 87 4 (.slice (some ⟨g, 0, none⟩) m c) m (flatT ts)) (hl : ts.length = m) (hm : m ≤ 5001) (hy5 : ys.length ≤ 5000) (hij : i < j) (hj : j < m) (hT : ∀ t ∈ ts, TurnP hy ys t w) (a b : Nat) (ha : (ts.getD i Tn.none).1 + 1 = (a : Int)) (hb : (ts.getD j Tn.none).1 = (b : Int)) (hab : a ≤ b) :
    Calls Try.prog 40 #[.pointer (some ⟨PB, 0, none⟩), .int .i64 (i : Int), .int .i64 (j : Int)] w fun e w' => e = .returned (.tuple #[.int .i64 ((begI ys a b : Nat) : Int), .int .i64 (b : Int)]) ∧ w' = w := by
  have hPl : PB < w.heap.size := World.block_lt_of_cell? w _ hP
  obtain ⟨i0, i1, i2, i3⟩ := turn_cells h hl (show i < m by omega)
  obtain ⟨j0, j1, j2, j3⟩ := turn_cells h hl hj
  have hmi : ts.getD i Tn.none ∈ ts := by
    rw [show ts.getD i Tn.none = ts[i]'(by omega) by simp [List.getD, List.getElem?_eq_getElem (show i < ts.length by omega)]]
    exact List.getElem_mem _
  have hmj : ts.getD j Tn.none ∈ ts := by
    rw [show ts.getD j Tn.none = ts[j]'(by omega) by simp [List.getD, List.getElem?_eq_getElem (show j < ts.length by omega)]]
    exact List.getElem_mem _
  have hn := turn_next (hT _ hmi)
  have hlo := turn_low (hT _ hmj)
  rw [ha, show ((a : Int)).toNat = a by omega] at hn
  rw [hn] at i3
  rw [hb] at j0 hlo
  have hbl : b < ys.length := by omega
  have hmin := nxt_beg ys b (by omega) (b - a) a hab rfl
  obtain ⟨n, hnn⟩ : ∃ n, n = nxt ys a := ⟨_, rfl⟩
  obtain ⟨s, hss⟩ : ∃ s, s = begI ys a b := ⟨_, rfl⟩
  rw [← hnn, ← hss] at hmin
  rw [← hnn] at i3
  rw [← hss]
  have hji : (j : Int) < (m : Int) := by omega
  have hii : (i : Int) < (m : Int) := by omega
  have hmn : min (n : Int) (b : Int) = (s : Int) := by omega
  clear hnn hss hn hlo hmi hmj hT h hl ha hb hmin hab
  go_enter Try.func40, Try.ntmps40
  go_wp2
  refine bodyPost_ret (v := .tuple #[.int .i64 (s : Int), .int .i64 (b : Int)]) ?_ rfl ⟨rfl, rfl⟩
  simp [results, Try.results40, go_sem, hmn]


end Go.Proofs.Ytdgfnceipginkaa
