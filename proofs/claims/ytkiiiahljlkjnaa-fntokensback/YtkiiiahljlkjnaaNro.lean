/-
  The program's newReader where there is none, and its blank.
-/
import Derived.Test.YtkiiiahljlkjnaaNrd
namespace Go.Proofs.Ytkiiiahljlkjnaa
open Go.RowKit
set_option linter.unusedVariables false
set_option linter.unusedSimpArgs false

set_option maxRecDepth 20000 in
set_option maxHeartbeats 4000000 in
theorem newReader_no {v : Value} {zs : List Int} {s : ByteArray} {a st : Int} {w : World} (h : Row w v zs) (hok : ¬ (catsB zs = true ∧ s.size ≤ 65536 ∧ 0 ≤ a ∧ a ≤ s.size ∧ 0 ≤ st ∧ st ≤ 2)) :
    Calls Try.prog 28 #[v, .string s, .int .i64 a, .int .i64 st] w fun e w' => e = .returned (.tuple #[.pointer none, .bool false]) ∧ Below w.heap.size w w' := by
  have CT := hideP (tableOf_any h)
  obtain ⟨R, hR⟩ : ∃ R, R = catsB zs := ⟨_, rfl⟩
  rw [← hR] at CT hok
  obtain ⟨ao, n, cap, rfl, _, _⟩ := h
  obtain ⟨hv, hi⟩ := zero_of_info Try.info61
  rw [cellsI_zero] at hv
  obtain ⟨os, ho⟩ : ∃ os : List Int, os = List.replicate 256 0 := ⟨_, rfl⟩
  rw [← ho] at hv
  have hol : os.length = 256 := by rw [ho, List.length_replicate]
  have HOK := hideP hok
  clear ho hi hR hok
  go_enter Try.func28, Try.ntmps28
  go_wp2_with fail
  refine CT.out.mono ?_
  rintro e w1 ⟨⟨gs, rfl, hgl, hgz⟩, hb1⟩
  clear hgz
  have hst := Blk.store (ys := gs) (Blk.new w1 os) hol hgl
  have hcs : (cellsI gs).size = 256 := by rw [cellsI_size, hgl]
  have hco : (cellsI os).size = 256 := by rw [cellsI_size, hol]
  have B1 := hideP hb1
  clear hb1
  have hz1 : w.heap.size ≤ w1.heap.size := B1.out.size
  have R1 : Hid (Below w.heap.size w ((w1.alloc (.cells (cellsI os) 61)).setRow w1.heap.size (cellsI gs))) := hideP (Below.setRow (B1.out.alloc hz1 _) hz1 _)
  cases R with
  | false =>
    go_wp2
    refine bodyPost_ret (v := .tuple #[.pointer none, .bool false]) (by simp [results, Try.results28, go_sem]) rfl ⟨rfl, R1.out⟩
  | true =>
    by_cases c1 : 65536 < (s.size : Int)
    · have b1 : decide (65536 < (s.size : Int)) = true := by simp; omega
      go_wp2
      refine bodyPost_ret (v := .tuple #[.pointer none, .bool false]) (by simp [results, Try.results28, go_sem]) rfl ⟨rfl, R1.out⟩
    have b1 : decide (65536 < (s.size : Int)) = false := by simp; omega
    by_cases c2 : a < 0
    · have b2 : decide (a < 0) = true := by simp; omega
      go_wp2
      refine bodyPost_ret (v := .tuple #[.pointer none, .bool false]) (by simp [results, Try.results28, go_sem]) rfl ⟨rfl, R1.out⟩
    have b2 : decide (a < 0) = false := by simp; omega
    by_cases c3 : (s.size : Int) < a
    · have b3 : decide ((s.size : Int) < a) = true := by simp; omega
      go_wp2
      refine bodyPost_ret (v := .tuple #[.pointer none, .bool false]) (by simp [results, Try.results28, go_sem]) rfl ⟨rfl, R1.out⟩
    have b3 : decide ((s.size : Int) < a) = false := by simp; omega
    by_cases c4 : st < 0
    · have b4 : decide (st < 0) = true := by simp; omega
      go_wp2
      refine bodyPost_ret (v := .tuple #[.pointer none, .bool false]) (by simp [results, Try.results28, go_sem]) rfl ⟨rfl, R1.out⟩
    have b4 : decide (st < 0) = false := by simp; omega
    have c5 : 2 < st := Int.lt_of_not_ge (fun h => HOK.out ⟨rfl, by omega, by omega, by omega, by omega, h⟩)
    have b5 : decide (2 < st) = true := by simp; omega
    go_wp2
    refine bodyPost_ret (v := .tuple #[.pointer none, .bool false]) (by simp [results, Try.results28, go_sem]) rfl ⟨rfl, R1.out⟩

set_option maxHeartbeats 2000000 in
theorem blankI_any (w : World) : Calls Try.prog 44 #[] w fun e w' => e = .returned (.agg #[.int .i64 3, .int .i64 32, .string ByteArray.empty]) ∧ Below w.heap.size w w' := by
  go_enter Try.func44, Try.ntmps44
  go_wp2
  refine bodyPost_ret (v := .agg #[.int .i64 3, .int .i64 32, .string ByteArray.empty]) (by simp [results, Try.results44, go_sem]; try rfl) rfl ⟨rfl, ?_⟩
  repeat (first | with_reducible exact below1 _ _ | (with_reducible refine Below.setCell ?_ ?_ _; rotate_left; focus (first | (simp; done) | (simp; omega))))
end Go.Proofs.Ytkiiiahljlkjnaa
