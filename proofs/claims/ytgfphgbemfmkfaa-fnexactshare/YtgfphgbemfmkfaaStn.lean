/-
  Settings by the totals: the program's stretch.
-/
import Derived.Test.YtgfphgbemfmkfaaStr
namespace Go.Proofs.Ytgfphgbemfmkfaa
open Go.RowKit
set_option linter.unusedVariables false
set_option linter.unusedSimpArgs false

set_option maxRecDepth 20000 in
set_option maxHeartbeats 4000000 in
theorem stretchT_any (want a0 a1 a2 a3 o hv : Int) (w : World) (ho : o = (top [a0, a1, a2, a3] : Int)) (hhv : hv = ([a0, a1, a2, a3] : List Int).getD (top [a0, a1, a2, a3]) 0) (hw1 : want ≤ 9223372036854775807) (hd : hv ≤ 9223372036854775807) :
    Calls Try.prog 53 #[.int .i64 want, .agg #[.int .i64 a0, .int .i64 a1, .int .i64 a2, .int .i64 a3]] w fun e w' =>
      e = .returned (setV 1 o want hv (if hv ≤ 0 then 10000 else if 0 < o then 0 else badV want hv) 0) ∧ Below w.heap.size w w' := by
  obtain ⟨bb, hbb⟩ : ∃ bb : Int, bb = (if hv ≤ 0 then 10000 else if 0 < o then 0 else badV want hv) := ⟨_, rfl⟩
  rw [← hbb]
  have HBB := hidW hbb
  clear hbb
  have HW : Hid (want ≤ 9223372036854775807 ∧ hv ≤ 9223372036854775807) := ⟨hw1, hd⟩
  clear hw1 hd
  go_enter Try.func53, Try.ntmps53
  go_wp2_with fail
  refine (highest_any _ _ _ _ _).mono ?_
  rintro e w2 ⟨rfl, hb2⟩
  rw [← ho, ← hhv]
  clear ho hhv
  have R2 : w2.heap[w.heap.size + 1]? = some (setO 0 0 0 0 0 0) := block_keep (by have := heap_alloc_new (w.alloc (.cells #[.int .i64 a0, .int .i64 a1, .int .i64 a2, .int .i64 a3] 53)) (setO 0 0 0 0 0 0); simpa using this) hb2
  have B2 : Below w.heap.size w w2 := (((Below.refl _ _).alloc (Nat.le_refl _) _).alloc (by simp) _).trans (hb2.mono (by simp; omega))
  obtain ⟨R, hR⟩ : ∃ R, R = w.heap.size + 1 := ⟨_, rfl⟩
  rw [← hR] at R2 ⊢
  have HRR : Hid (w.heap.size ≤ R) := (by omega : w.heap.size ≤ R)
  have hRl : R < w2.heap.size := (Array.getElem?_eq_some_iff.1 R2).1
  have HB : Hid (w2.heap[R]? = some (setO 0 0 0 0 0 0) ∧ Below w.heap.size w w2) := ⟨R2, B2⟩
  obtain ⟨q0, q1, q2, q3, q4, q5⟩ := set_cells R2
  have fr : ∀ j, w2.frozen? ⟨R, j, none⟩ = false := fun j => frozen_of_row w2 R j _ _ R2
  clear hb2 R2 B2 hR
  go_wp2_with fail
  refine (boundBad_any _ _ _ _ _ _ _ HW.1 HW.2).mono ?_
  rintro e w3 ⟨rfl, hb3⟩
  obtain ⟨bd, hbd⟩ : ∃ bd : Int, bd = (if 0 < o then 0 else badV want hv) := ⟨_, rfl⟩
  rw [← hbd]
  obtain ⟨S, hS⟩ : ∃ S, S = w2.heap.size := ⟨_, rfl⟩
  have S3 : w3.heap[w2.heap.size]? = some (setO 1 o want hv 0 0) := block_keep (heap_alloc_new w2 _) hb3
  have R3 : w3.heap[R]? = some (setO 0 0 0 0 0 0) := block_keep ((Below.heap_alloc _ _ _ hRl).trans HB.1) hb3
  have B3 : Hid (Below w.heap.size w w3) := hidW ((HB.2.alloc HB.2.size _).trans (hb3.mono (by have := HB.2.size; simp; omega)))
  rw [← hS] at S3 ⊢
  have hSR : S ≠ R := by omega
  have HSB : Hid (w.heap.size ≤ S) := hidW (by have := HB.2.size; omega)
  have hRl3 : R < w3.heap.size := (Array.getElem?_eq_some_iff.1 R3).1
  have hSl3 : S < w3.heap.size := (Array.getElem?_eq_some_iff.1 S3).1
  have HR3 := hidW R3
  have HS3 := hidW S3
  clear q0 q1 q2 q3 q4 q5 fr hRl
  obtain ⟨q0, q1, q2, q3, q4, q5⟩ := set_cells R3
  obtain ⟨s0, s1, s2, s3, s4, s5⟩ := set_cells S3
  have fr : ∀ j, w3.frozen? ⟨R, j, none⟩ = false := fun j => frozen_of_row w3 R j _ _ R3
  have fs : ∀ j, w3.frozen? ⟨S, j, none⟩ = false := fun j => frozen_of_row w3 S j _ _ S3
  have hRS : R ≠ S := Ne.symm hSR
  clear hb3 R3 S3 HB hS
  by_cases hno : hv ≤ 0
  · have HN := hidW hno
    clear hbd
    go_wp2
    refine bodyPost_ret (v := setV 1 o want hv 10000 0) (results_cell_row rfl _ _ R 29 _ (0, 0) _ rfl (six_heap (a0 := 0) (b0 := 0) (c0 := 0) (d0 := 0) (e0 := 0) (f0 := 0) ?hh 1 o want hv 10000 0) Try.underlying29 rfl (by kernel_rfl)) rfl ⟨by rw [show bb = _ from HBB.out, if_pos (by have := HN.out; omega)], ?_⟩
    case hh =>
      repeat (first | with_reducible exact HR3.out | (refine (Below.heap_setCell _ _ _ _ ?_).trans ?_; · first | exact hRS | exact hSR))
    · have hr := HRR.out
      have hs := HSB.out
      repeat (first | with_reducible exact B3.out | (with_reducible refine Below.setCell ?_ ?_ _; rotate_left; focus (first | exact hr | exact hs)))
  · have HN := hidW hno
    have HBD := hidW hbd
    clear hbd
    go_wp2
    refine bodyPost_ret (v := setV 1 o want hv bd 0) (results_cell_row rfl _ _ R 29 _ (0, 0) _ rfl (six_heap (a0 := 0) (b0 := 0) (c0 := 0) (d0 := 0) (e0 := 0) (f0 := 0) ?hh 1 o want hv bd 0) Try.underlying29 rfl (by kernel_rfl)) rfl ⟨by rw [show bb = _ from HBB.out, if_neg (by have := HN.out; omega), show bd = _ from HBD.out], ?_⟩
    case hh =>
      repeat (first | with_reducible exact HR3.out | (refine (Below.heap_setCell _ _ _ _ ?_).trans ?_; · first | exact hRS | exact hSR))
    · have hr := HRR.out
      have hs := HSB.out
      repeat (first | with_reducible exact B3.out | (with_reducible refine Below.setCell ?_ ?_ _; rotate_left; focus (first | exact hr | exact hs)))
end Go.Proofs.Ytgfphgbemfmkfaa
