/-
  Settings by the totals: the program's shrink.
-/
import Derived.Test.YtgfphgbemfmkfaaStn
namespace Go.Proofs.Ytgfphgbemfmkfaa
open Go.RowKit
set_option linter.unusedVariables false
set_option linter.unusedSimpArgs false

set_option maxRecDepth 20000 in
set_option maxHeartbeats 4000000 in
theorem shrinkT_none (want a0 a1 a2 a3 o hv : Int) (w : World) (ho : o = (top [a0, a1, a2, a3] : Int)) (hhv : hv = ([a0, a1, a2, a3] : List Int).getD (top [a0, a1, a2, a3]) 0) (hw0 : 0 < want) (hw1 : want ≤ 4611686018427387904) (hd0 : -10737418230000 ≤ hv) (hd : hv ≤ 10737418230000) (hno : hv ≤ 0) :
    Calls Try.prog 54 #[.int .i64 want, .agg #[.int .i64 a0, .int .i64 a1, .int .i64 a2, .int .i64 a3]] w fun e w' =>
      e = .returned (setV (-1) o want hv 1000000 want) ∧ Below w.heap.size w w' := by
  have hmx : max hv 0 = 0 := by omega
  have hn1 : decide (hv ≤ 0) = true := by simpa using hno
  have hwr : IntKind.i64.wrap want = want := by rw [IntKind.wrap_i64]; omega
  go_enter Try.func54, Try.ntmps54
  go_wp2_with fail
  refine (highest_any _ _ _ _ _).mono ?_
  rintro e w2 ⟨rfl, hb2⟩
  rw [← ho, ← hhv]
  clear ho hhv
  have R2 : w2.heap[w.heap.size + 1]? = some (setO 0 0 0 0 0 0) := block_keep (by have := heap_alloc_new (w.alloc (.cells #[.int .i64 a0, .int .i64 a1, .int .i64 a2, .int .i64 a3] 53)) (setO 0 0 0 0 0 0); simpa using this) hb2
  have B2 : Below w.heap.size w w2 := (((Below.refl _ _).alloc (Nat.le_refl _) _).alloc (by simp) _).trans (hb2.mono (by simp; omega))
  obtain ⟨R, hR⟩ : ∃ R, R = w.heap.size + 1 := ⟨_, rfl⟩
  rw [← hR] at R2 ⊢
  have HRR : Hid (w.heap.size ≤ R) := (by omega : w.heap.size ≤ R)
  have hRl : R < w2.heap.size := (Array.getElem?_eq_some_iff.1 R2).1
  have HB : Hid (w2.heap[R]? = some (setO 0 0 0 0 0 0) ∧ Below w.heap.size w w2) := ⟨R2, B2⟩
  obtain ⟨q0, q1, q2, q3, q4, q5⟩ := set_cells R2
  have fr : ∀ j, w2.frozen? ⟨R, j, none⟩ = false := fun j => frozen_of_row w2 R j _ _ R2
  clear hb2 R2 B2 hR
  have HF : Hid (((six w2 R (-1) o want hv 1000000 want).alloc (.cells #[.int .i64 (-1), .int .i64 o, .int .i64 want, .int .i64 hv, .int .i64 1000000, .int .i64 want] 29)).heap[R]? = some (setO (-1) o want hv 1000000 want) ∧ Below w.heap.size w ((six w2 R (-1) o want hv 1000000 want).alloc (.cells #[.int .i64 (-1), .int .i64 o, .int .i64 want, .int .i64 hv, .int .i64 1000000, .int .i64 want] 29))) := by
    have hs := six_heap HB.out.1 (-1) o want hv 1000000 want
    refine ⟨(Below.heap_alloc _ _ _ (Array.getElem?_eq_some_iff.1 hs).1).trans hs, ?_⟩
    have B2 := HB.out.2
    have hf : Fr w2.heap.size w w2 := ⟨B2.os, B2.tape, B2.output, B2.size, fun b hb _ => B2.block b hb⟩
    exact ((six_fr hf HRR.out (-1) o want hv 1000000 want).alloc _).toBelow B2.size (Nat.le_refl _)
  clear HB HRR
  clear hw0 hw1 hd0 hd
  go_wp2
  exact bodyPost_ret (v := setV (-1) o want hv 1000000 want) (results_cell_row rfl _ _ R 29 _ (0, 0) _ rfl HF.1 Try.underlying29 rfl (by kernel_rfl)) rfl ⟨rfl, HF.2⟩

set_option maxRecDepth 20000 in
set_option maxHeartbeats 4000000 in
theorem shrinkT_over (want a0 a1 a2 a3 o hv : Int) (w : World) (ho : o = (top [a0, a1, a2, a3] : Int)) (hhv : hv = ([a0, a1, a2, a3] : List Int).getD (top [a0, a1, a2, a3]) 0) (hw0 : 0 < want) (hw1 : want ≤ 4611686018427387904) (hd0 : -10737418230000 ≤ hv) (hd : hv ≤ 10737418230000) (ho0 : o = 0) (hpos : 0 < hv) (hov : hv < want) :
    Calls Try.prog 54 #[.int .i64 want, .agg #[.int .i64 a0, .int .i64 a1, .int .i64 a2, .int .i64 a3]] w fun e w' =>
      e = .returned (setV (-1) o want hv 1000000 (want - hv)) ∧ Below w.heap.size w w' := by
  have hmx : max hv 0 = hv := by omega
  have hn1 : decide (hv ≤ 0) = false := by simpa using hpos
  have hn0 : ¬ hv ≤ 0 := by omega
  have hwr : IntKind.i64.wrap (want - hv) = want - hv := by rw [IntKind.wrap_i64]; omega
  go_enter Try.func54, Try.ntmps54
  go_wp2_with fail
  refine (highest_any _ _ _ _ _).mono ?_
  rintro e w2 ⟨rfl, hb2⟩
  rw [← ho, ← hhv]
  clear ho hhv
  have R2 : w2.heap[w.heap.size + 1]? = some (setO 0 0 0 0 0 0) := block_keep (by have := heap_alloc_new (w.alloc (.cells #[.int .i64 a0, .int .i64 a1, .int .i64 a2, .int .i64 a3] 53)) (setO 0 0 0 0 0 0); simpa using this) hb2
  have B2 : Below w.heap.size w w2 := (((Below.refl _ _).alloc (Nat.le_refl _) _).alloc (by simp) _).trans (hb2.mono (by simp; omega))
  obtain ⟨R, hR⟩ : ∃ R, R = w.heap.size + 1 := ⟨_, rfl⟩
  rw [← hR] at R2 ⊢
  have HRR : Hid (w.heap.size ≤ R) := (by omega : w.heap.size ≤ R)
  have hRl : R < w2.heap.size := (Array.getElem?_eq_some_iff.1 R2).1
  have HB : Hid (w2.heap[R]? = some (setO 0 0 0 0 0 0) ∧ Below w.heap.size w w2) := ⟨R2, B2⟩
  obtain ⟨q0, q1, q2, q3, q4, q5⟩ := set_cells R2
  have fr : ∀ j, w2.frozen? ⟨R, j, none⟩ = false := fun j => frozen_of_row w2 R j _ _ R2
  clear hb2 R2 B2 hR
  subst ho0
  have HF : Hid (((six w2 R (-1) 0 want hv 1000000 (want - hv)).alloc (.cells #[.int .i64 (-1), .int .i64 0, .int .i64 want, .int .i64 hv, .int .i64 1000000, .int .i64 (want - hv)] 29)).heap[R]? = some (setO (-1) 0 want hv 1000000 (want - hv)) ∧ Below w.heap.size w ((six w2 R (-1) 0 want hv 1000000 (want - hv)).alloc (.cells #[.int .i64 (-1), .int .i64 0, .int .i64 want, .int .i64 hv, .int .i64 1000000, .int .i64 (want - hv)] 29))) := by
    have hs := six_heap HB.out.1 (-1) 0 want hv 1000000 (want - hv)
    refine ⟨(Below.heap_alloc _ _ _ (Array.getElem?_eq_some_iff.1 hs).1).trans hs, ?_⟩
    have B2 := HB.out.2
    have hf : Fr w2.heap.size w w2 := ⟨B2.os, B2.tape, B2.output, B2.size, fun b hb _ => B2.block b hb⟩
    exact ((six_fr hf HRR.out (-1) 0 want hv 1000000 (want - hv)).alloc _).toBelow B2.size (Nat.le_refl _)
  clear HB HRR hw0 hw1 hd0 hd
  go_wp2
  exact bodyPost_ret (v := setV (-1) 0 want hv 1000000 (want - hv)) (results_cell_row rfl _ _ R 29 _ (0, 0) _ rfl HF.1 Try.underlying29 rfl (by kernel_rfl)) rfl ⟨rfl, HF.2⟩

set_option maxRecDepth 20000 in
set_option maxHeartbeats 4000000 in
theorem shrinkT_high (want a0 a1 a2 a3 o hv : Int) (w : World) (ho : o = (top [a0, a1, a2, a3] : Int)) (hhv : hv = ([a0, a1, a2, a3] : List Int).getD (top [a0, a1, a2, a3]) 0) (hw0 : 0 < want) (hw1 : want ≤ 4611686018427387904) (hd0 : -10737418230000 ≤ hv) (hd : hv ≤ 10737418230000) (hpos : 0 < hv) (hoh : 0 < o) (bd : Int) (hbd : bd = (if 0 < o then 0 else badV want hv)) :
    Calls Try.prog 54 #[.int .i64 want, .agg #[.int .i64 a0, .int .i64 a1, .int .i64 a2, .int .i64 a3]] w fun e w' =>
      e = .returned (setV (-1) o want hv bd 0) ∧ Below w.heap.size w w' := by
  have hn0 : ¬ hv ≤ 0 := by omega
  have hn1 : decide (hv ≤ 0) = false := by simpa using hpos
  have hn2 : (o == 0) = false := by simp; omega
  have hn3 : ¬ o = 0 := by omega
  have HBD := hidW hbd
  clear hbd
  go_enter Try.func54, Try.ntmps54
  go_wp2_with fail
  refine (highest_any _ _ _ _ _).mono ?_
  rintro e w2 ⟨rfl, hb2⟩
  rw [← ho, ← hhv]
  clear ho hhv
  have R2 : w2.heap[w.heap.size + 1]? = some (setO 0 0 0 0 0 0) := block_keep (by have := heap_alloc_new (w.alloc (.cells #[.int .i64 a0, .int .i64 a1, .int .i64 a2, .int .i64 a3] 53)) (setO 0 0 0 0 0 0); simpa using this) hb2
  have B2 : Below w.heap.size w w2 := (((Below.refl _ _).alloc (Nat.le_refl _) _).alloc (by simp) _).trans (hb2.mono (by simp; omega))
  obtain ⟨R, hR⟩ : ∃ R, R = w.heap.size + 1 := ⟨_, rfl⟩
  rw [← hR] at R2 ⊢
  have HRR : Hid (w.heap.size ≤ R) := (by omega : w.heap.size ≤ R)
  have hRl : R < w2.heap.size := (Array.getElem?_eq_some_iff.1 R2).1
  have HB : Hid (w2.heap[R]? = some (setO 0 0 0 0 0 0) ∧ Below w.heap.size w w2) := ⟨R2, B2⟩
  obtain ⟨q0, q1, q2, q3, q4, q5⟩ := set_cells R2
  have fr : ∀ j, w2.frozen? ⟨R, j, none⟩ = false := fun j => frozen_of_row w2 R j _ _ R2
  clear hb2 R2 B2 hR
  have HW : Hid (want ≤ 9223372036854775807 ∧ hv ≤ 9223372036854775807) := ⟨by omega, by omega⟩
  clear hw0 hw1 hd0 hd
  go_wp2_with fail
  refine (boundBad_any _ _ _ _ _ _ _ HW.1 HW.2).mono ?_
  rintro e w3 ⟨rfl, hb3⟩
  rw [← show bd = _ from HBD.out]
  obtain ⟨S, hS⟩ : ∃ S, S = w2.heap.size := ⟨_, rfl⟩
  have S3 : w3.heap[w2.heap.size]? = some (setO (-1) o want hv 0 0) := block_keep (heap_alloc_new w2 _) hb3
  have R3 : w3.heap[R]? = some (setO 0 0 0 0 0 0) := block_keep ((Below.heap_alloc _ _ _ hRl).trans HB.1) hb3
  have B3 : Hid (Below w.heap.size w w3) := hidW ((HB.2.alloc HB.2.size _).trans (hb3.mono (by have := HB.2.size; simp; omega)))
  rw [← hS] at S3 ⊢
  have hSR : S ≠ R := by omega
  have HSB : Hid (w.heap.size ≤ S) := hidW (by have := HB.2.size; omega)
  have hRl3 : R < w3.heap.size := (Array.getElem?_eq_some_iff.1 R3).1
  have hSl3 : S < w3.heap.size := (Array.getElem?_eq_some_iff.1 S3).1
  have HR3 := hidW R3
  have HS3 := hidW S3
  clear q0 q1 q2 q3 q4 q5 fr hRl
  obtain ⟨q0, q1, q2, q3, q4, q5⟩ := set_cells R3
  obtain ⟨s0, s1, s2, s3, s4, s5⟩ := set_cells S3
  have fr : ∀ j, w3.frozen? ⟨R, j, none⟩ = false := fun j => frozen_of_row w3 R j _ _ R3
  have fs : ∀ j, w3.frozen? ⟨S, j, none⟩ = false := fun j => frozen_of_row w3 S j _ _ S3
  have hRS : R ≠ S := Ne.symm hSR
  clear hb3 R3 S3 HB hS
  go_wp2
  refine bodyPost_ret (v := setV (-1) o want hv bd 0) (results_cell_row rfl _ _ R 29 _ (0, 0) _ rfl (six_heap (a0 := 0) (b0 := 0) (c0 := 0) (d0 := 0) (e0 := 0) (f0 := 0) ?hh (-1) o want hv bd 0) Try.underlying29 rfl (by kernel_rfl)) rfl ⟨rfl, ?_⟩
  case hh =>
    repeat (first | with_reducible exact HR3.out | (refine (Below.heap_setCell _ _ _ _ ?_).trans ?_; · first | exact hRS | exact hSR))
  · have hr := HRR.out
    have hs := HSB.out
    repeat (first | with_reducible exact B3.out | (with_reducible refine Below.setCell ?_ ?_ _; rotate_left; focus (first | exact hr | exact hs)))

set_option maxRecDepth 20000 in
set_option maxHeartbeats 4000000 in
theorem shrinkT_zero (want a0 a1 a2 a3 o hv : Int) (w : World) (ho : o = (top [a0, a1, a2, a3] : Int)) (hhv : hv = ([a0, a1, a2, a3] : List Int).getD (top [a0, a1, a2, a3]) 0) (hw0 : 0 < want) (hw1 : want ≤ 4611686018427387904) (hd0 : -10737418230000 ≤ hv) (hd : hv ≤ 10737418230000) (hpos : 0 < hv) (ho0 : o = 0) (hge : want ≤ hv) (bd : Int) (hbd : bd = (if 0 < o then 0 else badV want hv)) :
    Calls Try.prog 54 #[.int .i64 want, .agg #[.int .i64 a0, .int .i64 a1, .int .i64 a2, .int .i64 a3]] w fun e w' =>
      e = .returned (setV (-1) o want hv bd 0) ∧ Below w.heap.size w w' := by
  have hn0 : ¬ hv ≤ 0 := by omega
  have hn1 : decide (hv ≤ 0) = false := by simpa using hpos
  have hn4 : ¬ hv < want := by omega
  have hn5 : decide (hv < want) = false := by simpa using hge
  have HBD := hidW hbd
  clear hbd
  go_enter Try.func54, Try.ntmps54
  go_wp2_with fail
  refine (highest_any _ _ _ _ _).mono ?_
  rintro e w2 ⟨rfl, hb2⟩
  rw [← ho, ← hhv]
  clear ho hhv
  have R2 : w2.heap[w.heap.size + 1]? = some (setO 0 0 0 0 0 0) := block_keep (by have := heap_alloc_new (w.alloc (.cells #[.int .i64 a0, .int .i64 a1, .int .i64 a2, .int .i64 a3] 53)) (setO 0 0 0 0 0 0); simpa using this) hb2
  have B2 : Below w.heap.size w w2 := (((Below.refl _ _).alloc (Nat.le_refl _) _).alloc (by simp) _).trans (hb2.mono (by simp; omega))
  obtain ⟨R, hR⟩ : ∃ R, R = w.heap.size + 1 := ⟨_, rfl⟩
  rw [← hR] at R2 ⊢
  have HRR : Hid (w.heap.size ≤ R) := (by omega : w.heap.size ≤ R)
  have hRl : R < w2.heap.size := (Array.getElem?_eq_some_iff.1 R2).1
  have HB : Hid (w2.heap[R]? = some (setO 0 0 0 0 0 0) ∧ Below w.heap.size w w2) := ⟨R2, B2⟩
  obtain ⟨q0, q1, q2, q3, q4, q5⟩ := set_cells R2
  have fr : ∀ j, w2.frozen? ⟨R, j, none⟩ = false := fun j => frozen_of_row w2 R j _ _ R2
  clear hb2 R2 B2 hR
  subst ho0
  have HW : Hid (want ≤ 9223372036854775807 ∧ hv ≤ 9223372036854775807) := ⟨by omega, by omega⟩
  clear hw0 hw1 hd0 hd
  go_wp2_with fail
  refine (boundBad_any _ _ _ _ _ _ _ HW.1 HW.2).mono ?_
  rintro e w3 ⟨rfl, hb3⟩
  rw [← show bd = _ from HBD.out]
  obtain ⟨S, hS⟩ : ∃ S, S = w2.heap.size := ⟨_, rfl⟩
  have S3 : w3.heap[w2.heap.size]? = some (setO (-1) 0 want hv 0 0) := block_keep (heap_alloc_new w2 _) hb3
  have R3 : w3.heap[R]? = some (setO 0 0 0 0 0 0) := block_keep ((Below.heap_alloc _ _ _ hRl).trans HB.1) hb3
  have B3 : Hid (Below w.heap.size w w3) := hidW ((HB.2.alloc HB.2.size _).trans (hb3.mono (by have := HB.2.size; simp; omega)))
  rw [← hS] at S3 ⊢
  have hSR : S ≠ R := by omega
  have HSB : Hid (w.heap.size ≤ S) := hidW (by have := HB.2.size; omega)
  have hRl3 : R < w3.heap.size := (Array.getElem?_eq_some_iff.1 R3).1
  have hSl3 : S < w3.heap.size := (Array.getElem?_eq_some_iff.1 S3).1
  have HR3 := hidW R3
  have HS3 := hidW S3
  clear q0 q1 q2 q3 q4 q5 fr hRl
  obtain ⟨q0, q1, q2, q3, q4, q5⟩ := set_cells R3
  obtain ⟨s0, s1, s2, s3, s4, s5⟩ := set_cells S3
  have fr : ∀ j, w3.frozen? ⟨R, j, none⟩ = false := fun j => frozen_of_row w3 R j _ _ R3
  have fs : ∀ j, w3.frozen? ⟨S, j, none⟩ = false := fun j => frozen_of_row w3 S j _ _ S3
  have hRS : R ≠ S := Ne.symm hSR
  clear hb3 R3 S3 HB hS
  go_wp2
  refine bodyPost_ret (v := setV (-1) 0 want hv bd 0) (results_cell_row rfl _ _ R 29 _ (0, 0) _ rfl (six_heap (a0 := 0) (b0 := 0) (c0 := 0) (d0 := 0) (e0 := 0) (f0 := 0) ?hh (-1) 0 want hv bd 0) Try.underlying29 rfl (by kernel_rfl)) rfl ⟨rfl, ?_⟩
  case hh =>
    repeat (first | with_reducible exact HR3.out | (refine (Below.heap_setCell _ _ _ _ ?_).trans ?_; · first | exact hRS | exact hSR))
  · have hr := HRR.out
    have hs := HSB.out
    repeat (first | with_reducible exact B3.out | (with_reducible refine Below.setCell ?_ ?_ _; rotate_left; focus (first | exact hr | exact hs)))

end Go.Proofs.Ytgfphgbemfmkfaa
