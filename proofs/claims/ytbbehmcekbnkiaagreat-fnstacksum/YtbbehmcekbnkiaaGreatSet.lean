import Derived.Test.YtbbehmcekbnkiaaGreatStr
namespace Go.Proofs.YtbbehmcekbnkiaaGreat.Shr
open Go.RowKit
set_option linter.unusedVariables false
set_option linter.unusedSimpArgs false
set_option maxRecDepth 20000 in
set_option maxHeartbeats 4000000 in
theorem stretchT_any (want a0 a1 a2 a3 o hv : Int) (w : World) (ho : o = (top [a0, a1, a2, a3] : Int)) (hhv : hv = ([a0, a1, a2, a3] : List Int).getD (top [a0, a1, a2, a3]) 0) (hw1 : want ≤ 9223372036854775807) (hd : hv ≤ 9223372036854775807) :
 Calls Tryz.prog 117 #[.int .i64 want, .agg #[.int .i64 a0, .int .i64 a1, .int .i64 a2, .int .i64 a3]] w fun e w' =>
  e = .returned (setV 1 o want hv (if hv ≤ 0 then 10000 else if 0 < o then 0 else badV want hv) 0) ∧ Below w.heap.size w w' := by
 obtain ⟨bb, hbb⟩ : ∃ bb : Int, bb = (if hv ≤ 0 then 10000 else if 0 < o then 0 else badV want hv) := ⟨_, rfl⟩
 rw [← hbb]
 have HBB := hidW hbb
 clear hbb
 have HW : Hid (want ≤ 9223372036854775807 ∧ hv ≤ 9223372036854775807) := ⟨hw1, hd⟩
 clear hw1 hd
 go_enter Tryz.func117, Tryz.ntmps117
 go_wp2_with fail
 refine (highest_any _ _ _ _ _).mono ?_
 rintro e w2 ⟨rfl, hb2⟩
 rw [← ho, ← hhv]
 clear ho hhv
 have R2 : w2.heap[w.heap.size + 1]? = some (setO 0 0 0 0 0 0) := block_keep (by have := heap_alloc_new (w.alloc (.cells #[.int .i64 a0, .int .i64 a1, .int .i64 a2, .int .i64 a3] 197)) (setO 0 0 0 0 0 0); simpa using this) hb2
 have B2 : Below w.heap.size w w2 := (((Below.refl _ _).alloc (Nat.le_refl _) _).alloc (by simp) _).trans (hb2.mono (by simp; omega))
 obtain ⟨R, hR⟩ : ∃ R, R = w.heap.size + 1 := ⟨_, rfl⟩
 rw [← hR] at R2 ⊢
 have HRR : Hid (w.heap.size ≤ R) := (by omega : w.heap.size ≤ R)
 have hRl : R < w2.heap.size := (Array.getElem?_eq_some_iff.1 R2).1
 have HB : Hid (w2.heap[R]? = some (setO 0 0 0 0 0 0) ∧ Below w.heap.size w w2) := ⟨R2, B2⟩
 obtain ⟨q0, q1, q2, q3, q4, q5⟩ := set_cells R2
 have fr : ∀ j, w2.frozen? ⟨R, j, none⟩ = false := fun j => frozen_of_row w2 R j _ _ R2
 clear hb2 R2 B2 hR
 go_wp2_with fail
 refine (boundBad_any _ _ _ _ _ _ _ HW.1 HW.2).mono ?_
 rintro e w3 ⟨rfl, hb3⟩
 obtain ⟨bd, hbd⟩ : ∃ bd : Int, bd = (if 0 < o then 0 else badV want hv) := ⟨_, rfl⟩
 rw [← hbd]
 obtain ⟨S, hS⟩ : ∃ S, S = w2.heap.size := ⟨_, rfl⟩
 have S3 : w3.heap[w2.heap.size]? = some (setO 1 o want hv 0 0) := block_keep (heap_alloc_new w2 _) hb3
 have R3 : w3.heap[R]? = some (setO 0 0 0 0 0 0) := block_keep ((Below.heap_alloc _ _ _ hRl).trans HB.1) hb3
 have B3 : Hid (Below w.heap.size w w3) := hidW ((HB.2.alloc HB.2.size _).trans (hb3.mono (by have := HB.2.size; simp; omega)))
 rw [← hS] at S3 ⊢
 have hSR : S ≠ R := by omega
 have HSB : Hid (w.heap.size ≤ S) := hidW (by have := HB.2.size; omega)
 have hRl3 : R < w3.heap.size := (Array.getElem?_eq_some_iff.1 R3).1
 have hSl3 : S < w3.heap.size := (Array.getElem?_eq_some_iff.1 S3).1
 have HR3 := hidW R3
 have HS3 := hidW S3
 clear q0 q1 q2 q3 q4 q5 fr hRl
 obtain ⟨q0, q1, q2, q3, q4, q5⟩ := set_cells R3
 obtain ⟨s0, s1, s2, s3, s4, s5⟩ := set_cells S3
 have fr : ∀ j, w3.frozen? ⟨R, j, none⟩ = false := fun j => frozen_of_row w3 R j _ _ R3
 have fs : ∀ j, w3.frozen? ⟨S, j, none⟩ = false := fun j => frozen_of_row w3 S j _ _ S3
 have hRS : R ≠ S := Ne.symm hSR
 clear hb3 R3 S3 HB hS
 by_cases hno : hv ≤ 0
 ·have HN := hidW hno
  clear hbd
  go_wp2
  refine bodyPost_ret (v := setV 1 o want hv 10000 0) (results_cell_row rfl _ _ R 28 _ (0, 0) _ rfl (six_heap (a0 := 0) (b0 := 0) (c0 := 0) (d0 := 0) (e0 := 0) (f0 := 0) ?hh 1 o want hv 10000 0) Tryz.underlying28 rfl (by kernel_rfl)) rfl ⟨by rw [show bb = _ from HBB.out, if_pos (by have := HN.out; omega)], ?_⟩
  case hh =>
   repeat (first | with_reducible exact HR3.out | (refine (Below.heap_setCell _ _ _ _ ?_).trans ?_; · first | exact hRS | exact hSR))
  ·have hr := HRR.out
   have hs := HSB.out
   repeat (first | with_reducible exact B3.out | (with_reducible refine Below.setCell ?_ ?_ _; rotate_left; focus (first | exact hr | exact hs)))
 ·have HN := hidW hno
  have HBD := hidW hbd
  clear hbd
  go_wp2
  refine bodyPost_ret (v := setV 1 o want hv bd 0) (results_cell_row rfl _ _ R 28 _ (0, 0) _ rfl (six_heap (a0 := 0) (b0 := 0) (c0 := 0) (d0 := 0) (e0 := 0) (f0 := 0) ?hh 1 o want hv bd 0) Tryz.underlying28 rfl (by kernel_rfl)) rfl ⟨by rw [show bb = _ from HBB.out, if_neg (by have := HN.out; omega), show bd = _ from HBD.out], ?_⟩
  case hh =>
   repeat (first | with_reducible exact HR3.out | (refine (Below.heap_setCell _ _ _ _ ?_).trans ?_; · first | exact hRS | exact hSR))
  ·have hr := HRR.out
   have hs := HSB.out
   repeat (first | with_reducible exact B3.out | (with_reducible refine Below.setCell ?_ ?_ _; rotate_left; focus (first | exact hr | exact hs)))
set_option maxRecDepth 20000 in
set_option maxHeartbeats 4000000 in
theorem shrinkT_none (want a0 a1 a2 a3 o hv : Int) (w : World) (ho : o = (top [a0, a1, a2, a3] : Int)) (hhv : hv = ([a0, a1, a2, a3] : List Int).getD (top [a0, a1, a2, a3]) 0) (hw0 : 0 < want) (hw1 : want ≤ 4611686018427387904) (hd0 : -10737418230000 ≤ hv) (hd : hv ≤ 10737418230000) (hno : hv ≤ 0) :
 Calls Tryz.prog 118 #[.int .i64 want, .agg #[.int .i64 a0, .int .i64 a1, .int .i64 a2, .int .i64 a3]] w fun e w' =>
  e = .returned (setV (-1) o want hv 1000000 want) ∧ Below w.heap.size w w' := by
 have hmx : max hv 0 = 0 := by omega
 have hn1 : decide (hv ≤ 0) = true := by simpa using hno
 have hwr : IntKind.i64.wrap want = want := by rw [IntKind.wrap_i64]; omega
 go_enter Tryz.func118, Tryz.ntmps118
 go_wp2_with fail
 refine (highest_any _ _ _ _ _).mono ?_
 rintro e w2 ⟨rfl, hb2⟩
 rw [← ho, ← hhv]
 clear ho hhv
 have R2 : w2.heap[w.heap.size + 1]? = some (setO 0 0 0 0 0 0) := block_keep (by have := heap_alloc_new (w.alloc (.cells #[.int .i64 a0, .int .i64 a1, .int .i64 a2, .int .i64 a3] 197)) (setO 0 0 0 0 0 0); simpa using this) hb2
 have B2 : Below w.heap.size w w2 := (((Below.refl _ _).alloc (Nat.le_refl _) _).alloc (by simp) _).trans (hb2.mono (by simp; omega))
 obtain ⟨R, hR⟩ : ∃ R, R = w.heap.size + 1 := ⟨_, rfl⟩
 rw [← hR] at R2 ⊢
 have HRR : Hid (w.heap.size ≤ R) := (by omega : w.heap.size ≤ R)
 have hRl : R < w2.heap.size := (Array.getElem?_eq_some_iff.1 R2).1
 have HB : Hid (w2.heap[R]? = some (setO 0 0 0 0 0 0) ∧ Below w.heap.size w w2) := ⟨R2, B2⟩
 obtain ⟨q0, q1, q2, q3, q4, q5⟩ := set_cells R2
 have fr : ∀ j, w2.frozen? ⟨R, j, none⟩ = false := fun j => frozen_of_row w2 R j _ _ R2
 clear hb2 R2 B2 hR
 have HF : Hid (((six w2 R (-1) o want hv 1000000 want).alloc (.cells #[.int .i64 (-1), .int .i64 o, .int .i64 want, .int .i64 hv, .int .i64 1000000, .int .i64 want] 28)).heap[R]? = some (setO (-1) o want hv 1000000 want) ∧ Below w.heap.size w ((six w2 R (-1) o want hv 1000000 want).alloc (.cells #[.int .i64 (-1), .int .i64 o, .int .i64 want, .int .i64 hv, .int .i64 1000000, .int .i64 want] 28))) := by
  have hs := six_heap HB.out.1 (-1) o want hv 1000000 want
  refine ⟨(Below.heap_alloc _ _ _ (Array.getElem?_eq_some_iff.1 hs).1).trans hs, ?_⟩
  have B2 := HB.out.2
  have hf : Fr w2.heap.size w w2 := ⟨B2.os, B2.tape, B2.output, B2.size, fun b hb _ => B2.block b hb⟩
  exact ((six_fr hf HRR.out (-1) o want hv 1000000 want).alloc _).toBelow B2.size (Nat.le_refl _)
 clear HB HRR
 clear hw0 hw1 hd0 hd
 go_wp2
 exact bodyPost_ret (v := setV (-1) o want hv 1000000 want) (results_cell_row rfl _ _ R 28 _ (0, 0) _ rfl HF.1 Tryz.underlying28 rfl (by kernel_rfl)) rfl ⟨rfl, HF.2⟩
set_option maxRecDepth 20000 in
set_option maxHeartbeats 4000000 in
theorem shrinkT_over (want a0 a1 a2 a3 o hv : Int) (w : World) (ho : o = (top [a0, a1, a2, a3] : Int)) (hhv : hv = ([a0, a1, a2, a3] : List Int).getD (top [a0, a1, a2, a3]) 0) (hw0 : 0 < want) (hw1 : want ≤ 4611686018427387904) (hd0 : -10737418230000 ≤ hv) (hd : hv ≤ 10737418230000) (ho0 : o = 0) (hpos : 0 < hv) (hov : hv < want) :
 Calls Tryz.prog 118 #[.int .i64 want, .agg #[.int .i64 a0, .int .i64 a1, .int .i64 a2, .int .i64 a3]] w fun e w' =>
  e = .returned (setV (-1) o want hv 1000000 (want - hv)) ∧ Below w.heap.size w w' := by
 have hmx : max hv 0 = hv := by omega
 have hn1 : decide (hv ≤ 0) = false := by simpa using hpos
 have hn0 : ¬ hv ≤ 0 := by omega
 have hwr : IntKind.i64.wrap (want - hv) = want - hv := by rw [IntKind.wrap_i64]; omega
 go_enter Tryz.func118, Tryz.ntmps118
 go_wp2_with fail
 refine (highest_any _ _ _ _ _).mono ?_
 rintro e w2 ⟨rfl, hb2⟩
 rw [← ho, ← hhv]
 clear ho hhv
 have R2 : w2.heap[w.heap.size + 1]? = some (setO 0 0 0 0 0 0) := block_keep (by have := heap_alloc_new (w.alloc (.cells #[.int .i64 a0, .int .i64 a1, .int .i64 a2, .int .i64 a3] 197)) (setO 0 0 0 0 0 0); simpa using this) hb2
 have B2 : Below w.heap.size w w2 := (((Below.refl _ _).alloc (Nat.le_refl _) _).alloc (by simp) _).trans (hb2.mono (by simp; omega))
 obtain ⟨R, hR⟩ : ∃ R, R = w.heap.size + 1 := ⟨_, rfl⟩
 rw [← hR] at R2 ⊢
 have HRR : Hid (w.heap.size ≤ R) := (by omega : w.heap.size ≤ R)
 have hRl : R < w2.heap.size := (Array.getElem?_eq_some_iff.1 R2).1
 have HB : Hid (w2.heap[R]? = some (setO 0 0 0 0 0 0) ∧ Below w.heap.size w w2) := ⟨R2, B2⟩
 obtain ⟨q0, q1, q2, q3, q4, q5⟩ := set_cells R2
 have fr : ∀ j, w2.frozen? ⟨R, j, none⟩ = false := fun j => frozen_of_row w2 R j _ _ R2
 clear hb2 R2 B2 hR
 subst ho0
 have HF : Hid (((six w2 R (-1) 0 want hv 1000000 (want - hv)).alloc (.cells #[.int .i64 (-1), .int .i64 0, .int .i64 want, .int .i64 hv, .int .i64 1000000, .int .i64 (want - hv)] 28)).heap[R]? = some (setO (-1) 0 want hv 1000000 (want - hv)) ∧ Below w.heap.size w ((six w2 R (-1) 0 want hv 1000000 (want - hv)).alloc (.cells #[.int .i64 (-1), .int .i64 0, .int .i64 want, .int .i64 hv, .int .i64 1000000, .int .i64 (want - hv)] 28))) := by
  have hs := six_heap HB.out.1 (-1) 0 want hv 1000000 (want - hv)
  refine ⟨(Below.heap_alloc _ _ _ (Array.getElem?_eq_some_iff.1 hs).1).trans hs, ?_⟩
  have B2 := HB.out.2
  have hf : Fr w2.heap.size w w2 := ⟨B2.os, B2.tape, B2.output, B2.size, fun b hb _ => B2.block b hb⟩
  exact ((six_fr hf HRR.out (-1) 0 want hv 1000000 (want - hv)).alloc _).toBelow B2.size (Nat.le_refl _)
 clear HB HRR hw0 hw1 hd0 hd
 go_wp2
 exact bodyPost_ret (v := setV (-1) 0 want hv 1000000 (want - hv)) (results_cell_row rfl _ _ R 28 _ (0, 0) _ rfl HF.1 Tryz.underlying28 rfl (by kernel_rfl)) rfl ⟨rfl, HF.2⟩
set_option maxRecDepth 20000 in
set_option maxHeartbeats 4000000 in
theorem shrinkT_high (want a0 a1 a2 a3 o hv : Int) (w : World) (ho : o = (top [a0, a1, a2, a3] : Int)) (hhv : hv = ([a0, a1, a2, a3] : List Int).getD (top [a0, a1, a2, a3]) 0) (hw0 : 0 < want) (hw1 : want ≤ 4611686018427387904) (hd0 : -10737418230000 ≤ hv) (hd : hv ≤ 10737418230000) (hpos : 0 < hv) (hoh : 0 < o) (bd : Int) (hbd : bd = (if 0 < o then 0 else badV want hv)) :
 Calls Tryz.prog 118 #[.int .i64 want, .agg #[.int .i64 a0, .int .i64 a1, .int .i64 a2, .int .i64 a3]] w fun e w' =>
  e = .returned (setV (-1) o want hv bd 0) ∧ Below w.heap.size w w' := by
 have hn0 : ¬ hv ≤ 0 := by omega
 have hn1 : decide (hv ≤ 0) = false := by simpa using hpos
 have hn2 : (o == 0) = false := by simp; omega
 have hn3 : ¬ o = 0 := by omega
 have HBD := hidW hbd
 clear hbd
 go_enter Tryz.func118, Tryz.ntmps118
 go_wp2_with fail
 refine (highest_any _ _ _ _ _).mono ?_
 rintro e w2 ⟨rfl, hb2⟩
 rw [← ho, ← hhv]
 clear ho hhv
 have R2 : w2.heap[w.heap.size + 1]? = some (setO 0 0 0 0 0 0) := block_keep (by have := heap_alloc_new (w.alloc (.cells #[.int .i64 a0, .int .i64 a1, .int .i64 a2, .int .i64 a3] 197)) (setO 0 0 0 0 0 0); simpa using this) hb2
 have B2 : Below w.heap.size w w2 := (((Below.refl _ _).alloc (Nat.le_refl _) _).alloc (by simp) _).trans (hb2.mono (by simp; omega))
 obtain ⟨R, hR⟩ : ∃ R, R = w.heap.size + 1 := ⟨_, rfl⟩
 rw [← hR] at R2 ⊢
 have HRR : Hid (w.heap.size ≤ R) := (by omega : w.heap.size ≤ R)
 have hRl : R < w2.heap.size := (Array.getElem?_eq_some_iff.1 R2).1
 have HB : Hid (w2.heap[R]? = some (setO 0 0 0 0 0 0) ∧ Below w.heap.size w w2) := ⟨R2, B2⟩
 obtain ⟨q0, q1, q2, q3, q4, q5⟩ := set_cells R2
 have fr : ∀ j, w2.frozen? ⟨R, j, none⟩ = false := fun j => frozen_of_row w2 R j _ _ R2
 clear hb2 R2 B2 hR
 have HW : Hid (want ≤ 9223372036854775807 ∧ hv ≤ 9223372036854775807) := ⟨by omega, by omega⟩
 clear hw0 hw1 hd0 hd
 go_wp2_with fail
 refine (boundBad_any _ _ _ _ _ _ _ HW.1 HW.2).mono ?_
 rintro e w3 ⟨rfl, hb3⟩
 rw [← show bd = _ from HBD.out]
 obtain ⟨S, hS⟩ : ∃ S, S = w2.heap.size := ⟨_, rfl⟩
 have S3 : w3.heap[w2.heap.size]? = some (setO (-1) o want hv 0 0) := block_keep (heap_alloc_new w2 _) hb3
 have R3 : w3.heap[R]? = some (setO 0 0 0 0 0 0) := block_keep ((Below.heap_alloc _ _ _ hRl).trans HB.1) hb3
 have B3 : Hid (Below w.heap.size w w3) := hidW ((HB.2.alloc HB.2.size _).trans (hb3.mono (by have := HB.2.size; simp; omega)))
 rw [← hS] at S3 ⊢
 have hSR : S ≠ R := by omega
 have HSB : Hid (w.heap.size ≤ S) := hidW (by have := HB.2.size; omega)
 have hRl3 : R < w3.heap.size := (Array.getElem?_eq_some_iff.1 R3).1
 have hSl3 : S < w3.heap.size := (Array.getElem?_eq_some_iff.1 S3).1
 have HR3 := hidW R3
 have HS3 := hidW S3
 clear q0 q1 q2 q3 q4 q5 fr hRl
 obtain ⟨q0, q1, q2, q3, q4, q5⟩ := set_cells R3
 obtain ⟨s0, s1, s2, s3, s4, s5⟩ := set_cells S3
 have fr : ∀ j, w3.frozen? ⟨R, j, none⟩ = false := fun j => frozen_of_row w3 R j _ _ R3
 have fs : ∀ j, w3.frozen? ⟨S, j, none⟩ = false := fun j => frozen_of_row w3 S j _ _ S3
 have hRS : R ≠ S := Ne.symm hSR
 clear hb3 R3 S3 HB hS
 go_wp2
 refine bodyPost_ret (v := setV (-1) o want hv bd 0) (results_cell_row rfl _ _ R 28 _ (0, 0) _ rfl (six_heap (a0 := 0) (b0 := 0) (c0 := 0) (d0 := 0) (e0 := 0) (f0 := 0) ?hh (-1) o want hv bd 0) Tryz.underlying28 rfl (by kernel_rfl)) rfl ⟨rfl, ?_⟩
 case hh =>
  repeat (first | with_reducible exact HR3.out | (refine (Below.heap_setCell _ _ _ _ ?_).trans ?_; · first | exact hRS | exact hSR))
 ·have hr := HRR.out
  have hs := HSB.out
  repeat (first | with_reducible exact B3.out | (with_reducible refine Below.setCell ?_ ?_ _; rotate_left; focus (first | exact hr | exact hs)))
set_option maxRecDepth 20000 in
set_option maxHeartbeats 4000000 in
theorem shrinkT_zero (want a0 a1 a2 a3 o hv : Int) (w : World) (ho : o = (top [a0, a1, a2, a3] : Int)) (hhv : hv = ([a0, a1, a2, a3] : List Int).getD (top [a0, a1, a2, a3]) 0) (hw0 : 0 < want) (hw1 : want ≤ 4611686018427387904) (hd0 : -10737418230000 ≤ hv) (hd : hv ≤ 10737418230000) (hpos : 0 < hv) (ho0 : o = 0) (hge : want ≤ hv) (bd : Int) (hbd : bd = (if 0 < o then 0 else badV want hv)) :
 Calls Tryz.prog 118 #[.int .i64 want, .agg #[.int .i64 a0, .int .i64 a1, .int .i64 a2, .int .i64 a3]] w fun e w' =>
  e = .returned (setV (-1) o want hv bd 0) ∧ Below w.heap.size w w' := by
 have hn0 : ¬ hv ≤ 0 := by omega
 have hn1 : decide (hv ≤ 0) = false := by simpa using hpos
 have hn4 : ¬ hv < want := by omega
 have hn5 : decide (hv < want) = false := by simpa using hge
 have HBD := hidW hbd
 clear hbd
 go_enter Tryz.func118, Tryz.ntmps118
 go_wp2_with fail
 refine (highest_any _ _ _ _ _).mono ?_
 rintro e w2 ⟨rfl, hb2⟩
 rw [← ho, ← hhv]
 clear ho hhv
 have R2 : w2.heap[w.heap.size + 1]? = some (setO 0 0 0 0 0 0) := block_keep (by have := heap_alloc_new (w.alloc (.cells #[.int .i64 a0, .int .i64 a1, .int .i64 a2, .int .i64 a3] 197)) (setO 0 0 0 0 0 0); simpa using this) hb2
 have B2 : Below w.heap.size w w2 := (((Below.refl _ _).alloc (Nat.le_refl _) _).alloc (by simp) _).trans (hb2.mono (by simp; omega))
 obtain ⟨R, hR⟩ : ∃ R, R = w.heap.size + 1 := ⟨_, rfl⟩
 rw [← hR] at R2 ⊢
 have HRR : Hid (w.heap.size ≤ R) := (by omega : w.heap.size ≤ R)
 have hRl : R < w2.heap.size := (Array.getElem?_eq_some_iff.1 R2).1
 have HB : Hid (w2.heap[R]? = some (setO 0 0 0 0 0 0) ∧ Below w.heap.size w w2) := ⟨R2, B2⟩
 obtain ⟨q0, q1, q2, q3, q4, q5⟩ := set_cells R2
 have fr : ∀ j, w2.frozen? ⟨R, j, none⟩ = false := fun j => frozen_of_row w2 R j _ _ R2
 clear hb2 R2 B2 hR
 subst ho0
 have HW : Hid (want ≤ 9223372036854775807 ∧ hv ≤ 9223372036854775807) := ⟨by omega, by omega⟩
 clear hw0 hw1 hd0 hd
 go_wp2_with fail
 refine (boundBad_any _ _ _ _ _ _ _ HW.1 HW.2).mono ?_
 rintro e w3 ⟨rfl, hb3⟩
 rw [← show bd = _ from HBD.out]
 obtain ⟨S, hS⟩ : ∃ S, S = w2.heap.size := ⟨_, rfl⟩
 have S3 : w3.heap[w2.heap.size]? = some (setO (-1) 0 want hv 0 0) := block_keep (heap_alloc_new w2 _) hb3
 have R3 : w3.heap[R]? = some (setO 0 0 0 0 0 0) := block_keep ((Below.heap_alloc _ _ _ hRl).trans HB.1) hb3
 have B3 : Hid (Below w.heap.size w w3) := hidW ((HB.2.alloc HB.2.size _).trans (hb3.mono (by have := HB.2.size; simp; omega)))
 rw [← hS] at S3 ⊢
 have hSR : S ≠ R := by omega
 have HSB : Hid (w.heap.size ≤ S) := hidW (by have := HB.2.size; omega)
 have hRl3 : R < w3.heap.size := (Array.getElem?_eq_some_iff.1 R3).1
 have hSl3 : S < w3.heap.size := (Array.getElem?_eq_some_iff.1 S3).1
 have HR3 := hidW R3
 have HS3 := hidW S3
 clear q0 q1 q2 q3 q4 q5 fr hRl
 obtain ⟨q0, q1, q2, q3, q4, q5⟩ := set_cells R3
 obtain ⟨s0, s1, s2, s3, s4, s5⟩ := set_cells S3
 have fr : ∀ j, w3.frozen? ⟨R, j, none⟩ = false := fun j => frozen_of_row w3 R j _ _ R3
 have fs : ∀ j, w3.frozen? ⟨S, j, none⟩ = false := fun j => frozen_of_row w3 S j _ _ S3
 have hRS : R ≠ S := Ne.symm hSR
 clear hb3 R3 S3 HB hS
 go_wp2
 refine bodyPost_ret (v := setV (-1) 0 want hv bd 0) (results_cell_row rfl _ _ R 28 _ (0, 0) _ rfl (six_heap (a0 := 0) (b0 := 0) (c0 := 0) (d0 := 0) (e0 := 0) (f0 := 0) ?hh (-1) 0 want hv bd 0) Tryz.underlying28 rfl (by kernel_rfl)) rfl ⟨rfl, ?_⟩
 case hh =>
  repeat (first | with_reducible exact HR3.out | (refine (Below.heap_setCell _ _ _ _ ?_).trans ?_; · first | exact hRS | exact hSR))
 ·have hr := HRR.out
  have hs := HSB.out
  repeat (first | with_reducible exact B3.out | (with_reducible refine Below.setCell ?_ ?_ _; rotate_left; focus (first | exact hr | exact hs)))
def ordOf (f o : Gl → Int) (gs : List Gl) : Int := (top (tot f o gs) : Int)
def hvOf (f o : Gl → Int) (gs : List Gl) : Int := (tot f o gs).getD (top (tot f o gs)) 0
abbrev Sett.v (s : Sett) : Value := setV s.sign s.order s.want s.have_ s.bad s.over
def upS (gs : List Gl) (q : Int) : Sett := if hvOf Gl.p Gl.po gs ≤ 0 then ⟨1, ordOf Gl.p Gl.po gs, q, hvOf Gl.p Gl.po gs, 10000, 0⟩ else ⟨1, ordOf Gl.p Gl.po gs, q, hvOf Gl.p Gl.po gs, if 0 < ordOf Gl.p Gl.po gs then 0 else badV q (hvOf Gl.p Gl.po gs), 0⟩
def upL (gs : List Gl) (q : Int) : List Int := if hvOf Gl.p Gl.po gs ≤ 0 then sizes gs else plusL (sizes gs) (stp Gl.p Gl.po (ordOf Gl.p Gl.po gs) q (hvOf Gl.p Gl.po gs) gs).2.2
def downS (gs : List Gl) (q : Int) : Sett := if hvOf Gl.m Gl.mo gs ≤ 0 then ⟨-1, ordOf Gl.m Gl.mo gs, q, hvOf Gl.m Gl.mo gs, 1000000, q⟩ else if ordOf Gl.m Gl.mo gs = 0 ∧ hvOf Gl.m Gl.mo gs < q then ⟨-1, 0, q, hvOf Gl.m Gl.mo gs, 1000000, q - hvOf Gl.m Gl.mo gs⟩ else ⟨-1, ordOf Gl.m Gl.mo gs, q, hvOf Gl.m Gl.mo gs, if 0 < ordOf Gl.m Gl.mo gs then 0 else badV q (hvOf Gl.m Gl.mo gs), 0⟩
def downL (gs : List Gl) (q : Int) : List Int := if hvOf Gl.m Gl.mo gs ≤ 0 then sizes gs else if ordOf Gl.m Gl.mo gs = 0 ∧ hvOf Gl.m Gl.mo gs < q then minusL (sizes gs) (stp Gl.m Gl.mo 0 (hvOf Gl.m Gl.mo gs) (hvOf Gl.m Gl.mo gs) gs).2.2 else minusL (sizes gs) (stp Gl.m Gl.mo (ordOf Gl.m Gl.mo gs) q (hvOf Gl.m Gl.mo gs) gs).2.2
def shareS (gs : List Gl) (q : Int) : Sett := if 0 < q then upS gs q else if q < 0 then downS gs (-q) else ⟨0, 0, 0, 0, 0, 0⟩
def shareL (gs : List Gl) (q : Int) : List Int := if 0 < q then upL gs q else if q < 0 then downL gs (-q) else sizes gs
theorem ordOf_nn (f o : Gl → Int) (gs : List Gl) : 0 ≤ ordOf f o gs := by unfold ordOf; omega
theorem results_tmp_cell {fn : Func} {u p : Tmp} {ty : TypeId} (h : fn.results = #[.tmp u, .cell p ty]) (tmps : Array Value) (w : World) (g : Nat) (x y : Value) {P : Program}
 (hp : tmps.getD p undef = .pointer (some ⟨g, 0, none⟩)) (hu : tmps.getD u undef = y) (hld : (loadVar ty ⟨g, 0, none⟩).run P w = .ok x w) :
 (results fn tmps).run P w = .ok (.tuple #[y, x]) w := by
 have hp' : tmps[p]?.getD undef = .pointer (some ⟨g, 0, none⟩) := by simpa using hp
 have hu' : tmps[u]?.getD undef = y := by simpa using hu
 simp [results, h, hp', hu', asAddr, hld, Result.andThen]
theorem Fr.trans {L : Nat} {w a b : World} (h : Fr L w a) (h2 : Fr L a b) : Fr L w b :=
 ⟨h2.1.trans h.1, h2.2.1.trans h.2.1, h2.2.2.1.trans h.2.2.1, Nat.le_trans h.2.2.2.1 h2.2.2.2.1, fun k hk hne => (h2.2.2.2.2 k (Nat.lt_of_lt_of_le hk h.2.2.2.1) hne).trans (h.2.2.2.2 k hk hne)⟩
theorem sizes_snoc {gs : List Gl} {k : Nat} (h : k < gs.length) : sizes (gs.take (k + 1)) = sizes (gs.take k) ++ [(gs.getD k Gl.none).s] := by
 rw [take_snoc h]; simp [sizes]
abbrev fourV (a b c d : Int) : Value := .agg #[.int .i64 a, .int .i64 b, .int .i64 c, .int .i64 d]
theorem upT_any {gs : List Gl} (q p0 p1 p2 p3 : Int) (w : World) (hP : tot Gl.p Gl.po gs = [p0, p1, p2, p3]) (hw1 : q ≤ 4611686018427387904) (hb : hvOf Gl.p Gl.po gs ≤ 10737418230000) :
 Calls Tryz.prog 117 #[.int .i64 q, fourV p0 p1 p2 p3] w fun e w' => e = .returned (upS gs q).v ∧ Below w.heap.size w w' := by
 refine (stretchT_any q p0 p1 p2 p3 (ordOf Gl.p Gl.po gs) (hvOf Gl.p Gl.po gs) w (by unfold ordOf; rw [hP]) (by unfold hvOf; rw [hP]) (by omega) (by omega)).mono ?_
 rintro e w' ⟨rfl, hb'⟩
 refine ⟨?_, hb'⟩
 unfold upS
 by_cases h : hvOf Gl.p Gl.po gs ≤ 0
 ·rw [if_pos h, if_pos h]
 ·rw [if_neg h, if_neg h]
theorem downT_any {gs : List Gl} (q m0 m1 m2 m3 : Int) (w : World) (hM : tot Gl.m Gl.mo gs = [m0, m1, m2, m3]) (hw0 : 0 < q) (hw1 : q ≤ 4611686018427387904) (hb0 : -10737418230000 ≤ hvOf Gl.m Gl.mo gs) (hb : hvOf Gl.m Gl.mo gs ≤ 10737418230000) :
 Calls Tryz.prog 118 #[.int .i64 q, fourV m0 m1 m2 m3] w fun e w' => e = .returned (downS gs q).v ∧ Below w.heap.size w w' := by
 have h1 : ordOf Gl.m Gl.mo gs = (top [m0, m1, m2, m3] : Int) := by unfold ordOf; rw [hM]
 have h2 : hvOf Gl.m Gl.mo gs = ([m0, m1, m2, m3] : List Int).getD (top [m0, m1, m2, m3]) 0 := by unfold hvOf; rw [hM]
 have h3 := ordOf_nn Gl.m Gl.mo gs
 by_cases hno : hvOf Gl.m Gl.mo gs ≤ 0
 ·refine (shrinkT_none q m0 m1 m2 m3 _ _ w h1 h2 hw0 hw1 hb0 hb hno).mono ?_
  rintro e w' ⟨rfl, hb'⟩
  refine ⟨?_, hb'⟩
  unfold downS; rw [if_pos hno]
 ·by_cases hov : ordOf Gl.m Gl.mo gs = 0 ∧ hvOf Gl.m Gl.mo gs < q
  ·refine (shrinkT_over q m0 m1 m2 m3 _ _ w h1 h2 hw0 hw1 hb0 hb hov.1 (by omega) hov.2).mono ?_
   rintro e w' ⟨rfl, hb'⟩
   refine ⟨?_, hb'⟩
   unfold downS; rw [if_neg hno, if_pos hov, hov.1]
  ·by_cases h0 : ordOf Gl.m Gl.mo gs = 0
   ·refine (shrinkT_zero q m0 m1 m2 m3 _ _ w h1 h2 hw0 hw1 hb0 hb (by omega) h0 (Int.not_lt.1 fun hh => hov ⟨h0, hh⟩) _ rfl).mono ?_
    rintro e w' ⟨rfl, hb'⟩
    refine ⟨?_, hb'⟩
    unfold downS; rw [if_neg hno, if_neg hov]
   ·refine (shrinkT_high q m0 m1 m2 m3 _ _ w h1 h2 hw0 hw1 hb0 hb (by omega) (by omega) _ rfl).mono ?_
    rintro e w' ⟨rfl, hb'⟩
    refine ⟨?_, hb'⟩
    unfold downS; rw [if_neg hno, if_neg hov]
set_option maxRecDepth 20000 in
set_option maxHeartbeats 4000000 in
theorem settle_any {gs : List Gl} (q p0 p1 p2 p3 m0 m1 m2 m3 : Int) (w : World) (hP : tot Gl.p Gl.po gs = [p0, p1, p2, p3]) (hM : tot Gl.m Gl.mo gs = [m0, m1, m2, m3]) (hok : glsOk gs = true) (hw0 : -4611686018427387904 ≤ q) (hw1 : q ≤ 4611686018427387904) :
 Calls Tryz.prog 102 #[.int .i64 q, fourV p0 p1 p2 p3, fourV m0 m1 m2 m3] w fun e w' => e = .returned (shareS gs q).v ∧ Below w.heap.size w w' := by
 have heach := glsOk_each hok
 have hp := tot_have Gl.p Gl.po gs heach.1 (fun k hk => (ok_bounds (heach.2 k hk)).2.1) (top (tot Gl.p Gl.po gs))
 have hm := tot_have Gl.m Gl.mo gs heach.1 (fun k hk => (ok_bounds (heach.2 k hk)).2.2.1) (top (tot Gl.m Gl.mo gs))
 have HU : Hid (∀ W, Calls Tryz.prog 117 #[.int .i64 q, fourV p0 p1 p2 p3] W fun e w' => e = .returned (upS gs q).v ∧ Below W.heap.size W w') := fun W => upT_any q p0 p1 p2 p3 W hP hw1 hp.2
 have HD : Hid (q < 0 → ∀ W, Calls Tryz.prog 118 #[.int .i64 (-q), fourV m0 m1 m2 m3] W fun e w' => e = .returned (downS gs (-q)).v ∧ Below W.heap.size W w') := fun h W => downT_any (-q) m0 m1 m2 m3 W hM (by omega) (by omega) hm.1 hm.2
 clear hp hm heach hP hM hok
 obtain ⟨s, hs⟩ : ∃ s, s = shareS gs q := ⟨_, rfl⟩
 rw [← hs]
 have hwn : IntKind.i64.wrap (-q) = -q := by rw [IntKind.wrap_i64]; omega
 simp only [fourV] at HU HD ⊢
 by_cases hq1 : 0 < q
 ·obtain rfl : s = upS gs q := by rw [hs]; unfold shareS; rw [if_pos hq1]
  clear hs HD
  obtain ⟨⟨x0, x1, x2, x3, x4, x5⟩, hs⟩ : ∃ s, s = upS gs q := ⟨_, rfl⟩
  rw [← hs] at HU ⊢
  clear hs
  go_enter Tryz.func102, Tryz.ntmps102
  go_wp2_with fail
  refine (HU.out _).mono ?_
  rintro e w2 ⟨rfl, hb2⟩
  have R2 : w2.heap[w.heap.size + 2]? = some (setO 0 0 0 0 0 0) := block_keep (by have := heap_alloc_new ((w.alloc (.cells #[.int .i64 p0, .int .i64 p1, .int .i64 p2, .int .i64 p3] 197)).alloc (.cells #[.int .i64 m0, .int .i64 m1, .int .i64 m2, .int .i64 m3] 197)) (setO 0 0 0 0 0 0); simpa using this) hb2
  have B2 : Below w.heap.size w w2 := ((((Below.refl _ _).alloc (Nat.le_refl _) _).alloc (by simp) _).alloc (by simp; omega) _).trans (hb2.mono (by simp; omega))
  obtain ⟨R, hR⟩ : ∃ R, R = w.heap.size + 2 := ⟨_, rfl⟩
  have hR' : w.heap.size + 1 + 1 = R := by omega
  rw [hR']
  rw [← hR] at R2
  have HF : Hid ((six w2 R x0 x1 x2 x3 x4 x5).heap[R]? = some (setO x0 x1 x2 x3 x4 x5) ∧ Below w.heap.size w (six w2 R x0 x1 x2 x3 x4 x5)) := by
   refine ⟨six_heap R2 _ _ _ _ _ _, ?_⟩
   have hf : Fr w2.heap.size w w2 := ⟨B2.os, B2.tape, B2.output, B2.size, fun b hb _ => B2.block b hb⟩
   exact (six_fr hf (by omega) _ _ _ _ _ _).toBelow B2.size (Nat.le_refl _)
  have hRl : R < w2.heap.size := (Array.getElem?_eq_some_iff.1 R2).1
  obtain ⟨q0, q1, q2, q3, q4, q5⟩ := set_cells R2
  have fr : ∀ j, w2.frozen? ⟨R, j, none⟩ = false := fun j => frozen_of_row w2 R j _ _ R2
  clear hb2 R2 B2 hR hR' HU
  simp only [Sett.v]
  go_wp2
  exact bodyPost_ret (v := setV x0 x1 x2 x3 x4 x5) (results_cell_row rfl _ _ R 28 _ (0, 0) _ rfl HF.1 Tryz.underlying28 rfl (by kernel_rfl)) rfl ⟨rfl, HF.2⟩
 ·by_cases hq2 : q < 0
  ·obtain rfl : s = downS gs (-q) := by rw [hs]; unfold shareS; rw [if_neg hq1, if_pos hq2]
   have HD2 := hidW (HD.out hq2)
   clear hs HU HD
   obtain ⟨⟨x0, x1, x2, x3, x4, x5⟩, hs⟩ : ∃ s, s = downS gs (-q) := ⟨_, rfl⟩
   rw [← hs] at HD2 ⊢
   clear hs
   go_enter Tryz.func102, Tryz.ntmps102
   go_wp2_with fail
   refine (HD2.out _).mono ?_
   rintro e w2 ⟨rfl, hb2⟩
   have R2 : w2.heap[w.heap.size + 2]? = some (setO 0 0 0 0 0 0) := block_keep (by have := heap_alloc_new ((w.alloc (.cells #[.int .i64 p0, .int .i64 p1, .int .i64 p2, .int .i64 p3] 197)).alloc (.cells #[.int .i64 m0, .int .i64 m1, .int .i64 m2, .int .i64 m3] 197)) (setO 0 0 0 0 0 0); simpa using this) hb2
   have B2 : Below w.heap.size w w2 := ((((Below.refl _ _).alloc (Nat.le_refl _) _).alloc (by simp) _).alloc (by simp; omega) _).trans (hb2.mono (by simp; omega))
   obtain ⟨R, hR⟩ : ∃ R, R = w.heap.size + 2 := ⟨_, rfl⟩
   have hR' : w.heap.size + 1 + 1 = R := by omega
   rw [hR']
   rw [← hR] at R2
   have HF : Hid ((six w2 R x0 x1 x2 x3 x4 x5).heap[R]? = some (setO x0 x1 x2 x3 x4 x5) ∧ Below w.heap.size w (six w2 R x0 x1 x2 x3 x4 x5)) := by
    refine ⟨six_heap R2 _ _ _ _ _ _, ?_⟩
    have hf : Fr w2.heap.size w w2 := ⟨B2.os, B2.tape, B2.output, B2.size, fun b hb _ => B2.block b hb⟩
    exact (six_fr hf (by omega) _ _ _ _ _ _).toBelow B2.size (Nat.le_refl _)
   have hRl : R < w2.heap.size := (Array.getElem?_eq_some_iff.1 R2).1
   obtain ⟨q0, q1, q2, q3, q4, q5⟩ := set_cells R2
   have fr : ∀ j, w2.frozen? ⟨R, j, none⟩ = false := fun j => frozen_of_row w2 R j _ _ R2
   clear hb2 R2 B2 hR hR' HD2
   simp only [Sett.v]
   go_wp2
   exact bodyPost_ret (v := setV x0 x1 x2 x3 x4 x5) (results_cell_row rfl _ _ R 28 _ (0, 0) _ rfl HF.1 Tryz.underlying28 rfl (by kernel_rfl)) rfl ⟨rfl, HF.2⟩
  ·obtain rfl : q = 0 := by omega
   obtain rfl : s = ⟨0, 0, 0, 0, 0, 0⟩ := by rw [hs]; rfl
   clear hs HU HD
   go_enter Tryz.func102, Tryz.ntmps102
   go_wp2
   exact bodyPost_ret (v := setV 0 0 0 0 0 0) (results_cell_row rfl _ _ (w.heap.size + 1 + 1) 28 _ (0, 0) _ rfl (by have := heap_alloc_new ((w.alloc (.cells #[.int .i64 p0, .int .i64 p1, .int .i64 p2, .int .i64 p3] 197)).alloc (.cells #[.int .i64 m0, .int .i64 m1, .int .i64 m2, .int .i64 m3] 197)) (setO 0 0 0 0 0 0); simpa using this) Tryz.underlying28 rfl (by kernel_rfl)) rfl ⟨rfl, ((((Below.refl _ _).alloc (Nat.le_refl _) _).alloc (by simp) _).alloc (by simp; omega) _)⟩
end Go.Proofs.YtbbehmcekbnkiaaGreat.Shr
