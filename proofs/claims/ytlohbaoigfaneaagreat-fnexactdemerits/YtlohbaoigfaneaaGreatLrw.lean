import Derived.Test.YtlohbaoigfaneaaGreatInts
import Derived.Test.YtlohbaoigfaneaaGreatTrn
import Derived.Test.YtlohbaoigfaneaaGreatItb
import Derived.Test.YtlohbaoigfaneaaGreatIts
import Derived.Test.YtlohbaoigfaneaaGreatLis
namespace Go.Proofs.YtlohbaoigfaneaaGreat
open Go.RowKit
set_option linter.unusedVariables false
set_option linter.unusedSimpArgs false
structure Sy where
 wd : Int
 nw : Int
 hg : Int
 tl : Int
 ln : Int
 hy : Int
 du : Int
 ad : Int
 l0 : Int
 l1 : Int
 l2 : Int
 l3 : Int
 l4 : Int
 r0 : Int
 r1 : Int
 r2 : Int
 r3 : Int
 r4 : Int
 f0 : Int
 f1 : Int
 f2 : Int
 f3 : Int
 f4 : Int
abbrev syV (x : Sy) : Value := .agg #[.int .i64 x.wd, .int .i64 x.nw, .int .i64 x.hg, .int .i64 x.tl, .int .i64 x.ln, .int .i64 x.hy, .int .i64 x.du, .int .i64 x.ad, .int .i64 x.l0, .int .i64 x.l1, .int .i64 x.l2, .int .i64 x.l3, .int .i64 x.l4, .int .i64 x.r0, .int .i64 x.r1, .int .i64 x.r2, .int .i64 x.r3, .int .i64 x.r4, .int .i64 x.f0, .int .i64 x.f1, .int .i64 x.f2, .int .i64 x.f3, .int .i64 x.f4]
def syB (x : Sy) : Bool := (uptoB x.wd 1073741823 && uptoB x.nw 1073741823 && uptoB x.hg 4) && (uptoB x.tl 10000 && uptoB x.ln 10000 && uptoB x.hy 10000) && (uptoB x.du 1000000 && uptoB x.ad 1000000) && glB x.l0 x.l1 x.l2 x.l3 x.l4 && glB x.r0 x.r1 x.r2 x.r3 x.r4 && glB x.f0 x.f1 x.f2 x.f3 x.f4
theorem up_less {x m k : Int} (h : uptoB x k = false) (hm : m ≤ k) : uptoB x m = false := by simp [uptoB] at h ⊢; omega
theorem heap_set5 (w : World) (B k : Nat) (hk : k ≠ B) (o1 o2 o3 o4 o5 : Nat) (v1 v2 v3 v4 v5 : Value) : (((((w.setCell ⟨B, o1, none⟩ v1).setCell ⟨B, o2, none⟩ v2).setCell ⟨B, o3, none⟩ v3).setCell ⟨B, o4, none⟩ v4).setCell ⟨B, o5, none⟩ v5).heap[k]? = w.heap[k]? := by
 rw [Below.heap_setCell _ _ _ _ hk, Below.heap_setCell _ _ _ _ hk, Below.heap_setCell _ _ _ _ hk, Below.heap_setCell _ _ _ _ hk, Below.heap_setCell _ _ _ _ hk]
theorem styInfo : (Tryz.prog.info? 35).map (·.size) = some 23 := by kernel_rfl
set_option maxHeartbeats 8000000 in
theorem toStyle_any (x : Sy) (w : World) : Calls Tryz.prog 9 #[syV x] w fun r w' => r = .returned (syV x) ∧ Below w.heap.size w w' := by
 obtain ⟨wd, nw, hg, tl, ln, hy, du, ad, l0, l1, l2, l3, l4, r0, r1, r2, r3, r4, f0, f1, f2, f3, f4⟩ := x
 simp only [syV]
 go_enter Tryz.func9, Tryz.ntmps9
 go_wp2_with fail
 refine (toGlue_any _ _ _ _ _ _).mono ?_
 rintro e w1 ⟨rfl, hb1⟩
 have hs1 : w.heap.size + 1 + 1 < w1.heap.size := by have := hb1.size; simp at this; omega
 have hy1 : w.heap.size + 1 < w1.heap.size := by omega
 have hx1 : w.heap.size < w1.heap.size := by omega
 have B1 : Hid (Below w.heap.size w w1) := by
  refine below_more ?_ hb1 (by simp; omega)
  repeat (first | with_reducible exact below3 _ _ _ _ | (with_reducible refine Below.setCell ?_ ?_ _; rotate_left; focus (first | (simp; done) | (simp; omega))))
 have qa1 : w1.heap[w.heap.size]? = some (.cells #[.int .i64 wd, .int .i64 nw, .int .i64 hg, .int .i64 tl, .int .i64 ln, .int .i64 hy, .int .i64 du, .int .i64 ad, .int .i64 l0, .int .i64 l1, .int .i64 l2, .int .i64 l3, .int .i64 l4, .int .i64 r0, .int .i64 r1, .int .i64 r2, .int .i64 r3, .int .i64 r4, .int .i64 f0, .int .i64 f1, .int .i64 f2, .int .i64 f3, .int .i64 f4] 26 (0, 0)) := (hb1.block _ (by simp; omega)).trans (((below2 _ _ _).block _ (by simp)).trans (heap_alloc_new _ _))
 have qp1 : w1.heap[w.heap.size + 1]? = some (.cells #[.int .i64 0, .int .i64 0, .int .i64 0, .int .i64 0, .int .i64 0, .int .i64 0, .int .i64 0, .int .i64 0, .int .i64 0, .int .i64 0, .int .i64 0, .int .i64 0, .int .i64 0, .int .i64 0, .int .i64 0, .int .i64 0, .int .i64 0, .int .i64 0, .int .i64 0, .int .i64 0, .int .i64 0, .int .i64 0, .int .i64 0] 35 (0, 0)) := (hb1.block _ (by simp)).trans (((below1 _ _).block _ (by simp)).trans (by have h := heap_alloc_new (w.alloc (.cells #[.int .i64 wd, .int .i64 nw, .int .i64 hg, .int .i64 tl, .int .i64 ln, .int .i64 hy, .int .i64 du, .int .i64 ad, .int .i64 l0, .int .i64 l1, .int .i64 l2, .int .i64 l3, .int .i64 l4, .int .i64 r0, .int .i64 r1, .int .i64 r2, .int .i64 r3, .int .i64 r4, .int .i64 f0, .int .i64 f1, .int .i64 f2, .int .i64 f3, .int .i64 f4] 26)) (.cells #[.int .i64 0, .int .i64 0, .int .i64 0, .int .i64 0, .int .i64 0, .int .i64 0, .int .i64 0, .int .i64 0, .int .i64 0, .int .i64 0, .int .i64 0, .int .i64 0, .int .i64 0, .int .i64 0, .int .i64 0, .int .i64 0, .int .i64 0, .int .i64 0, .int .i64 0, .int .i64 0, .int .i64 0, .int .i64 0, .int .i64 0] 35); rw [World.size_alloc] at h; exact h))
 have qo1 : w1.heap[w.heap.size + 1 + 1]? = some (.cells #[.int .i64 wd, .int .i64 nw, .int .i64 hg, .int .i64 tl, .int .i64 ln, .int .i64 hy, .int .i64 du, .int .i64 ad, .int .i64 0, .int .i64 0, .int .i64 0, .int .i64 0, .int .i64 0, .int .i64 0, .int .i64 0, .int .i64 0, .int .i64 0, .int .i64 0, .int .i64 0, .int .i64 0, .int .i64 0, .int .i64 0, .int .i64 0] 35 (0, 0)) := (hb1.block _ (by simp)).trans (by have h := heap_alloc_new ((w.alloc (.cells #[.int .i64 wd, .int .i64 nw, .int .i64 hg, .int .i64 tl, .int .i64 ln, .int .i64 hy, .int .i64 du, .int .i64 ad, .int .i64 l0, .int .i64 l1, .int .i64 l2, .int .i64 l3, .int .i64 l4, .int .i64 r0, .int .i64 r1, .int .i64 r2, .int .i64 r3, .int .i64 r4, .int .i64 f0, .int .i64 f1, .int .i64 f2, .int .i64 f3, .int .i64 f4] 26)).alloc (.cells #[.int .i64 0, .int .i64 0, .int .i64 0, .int .i64 0, .int .i64 0, .int .i64 0, .int .i64 0, .int .i64 0, .int .i64 0, .int .i64 0, .int .i64 0, .int .i64 0, .int .i64 0, .int .i64 0, .int .i64 0, .int .i64 0, .int .i64 0, .int .i64 0, .int .i64 0, .int .i64 0, .int .i64 0, .int .i64 0, .int .i64 0] 35)) (.cells #[.int .i64 wd, .int .i64 nw, .int .i64 hg, .int .i64 tl, .int .i64 ln, .int .i64 hy, .int .i64 du, .int .i64 ad, .int .i64 0, .int .i64 0, .int .i64 0, .int .i64 0, .int .i64 0, .int .i64 0, .int .i64 0, .int .i64 0, .int .i64 0, .int .i64 0, .int .i64 0, .int .i64 0, .int .i64 0, .int .i64 0, .int .i64 0] 35); rw [World.size_alloc, World.size_alloc] at h; exact h)
 have QO1 : Hid ((((((w1.setCell ⟨w.heap.size + 1 + 1, 8, none⟩ (.int .i64 l0)).setCell ⟨w.heap.size + 1 + 1, 9, none⟩ (.int .i64 l1)).setCell ⟨w.heap.size + 1 + 1, 10, none⟩ (.int .i64 l2)).setCell ⟨w.heap.size + 1 + 1, 11, none⟩ (.int .i64 l3)).setCell ⟨w.heap.size + 1 + 1, 12, none⟩ (.int .i64 l4)).heap[w.heap.size + 1 + 1]? = some (.cells #[.int .i64 wd, .int .i64 nw, .int .i64 hg, .int .i64 tl, .int .i64 ln, .int .i64 hy, .int .i64 du, .int .i64 ad, .int .i64 l0, .int .i64 l1, .int .i64 l2, .int .i64 l3, .int .i64 l4, .int .i64 0, .int .i64 0, .int .i64 0, .int .i64 0, .int .i64 0, .int .i64 0, .int .i64 0, .int .i64 0, .int .i64 0, .int .i64 0] 35 (0, 0))) := by
  have e0 := qo1
  have e1 := heap_setCell_same w1 (w.heap.size + 1 + 1) 8 _ 35 (.int .i64 l0) e0
  have e2 := heap_setCell_same _ (w.heap.size + 1 + 1) 9 _ 35 (.int .i64 l1) e1
  have e3 := heap_setCell_same _ (w.heap.size + 1 + 1) 10 _ 35 (.int .i64 l2) e2
  have e4 := heap_setCell_same _ (w.heap.size + 1 + 1) 11 _ 35 (.int .i64 l3) e3
  have e5 := heap_setCell_same _ (w.heap.size + 1 + 1) 12 _ 35 (.int .i64 l4) e4
  exact e5.trans (by rfl)
 have a1_13 : w1.cell? ⟨w.heap.size, 13, none⟩ = some (.int .i64 r0) := by rw [cell_of_row _ _ _ _ 26 _ qa1]; rfl
 have a1_14 : w1.cell? ⟨w.heap.size, 14, none⟩ = some (.int .i64 r1) := by rw [cell_of_row _ _ _ _ 26 _ qa1]; rfl
 have a1_15 : w1.cell? ⟨w.heap.size, 15, none⟩ = some (.int .i64 r2) := by rw [cell_of_row _ _ _ _ 26 _ qa1]; rfl
 have a1_16 : w1.cell? ⟨w.heap.size, 16, none⟩ = some (.int .i64 r3) := by rw [cell_of_row _ _ _ _ 26 _ qa1]; rfl
 have a1_17 : w1.cell? ⟨w.heap.size, 17, none⟩ = some (.int .i64 r4) := by rw [cell_of_row _ _ _ _ 26 _ qa1]; rfl
 have o1_8 : w1.cell? ⟨w.heap.size + 1 + 1, 8, none⟩ = some (.int .i64 0) := by rw [cell_of_row _ _ _ _ 35 _ qo1]; rfl
 have o1_9 : w1.cell? ⟨w.heap.size + 1 + 1, 9, none⟩ = some (.int .i64 0) := by rw [cell_of_row _ _ _ _ 35 _ qo1]; rfl
 have o1_10 : w1.cell? ⟨w.heap.size + 1 + 1, 10, none⟩ = some (.int .i64 0) := by rw [cell_of_row _ _ _ _ 35 _ qo1]; rfl
 have o1_11 : w1.cell? ⟨w.heap.size + 1 + 1, 11, none⟩ = some (.int .i64 0) := by rw [cell_of_row _ _ _ _ 35 _ qo1]; rfl
 have o1_12 : w1.cell? ⟨w.heap.size + 1 + 1, 12, none⟩ = some (.int .i64 0) := by rw [cell_of_row _ _ _ _ 35 _ qo1]; rfl
 have ff1 : ∀ q, w1.frozen? ⟨w.heap.size + 1 + 1, q, none⟩ = false := fun q => frozen_of_row _ _ q _ 35 qo1
 clear hb1 qo1
 have HQA1 := hideP qa1
 have HQP1 := hideP qp1
 go_wp2_with fail
 refine (toGlue_any _ _ _ _ _ _).mono ?_
 rintro e w2 ⟨rfl, hb2⟩
 have hs2 : w.heap.size + 1 + 1 < w2.heap.size := by have := hb2.size; simp at this; omega
 have hy2 : w.heap.size + 1 < w2.heap.size := by omega
 have hx2 : w.heap.size < w2.heap.size := by omega
 have B2 : Hid (Below w.heap.size w w2) := by
  refine below_more ?_ hb2 (by simp; omega)
  repeat (first | with_reducible exact B1.out | (with_reducible refine Below.setCell ?_ ?_ _; rotate_left; focus (first | (simp; done) | (simp; omega))))
 have qa2 : w2.heap[w.heap.size]? = some (.cells #[.int .i64 wd, .int .i64 nw, .int .i64 hg, .int .i64 tl, .int .i64 ln, .int .i64 hy, .int .i64 du, .int .i64 ad, .int .i64 l0, .int .i64 l1, .int .i64 l2, .int .i64 l3, .int .i64 l4, .int .i64 r0, .int .i64 r1, .int .i64 r2, .int .i64 r3, .int .i64 r4, .int .i64 f0, .int .i64 f1, .int .i64 f2, .int .i64 f3, .int .i64 f4] 26 (0, 0)) := (hb2.block _ (by simp; omega)).trans ((heap_set5 _ _ _ (by omega) _ _ _ _ _ _ _ _ _ _).trans qa1)
 have qp2 : w2.heap[w.heap.size + 1]? = some (.cells #[.int .i64 0, .int .i64 0, .int .i64 0, .int .i64 0, .int .i64 0, .int .i64 0, .int .i64 0, .int .i64 0, .int .i64 0, .int .i64 0, .int .i64 0, .int .i64 0, .int .i64 0, .int .i64 0, .int .i64 0, .int .i64 0, .int .i64 0, .int .i64 0, .int .i64 0, .int .i64 0, .int .i64 0, .int .i64 0, .int .i64 0] 35 (0, 0)) := (hb2.block _ (by simp; omega)).trans ((heap_set5 _ _ _ (by omega) _ _ _ _ _ _ _ _ _ _).trans qp1)
 have qo2 : w2.heap[w.heap.size + 1 + 1]? = some (.cells #[.int .i64 wd, .int .i64 nw, .int .i64 hg, .int .i64 tl, .int .i64 ln, .int .i64 hy, .int .i64 du, .int .i64 ad, .int .i64 l0, .int .i64 l1, .int .i64 l2, .int .i64 l3, .int .i64 l4, .int .i64 0, .int .i64 0, .int .i64 0, .int .i64 0, .int .i64 0, .int .i64 0, .int .i64 0, .int .i64 0, .int .i64 0, .int .i64 0] 35 (0, 0)) := (hb2.block _ (by simp; omega)).trans QO1.out
 have QO2 : Hid ((((((w2.setCell ⟨w.heap.size + 1 + 1, 13, none⟩ (.int .i64 r0)).setCell ⟨w.heap.size + 1 + 1, 14, none⟩ (.int .i64 r1)).setCell ⟨w.heap.size + 1 + 1, 15, none⟩ (.int .i64 r2)).setCell ⟨w.heap.size + 1 + 1, 16, none⟩ (.int .i64 r3)).setCell ⟨w.heap.size + 1 + 1, 17, none⟩ (.int .i64 r4)).heap[w.heap.size + 1 + 1]? = some (.cells #[.int .i64 wd, .int .i64 nw, .int .i64 hg, .int .i64 tl, .int .i64 ln, .int .i64 hy, .int .i64 du, .int .i64 ad, .int .i64 l0, .int .i64 l1, .int .i64 l2, .int .i64 l3, .int .i64 l4, .int .i64 r0, .int .i64 r1, .int .i64 r2, .int .i64 r3, .int .i64 r4, .int .i64 0, .int .i64 0, .int .i64 0, .int .i64 0, .int .i64 0] 35 (0, 0))) := by
  have e0 := qo2
  have e1 := heap_setCell_same w2 (w.heap.size + 1 + 1) 13 _ 35 (.int .i64 r0) e0
  have e2 := heap_setCell_same _ (w.heap.size + 1 + 1) 14 _ 35 (.int .i64 r1) e1
  have e3 := heap_setCell_same _ (w.heap.size + 1 + 1) 15 _ 35 (.int .i64 r2) e2
  have e4 := heap_setCell_same _ (w.heap.size + 1 + 1) 16 _ 35 (.int .i64 r3) e3
  have e5 := heap_setCell_same _ (w.heap.size + 1 + 1) 17 _ 35 (.int .i64 r4) e4
  exact e5.trans (by rfl)
 have a2_18 : w2.cell? ⟨w.heap.size, 18, none⟩ = some (.int .i64 f0) := by rw [cell_of_row _ _ _ _ 26 _ qa2]; rfl
 have a2_19 : w2.cell? ⟨w.heap.size, 19, none⟩ = some (.int .i64 f1) := by rw [cell_of_row _ _ _ _ 26 _ qa2]; rfl
 have a2_20 : w2.cell? ⟨w.heap.size, 20, none⟩ = some (.int .i64 f2) := by rw [cell_of_row _ _ _ _ 26 _ qa2]; rfl
 have a2_21 : w2.cell? ⟨w.heap.size, 21, none⟩ = some (.int .i64 f3) := by rw [cell_of_row _ _ _ _ 26 _ qa2]; rfl
 have a2_22 : w2.cell? ⟨w.heap.size, 22, none⟩ = some (.int .i64 f4) := by rw [cell_of_row _ _ _ _ 26 _ qa2]; rfl
 have o2_13 : w2.cell? ⟨w.heap.size + 1 + 1, 13, none⟩ = some (.int .i64 0) := by rw [cell_of_row _ _ _ _ 35 _ qo2]; rfl
 have o2_14 : w2.cell? ⟨w.heap.size + 1 + 1, 14, none⟩ = some (.int .i64 0) := by rw [cell_of_row _ _ _ _ 35 _ qo2]; rfl
 have o2_15 : w2.cell? ⟨w.heap.size + 1 + 1, 15, none⟩ = some (.int .i64 0) := by rw [cell_of_row _ _ _ _ 35 _ qo2]; rfl
 have o2_16 : w2.cell? ⟨w.heap.size + 1 + 1, 16, none⟩ = some (.int .i64 0) := by rw [cell_of_row _ _ _ _ 35 _ qo2]; rfl
 have o2_17 : w2.cell? ⟨w.heap.size + 1 + 1, 17, none⟩ = some (.int .i64 0) := by rw [cell_of_row _ _ _ _ 35 _ qo2]; rfl
 have ff2 : ∀ q, w2.frozen? ⟨w.heap.size + 1 + 1, q, none⟩ = false := fun q => frozen_of_row _ _ q _ 35 qo2
 clear hb2 qo2
 clear qa1 qp1 ff1 o1_8 o1_9 o1_10 o1_11 o1_12 a1_13 a1_14 a1_15 a1_16 a1_17 hs1 hy1 hx1
 have HQA2 := hideP qa2
 have HQP2 := hideP qp2
 go_wp2_with fail
 refine (toGlue_any _ _ _ _ _ _).mono ?_
 rintro e w3 ⟨rfl, hb3⟩
 have hs3 : w.heap.size + 1 + 1 < w3.heap.size := by have := hb3.size; simp at this; omega
 have hy3 : w.heap.size + 1 < w3.heap.size := by omega
 have hx3 : w.heap.size < w3.heap.size := by omega
 have B3 : Hid (Below w.heap.size w w3) := by
  refine below_more ?_ hb3 (by simp; omega)
  repeat (first | with_reducible exact B2.out | (with_reducible refine Below.setCell ?_ ?_ _; rotate_left; focus (first | (simp; done) | (simp; omega))))
 have qa3 : w3.heap[w.heap.size]? = some (.cells #[.int .i64 wd, .int .i64 nw, .int .i64 hg, .int .i64 tl, .int .i64 ln, .int .i64 hy, .int .i64 du, .int .i64 ad, .int .i64 l0, .int .i64 l1, .int .i64 l2, .int .i64 l3, .int .i64 l4, .int .i64 r0, .int .i64 r1, .int .i64 r2, .int .i64 r3, .int .i64 r4, .int .i64 f0, .int .i64 f1, .int .i64 f2, .int .i64 f3, .int .i64 f4] 26 (0, 0)) := (hb3.block _ (by simp; omega)).trans ((heap_set5 _ _ _ (by omega) _ _ _ _ _ _ _ _ _ _).trans qa2)
 have qp3 : w3.heap[w.heap.size + 1]? = some (.cells #[.int .i64 0, .int .i64 0, .int .i64 0, .int .i64 0, .int .i64 0, .int .i64 0, .int .i64 0, .int .i64 0, .int .i64 0, .int .i64 0, .int .i64 0, .int .i64 0, .int .i64 0, .int .i64 0, .int .i64 0, .int .i64 0, .int .i64 0, .int .i64 0, .int .i64 0, .int .i64 0, .int .i64 0, .int .i64 0, .int .i64 0] 35 (0, 0)) := (hb3.block _ (by simp; omega)).trans ((heap_set5 _ _ _ (by omega) _ _ _ _ _ _ _ _ _ _).trans qp2)
 have qo3 : w3.heap[w.heap.size + 1 + 1]? = some (.cells #[.int .i64 wd, .int .i64 nw, .int .i64 hg, .int .i64 tl, .int .i64 ln, .int .i64 hy, .int .i64 du, .int .i64 ad, .int .i64 l0, .int .i64 l1, .int .i64 l2, .int .i64 l3, .int .i64 l4, .int .i64 r0, .int .i64 r1, .int .i64 r2, .int .i64 r3, .int .i64 r4, .int .i64 0, .int .i64 0, .int .i64 0, .int .i64 0, .int .i64 0] 35 (0, 0)) := (hb3.block _ (by simp; omega)).trans QO2.out
 have QO3 : Hid ((((((w3.setCell ⟨w.heap.size + 1 + 1, 18, none⟩ (.int .i64 f0)).setCell ⟨w.heap.size + 1 + 1, 19, none⟩ (.int .i64 f1)).setCell ⟨w.heap.size + 1 + 1, 20, none⟩ (.int .i64 f2)).setCell ⟨w.heap.size + 1 + 1, 21, none⟩ (.int .i64 f3)).setCell ⟨w.heap.size + 1 + 1, 22, none⟩ (.int .i64 f4)).heap[w.heap.size + 1 + 1]? = some (.cells #[.int .i64 wd, .int .i64 nw, .int .i64 hg, .int .i64 tl, .int .i64 ln, .int .i64 hy, .int .i64 du, .int .i64 ad, .int .i64 l0, .int .i64 l1, .int .i64 l2, .int .i64 l3, .int .i64 l4, .int .i64 r0, .int .i64 r1, .int .i64 r2, .int .i64 r3, .int .i64 r4, .int .i64 f0, .int .i64 f1, .int .i64 f2, .int .i64 f3, .int .i64 f4] 35 (0, 0))) := by
  have e0 := qo3
  have e1 := heap_setCell_same w3 (w.heap.size + 1 + 1) 18 _ 35 (.int .i64 f0) e0
  have e2 := heap_setCell_same _ (w.heap.size + 1 + 1) 19 _ 35 (.int .i64 f1) e1
  have e3 := heap_setCell_same _ (w.heap.size + 1 + 1) 20 _ 35 (.int .i64 f2) e2
  have e4 := heap_setCell_same _ (w.heap.size + 1 + 1) 21 _ 35 (.int .i64 f3) e3
  have e5 := heap_setCell_same _ (w.heap.size + 1 + 1) 22 _ 35 (.int .i64 f4) e4
  exact e5.trans (by rfl)
 have o3_18 : w3.cell? ⟨w.heap.size + 1 + 1, 18, none⟩ = some (.int .i64 0) := by rw [cell_of_row _ _ _ _ 35 _ qo3]; rfl
 have o3_19 : w3.cell? ⟨w.heap.size + 1 + 1, 19, none⟩ = some (.int .i64 0) := by rw [cell_of_row _ _ _ _ 35 _ qo3]; rfl
 have o3_20 : w3.cell? ⟨w.heap.size + 1 + 1, 20, none⟩ = some (.int .i64 0) := by rw [cell_of_row _ _ _ _ 35 _ qo3]; rfl
 have o3_21 : w3.cell? ⟨w.heap.size + 1 + 1, 21, none⟩ = some (.int .i64 0) := by rw [cell_of_row _ _ _ _ 35 _ qo3]; rfl
 have o3_22 : w3.cell? ⟨w.heap.size + 1 + 1, 22, none⟩ = some (.int .i64 0) := by rw [cell_of_row _ _ _ _ 35 _ qo3]; rfl
 have ff3 : ∀ q, w3.frozen? ⟨w.heap.size + 1 + 1, q, none⟩ = false := fun q => frozen_of_row _ _ q _ 35 qo3
 clear hb3 qo3
 clear qa2 qp2 ff2 o2_13 o2_14 o2_15 o2_16 o2_17 a2_18 a2_19 a2_20 a2_21 a2_22 hs2 hy2 hx2
 have HQA3 := hideP qa3
 have HQP3 := hideP qp3
 have QP : Hid ((((((w3.setCell ⟨w.heap.size + 1 + 1, 18, none⟩ (.int .i64 f0)).setCell ⟨w.heap.size + 1 + 1, 19, none⟩ (.int .i64 f1)).setCell ⟨w.heap.size + 1 + 1, 20, none⟩ (.int .i64 f2)).setCell ⟨w.heap.size + 1 + 1, 21, none⟩ (.int .i64 f3)).setCell ⟨w.heap.size + 1 + 1, 22, none⟩ (.int .i64 f4)).heap[w.heap.size + 1]? = some (.cells #[.int .i64 0, .int .i64 0, .int .i64 0, .int .i64 0, .int .i64 0, .int .i64 0, .int .i64 0, .int .i64 0, .int .i64 0, .int .i64 0, .int .i64 0, .int .i64 0, .int .i64 0, .int .i64 0, .int .i64 0, .int .i64 0, .int .i64 0, .int .i64 0, .int .i64 0, .int .i64 0, .int .i64 0, .int .i64 0, .int .i64 0] 35 (0, 0))) := hideP ((heap_set5 _ _ _ (by omega) _ _ _ _ _ _ _ _ _ _).trans qp3)
 clear qa3 qp3
 rename_i K1 h1 K2 h2
 have H1 := hideP h1
 clear h1
 go_wp2
 refine H1.out _ _ ?_
 clear H1
 refine wp_seq (wp_region_lit ?_)
 refine wpList_load_row rfl 35 _ rfl (w.heap.size + 1 + 1) rfl #[.int .i64 wd, .int .i64 nw, .int .i64 hg, .int .i64 tl, .int .i64 ln, .int .i64 hy, .int .i64 du, .int .i64 ad, .int .i64 l0, .int .i64 l1, .int .i64 l2, .int .i64 l3, .int .i64 l4, .int .i64 r0, .int .i64 r1, .int .i64 r2, .int .i64 r3, .int .i64 r4, .int .i64 f0, .int .i64 f1, .int .i64 f2, .int .i64 f3, .int .i64 f4] 35 (0, 0) QO3.out _ Tryz.underlying35 rfl styInfo ?_
 refine wpList_store_row rfl 35 _ _ rfl (w.heap.size + 1) rfl #[.int .i64 0, .int .i64 0, .int .i64 0, .int .i64 0, .int .i64 0, .int .i64 0, .int .i64 0, .int .i64 0, .int .i64 0, .int .i64 0, .int .i64 0, .int .i64 0, .int .i64 0, .int .i64 0, .int .i64 0, .int .i64 0, .int .i64 0, .int .i64 0, .int .i64 0, .int .i64 0, .int .i64 0, .int .i64 0, .int .i64 0] #[.int .i64 wd, .int .i64 nw, .int .i64 hg, .int .i64 tl, .int .i64 ln, .int .i64 hy, .int .i64 du, .int .i64 ad, .int .i64 l0, .int .i64 l1, .int .i64 l2, .int .i64 l3, .int .i64 l4, .int .i64 r0, .int .i64 r1, .int .i64 r2, .int .i64 r3, .int .i64 r4, .int .i64 f0, .int .i64 f1, .int .i64 f2, .int .i64 f3, .int .i64 f4] rfl 35 QP.out styInfo rfl (by simp [Value.oneCell']) ?_
 refine wpList_nil ?_
 have hrow : (World.setRow (((((w3.setCell ⟨w.heap.size + 1 + 1, 18, none⟩ (.int .i64 f0)).setCell ⟨w.heap.size + 1 + 1, 19, none⟩ (.int .i64 f1)).setCell ⟨w.heap.size + 1 + 1, 20, none⟩ (.int .i64 f2)).setCell ⟨w.heap.size + 1 + 1, 21, none⟩ (.int .i64 f3)).setCell ⟨w.heap.size + 1 + 1, 22, none⟩ (.int .i64 f4)) (w.heap.size + 1) #[.int .i64 wd, .int .i64 nw, .int .i64 hg, .int .i64 tl, .int .i64 ln, .int .i64 hy, .int .i64 du, .int .i64 ad, .int .i64 l0, .int .i64 l1, .int .i64 l2, .int .i64 l3, .int .i64 l4, .int .i64 r0, .int .i64 r1, .int .i64 r2, .int .i64 r3, .int .i64 r4, .int .i64 f0, .int .i64 f1, .int .i64 f2, .int .i64 f3, .int .i64 f4]).heap[w.heap.size + 1]? = some (.cells #[.int .i64 wd, .int .i64 nw, .int .i64 hg, .int .i64 tl, .int .i64 ln, .int .i64 hy, .int .i64 du, .int .i64 ad, .int .i64 l0, .int .i64 l1, .int .i64 l2, .int .i64 l3, .int .i64 l4, .int .i64 r0, .int .i64 r1, .int .i64 r2, .int .i64 r3, .int .i64 r4, .int .i64 f0, .int .i64 f1, .int .i64 f2, .int .i64 f3, .int .i64 f4] 35 (0, 0)) := setRow_heap _ _ _ _ _ _ QP.out
 have hres := run_loadVar_row (P := Tryz.prog) _ _ 35 35 _ (0, 0) _ hrow Tryz.underlying35 rfl styInfo
 simp only [Exit.then]
 go_wp2
 refine bodyPost_ret (v := syV ⟨wd, nw, hg, tl, ln, hy, du, ad, l0, l1, l2, l3, l4, r0, r1, r2, r3, r4, f0, f1, f2, f3, f4⟩) ?res rfl ⟨rfl, ?_⟩
 case res =>
  simp [results, Tryz.results9, Sem.run_bind, Sem.run_pure, Act.put, asAddr, hres]
 ·refine below_setRow ?_ (by omega) _
  have B4 := B3.out
  repeat (first | with_reducible exact B4 | (with_reducible refine Below.setCell ?_ ?_ _; rotate_left; focus (first | (simp; done) | (simp; omega))))
def trm (ys : List It) : Nat → Nat
 | 0 => 0
 | m + 1 => if (ys.getD m It.none).1.k = 3 then trm ys m else m + 1
def penN (n : Int) : Nd := ⟨4, 0, 0, 0, 0, 0, 0, n, 0, 0, 0, 0, 0, ⟨#[]⟩, 0⟩
theorem rws_mk {w : World} {base n : Nat} {u : Value} {vs : List Value} {L : List (List Nd)} (ho : w.ownsRow base 31 1 u n vs) (hn : L.length = n) (hL : ∀ i x, vs[i]? = some x → w.ownsRow base 61 15 x (L.getD i []).length (flatN (L.getD i []))) : Rws base w u L := by
 have hvl := own25_len ho
 obtain ⟨ao, cap, rfl, hg⟩ := own25_shape ho
 refine ⟨⟨ao, cap, by rw [hn], fun hp => ?_⟩⟩
 obtain ⟨g, rfl, hgb, hlt⟩ := hg (by omega)
 refine ⟨g, 0, rfl, hgb, hlt, fun i hi => ?_⟩
 have hu : vs[i]? = some (vs[i]'(by omega)) := List.getElem?_eq_getElem (by omega)
 have h1 : w.cell? ⟨g, 0 + i, none⟩ = some (vs[i]'(by omega)) := by rw [Nat.zero_add]; exact (own25_cell ho hu).1
 exact ⟨_, h1, hL i _ hu⟩
theorem own25_take {w : World} {base N uc m : Nat} {ua : Option Addr} {vs : List Value} (h : w.ownsRow base 31 1 (.slice ua N uc) N vs) (hm : m ≤ N) : w.ownsRow base 31 1 (.slice ua m uc) m (vs.take m) := by
 obtain ⟨h0, ⟨h1, h2⟩ | ⟨g, cap, cur, e, hg, hb, hc, hx, hs, ht⟩⟩ := h
 ·subst h2
  obtain rfl : m = 0 := by omega
  exact ⟨by simp, .inl ⟨h1, rfl⟩⟩
 ·simp only [Value.slice.injEq] at e
  obtain ⟨rfl, _, rfl⟩ := e
  refine ⟨by rw [List.length_take, h0]; omega, .inr ⟨g, uc, cur, rfl, hg, hb, by omega, hx, hs, ?_⟩⟩
  rw [← ht, List.take_take]
  congr 1
  omega
theorem own60_grown {w w' : World} {base n : Nat} {u : Value} {xs : List Value} {r : Option Nat} (h : w.ownsRow base 61 15 u n xs) (hg : w.grownBy w' r) (hr : ∀ b, u.ownBlock = some b → some b ≠ r) : w'.ownsRow base 61 15 u n xs := by
 obtain ⟨h0, h | ⟨g, cap, cur, e, hgb, hb, hr'⟩⟩ := h
 ·exact ⟨h0, .inl h⟩
 ·exact ⟨h0, .inr ⟨g, cap, cur, e, hgb, (hg.block g (Array.getElem?_eq_some_iff.1 hb).1 (hr g (by rw [e]; rfl))).trans hb, hr'⟩⟩
theorem own60_25 {w : World} {b1 b2 n m : Nat} {u v : Value} {xs vs : List Value} (h : w.ownsRow b1 61 15 u n xs) (h2 : w.ownsRow b2 31 1 v m vs) : ∀ b, u.ownBlock = some b → some b ≠ v.ownBlock := by
 intro b e1 e2
 obtain ⟨_, ⟨rfl, _⟩ | ⟨g, cap, cur, rfl, _, hb, _⟩⟩ := h
 ·simp [Value.ownBlock] at e1
 ·obtain ⟨_, ⟨rfl, _⟩ | ⟨g2, cap2, cur2, rfl, _, hb2, _⟩⟩ := h2
  ·simp [Value.ownBlock] at e2
  ·have e3 : g = b := by simpa [Value.ownBlock] using e1
   have e4 : b = g2 := by simpa [Value.ownBlock] using e2
   rw [e3, e4, hb2] at hb
   simp at hb
theorem Tryz.info25r : (Tryz.prog.info? 31).map (fun i => (i.zero, i.size, i.bytes)) = some (some (.slice none 0 0), 1, 24) := by kernel_rfl
set_option maxRecDepth 20000 in
set_option maxHeartbeats 8000000 in
theorem l9Row_any {v : Value} {xs : List Nd} {w : World} (S : Sy) (h : NRow 0 w v xs) (hs : xs.length ≤ 1048576) (hcp : ∀ a n c, v = .slice a n c → n ≤ c ∧ c ≤ 9223372036854775807) (hob : listB xs = true) :
 Calls Tryz.prog 55 #[v, syV S] w fun e W' => (∃ u, e = .returned u ∧ Rws w.heap.size W' u ((itemsOf xs).take (trm (its xs) (its xs).length) ++ [[penN 10000], [gapN S.f0 S.f1 S.f2 S.f3 S.f4], [penN (-10000)]])) ∧ Below w.heap.size w W' := by
 have hN20 : (its xs).length ≤ 20001 := its_le (allOk hob)
 have IC : Hid (∀ W, Below w.heap.size w W → Calls Tryz.prog 54 #[v] W fun e W' => (∃ u vs, e = .returned u ∧ W'.ownsRow W.heap.size 31 1 u (itemsOf xs).length vs ∧ Lsts W.heap.size W' vs (fun i => (itemsOf xs).getD i [])) ∧ Below W.heap.size W W') := hideP (fun W hW => specItems_any (SRow.below ndStable h hW) hs hcp)
 obtain ⟨va, vn, vc, rfl, _⟩ := h
 obtain ⟨wd, nw, hg, tl, ln, hy, du, ad, l0, l1, l2, l3, l4, r0, r1, r2, r3, r4, f0, f1, f2, f3, f4⟩ := S
 simp only [syV]
 obtain ⟨RL, hRL⟩ : ∃ RL, RL = (itemsOf xs).take (trm (its xs) (its xs).length) ++ [[penN 10000], [gapN f0 f1 f2 f3 f4], [penN (-10000)]] := ⟨_, rfl⟩
 rw [← hRL]
 have HRL := hideP hRL
 clear hcp hRL
 go_enter Tryz.func55, Tryz.ntmps55
 go_wp2_with fail
 obtain ⟨W0, hW0⟩ : ∃ W0, W0 = w.alloc (.cells #[.int .i64 wd, .int .i64 nw, .int .i64 hg, .int .i64 tl, .int .i64 ln, .int .i64 hy, .int .i64 du, .int .i64 ad, .int .i64 l0, .int .i64 l1, .int .i64 l2, .int .i64 l3, .int .i64 l4, .int .i64 r0, .int .i64 r1, .int .i64 r2, .int .i64 r3, .int .i64 r4, .int .i64 f0, .int .i64 f1, .int .i64 f2, .int .i64 f3, .int .i64 f4] 35) := ⟨_, rfl⟩
 rw [← hW0]
 have hcl0 := heap_alloc_new w (.cells #[.int .i64 wd, .int .i64 nw, .int .i64 hg, .int .i64 tl, .int .i64 ln, .int .i64 hy, .int .i64 du, .int .i64 ad, .int .i64 l0, .int .i64 l1, .int .i64 l2, .int .i64 l3, .int .i64 l4, .int .i64 r0, .int .i64 r1, .int .i64 r2, .int .i64 r3, .int .i64 r4, .int .i64 f0, .int .i64 f1, .int .i64 f2, .int .i64 f3, .int .i64 f4] 35)
 rw [← hW0] at hcl0
 have B0 : Hid (Below w.heap.size w W0) := hideP (by rw [hW0]; exact below1 _ _)
 have hs0 : w.heap.size < W0.heap.size := (Array.getElem?_eq_some_iff.1 hcl0).1
 have HC : Hid (∀ W, Below W0.heap.size W0 W → W.cell? ⟨w.heap.size, 18, none⟩ = some (.int .i64 f0) ∧ W.cell? ⟨w.heap.size, 19, none⟩ = some (.int .i64 f1) ∧ W.cell? ⟨w.heap.size, 20, none⟩ = some (.int .i64 f2) ∧ W.cell? ⟨w.heap.size, 21, none⟩ = some (.int .i64 f3) ∧ W.cell? ⟨w.heap.size, 22, none⟩ = some (.int .i64 f4)) := hideP (fun W hW => by
  have hh := (hW.block w.heap.size hs0).trans hcl0
  refine ⟨?_, ?_, ?_, ?_, ?_⟩ <;> (rw [cell_of_row W _ _ _ _ _ hh]; rfl))
 clear hW0 hcl0
 refine (IC.out _ B0.out).mono ?_
 rintro e w1 ⟨⟨u, vs, rfl, hu, hL⟩, hb1⟩
 obtain ⟨hhd, hlen⟩ := heads_of hob hu hL
 have hvl := own25_len hu
 obtain ⟨N, hN⟩ : ∃ N, (its xs).length = N := ⟨_, rfl⟩
 have hlen2 := hlen
 rw [hlen] at hu hvl
 rw [hN] at hu hvl hN20 hlen2
 obtain ⟨i0, hi0, hj0, hj1, hj2⟩ := info_parts Tryz.info25r
 obtain ⟨ua, uc, rfl, hug⟩ := own25_shape hu
 have HU := hideP hu
 have HLs := hideP hL
 have HHd := hideP hhd
 have HNN := hideP hN
 have B1 : Hid (Below W0.heap.size W0 w1) := hideP hb1
 have hcap := ownG_cap hu
 obtain ⟨hcap1, hcap2⟩ := hcap
 have hcap3 : uc ≤ 9223372036854775807 := by unfold maxLen at hcap2; exact hcap2
 clear hb1 IC hhd hL hN hcap2 hlen
 go_wp2
 go_loopw [5] (fun s5 wr => ∃ m : Nat, m ≤ N ∧ s5 = .slice ua m uc ∧ trm (its xs) m = trm (its xs) N ∧ wr = w1) (fun s _ => lenV s)
 case atStart => exact ⟨N, Nat.le_refl _, rfl, rfl, rfl⟩
 case round =>
  obtain ⟨m, hm, rfl, htr, hww⟩ := hrel
  subst hww
  by_cases hm0 : 0 < m
  ·obtain ⟨d, rfl⟩ : ∃ d, m = d + 1 := ⟨m - 1, by omega⟩
   obtain ⟨g, rfl, hgb, hgl⟩ := hug (by omega)
   obtain ⟨ao', cap', hv, hc⟩ := HHd.out.is
   rw [HNN.out] at hv hc
   simp only [Value.slice.injEq] at hv
   obtain ⟨rfl, _, hcc⟩ := hv
   clear hcc
   obtain ⟨b1, off, e1, _, _, hcell⟩ := hc (by omega)
   obtain ⟨rfl, rfl⟩ : g = b1 ∧ 0 = off := by simpa using e1
   obtain ⟨u2, rest, hu2, hrow⟩ := hcell d (by omega)
   obtain ⟨x, hx⟩ : ∃ x, x = ((its xs).getD d It.none).1 := ⟨_, rfl⟩
   rw [← hx] at hrow
   obtain ⟨b2, off2, n2, cap2, rfl, hn2, hb2, hcs⟩ := head_cells hrow
   have n100 : wr.cell? ⟨b2, off2, none⟩ = some (.int .i64 x.k) := hcs 0 (by omega)
   rw [Nat.zero_add] at hu2
   have hn2i : (0 : Int) < (n2 : Int) := by omega
   have hdi : ((d + 1 : Nat) : Int) - 1 = (d : Int) := by omega
   have hd1 : (d : Int) < ((d + 1 : Nat) : Int) := by omega
   have hd2 : (0 : Int) < ((d + 1 : Nat) : Int) := by omega
   have HSTP : Hid (trm (its xs) (d + 1) = if x.k = 3 then trm (its xs) d else d + 1) := hideP (by rw [hx]; rfl)
   clear hc hcell hrow hcs hx e1
   by_cases hk : x.k = 3
   ·rw [hk] at n100
    have HT2 : Hid (trm (its xs) d = trm (its xs) N) := hideP (by rw [← htr, HSTP.out, if_pos hk])
    go_wp2
    go_roundw
    case rel => exact ⟨d, by omega, rfl, HT2.out, by first | rfl | trivial⟩
    case measure => simp [lenV]
   ·have hkb : (x.k == 3) = false := by simp [hk]
    have HT2 : Hid (trm (its xs) N = d + 1) := hideP (by rw [← htr, HSTP.out, if_neg hk])
    obtain ⟨y2, y3, y4, y5, y6⟩ := HC.out wr B1.out
    have hsl : w.heap.size < wr.heap.size := Nat.lt_of_lt_of_le hs0 B1.out.size
    go_wp2_with (at_builtin; refine Hid.out ?_)
    refine hideP ?_
    have hn1 := heap_alloc_new wr (.cells #[.int .i64 4, .int .i64 0, .int .i64 0, .int .i64 0, .int .i64 0, .int .i64 0, .int .i64 0, .int .i64 10000, .int .i64 0, .int .i64 0, .int .i64 0, .int .i64 0, .int .i64 0, .string ⟨#[]⟩, .int .i64 0] 61)
    have hn2' := heap_alloc_new (wr.alloc (.cells #[.int .i64 4, .int .i64 0, .int .i64 0, .int .i64 0, .int .i64 0, .int .i64 0, .int .i64 0, .int .i64 10000, .int .i64 0, .int .i64 0, .int .i64 0, .int .i64 0, .int .i64 0, .string ⟨#[]⟩, .int .i64 0] 61)) (.cells #[.int .i64 3, .int .i64 0, .int .i64 0, .int .i64 0, .int .i64 0, .int .i64 0, .int .i64 0, .int .i64 0, .int .i64 f0, .int .i64 f1, .int .i64 f2, .int .i64 f3, .int .i64 f4, .string ⟨#[]⟩, .int .i64 0] 61)
    have hn3 := heap_alloc_new ((wr.alloc (.cells #[.int .i64 4, .int .i64 0, .int .i64 0, .int .i64 0, .int .i64 0, .int .i64 0, .int .i64 0, .int .i64 10000, .int .i64 0, .int .i64 0, .int .i64 0, .int .i64 0, .int .i64 0, .string ⟨#[]⟩, .int .i64 0] 61)).alloc (.cells #[.int .i64 3, .int .i64 0, .int .i64 0, .int .i64 0, .int .i64 0, .int .i64 0, .int .i64 0, .int .i64 0, .int .i64 f0, .int .i64 f1, .int .i64 f2, .int .i64 f3, .int .i64 f4, .string ⟨#[]⟩, .int .i64 0] 61)) (.cells #[.int .i64 4, .int .i64 0, .int .i64 0, .int .i64 0, .int .i64 0, .int .i64 0, .int .i64 0, .int .i64 (-10000), .int .i64 0, .int .i64 0, .int .i64 0, .int .i64 0, .int .i64 0, .string ⟨#[]⟩, .int .i64 0] 61)
    have hn4 := heap_alloc_new (((wr.alloc (.cells #[.int .i64 4, .int .i64 0, .int .i64 0, .int .i64 0, .int .i64 0, .int .i64 0, .int .i64 0, .int .i64 10000, .int .i64 0, .int .i64 0, .int .i64 0, .int .i64 0, .int .i64 0, .string ⟨#[]⟩, .int .i64 0] 61)).alloc (.cells #[.int .i64 3, .int .i64 0, .int .i64 0, .int .i64 0, .int .i64 0, .int .i64 0, .int .i64 0, .int .i64 0, .int .i64 f0, .int .i64 f1, .int .i64 f2, .int .i64 f3, .int .i64 f4, .string ⟨#[]⟩, .int .i64 0] 61)).alloc (.cells #[.int .i64 4, .int .i64 0, .int .i64 0, .int .i64 0, .int .i64 0, .int .i64 0, .int .i64 0, .int .i64 (-10000), .int .i64 0, .int .i64 0, .int .i64 0, .int .i64 0, .int .i64 0, .string ⟨#[]⟩, .int .i64 0] 61)) (.cells #[.slice (some ⟨wr.heap.size, 0, none⟩) 1 1, .slice (some ⟨wr.heap.size + 1, 0, none⟩) 1 1, .slice (some ⟨wr.heap.size + 1 + 1, 0, none⟩) 1 1] 31)
    have q1 := below1 (wr.alloc (.cells #[.int .i64 4, .int .i64 0, .int .i64 0, .int .i64 0, .int .i64 0, .int .i64 0, .int .i64 0, .int .i64 10000, .int .i64 0, .int .i64 0, .int .i64 0, .int .i64 0, .int .i64 0, .string ⟨#[]⟩, .int .i64 0] 61)) (.cells #[.int .i64 3, .int .i64 0, .int .i64 0, .int .i64 0, .int .i64 0, .int .i64 0, .int .i64 0, .int .i64 0, .int .i64 f0, .int .i64 f1, .int .i64 f2, .int .i64 f3, .int .i64 f4, .string ⟨#[]⟩, .int .i64 0] 61)
    have q2 := below1 ((wr.alloc (.cells #[.int .i64 4, .int .i64 0, .int .i64 0, .int .i64 0, .int .i64 0, .int .i64 0, .int .i64 0, .int .i64 10000, .int .i64 0, .int .i64 0, .int .i64 0, .int .i64 0, .int .i64 0, .string ⟨#[]⟩, .int .i64 0] 61)).alloc (.cells #[.int .i64 3, .int .i64 0, .int .i64 0, .int .i64 0, .int .i64 0, .int .i64 0, .int .i64 0, .int .i64 0, .int .i64 f0, .int .i64 f1, .int .i64 f2, .int .i64 f3, .int .i64 f4, .string ⟨#[]⟩, .int .i64 0] 61)) (.cells #[.int .i64 4, .int .i64 0, .int .i64 0, .int .i64 0, .int .i64 0, .int .i64 0, .int .i64 0, .int .i64 (-10000), .int .i64 0, .int .i64 0, .int .i64 0, .int .i64 0, .int .i64 0, .string ⟨#[]⟩, .int .i64 0] 61)
    have q3 := below1 (((wr.alloc (.cells #[.int .i64 4, .int .i64 0, .int .i64 0, .int .i64 0, .int .i64 0, .int .i64 0, .int .i64 0, .int .i64 10000, .int .i64 0, .int .i64 0, .int .i64 0, .int .i64 0, .int .i64 0, .string ⟨#[]⟩, .int .i64 0] 61)).alloc (.cells #[.int .i64 3, .int .i64 0, .int .i64 0, .int .i64 0, .int .i64 0, .int .i64 0, .int .i64 0, .int .i64 0, .int .i64 f0, .int .i64 f1, .int .i64 f2, .int .i64 f3, .int .i64 f4, .string ⟨#[]⟩, .int .i64 0] 61)).alloc (.cells #[.int .i64 4, .int .i64 0, .int .i64 0, .int .i64 0, .int .i64 0, .int .i64 0, .int .i64 0, .int .i64 (-10000), .int .i64 0, .int .i64 0, .int .i64 0, .int .i64 0, .int .i64 0, .string ⟨#[]⟩, .int .i64 0] 61)) (.cells #[.slice (some ⟨wr.heap.size, 0, none⟩) 1 1, .slice (some ⟨wr.heap.size + 1, 0, none⟩) 1 1, .slice (some ⟨wr.heap.size + 1 + 1, 0, none⟩) 1 1] 31)
    have hz1 : (wr.alloc (.cells #[.int .i64 4, .int .i64 0, .int .i64 0, .int .i64 0, .int .i64 0, .int .i64 0, .int .i64 0, .int .i64 10000, .int .i64 0, .int .i64 0, .int .i64 0, .int .i64 0, .int .i64 0, .string ⟨#[]⟩, .int .i64 0] 61)).heap.size = wr.heap.size + 1 := by simp
    have hz2 : ((wr.alloc (.cells #[.int .i64 4, .int .i64 0, .int .i64 0, .int .i64 0, .int .i64 0, .int .i64 0, .int .i64 0, .int .i64 10000, .int .i64 0, .int .i64 0, .int .i64 0, .int .i64 0, .int .i64 0, .string ⟨#[]⟩, .int .i64 0] 61)).alloc (.cells #[.int .i64 3, .int .i64 0, .int .i64 0, .int .i64 0, .int .i64 0, .int .i64 0, .int .i64 0, .int .i64 0, .int .i64 f0, .int .i64 f1, .int .i64 f2, .int .i64 f3, .int .i64 f4, .string ⟨#[]⟩, .int .i64 0] 61)).heap.size = wr.heap.size + 1 + 1 := by simp
    have hz3 : (((wr.alloc (.cells #[.int .i64 4, .int .i64 0, .int .i64 0, .int .i64 0, .int .i64 0, .int .i64 0, .int .i64 0, .int .i64 10000, .int .i64 0, .int .i64 0, .int .i64 0, .int .i64 0, .int .i64 0, .string ⟨#[]⟩, .int .i64 0] 61)).alloc (.cells #[.int .i64 3, .int .i64 0, .int .i64 0, .int .i64 0, .int .i64 0, .int .i64 0, .int .i64 0, .int .i64 0, .int .i64 f0, .int .i64 f1, .int .i64 f2, .int .i64 f3, .int .i64 f4, .string ⟨#[]⟩, .int .i64 0] 61)).alloc (.cells #[.int .i64 4, .int .i64 0, .int .i64 0, .int .i64 0, .int .i64 0, .int .i64 0, .int .i64 0, .int .i64 (-10000), .int .i64 0, .int .i64 0, .int .i64 0, .int .i64 0, .int .i64 0, .string ⟨#[]⟩, .int .i64 0] 61)).heap.size = wr.heap.size + 1 + 1 + 1 := by simp
    obtain ⟨WB, hWB⟩ : ∃ WB, WB = (((wr.alloc (.cells #[.int .i64 4, .int .i64 0, .int .i64 0, .int .i64 0, .int .i64 0, .int .i64 0, .int .i64 0, .int .i64 10000, .int .i64 0, .int .i64 0, .int .i64 0, .int .i64 0, .int .i64 0, .string ⟨#[]⟩, .int .i64 0] 61)).alloc (.cells #[.int .i64 3, .int .i64 0, .int .i64 0, .int .i64 0, .int .i64 0, .int .i64 0, .int .i64 0, .int .i64 0, .int .i64 f0, .int .i64 f1, .int .i64 f2, .int .i64 f3, .int .i64 f4, .string ⟨#[]⟩, .int .i64 0] 61)).alloc (.cells #[.int .i64 4, .int .i64 0, .int .i64 0, .int .i64 0, .int .i64 0, .int .i64 0, .int .i64 0, .int .i64 (-10000), .int .i64 0, .int .i64 0, .int .i64 0, .int .i64 0, .int .i64 0, .string ⟨#[]⟩, .int .i64 0] 61)).alloc (.cells #[.slice (some ⟨wr.heap.size, 0, none⟩) 1 1, .slice (some ⟨wr.heap.size + 1, 0, none⟩) 1 1, .slice (some ⟨wr.heap.size + 1 + 1, 0, none⟩) 1 1] 31) := ⟨_, rfl⟩
    rw [← hWB]
    rw [← hWB] at hn4 q3
    rw [hz3] at hn4 q3
    rw [hz2] at hn3 q2
    rw [hz1] at hn2' q1
    have k1 : WB.heap[wr.heap.size]? = some (.cells #[.int .i64 4, .int .i64 0, .int .i64 0, .int .i64 0, .int .i64 0, .int .i64 0, .int .i64 0, .int .i64 10000, .int .i64 0, .int .i64 0, .int .i64 0, .int .i64 0, .int .i64 0, .string ⟨#[]⟩, .int .i64 0] 61 (0, 0)) := ((q3.block _ (by omega)).trans ((q2.block _ (by omega)).trans (q1.block _ (by omega)))).trans hn1
    have k2 : WB.heap[wr.heap.size + 1]? = some (.cells #[.int .i64 3, .int .i64 0, .int .i64 0, .int .i64 0, .int .i64 0, .int .i64 0, .int .i64 0, .int .i64 0, .int .i64 f0, .int .i64 f1, .int .i64 f2, .int .i64 f3, .int .i64 f4, .string ⟨#[]⟩, .int .i64 0] 61 (0, 0)) := ((q3.block _ (by omega)).trans (q2.block _ (by omega))).trans hn2'
    have k3 : WB.heap[wr.heap.size + 1 + 1]? = some (.cells #[.int .i64 4, .int .i64 0, .int .i64 0, .int .i64 0, .int .i64 0, .int .i64 0, .int .i64 0, .int .i64 (-10000), .int .i64 0, .int .i64 0, .int .i64 0, .int .i64 0, .int .i64 0, .string ⟨#[]⟩, .int .i64 0] 61 (0, 0)) := (q3.block _ (by omega)).trans hn3
    have BB : Hid (Below wr.heap.size wr WB) := hideP ((((below1 wr (.cells #[.int .i64 4, .int .i64 0, .int .i64 0, .int .i64 0, .int .i64 0, .int .i64 0, .int .i64 0, .int .i64 10000, .int .i64 0, .int .i64 0, .int .i64 0, .int .i64 0, .int .i64 0, .string ⟨#[]⟩, .int .i64 0] 61)).trans (q1.mono (by omega))).trans (q2.mono (by omega))).trans (q3.mono (by omega)))
    have hbw : W0.heap.size ≤ wr.heap.size := B1.out.size
    have O1 : Hid (WB.ownsRow W0.heap.size 61 15 (.slice (some ⟨wr.heap.size, 0, none⟩) 1 1) 1 (flatN [penN 10000])) := hideP ⟨rfl, .inr ⟨_, _, _, rfl, hbw, k1, by omega, by unfold maxLen; omega, rfl, rfl⟩⟩
    have O2 : Hid (WB.ownsRow W0.heap.size 61 15 (.slice (some ⟨wr.heap.size + 1, 0, none⟩) 1 1) 1 (flatN [gapN f0 f1 f2 f3 f4])) := hideP ⟨rfl, .inr ⟨_, _, _, rfl, by omega, k2, by omega, by unfold maxLen; omega, rfl, rfl⟩⟩
    have O3 : Hid (WB.ownsRow W0.heap.size 61 15 (.slice (some ⟨wr.heap.size + 1 + 1, 0, none⟩) 1 1) 1 (flatN [penN (-10000)])) := hideP ⟨rfl, .inr ⟨_, _, _, rfl, by omega, k3, by omega, by unfold maxLen; omega, rfl, rfl⟩⟩
    have OB : Hid (WB.ownsRow W0.heap.size 31 1 (.slice (some ⟨g, 0, none⟩) (d + 1) uc) (d + 1) (vs.take (d + 1))) := hideP (ownG_below (own25_take HU.out (by omega)) BB.out)
    have NB : Hid (∀ j z, ([.slice (some ⟨wr.heap.size, 0, none⟩) 1 1, .slice (some ⟨wr.heap.size + 1, 0, none⟩) 1 1, .slice (some ⟨wr.heap.size + 1 + 1, 0, none⟩) 1 1] : List Value)[j]? = some z → WB.cell? ((⟨wr.heap.size + 1 + 1 + 1, 0, none⟩ : Addr).add j) = some z) := hideP (fun j z hz => by
     have he : ((⟨wr.heap.size + 1 + 1 + 1, 0, none⟩ : Addr).add j) = ⟨wr.heap.size + 1 + 1 + 1, j, none⟩ := by simp only [Addr.add]; split <;> simp_all
     rw [he, cell_of_row _ _ _ _ _ _ hn4, ← hz]
     simp)
    have hwB : W0.heap.size ≤ WB.heap.size := Nat.le_trans hbw BB.out.size
    clear hn1 hn2' hn3 hn4 q1 q2 q3 hz1 hz2 hz3 k1 k2 k3 hWB
    refine wpList_append_at rfl (.tmp 28) (.tmp 37) 53 rfl W0.heap.size 31 i0 (.slice none 0 0) 1 24 Tryz.underlying53 hi0 hj0 hj1 hj2 rfl (by decide) (.slice (some ⟨g, 0, none⟩) (d + 1) uc) (d + 1) (vs.take (d + 1)) rfl OB.out ⟨wr.heap.size + 1 + 1 + 1, 0, none⟩ 3 3 [.slice (some ⟨wr.heap.size, 0, none⟩) 1 1, .slice (some ⟨wr.heap.size + 1, 0, none⟩) 1 1, .slice (some ⟨wr.heap.size + 1 + 1, 0, none⟩) 1 1] rfl rfl NB.out (by intro u hu; simp at hu; rcases hu with rfl | rfl | rfl <;> rfl) (by unfold maxLen; omega) (by omega) hwB ?_
    intro v6 w6 ho6 hg6 hat6
    have HVL := hvl
    have R6 : Hid (Rws W0.heap.size w6 v6 RL) := hideP (by
     have hLn : (itemsOf xs).length = N := hlen2
     rw [HRL.out, HNN.out, HT2.out]
     refine rws_mk ho6 (by rw [List.length_append, List.length_take, hLn]; simp <;> omega) (fun i x hx => ?_)
     have hil : (vs.take (d + 1)).length = (d + 1) := by rw [List.length_take, hvl]; omega
     by_cases hi : i < (d + 1)
     ·rw [List.getElem?_append_left (by omega), List.getElem?_take, if_pos hi] at hx
      have h1 := HLs.out.own i x hx
      have e1 : ((itemsOf xs).take (d + 1) ++ [[penN 10000], [gapN f0 f1 f2 f3 f4], [penN (-10000)]]).getD i [] = (itemsOf xs).getD i [] := by
       rw [List.getD_eq_getElem?_getD, List.getElem?_append_left (by rw [List.length_take, hLn]; omega), List.getElem?_take, if_pos hi, List.getD_eq_getElem?_getD]
      rw [e1]
      have h2 := ownG_below h1 BB.out
      exact own60_grown h2 hg6 (own60_25 h2 OB.out)
     ·rw [List.getElem?_append_right (by omega), hil] at hx
      have e1 : ((itemsOf xs).take (d + 1) ++ [[penN 10000], [gapN f0 f1 f2 f3 f4], [penN (-10000)]]).getD i [] = ([[penN 10000], [gapN f0 f1 f2 f3 f4], [penN (-10000)]] : List (List Nd)).getD (i - (d + 1)) [] := by
       rw [List.getD_eq_getElem?_getD, List.getElem?_append_right (by rw [List.length_take, hLn]; omega), List.length_take, hLn, Nat.min_eq_left (by omega), List.getD_eq_getElem?_getD]
      rw [e1]
      obtain ⟨t, ht⟩ : ∃ t, t = i - (d + 1) := ⟨_, rfl⟩
      rw [← ht] at hx ⊢
      match t, hx with
      | 0, hx => simp at hx; subst hx; exact own60_grown O1.out hg6 (own60_25 O1.out OB.out)
      | 1, hx => simp at hx; subst hx; exact own60_grown O2.out hg6 (own60_25 O2.out OB.out)
      | 2, hx => simp at hx; subst hx; exact own60_grown O3.out hg6 (own60_25 O3.out OB.out)
      | t + 3, hx => simp at hx)
    have B6 : Hid (Below W0.heap.size W0 w6) := hideP (Below.grown (B1.out.trans (BB.out.mono hbw)) hg6 hwB (fun j hj => (World.ownsRow.lt OB.out j hj).1))
    obtain ⟨a6, c6, rfl⟩ := ownG_shape ho6
    clear ho6 hg6 hat6
    go_wp2
    go_ret
    exact ⟨⟨_, rfl, R6.out.mono B0.out.size⟩, below_more B0.out B6.out B0.out.size⟩
  ·obtain rfl : m = 0 := by omega
   have HT2 : Hid (trm (its xs) N = 0) := hideP (by rw [← htr]; rfl)
   obtain ⟨y2, y3, y4, y5, y6⟩ := HC.out wr B1.out
   have hsl : w.heap.size < wr.heap.size := Nat.lt_of_lt_of_le hs0 B1.out.size
   go_wp2_with (at_builtin; refine Hid.out ?_)
   refine hideP ?_
   have hn1 := heap_alloc_new wr (.cells #[.int .i64 4, .int .i64 0, .int .i64 0, .int .i64 0, .int .i64 0, .int .i64 0, .int .i64 0, .int .i64 10000, .int .i64 0, .int .i64 0, .int .i64 0, .int .i64 0, .int .i64 0, .string ⟨#[]⟩, .int .i64 0] 61)
   have hn2' := heap_alloc_new (wr.alloc (.cells #[.int .i64 4, .int .i64 0, .int .i64 0, .int .i64 0, .int .i64 0, .int .i64 0, .int .i64 0, .int .i64 10000, .int .i64 0, .int .i64 0, .int .i64 0, .int .i64 0, .int .i64 0, .string ⟨#[]⟩, .int .i64 0] 61)) (.cells #[.int .i64 3, .int .i64 0, .int .i64 0, .int .i64 0, .int .i64 0, .int .i64 0, .int .i64 0, .int .i64 0, .int .i64 f0, .int .i64 f1, .int .i64 f2, .int .i64 f3, .int .i64 f4, .string ⟨#[]⟩, .int .i64 0] 61)
   have hn3 := heap_alloc_new ((wr.alloc (.cells #[.int .i64 4, .int .i64 0, .int .i64 0, .int .i64 0, .int .i64 0, .int .i64 0, .int .i64 0, .int .i64 10000, .int .i64 0, .int .i64 0, .int .i64 0, .int .i64 0, .int .i64 0, .string ⟨#[]⟩, .int .i64 0] 61)).alloc (.cells #[.int .i64 3, .int .i64 0, .int .i64 0, .int .i64 0, .int .i64 0, .int .i64 0, .int .i64 0, .int .i64 0, .int .i64 f0, .int .i64 f1, .int .i64 f2, .int .i64 f3, .int .i64 f4, .string ⟨#[]⟩, .int .i64 0] 61)) (.cells #[.int .i64 4, .int .i64 0, .int .i64 0, .int .i64 0, .int .i64 0, .int .i64 0, .int .i64 0, .int .i64 (-10000), .int .i64 0, .int .i64 0, .int .i64 0, .int .i64 0, .int .i64 0, .string ⟨#[]⟩, .int .i64 0] 61)
   have hn4 := heap_alloc_new (((wr.alloc (.cells #[.int .i64 4, .int .i64 0, .int .i64 0, .int .i64 0, .int .i64 0, .int .i64 0, .int .i64 0, .int .i64 10000, .int .i64 0, .int .i64 0, .int .i64 0, .int .i64 0, .int .i64 0, .string ⟨#[]⟩, .int .i64 0] 61)).alloc (.cells #[.int .i64 3, .int .i64 0, .int .i64 0, .int .i64 0, .int .i64 0, .int .i64 0, .int .i64 0, .int .i64 0, .int .i64 f0, .int .i64 f1, .int .i64 f2, .int .i64 f3, .int .i64 f4, .string ⟨#[]⟩, .int .i64 0] 61)).alloc (.cells #[.int .i64 4, .int .i64 0, .int .i64 0, .int .i64 0, .int .i64 0, .int .i64 0, .int .i64 0, .int .i64 (-10000), .int .i64 0, .int .i64 0, .int .i64 0, .int .i64 0, .int .i64 0, .string ⟨#[]⟩, .int .i64 0] 61)) (.cells #[.slice (some ⟨wr.heap.size, 0, none⟩) 1 1, .slice (some ⟨wr.heap.size + 1, 0, none⟩) 1 1, .slice (some ⟨wr.heap.size + 1 + 1, 0, none⟩) 1 1] 31)
   have q1 := below1 (wr.alloc (.cells #[.int .i64 4, .int .i64 0, .int .i64 0, .int .i64 0, .int .i64 0, .int .i64 0, .int .i64 0, .int .i64 10000, .int .i64 0, .int .i64 0, .int .i64 0, .int .i64 0, .int .i64 0, .string ⟨#[]⟩, .int .i64 0] 61)) (.cells #[.int .i64 3, .int .i64 0, .int .i64 0, .int .i64 0, .int .i64 0, .int .i64 0, .int .i64 0, .int .i64 0, .int .i64 f0, .int .i64 f1, .int .i64 f2, .int .i64 f3, .int .i64 f4, .string ⟨#[]⟩, .int .i64 0] 61)
   have q2 := below1 ((wr.alloc (.cells #[.int .i64 4, .int .i64 0, .int .i64 0, .int .i64 0, .int .i64 0, .int .i64 0, .int .i64 0, .int .i64 10000, .int .i64 0, .int .i64 0, .int .i64 0, .int .i64 0, .int .i64 0, .string ⟨#[]⟩, .int .i64 0] 61)).alloc (.cells #[.int .i64 3, .int .i64 0, .int .i64 0, .int .i64 0, .int .i64 0, .int .i64 0, .int .i64 0, .int .i64 0, .int .i64 f0, .int .i64 f1, .int .i64 f2, .int .i64 f3, .int .i64 f4, .string ⟨#[]⟩, .int .i64 0] 61)) (.cells #[.int .i64 4, .int .i64 0, .int .i64 0, .int .i64 0, .int .i64 0, .int .i64 0, .int .i64 0, .int .i64 (-10000), .int .i64 0, .int .i64 0, .int .i64 0, .int .i64 0, .int .i64 0, .string ⟨#[]⟩, .int .i64 0] 61)
   have q3 := below1 (((wr.alloc (.cells #[.int .i64 4, .int .i64 0, .int .i64 0, .int .i64 0, .int .i64 0, .int .i64 0, .int .i64 0, .int .i64 10000, .int .i64 0, .int .i64 0, .int .i64 0, .int .i64 0, .int .i64 0, .string ⟨#[]⟩, .int .i64 0] 61)).alloc (.cells #[.int .i64 3, .int .i64 0, .int .i64 0, .int .i64 0, .int .i64 0, .int .i64 0, .int .i64 0, .int .i64 0, .int .i64 f0, .int .i64 f1, .int .i64 f2, .int .i64 f3, .int .i64 f4, .string ⟨#[]⟩, .int .i64 0] 61)).alloc (.cells #[.int .i64 4, .int .i64 0, .int .i64 0, .int .i64 0, .int .i64 0, .int .i64 0, .int .i64 0, .int .i64 (-10000), .int .i64 0, .int .i64 0, .int .i64 0, .int .i64 0, .int .i64 0, .string ⟨#[]⟩, .int .i64 0] 61)) (.cells #[.slice (some ⟨wr.heap.size, 0, none⟩) 1 1, .slice (some ⟨wr.heap.size + 1, 0, none⟩) 1 1, .slice (some ⟨wr.heap.size + 1 + 1, 0, none⟩) 1 1] 31)
   have hz1 : (wr.alloc (.cells #[.int .i64 4, .int .i64 0, .int .i64 0, .int .i64 0, .int .i64 0, .int .i64 0, .int .i64 0, .int .i64 10000, .int .i64 0, .int .i64 0, .int .i64 0, .int .i64 0, .int .i64 0, .string ⟨#[]⟩, .int .i64 0] 61)).heap.size = wr.heap.size + 1 := by simp
   have hz2 : ((wr.alloc (.cells #[.int .i64 4, .int .i64 0, .int .i64 0, .int .i64 0, .int .i64 0, .int .i64 0, .int .i64 0, .int .i64 10000, .int .i64 0, .int .i64 0, .int .i64 0, .int .i64 0, .int .i64 0, .string ⟨#[]⟩, .int .i64 0] 61)).alloc (.cells #[.int .i64 3, .int .i64 0, .int .i64 0, .int .i64 0, .int .i64 0, .int .i64 0, .int .i64 0, .int .i64 0, .int .i64 f0, .int .i64 f1, .int .i64 f2, .int .i64 f3, .int .i64 f4, .string ⟨#[]⟩, .int .i64 0] 61)).heap.size = wr.heap.size + 1 + 1 := by simp
   have hz3 : (((wr.alloc (.cells #[.int .i64 4, .int .i64 0, .int .i64 0, .int .i64 0, .int .i64 0, .int .i64 0, .int .i64 0, .int .i64 10000, .int .i64 0, .int .i64 0, .int .i64 0, .int .i64 0, .int .i64 0, .string ⟨#[]⟩, .int .i64 0] 61)).alloc (.cells #[.int .i64 3, .int .i64 0, .int .i64 0, .int .i64 0, .int .i64 0, .int .i64 0, .int .i64 0, .int .i64 0, .int .i64 f0, .int .i64 f1, .int .i64 f2, .int .i64 f3, .int .i64 f4, .string ⟨#[]⟩, .int .i64 0] 61)).alloc (.cells #[.int .i64 4, .int .i64 0, .int .i64 0, .int .i64 0, .int .i64 0, .int .i64 0, .int .i64 0, .int .i64 (-10000), .int .i64 0, .int .i64 0, .int .i64 0, .int .i64 0, .int .i64 0, .string ⟨#[]⟩, .int .i64 0] 61)).heap.size = wr.heap.size + 1 + 1 + 1 := by simp
   obtain ⟨WB, hWB⟩ : ∃ WB, WB = (((wr.alloc (.cells #[.int .i64 4, .int .i64 0, .int .i64 0, .int .i64 0, .int .i64 0, .int .i64 0, .int .i64 0, .int .i64 10000, .int .i64 0, .int .i64 0, .int .i64 0, .int .i64 0, .int .i64 0, .string ⟨#[]⟩, .int .i64 0] 61)).alloc (.cells #[.int .i64 3, .int .i64 0, .int .i64 0, .int .i64 0, .int .i64 0, .int .i64 0, .int .i64 0, .int .i64 0, .int .i64 f0, .int .i64 f1, .int .i64 f2, .int .i64 f3, .int .i64 f4, .string ⟨#[]⟩, .int .i64 0] 61)).alloc (.cells #[.int .i64 4, .int .i64 0, .int .i64 0, .int .i64 0, .int .i64 0, .int .i64 0, .int .i64 0, .int .i64 (-10000), .int .i64 0, .int .i64 0, .int .i64 0, .int .i64 0, .int .i64 0, .string ⟨#[]⟩, .int .i64 0] 61)).alloc (.cells #[.slice (some ⟨wr.heap.size, 0, none⟩) 1 1, .slice (some ⟨wr.heap.size + 1, 0, none⟩) 1 1, .slice (some ⟨wr.heap.size + 1 + 1, 0, none⟩) 1 1] 31) := ⟨_, rfl⟩
   rw [← hWB]
   rw [← hWB] at hn4 q3
   rw [hz3] at hn4 q3
   rw [hz2] at hn3 q2
   rw [hz1] at hn2' q1
   have k1 : WB.heap[wr.heap.size]? = some (.cells #[.int .i64 4, .int .i64 0, .int .i64 0, .int .i64 0, .int .i64 0, .int .i64 0, .int .i64 0, .int .i64 10000, .int .i64 0, .int .i64 0, .int .i64 0, .int .i64 0, .int .i64 0, .string ⟨#[]⟩, .int .i64 0] 61 (0, 0)) := ((q3.block _ (by omega)).trans ((q2.block _ (by omega)).trans (q1.block _ (by omega)))).trans hn1
   have k2 : WB.heap[wr.heap.size + 1]? = some (.cells #[.int .i64 3, .int .i64 0, .int .i64 0, .int .i64 0, .int .i64 0, .int .i64 0, .int .i64 0, .int .i64 0, .int .i64 f0, .int .i64 f1, .int .i64 f2, .int .i64 f3, .int .i64 f4, .string ⟨#[]⟩, .int .i64 0] 61 (0, 0)) := ((q3.block _ (by omega)).trans (q2.block _ (by omega))).trans hn2'
   have k3 : WB.heap[wr.heap.size + 1 + 1]? = some (.cells #[.int .i64 4, .int .i64 0, .int .i64 0, .int .i64 0, .int .i64 0, .int .i64 0, .int .i64 0, .int .i64 (-10000), .int .i64 0, .int .i64 0, .int .i64 0, .int .i64 0, .int .i64 0, .string ⟨#[]⟩, .int .i64 0] 61 (0, 0)) := (q3.block _ (by omega)).trans hn3
   have BB : Hid (Below wr.heap.size wr WB) := hideP ((((below1 wr (.cells #[.int .i64 4, .int .i64 0, .int .i64 0, .int .i64 0, .int .i64 0, .int .i64 0, .int .i64 0, .int .i64 10000, .int .i64 0, .int .i64 0, .int .i64 0, .int .i64 0, .int .i64 0, .string ⟨#[]⟩, .int .i64 0] 61)).trans (q1.mono (by omega))).trans (q2.mono (by omega))).trans (q3.mono (by omega)))
   have hbw : W0.heap.size ≤ wr.heap.size := B1.out.size
   have O1 : Hid (WB.ownsRow W0.heap.size 61 15 (.slice (some ⟨wr.heap.size, 0, none⟩) 1 1) 1 (flatN [penN 10000])) := hideP ⟨rfl, .inr ⟨_, _, _, rfl, hbw, k1, by omega, by unfold maxLen; omega, rfl, rfl⟩⟩
   have O2 : Hid (WB.ownsRow W0.heap.size 61 15 (.slice (some ⟨wr.heap.size + 1, 0, none⟩) 1 1) 1 (flatN [gapN f0 f1 f2 f3 f4])) := hideP ⟨rfl, .inr ⟨_, _, _, rfl, by omega, k2, by omega, by unfold maxLen; omega, rfl, rfl⟩⟩
   have O3 : Hid (WB.ownsRow W0.heap.size 61 15 (.slice (some ⟨wr.heap.size + 1 + 1, 0, none⟩) 1 1) 1 (flatN [penN (-10000)])) := hideP ⟨rfl, .inr ⟨_, _, _, rfl, by omega, k3, by omega, by unfold maxLen; omega, rfl, rfl⟩⟩
   have OB : Hid (WB.ownsRow W0.heap.size 31 1 (.slice ua 0 uc) 0 (vs.take 0)) := hideP (ownG_below (own25_take HU.out (by omega)) BB.out)
   have NB : Hid (∀ j z, ([.slice (some ⟨wr.heap.size, 0, none⟩) 1 1, .slice (some ⟨wr.heap.size + 1, 0, none⟩) 1 1, .slice (some ⟨wr.heap.size + 1 + 1, 0, none⟩) 1 1] : List Value)[j]? = some z → WB.cell? ((⟨wr.heap.size + 1 + 1 + 1, 0, none⟩ : Addr).add j) = some z) := hideP (fun j z hz => by
    have he : ((⟨wr.heap.size + 1 + 1 + 1, 0, none⟩ : Addr).add j) = ⟨wr.heap.size + 1 + 1 + 1, j, none⟩ := by simp only [Addr.add]; split <;> simp_all
    rw [he, cell_of_row _ _ _ _ _ _ hn4, ← hz]
    simp)
   have hwB : W0.heap.size ≤ WB.heap.size := Nat.le_trans hbw BB.out.size
   clear hn1 hn2' hn3 hn4 q1 q2 q3 hz1 hz2 hz3 k1 k2 k3 hWB
   refine wpList_append_at rfl (.tmp 28) (.tmp 37) 53 rfl W0.heap.size 31 i0 (.slice none 0 0) 1 24 Tryz.underlying53 hi0 hj0 hj1 hj2 rfl (by decide) (.slice ua 0 uc) 0 (vs.take 0) rfl OB.out ⟨wr.heap.size + 1 + 1 + 1, 0, none⟩ 3 3 [.slice (some ⟨wr.heap.size, 0, none⟩) 1 1, .slice (some ⟨wr.heap.size + 1, 0, none⟩) 1 1, .slice (some ⟨wr.heap.size + 1 + 1, 0, none⟩) 1 1] rfl rfl NB.out (by intro u hu; simp at hu; rcases hu with rfl | rfl | rfl <;> rfl) (by unfold maxLen; omega) (by omega) hwB ?_
   intro v6 w6 ho6 hg6 hat6
   have HVL := hvl
   have R6 : Hid (Rws W0.heap.size w6 v6 RL) := hideP (by
    have hLn : (itemsOf xs).length = N := hlen2
    rw [HRL.out, HNN.out, HT2.out]
    refine rws_mk ho6 (by rw [List.length_append, List.length_take, hLn]; simp <;> omega) (fun i x hx => ?_)
    have hil : (vs.take 0).length = 0 := by rw [List.length_take, hvl]; omega
    by_cases hi : i < 0
    ·rw [List.getElem?_append_left (by omega), List.getElem?_take, if_pos hi] at hx
     have h1 := HLs.out.own i x hx
     have e1 : ((itemsOf xs).take 0 ++ [[penN 10000], [gapN f0 f1 f2 f3 f4], [penN (-10000)]]).getD i [] = (itemsOf xs).getD i [] := by
      rw [List.getD_eq_getElem?_getD, List.getElem?_append_left (by rw [List.length_take, hLn]; omega), List.getElem?_take, if_pos hi, List.getD_eq_getElem?_getD]
     rw [e1]
     have h2 := ownG_below h1 BB.out
     exact own60_grown h2 hg6 (own60_25 h2 OB.out)
    ·rw [List.getElem?_append_right (by omega), hil] at hx
     have e1 : ((itemsOf xs).take 0 ++ [[penN 10000], [gapN f0 f1 f2 f3 f4], [penN (-10000)]]).getD i [] = ([[penN 10000], [gapN f0 f1 f2 f3 f4], [penN (-10000)]] : List (List Nd)).getD (i - 0) [] := by
      rw [List.getD_eq_getElem?_getD, List.getElem?_append_right (by rw [List.length_take, hLn]; omega), List.length_take, hLn, Nat.min_eq_left (by omega), List.getD_eq_getElem?_getD]
     rw [e1]
     obtain ⟨t, ht⟩ : ∃ t, t = i - 0 := ⟨_, rfl⟩
     rw [← ht] at hx ⊢
     match t, hx with
     | 0, hx => simp at hx; subst hx; exact own60_grown O1.out hg6 (own60_25 O1.out OB.out)
     | 1, hx => simp at hx; subst hx; exact own60_grown O2.out hg6 (own60_25 O2.out OB.out)
     | 2, hx => simp at hx; subst hx; exact own60_grown O3.out hg6 (own60_25 O3.out OB.out)
     | t + 3, hx => simp at hx)
   have B6 : Hid (Below W0.heap.size W0 w6) := hideP (Below.grown (B1.out.trans (BB.out.mono hbw)) hg6 hwB (fun j hj => (World.ownsRow.lt OB.out j hj).1))
   obtain ⟨a6, c6, rfl⟩ := ownG_shape ho6
   clear ho6 hg6 hat6
   go_wp2
   go_ret
   exact ⟨⟨_, rfl, R6.out.mono B0.out.size⟩, below_more B0.out B6.out B0.out.size⟩
end Go.Proofs.YtlohbaoigfaneaaGreat
