import Derived.Test.YtlohbaoigfaneaaGreatOld
import Derived.Deep.RegionHeld3
namespace Go.Proofs.YtlohbaoigfaneaaGreat
open Go.RowKit
set_option linter.unusedVariables false
set_option linter.unusedSimpArgs false
abbrev wayO (tn : Int) (ah : Option Addr) (ln hg cw dm : Int) : Obj := .cells #[.int .i64 tn, .pointer ah, .int .i64 ln, .int .i64 hg, .int .i64 cw, .int .i64 dm] 77 (0, 0)
abbrev wayV (tn : Int) (ah : Option Addr) (ln hg cw dm : Int) : Value := .agg #[.int .i64 tn, .pointer ah, .int .i64 ln, .int .i64 hg, .int .i64 cw, .int .i64 dm]
def mxZ (a : Int) : Int := if 0 < a then a else 0
theorem mxZ_max (a : Int) : max a 0 = mxZ a := by unfold mxZ; split <;> omega
set_option maxRecDepth 20000 in
set_option maxHeartbeats 8000000 in
theorem longer_any {w : World} {lo g m c PB WB : Nat} {S : Sy} {ts : List Tn} {nv it sv : Value} (i j : Nat) (hP : ParB w PB S nv it sv (.slice (some ⟨g, 0, none⟩) m c)) (h : w.ownsRow lo 85 4 (.slice (some ⟨g, 0, none⟩) m c) m (flatT ts)) (hl : ts.length = m) (hm : m ≤ 5001) (hi : i < m) (hj : j < m)
 (ah : Option Addr) (ln hg cw dm bd cl : Int) (hW : w.heap[WB]? = some (wayO (i : Int) ah ln hg cw dm)) (hp : -10000 ≤ (ts.getD j Tn.none).2.1) :
 Calls Tryz.prog 35 #[.pointer (some ⟨PB, 0, none⟩), .pointer (some ⟨WB, 0, none⟩), .int .i64 (j : Int), .agg #[.int .i64 bd, .int .i64 cl]] w fun e w' => e = .returned (wayV (j : Int) (some ⟨WB, 0, none⟩) (wrap64 (ln + 1)) (mxZ (wrap64 (hg - 1))) cl (wrap64 (dm + demI S bd (ts.getD j Tn.none).2.1 ((ts.getD i Tn.none).2.2.1.isSome && (ts.getD j Tn.none).2.2.1.isSome) cl cw))) ∧ Below w.heap.size w w' := by
 obtain ⟨i0, i1, i2, i3⟩ := turn_cells h hl hi
 obtain ⟨j0, j1, j2, j3⟩ := turn_cells h hl hj
 obtain ⟨ti, hti⟩ : ∃ t, t = ts.getD i Tn.none := ⟨_, rfl⟩
 obtain ⟨tj, htj⟩ : ∃ t, t = ts.getD j Tn.none := ⟨_, rfl⟩
 rw [← hti] at i0 i1 i2 i3 ⊢
 rw [← htj] at j0 j1 j2 j3 hp ⊢
 obtain ⟨a0, a1, a2, a3⟩ := ti
 obtain ⟨b0, b1, b2, b3⟩ := tj
 simp only at i0 i1 i2 i3 j0 j1 j2 j3 hp ⊢
 have c4 : w.cell? ⟨PB, 4, none⟩ = some (.int .i64 S.ln) := hP.sty 4 (by omega)
 have c6 : w.cell? ⟨PB, 6, none⟩ = some (.int .i64 S.du) := hP.sty 6 (by omega)
 have c7 : w.cell? ⟨PB, 7, none⟩ = some (.int .i64 S.ad) := hP.sty 7 (by omega)
 have c26 := hP.c26
 have hPl := hP.lt
 have hWl : WB < w.heap.size := (Array.getElem?_eq_some_iff.1 hW).1
 have hgl : g < w.heap.size := World.block_lt_of_cell? w _ i0
 have x0 : w.cell? ⟨WB, 0, none⟩ = some (.int .i64 (i : Int)) := by rw [cell_of_row _ _ _ _ _ _ hW]; rfl
 have x2 : w.cell? ⟨WB, 2, none⟩ = some (.int .i64 ln) := by rw [cell_of_row _ _ _ _ _ _ hW]; rfl
 have x3 : w.cell? ⟨WB, 3, none⟩ = some (.int .i64 hg) := by rw [cell_of_row _ _ _ _ _ _ hW]; rfl
 have x4 : w.cell? ⟨WB, 4, none⟩ = some (.int .i64 cw) := by rw [cell_of_row _ _ _ _ _ _ hW]; rfl
 have x5 : w.cell? ⟨WB, 5, none⟩ = some (.int .i64 dm) := by rw [cell_of_row _ _ _ _ _ _ hW]; rfl
 have hii : (i : Int) < (m : Int) := by omega
 have hji : (j : Int) < (m : Int) := by omega
 obtain ⟨DD, hDD⟩ : ∃ D, D = demI S bd b1 (a2.isSome && b2.isSome) cl cw := ⟨_, rfl⟩
 rw [← hDD]
 have HDD := hideP hDD
 clear hW hP h hl hti htj hDD
 have SK : Hid (∀ x : World, OldW w x → x.cell? ⟨PB, 26, none⟩ = some (.slice (some ⟨g, 0, none⟩) m c) ∧ x.cell? ⟨WB, 0, none⟩ = some (.int .i64 (i : Int)) ∧ x.cell? ⟨g, i * 4, none⟩ = some (.int .i64 a0) ∧ x.cell? ⟨g, i * 4 + 1, none⟩ = some (.int .i64 a1) ∧ x.cell? ⟨g, i * 4 + 2, none⟩ = some (.pointer a2) ∧ x.cell? ⟨g, i * 4 + 3, none⟩ = some (.int .i64 a3) ∧ x.cell? ⟨g, j * 4, none⟩ = some (.int .i64 b0) ∧ x.cell? ⟨g, j * 4 + 1, none⟩ = some (.int .i64 b1) ∧ x.cell? ⟨g, j * 4 + 2, none⟩ = some (.pointer b2) ∧ x.cell? ⟨g, j * 4 + 3, none⟩ = some (.int .i64 b3)) := hideP (fun x hx => by
  have e1 : ∀ o, x.cell? ⟨PB, o, none⟩ = w.cell? ⟨PB, o, none⟩ := fun o => World.cell?_of_block (a := ⟨PB, o, none⟩) (hx.2.2.2.2 PB hPl)
  have e2 : ∀ o, x.cell? ⟨WB, o, none⟩ = w.cell? ⟨WB, o, none⟩ := fun o => World.cell?_of_block (a := ⟨WB, o, none⟩) (hx.2.2.2.2 WB hWl)
  have e3 : ∀ o, x.cell? ⟨g, o, none⟩ = w.cell? ⟨g, o, none⟩ := fun o => World.cell?_of_block (a := ⟨g, o, none⟩) (hx.2.2.2.2 g hgl)
  simp only [e1, e2, e3]
  exact ⟨c26, x0, i0, i1, i2, i3, j0, j1, j2, j3⟩)
 go_enter Tryz.func35, Tryz.ntmps35
 go_upto_region 1 with fail
 obtain ⟨W1, hW1⟩ : ∃ W, W = (w.alloc (.cells #[.int .i64 bd, .int .i64 cl] 94)).alloc (.cells #[.int .i64 0, .pointer none, .int .i64 0, .int .i64 0, .int .i64 0, .int .i64 0] 77) := ⟨_, rfl⟩
 have O1 : Hid (OldW w W1) := hideP (by rw [hW1]; exact ((OldW.refl w).alloc _).alloc _)
 have hz1 : w.heap.size ≤ W1.heap.size := by rw [hW1]; simp; omega
 have R7 : Hid (W1.heap[w.heap.size]? = some (.cells #[.int .i64 bd, .int .i64 cl] 94 (0, 0))) := hideP (by rw [hW1]; exact (Below.heap_alloc _ _ _ (by simp)).trans (heap_alloc_new w _))
 have R8 : Hid (W1.heap[w.heap.size + 1]? = some (.cells #[.int .i64 0, .pointer none, .int .i64 0, .int .i64 0, .int .i64 0, .int .i64 0] 77 (0, 0))) := hideP (by rw [hW1]; have := heap_alloc_new (w.alloc (.cells #[.int .i64 bd, .int .i64 cl] 94)) (.cells #[.int .i64 0, .pointer none, .int .i64 0, .int .i64 0, .int .i64 0, .int .i64 0] 77); simpa using this)
 rw [← hW1]
 clear hW1
 obtain ⟨d26, y0, k0, k1, k2, k3, l0, l1, l2, l3⟩ := SK.out W1 O1.out
 go_cut [9, 10] (fun s9 s10 wc => ∃ A B : Nat, s9 = .pointer (some ⟨A, 0, none⟩) ∧ s10 = .pointer (some ⟨B, 0, none⟩) ∧ Hid (wc.heap[A]? = some (.cells #[.int .i64 a0, .int .i64 a1, .pointer a2, .int .i64 a3] 85 (0, 0)) ∧ wc.heap[B]? = some (.cells #[.int .i64 b0, .int .i64 b1, .pointer b2, .int .i64 b3] 85 (0, 0)) ∧ W1.heap.size ≤ A ∧ W1.heap.size ≤ B ∧ OldW W1 wc))
 case first =>
  go_region_held3 (fun x => x.cell? ⟨PB, 26, none⟩ = some (.slice (some ⟨g, 0, none⟩) m c) ∧ x.cell? ⟨WB, 0, none⟩ = some (.int .i64 (i : Int)) ∧ x.cell? ⟨g, i * 4, none⟩ = some (.int .i64 a0) ∧ x.cell? ⟨g, i * 4 + 1, none⟩ = some (.int .i64 a1) ∧ x.cell? ⟨g, i * 4 + 2, none⟩ = some (.pointer a2) ∧ x.cell? ⟨g, i * 4 + 3, none⟩ = some (.int .i64 a3) ∧ x.cell? ⟨g, j * 4, none⟩ = some (.int .i64 b0) ∧ x.cell? ⟨g, j * 4 + 1, none⟩ = some (.int .i64 b1) ∧ x.cell? ⟨g, j * 4 + 2, none⟩ = some (.pointer b2) ∧ x.cell? ⟨g, j * 4 + 3, none⟩ = some (.int .i64 b3))
   (first | with_reducible exact ⟨d26, y0, k0, k1, k2, k3, l0, l1, l2, l3⟩ | (refine SK.out _ ?_; repeat (first | with_reducible exact O1.out | with_reducible refine OldW.drew ?_ | with_reducible refine OldW.alloc ?_ _ | with_reducible refine OldW.set ?_ (by first | exact hz1 | (simp; omega)) _ _)))
   (done)
  ·go_wp2_with fail
   go_meet
   case rel =>
    refine ⟨_, _, rfl, rfl, hideP ⟨?_, ?_, by first | exact Nat.le_refl _ | (simp; done) | (simp; omega), by first | exact Nat.le_refl _ | (simp; done) | (simp; omega), ?_⟩⟩
    ·exact (Below.heap_alloc _ _ _ (by simp)).trans (heap_alloc_new W1 _)
    ·exact heap_alloc_new2 W1 _ _
    ·exact ((OldW.refl W1).alloc _).alloc _
  ·go_wp2_with fail
   go_meet
   case rel =>
    refine ⟨_, _, rfl, rfl, hideP ⟨?_, ?_, by first | exact Nat.le_refl _ | (simp; done) | (simp; omega), by first | exact Nat.le_refl _ | (simp; done) | (simp; omega), ?_⟩⟩
    ·exact heap_alloc_new2 W1 _ _
    ·exact (Below.heap_alloc _ _ _ (by simp)).trans (heap_alloc_new W1 _)
    ·exact ((OldW.refl W1).alloc _).alloc _
 case rest =>
  obtain ⟨A, B, rfl, rfl, HC⟩ := hcut
  have CK : Hid (∀ x, OldW wc x → (x.cell? ⟨PB, 4, none⟩ = some (.int .i64 S.ln) ∧ x.cell? ⟨PB, 6, none⟩ = some (.int .i64 S.du) ∧ x.cell? ⟨PB, 7, none⟩ = some (.int .i64 S.ad)) ∧ (x.cell? ⟨WB, 2, none⟩ = some (.int .i64 ln) ∧ x.cell? ⟨WB, 3, none⟩ = some (.int .i64 hg) ∧ x.cell? ⟨WB, 4, none⟩ = some (.int .i64 cw) ∧ x.cell? ⟨WB, 5, none⟩ = some (.int .i64 dm)) ∧ (x.cell? ⟨w.heap.size, 0, none⟩ = some (.int .i64 bd) ∧ x.cell? ⟨w.heap.size, 1, none⟩ = some (.int .i64 cl)) ∧ x.cell? ⟨A, 2, none⟩ = some (.pointer a2) ∧ (x.cell? ⟨B, 0, none⟩ = some (.int .i64 b0) ∧ x.cell? ⟨B, 1, none⟩ = some (.int .i64 b1) ∧ x.cell? ⟨B, 2, none⟩ = some (.pointer b2) ∧ x.cell? ⟨B, 3, none⟩ = some (.int .i64 b3)) ∧ x.heap[w.heap.size + 1]? = some (.cells #[.int .i64 0, .pointer none, .int .i64 0, .int .i64 0, .int .i64 0, .int .i64 0] 77 (0, 0)) ∧ OldW w x) := hideP (fun x hx => by
   obtain ⟨hA, hB, _, _, hO⟩ := HC.out
   have hW1 := hO.trans hx
   have hw := O1.out.trans hW1
   have e1 : ∀ o, x.cell? ⟨PB, o, none⟩ = w.cell? ⟨PB, o, none⟩ := fun o => World.cell?_of_block (a := ⟨PB, o, none⟩) (hw.2.2.2.2 PB hPl)
   have e2 : ∀ o, x.cell? ⟨WB, o, none⟩ = w.cell? ⟨WB, o, none⟩ := fun o => World.cell?_of_block (a := ⟨WB, o, none⟩) (hw.2.2.2.2 WB hWl)
   have h7 := (hW1.2.2.2.2 _ (Array.getElem?_eq_some_iff.1 R7.out).1).trans R7.out
   have h8 := (hW1.2.2.2.2 _ (Array.getElem?_eq_some_iff.1 R8.out).1).trans R8.out
   have hA2 := (hx.2.2.2.2 _ (Array.getElem?_eq_some_iff.1 hA).1).trans hA
   have hB2 := (hx.2.2.2.2 _ (Array.getElem?_eq_some_iff.1 hB).1).trans hB
   simp only [e1, e2]
   exact ⟨⟨c4, c6, c7⟩, ⟨x2, x3, x4, x5⟩, ⟨by rw [cell_of_row _ _ _ _ _ _ h7]; rfl, by rw [cell_of_row _ _ _ _ _ _ h7]; rfl⟩, by rw [cell_of_row _ _ _ _ _ _ hA2]; rfl, ⟨by rw [cell_of_row _ _ _ _ _ _ hB2]; rfl, by rw [cell_of_row _ _ _ _ _ _ hB2]; rfl, by rw [cell_of_row _ _ _ _ _ _ hB2]; rfl, by rw [cell_of_row _ _ _ _ _ _ hB2]; rfl⟩, h8, hw⟩)
  obtain ⟨⟨p4, p6, p7⟩, -, ⟨f0, f1⟩, -, ⟨-, pB1, -⟩, -⟩ := CK.out wc (OldW.refl wc)
  have hz2 : w.heap.size + 1 < wc.heap.size := by
   have := (Array.getElem?_eq_some_iff.1 (CK.out wc (OldW.refl wc)).2.2.2.2.2.1).1
   exact this
  have hAl : A < wc.heap.size := (Array.getElem?_eq_some_iff.1 HC.out.1).1
  have hBl : B < wc.heap.size := (Array.getElem?_eq_some_iff.1 HC.out.2.1).1
  clear d26 y0 k0 k1 k2 k3 l0 l1 l2 l3 i0 i1 i2 i3 j0 j1 j2 j3 c4 c6 c7 c26 x0 x2 x3 x4 x5 SK HC R7 R8
  go_upto_region 2 with fail
  go_region
  go_upto_if 48 with fail
  obtain ⟨wa, rfl⟩ : ∃ wa, wa = wc := ⟨_, rfl⟩
  obtain ⟨d0, hd0⟩ : ∃ d, d = wrap64 (wrap64 (S.ln + bd) * wrap64 (S.ln + bd)) := ⟨_, rfl⟩
  have HD0 := hideP hd0
  try rw [← hd0]
  obtain ⟨d1, hd1⟩ : ∃ d, d = (if 0 < b1 then wrap64 (d0 + wrap64 (b1 * b1)) else if -10000 < b1 then wrap64 (d0 - wrap64 (b1 * b1)) else d0) := ⟨_, rfl⟩
  have HD1 := hideP hd1
  clear p4 p6 p7 f0 f1 pB1 hd0 hd1
  go_cut [11] (fun s11 wx => s11 = .int .i64 d1 ∧ Hid (OldW wa wx))
  case first =>
   obtain ⟨-, -, -, -, ⟨q0, q1, q2, q3⟩, -⟩ := CK.out wa (OldW.refl wa)
   by_cases hb : 0 < b1
   ·have hb1 : b1 > 0 := hb
    have HE : Hid (d1 = wrap64 (d0 + wrap64 (b1 * b1))) := hideP (by rw [HD1.out, if_pos hb])
    go_wp2_with fail
    go_meet
    case rel => exact ⟨by rw [HE.out], hideP (OldW.refl wa)⟩
   ·have hb1 : ¬ b1 > 0 := hb
    by_cases hc : b1 = -10000
    ·have HE : Hid (d1 = d0) := hideP (by rw [HD1.out, if_neg hb, if_neg (by omega)])
     subst hc
     clear hp
     go_wp2_with fail
     refine (isForced_any b0 (-10000) b3 b2 _).mono ?_
     rintro e w3 ⟨rfl, hb3⟩
     have hcb : ((-10000 : Int) == -10000) = true := rfl
     rw [hcb]
     have O3 : Hid (OldW wa w3) := hideP (OldW.bel (OldW.drew (OldW.refl wa)) hb3)
     clear hb3 hcb
     go_wp2_with fail
     go_meet
     case rel => exact ⟨by rw [HE.out], O3⟩
    ·have HE : Hid (d1 = wrap64 (d0 - wrap64 (b1 * b1))) := hideP (by rw [HD1.out, if_neg hb, if_pos (by omega)])
     go_wp2_with fail
     refine (isForced_any b0 b1 b3 b2 _).mono ?_
     rintro e w3 ⟨rfl, hb3⟩
     have hcb : (b1 == -10000) = false := by simpa using hc
     rw [hcb]
     have O3 : Hid (OldW wa w3) := hideP (OldW.bel (OldW.drew (OldW.refl wa)) hb3)
     obtain ⟨-, -, -, -, ⟨r0, r1, r2, r3⟩, -⟩ := CK.out w3 O3.out
     clear hb3 hcb q0 q1 q2 q3
     go_wp2_with fail
     go_meet
     case rel => exact ⟨by rw [HE.out], O3⟩
  case rest =>
   obtain ⟨rfl, OX⟩ := hcut
   obtain ⟨-, -, -, vA, ⟨-, -, vB2, -⟩, -⟩ := CK.out wc OX.out
   obtain ⟨wb, rfl⟩ : ∃ wb, wb = wc := ⟨_, rfl⟩
   go_upto_region 7 with fail
   go_cut [11, 73] (fun s11 s73 wx => s11 = .int .i64 d1 ∧ s73 = .bool (a2.isSome && b2.isSome) ∧ Hid (OldW wa wx))
   case first =>
    clear HD1 HD0 CK
    cases a2 <;> cases b2
    all_goals
     go_wp2_with fail
     go_meet
     case rel => exact ⟨rfl, rfl, OX⟩
   case rest =>
    obtain ⟨rfl, rfl, OY⟩ := hcut
    obtain ⟨wd, rfl⟩ : ∃ wd, wd = wc := ⟨_, rfl⟩
    obtain ⟨hh, hhh⟩ : ∃ hh, hh = (a2.isSome && b2.isSome) := ⟨_, rfl⟩
    obtain ⟨d2, hd2⟩ : ∃ d, d = (if hh = true then wrap64 (d1 + S.du) else d1) := ⟨_, rfl⟩
    have HHH := hideP hhh
    have HD2 := hideP hd2
    rw [← hhh]
    obtain ⟨⟨v4, v6, v7⟩, -⟩ := CK.out wd OY.out
    clear vA vB2 OX hhh hd2
    go_upto_if 73 with fail
    go_cut [11] (fun s11 wx => s11 = .int .i64 d2 ∧ Hid (OldW wa wx))
    case first =>
     cases hh with
     | true =>
      have HE : Hid (d2 = wrap64 (d1 + S.du)) := hideP (by rw [HD2.out, if_pos rfl])
      go_wp2_with fail
      go_meet
      case rel => exact ⟨by rw [HE.out], OY⟩
     | false =>
      have HE : Hid (d2 = d1) := hideP (by rw [HD2.out, if_neg (by decide)])
      go_wp2_with fail
      go_meet
      case rel => exact ⟨by rw [HE.out], OY⟩
    case rest =>
     obtain ⟨rfl, OZ⟩ := hcut
     obtain ⟨we, rfl⟩ : ∃ we, we = wc := ⟨_, rfl⟩
     clear v4 v6 v7 OY
     obtain ⟨-, ⟨-, -, x4, -⟩, ⟨-, f1⟩, -⟩ := CK.out we OZ.out
     go_upto_region 9 with fail
     go_cut [11, 98] (fun s11 s98 wx => s11 = .int .i64 d2 ∧ s98 = .bool (decide (1 < wrap64 (cl - cw) ∨ 1 < wrap64 (cw - cl))) ∧ Hid (OldW wa wx))
     case first =>
      clear HD2 HD1 HD0 CK HHH
      by_cases k1 : 1 < wrap64 (cl - cw)
      ·have k1' : wrap64 (cl - cw) > 1 := k1
       have HE : Hid (decide (1 < wrap64 (cl - cw) ∨ 1 < wrap64 (cw - cl)) = true) := hideP (by simp [k1])
       go_region
       go_wp2_with fail
       go_meet
       case rel => exact ⟨rfl, by rw [HE.out], OZ⟩
      ·have k1' : ¬ wrap64 (cl - cw) > 1 := k1
       by_cases k2 : 1 < wrap64 (cw - cl)
       ·have k2' : wrap64 (cw - cl) > 1 := k2
        have HE : Hid (decide (1 < wrap64 (cl - cw) ∨ 1 < wrap64 (cw - cl)) = true) := hideP (by simp [k2])
        go_region
        go_wp2_with fail
        go_meet
        case rel => exact ⟨rfl, by rw [HE.out], OZ⟩
       ·have k2' : ¬ wrap64 (cw - cl) > 1 := k2
        have HE : Hid (decide (1 < wrap64 (cl - cw) ∨ 1 < wrap64 (cw - cl)) = false) := hideP (by simp [k1, k2])
        go_region
        go_wp2_with fail
        go_meet
        case rel => exact ⟨rfl, by rw [HE.out], OZ⟩
     case rest =>
      obtain ⟨rfl, rfl, OU⟩ := hcut
      obtain ⟨wf, rfl⟩ : ∃ wf, wf = wc := ⟨_, rfl⟩
      obtain ⟨ee, hee⟩ : ∃ ee, ee = decide (1 < wrap64 (cl - cw) ∨ 1 < wrap64 (cw - cl)) := ⟨_, rfl⟩
      obtain ⟨d3, hd3⟩ : ∃ d, d = (if ee = true then wrap64 (d2 + S.ad) else d2) := ⟨_, rfl⟩
      have HEE := hideP hee
      have HD3 := hideP hd3
      rw [← hee]
      clear x4 f1 OZ hee hd3
      obtain ⟨⟨v4, v6, v7⟩, -⟩ := CK.out wf OU.out
      go_upto_if 98 with fail
      go_cut [11] (fun s11 wx => s11 = .int .i64 d3 ∧ Hid (OldW wa wx))
      case first =>
       cases ee with
       | true =>
        have HE : Hid (d3 = wrap64 (d2 + S.ad)) := hideP (by rw [HD3.out, if_pos rfl])
        go_wp2_with fail
        go_meet
        case rel => exact ⟨by rw [HE.out], OU⟩
       | false =>
        have HE : Hid (d3 = d2) := hideP (by rw [HD3.out, if_neg (by decide)])
        go_wp2_with fail
        go_meet
        case rel => exact ⟨by rw [HE.out], OU⟩
      case rest =>
       obtain ⟨rfl, OV⟩ := hcut
       obtain ⟨wg, rfl⟩ : ∃ wg, wg = wc := ⟨_, rfl⟩
       have HD : Hid (d3 = DD) := hideP (by
        rw [HDD.out, HD3.out, HEE.out, HD2.out, HHH.out, HD1.out, HD0.out]
        unfold demI
        simp only [decide_eq_true_eq])
       have hd := HD.out
       subst hd
       obtain ⟨-, ⟨x2, x3, x4, x5⟩, ⟨-, f1⟩, -, -, h8, hO⟩ := CK.out wg OV.out
       have H8 := hideP h8
       have q0 := cell_of_row wg (w.heap.size + 1) 0 _ 77 _ h8
       have q1 := cell_of_row wg (w.heap.size + 1) 1 _ 77 _ h8
       have q2 := cell_of_row wg (w.heap.size + 1) 2 _ 77 _ h8
       have q3 := cell_of_row wg (w.heap.size + 1) 3 _ 77 _ h8
       have q4 := cell_of_row wg (w.heap.size + 1) 4 _ 77 _ h8
       have q5 := cell_of_row wg (w.heap.size + 1) 5 _ 77 _ h8
       have fz : ∀ j, wg.frozen? ⟨w.heap.size + 1, j, none⟩ = false := fun j => frozen_of_row wg _ j _ 77 h8
       have HO := hideP hO
       clear v4 v6 v7 OU h8 hO HD HDD HD3 HEE HD2 HHH HD1 HD0 CK hp O1 hii hji
       go_upto_region 11 with fail
       go_region
       go_wp2_with fail
       rw [mxZ_max]
       obtain ⟨X, hX⟩ : ∃ X, X = (((((wg.setCell ⟨w.heap.size + 1, 0, none⟩ (.int .i64 (j : Int))).setCell ⟨w.heap.size + 1, 1, none⟩ (.pointer (some ⟨WB, 0, none⟩))).setCell ⟨w.heap.size + 1, 2, none⟩ (.int .i64 (wrap64 (ln + 1)))).setCell ⟨w.heap.size + 1, 3, none⟩ (.int .i64 (mxZ (wrap64 (hg - 1))))).setCell ⟨w.heap.size + 1, 4, none⟩ (.int .i64 cl)).setCell ⟨w.heap.size + 1, 5, none⟩ (.int .i64 (wrap64 (dm + d3))) := ⟨_, rfl⟩
       have RX : Hid (X.heap[w.heap.size + 1]? = some (wayO (j : Int) (some ⟨WB, 0, none⟩) (wrap64 (ln + 1)) (mxZ (wrap64 (hg - 1))) cl (wrap64 (dm + d3)))) := hideP (by rw [hX]; exact heap_setCell_same _ _ 5 _ 77 _ (heap_setCell_same _ _ 4 _ 77 _ (heap_setCell_same _ _ 3 _ 77 _ (heap_setCell_same _ _ 2 _ 77 _ (heap_setCell_same _ _ 1 _ 77 _ (heap_setCell_same _ _ 0 _ 77 _ H8.out))))))
       have OX : Hid (OldW w X) := hideP (by rw [hX]; exact (((((HO.out.set (Nat.le_succ _) 0 _).set (Nat.le_succ _) 1 _).set (Nat.le_succ _) 2 _).set (Nat.le_succ _) 3 _).set (Nat.le_succ _) 4 _).set (Nat.le_succ _) 5 _)
       rw [← hX]
       clear hX
       exact bodyPost_ret (v := wayV (j : Int) (some ⟨WB, 0, none⟩) (wrap64 (ln + 1)) (mxZ (wrap64 (hg - 1))) cl (wrap64 (dm + d3))) (results_cell_row rfl _ _ (w.heap.size + 1) 77 _ (0, 0) _ rfl (show X.drew.heap[w.heap.size + 1]? = _ from RX.out) Tryz.underlying77 rfl (by kernel_rfl)) rfl ⟨rfl, (OX.out.drew).toB⟩
end Go.Proofs.YtlohbaoigfaneaaGreat
