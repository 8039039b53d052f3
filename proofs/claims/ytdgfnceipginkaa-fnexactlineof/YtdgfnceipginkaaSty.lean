/-
  Styles: what one is, and the copy of one.
-/
import Derived.Test.YtdgfnceipginkaaSbg
import Derived.Test.YtdgfnceipginkaaTrn
import Derived.Test.YtdgfnceipginkaaCol
import Derived.Test.YtdgfnceipginkaaRow
namespace Go.Proofs.Ytdgfnceipginkaa
open Go.RowKit
set_option linter.unusedVariables false
set_option linter.unusedSimpArgs false

set_option maxRecDepth 20000 in
set_option maxHeartbeats 8000000 in
theorem l9Is_any {w : World} {v : Value} {ys : List It} {N lo : Nat} (a : Nat) (h : Heads lo w v ys) (hl : ys.length = N) (ha : a < N) (hN : N ≤ 20001) :
    Calls Try.prog 27 #[v, .int .i64 (a : Int)] w fun e w' => e = .returned (.bool (trnB ys a)) ∧ Below w.heap.size w w' := by
  obtain ⟨ao, cap, rfl, hc⟩ := h.is
  rw [hl] at hc ⊢
  have hai : (a : Int) < (N : Int) := by omega
  obtain ⟨b, off, rfl, _, hbl, hcell⟩ := hc (by omega)
  obtain ⟨u, rest, hu, hrow⟩ := hcell a (by omega)
  obtain ⟨x, hx⟩ : ∃ x, x = (ys.getD a It.none).1 := ⟨_, rfl⟩
  rw [← hx] at hrow
  have HX := hideP hx
  obtain ⟨b2, off2, n2, cap2, rfl, hn2, hb2, hcs⟩ := head_cells hrow
  obtain ⟨R, hR⟩ : ∃ R, R = trnB ys a := ⟨_, rfl⟩
  rw [← hR]
  unfold trnB brkB at hR
  rw [← hx] at hR
  have HR := hideP hR
  have hn2i : (0 : Int) < (n2 : Int) := by omega
  obtain ⟨k, wd, ht, dp, sh, fo, ch, nn, gs, gp, gpo, gm, gmo, tx, kids⟩ := x
  simp only [Nd.cells] at hcs
  have n100 : w.cell? ⟨b2, off2, none⟩ = some (.int .i64 k) := hcs 0 (by omega)
  have n101 : w.cell? ⟨b2, off2 + 1, none⟩ = some (.int .i64 wd) := hcs 1 (by omega)
  have n102 : w.cell? ⟨b2, off2 + 2, none⟩ = some (.int .i64 ht) := hcs 2 (by omega)
  have n103 : w.cell? ⟨b2, off2 + 3, none⟩ = some (.int .i64 dp) := hcs 3 (by omega)
  have n104 : w.cell? ⟨b2, off2 + 4, none⟩ = some (.int .i64 sh) := hcs 4 (by omega)
  have n105 : w.cell? ⟨b2, off2 + 5, none⟩ = some (.int .i64 fo) := hcs 5 (by omega)
  have n106 : w.cell? ⟨b2, off2 + 6, none⟩ = some (.int .i64 ch) := hcs 6 (by omega)
  have n107 : w.cell? ⟨b2, off2 + 7, none⟩ = some (.int .i64 nn) := hcs 7 (by omega)
  have n108 : w.cell? ⟨b2, off2 + 8, none⟩ = some (.int .i64 gs) := hcs 8 (by omega)
  have n109 : w.cell? ⟨b2, off2 + 9, none⟩ = some (.int .i64 gp) := hcs 9 (by omega)
  have n110 : w.cell? ⟨b2, off2 + 10, none⟩ = some (.int .i64 gpo) := hcs 10 (by omega)
  have n111 : w.cell? ⟨b2, off2 + 11, none⟩ = some (.int .i64 gm) := hcs 11 (by omega)
  have n112 : w.cell? ⟨b2, off2 + 12, none⟩ = some (.int .i64 gmo) := hcs 12 (by omega)
  have n113 : w.cell? ⟨b2, off2 + 13, none⟩ = some (.string tx) := hcs 13 (by omega)
  have n114 : w.cell? ⟨b2, off2 + 14, none⟩ = some (.int .i64 kids) := hcs 14 (by omega)
  simp only at HR
  clear hcs hR hx
  by_cases h3 : k = 3
  · subst h3
    by_cases h0 : a = 0
    · have HE : Hid (R = false) := hideP (by rw [HR.out, if_pos rfl, decide_eq_false (by omega)]; rfl)
      rw [HE.out]
      have hnp : ¬ (0 : Int) < (a : Int) := by omega
      clear hcell hc HE HR h0
      go_enter Try.func27, Try.ntmps27
      go_wp2
      go_ret
      first | exact ⟨rfl, below1 _ _⟩ | exact ⟨rfl, Below.refl _ _⟩ | exact ⟨rfl, below2 _ _ _⟩
    · have hap : (0 : Int) < (a : Int) := by omega
      obtain ⟨d, hd⟩ : ∃ d, d = a - 1 := ⟨_, rfl⟩
      obtain ⟨u3, rest3, hu3, hrow3⟩ := hcell d (by omega)
      obtain ⟨y, hy⟩ : ∃ y, y = (ys.getD d It.none).1 := ⟨_, rfl⟩
      rw [← hy] at hrow3
      obtain ⟨b3, off3, n3, cap3, rfl, hn3, hb3, hcs3⟩ := head_cells hrow3
      have HE : Hid (R = !discB y) := hideP (by rw [HR.out, if_pos rfl, decide_eq_true (by omega), ← hd, ← hy]; rfl)
      have DC : Hid (∀ W, Calls Try.prog 29 #[ndV y] W fun e w' => e = .returned (.bool (discB y)) ∧ Below W.heap.size W w') := hideP (fun W => specDisc_any y W)
      obtain ⟨dy, hdy⟩ : ∃ v, v = discB y := ⟨_, rfl⟩
      rw [← hdy] at DC HE
      rw [HE.out]
      clear hdy hy
      obtain ⟨k2, wd2, ht2, dp2, sh2, fo2, ch2, nn2, gs2, gp2, gpo2, gm2, gmo2, tx2, kids2⟩ := y
      simp only [Nd.cells] at hcs3
      simp only [ndV] at DC
      have m100 : w.cell? ⟨b3, off3, none⟩ = some (.int .i64 k2) := hcs3 0 (by omega)
      have m101 : w.cell? ⟨b3, off3 + 1, none⟩ = some (.int .i64 wd2) := hcs3 1 (by omega)
      have m102 : w.cell? ⟨b3, off3 + 2, none⟩ = some (.int .i64 ht2) := hcs3 2 (by omega)
      have m103 : w.cell? ⟨b3, off3 + 3, none⟩ = some (.int .i64 dp2) := hcs3 3 (by omega)
      have m104 : w.cell? ⟨b3, off3 + 4, none⟩ = some (.int .i64 sh2) := hcs3 4 (by omega)
      have m105 : w.cell? ⟨b3, off3 + 5, none⟩ = some (.int .i64 fo2) := hcs3 5 (by omega)
      have m106 : w.cell? ⟨b3, off3 + 6, none⟩ = some (.int .i64 ch2) := hcs3 6 (by omega)
      have m107 : w.cell? ⟨b3, off3 + 7, none⟩ = some (.int .i64 nn2) := hcs3 7 (by omega)
      have m108 : w.cell? ⟨b3, off3 + 8, none⟩ = some (.int .i64 gs2) := hcs3 8 (by omega)
      have m109 : w.cell? ⟨b3, off3 + 9, none⟩ = some (.int .i64 gp2) := hcs3 9 (by omega)
      have m110 : w.cell? ⟨b3, off3 + 10, none⟩ = some (.int .i64 gpo2) := hcs3 10 (by omega)
      have m111 : w.cell? ⟨b3, off3 + 11, none⟩ = some (.int .i64 gm2) := hcs3 11 (by omega)
      have m112 : w.cell? ⟨b3, off3 + 12, none⟩ = some (.int .i64 gmo2) := hcs3 12 (by omega)
      have m113 : w.cell? ⟨b3, off3 + 13, none⟩ = some (.string tx2) := hcs3 13 (by omega)
      have m114 : w.cell? ⟨b3, off3 + 14, none⟩ = some (.int .i64 kids2) := hcs3 14 (by omega)
      have hdn : (d : Int) < (N : Int) := by omega
      have hwd : IntKind.i64.wrap ((a : Int) - 1) = (d : Int) := by rw [IntKind.wrap_i64]; omega
      have hdi : ((a : Int) - 1) = (d : Int) := by omega
      have hn3i : (0 : Int) < (n3 : Int) := by omega
      clear hcs3 hcell hc HR hd h0
      go_enter Try.func27, Try.ntmps27
      go_wp2_with fail
      refine (DC.out _).mono ?_
      rintro e w7 ⟨rfl, hb7⟩
      have B7 : Hid (Below w.heap.size w w7) := hideP (by first | exact below_more (below1 _ _) hb7 (by simp) | exact hb7)
      clear hb7
      go_wp2
      go_ret
      exact ⟨rfl, B7.out⟩
  · have HE : Hid (R = (k == 8 || if k = 4 then decide (nn < 10000) else false)) := hideP (by rw [HR.out, if_neg h3])
    have b3 : (k == 3) = false := by simp [h3]
    by_cases h4 : k = 4
    · subst h4
      have HE2 : Hid (R = decide (nn < 10000)) := hideP (by rw [HE.out, if_pos rfl]; rfl)
      rw [HE2.out]
      clear HE HE2 HR hcell hc
      go_enter Try.func27, Try.ntmps27
      go_wp2
      go_ret
      first | exact ⟨rfl, below1 _ _⟩ | exact ⟨rfl, Below.refl _ _⟩
    · have HE2 : Hid (R = (k == 8)) := hideP (by rw [HE.out, if_neg h4, Bool.or_false])
      have b4 : (k == 4) = false := by simp [h4]
      by_cases h8 : k = 8
      · subst h8
        rw [HE2.out]
        clear HE HE2 HR hcell hc
        go_enter Try.func27, Try.ntmps27
        go_wp2
        go_ret
        first | exact ⟨rfl, below1 _ _⟩ | exact ⟨rfl, Below.refl _ _⟩
      · have b8 : (k == 8) = false := by simp [h8]
        rw [HE2.out, b8]
        clear HE HE2 HR hcell hc
        go_enter Try.func27, Try.ntmps27
        go_wp2
        go_ret
        first | exact ⟨rfl, below1 _ _⟩ | exact ⟨rfl, Below.refl _ _⟩

/-- A style. -/
structure Sy where
  wd : Int
  nw : Int
  hg : Int
  tl : Int
  ln : Int
  hy : Int
  du : Int
  ad : Int
  l0 : Int
  l1 : Int
  l2 : Int
  l3 : Int
  l4 : Int
  r0 : Int
  r1 : Int
  r2 : Int
  r3 : Int
  r4 : Int
  f0 : Int
  f1 : Int
  f2 : Int
  f3 : Int
  f4 : Int

abbrev syV (x : Sy) : Value := .agg #[.int .i64 x.wd, .int .i64 x.nw, .int .i64 x.hg, .int .i64 x.tl, .int .i64 x.ln, .int .i64 x.hy, .int .i64 x.du, .int .i64 x.ad, .int .i64 x.l0, .int .i64 x.l1, .int .i64 x.l2, .int .i64 x.l3, .int .i64 x.l4, .int .i64 x.r0, .int .i64 x.r1, .int .i64 x.r2, .int .i64 x.r3, .int .i64 x.r4, .int .i64 x.f0, .int .i64 x.f1, .int .i64 x.f2, .int .i64 x.f3, .int .i64 x.f4]
def syB (x : Sy) : Bool := (uptoB x.wd 1073741823 && uptoB x.nw 1073741823 && uptoB x.hg 4) && (uptoB x.tl 10000 && uptoB x.ln 10000 && uptoB x.hy 10000) && (uptoB x.du 1000000 && uptoB x.ad 1000000) && glB x.l0 x.l1 x.l2 x.l3 x.l4 && glB x.r0 x.r1 x.r2 x.r3 x.r4 && glB x.f0 x.f1 x.f2 x.f3 x.f4
theorem up_less {x m k : Int} (h : uptoB x k = false) (hm : m ≤ k) : uptoB x m = false := by simp [uptoB] at h ⊢; omega

theorem heap_set5 (w : World) (B k : Nat) (hk : k ≠ B) (o1 o2 o3 o4 o5 : Nat) (v1 v2 v3 v4 v5 : Value) : (((((w.setCell ⟨B, o1, none⟩ v1).setCell ⟨B, o2, none⟩ v2).setCell ⟨B, o3, none⟩ v3).setCell ⟨B, o4, none⟩ v4).setCell ⟨B, o5, none⟩ v5).heap[k]? = w.heap[k]? := by
  rw [Below.heap_setCell _ _ _ _ hk, Below.heap_setCell _ _ _ _ hk, Below.heap_setCell _ _ _ _ hk, Below.heap_setCell _ _ _ _ hk, Below.heap_setCell _ _ _ _ hk]
theorem styInfo : (Try.prog.info? 33).map (·.size) = some 23 := by kernel_rfl

set_option maxHeartbeats 8000000 in
theorem toStyle_any (x : Sy) (w : World) : Calls Try.prog 7 #[syV x] w fun r w' => r = .returned (syV x) ∧ Below w.heap.size w w' := by
  obtain ⟨wd, nw, hg, tl, ln, hy, du, ad, l0, l1, l2, l3, l4, r0, r1, r2, r3, r4, f0, f1, f2, f3, f4⟩ := x
  simp only [syV]
  go_enter Try.func7, Try.ntmps7
  go_wp2_with fail
  refine (toGlue_any _ _ _ _ _ _).mono ?_
  rintro e w1 ⟨rfl, hb1⟩
  have hs1 : w.heap.size + 1 + 1 < w1.heap.size := by have := hb1.size; simp at this; omega
  have hy1 : w.heap.size + 1 < w1.heap.size := by omega
  have hx1 : w.heap.size < w1.heap.size := by omega
  have B1 : Hid (Below w.heap.size w w1) := by
    refine below_more ?_ hb1 (by simp; omega)
    repeat (first | with_reducible exact below3 _ _ _ _ | (with_reducible refine Below.setCell ?_ ?_ _; rotate_left; focus (first | (simp; done) | (simp; omega))))
  have qa1 : w1.heap[w.heap.size]? = some (.cells #[.int .i64 wd, .int .i64 nw, .int .i64 hg, .int .i64 tl, .int .i64 ln, .int .i64 hy, .int .i64 du, .int .i64 ad, .int .i64 l0, .int .i64 l1, .int .i64 l2, .int .i64 l3, .int .i64 l4, .int .i64 r0, .int .i64 r1, .int .i64 r2, .int .i64 r3, .int .i64 r4, .int .i64 f0, .int .i64 f1, .int .i64 f2, .int .i64 f3, .int .i64 f4] 26 (0, 0)) := (hb1.block _ (by simp; omega)).trans (((below2 _ _ _).block _ (by simp)).trans (heap_alloc_new _ _))
  have qp1 : w1.heap[w.heap.size + 1]? = some (.cells #[.int .i64 0, .int .i64 0, .int .i64 0, .int .i64 0, .int .i64 0, .int .i64 0, .int .i64 0, .int .i64 0, .int .i64 0, .int .i64 0, .int .i64 0, .int .i64 0, .int .i64 0, .int .i64 0, .int .i64 0, .int .i64 0, .int .i64 0, .int .i64 0, .int .i64 0, .int .i64 0, .int .i64 0, .int .i64 0, .int .i64 0] 33 (0, 0)) := (hb1.block _ (by simp)).trans (((below1 _ _).block _ (by simp)).trans (by have h := heap_alloc_new (w.alloc (.cells #[.int .i64 wd, .int .i64 nw, .int .i64 hg, .int .i64 tl, .int .i64 ln, .int .i64 hy, .int .i64 du, .int .i64 ad, .int .i64 l0, .int .i64 l1, .int .i64 l2, .int .i64 l3, .int .i64 l4, .int .i64 r0, .int .i64 r1, .int .i64 r2, .int .i64 r3, .int .i64 r4, .int .i64 f0, .int .i64 f1, .int .i64 f2, .int .i64 f3, .int .i64 f4] 26)) (.cells #[.int .i64 0, .int .i64 0, .int .i64 0, .int .i64 0, .int .i64 0, .int .i64 0, .int .i64 0, .int .i64 0, .int .i64 0, .int .i64 0, .int .i64 0, .int .i64 0, .int .i64 0, .int .i64 0, .int .i64 0, .int .i64 0, .int .i64 0, .int .i64 0, .int .i64 0, .int .i64 0, .int .i64 0, .int .i64 0, .int .i64 0] 33); rw [World.size_alloc] at h; exact h))
  have qo1 : w1.heap[w.heap.size + 1 + 1]? = some (.cells #[.int .i64 wd, .int .i64 nw, .int .i64 hg, .int .i64 tl, .int .i64 ln, .int .i64 hy, .int .i64 du, .int .i64 ad, .int .i64 0, .int .i64 0, .int .i64 0, .int .i64 0, .int .i64 0, .int .i64 0, .int .i64 0, .int .i64 0, .int .i64 0, .int .i64 0, .int .i64 0, .int .i64 0, .int .i64 0, .int .i64 0, .int .i64 0] 33 (0, 0)) := (hb1.block _ (by simp)).trans (by have h := heap_alloc_new ((w.alloc (.cells #[.int .i64 wd, .int .i64 nw, .int .i64 hg, .int .i64 tl, .int .i64 ln, .int .i64 hy, .int .i64 du, .int .i64 ad, .int .i64 l0, .int .i64 l1, .int .i64 l2, .int .i64 l3, .int .i64 l4, .int .i64 r0, .int .i64 r1, .int .i64 r2, .int .i64 r3, .int .i64 r4, .int .i64 f0, .int .i64 f1, .int .i64 f2, .int .i64 f3, .int .i64 f4] 26)).alloc (.cells #[.int .i64 0, .int .i64 0, .int .i64 0, .int .i64 0, .int .i64 0, .int .i64 0, .int .i64 0, .int .i64 0, .int .i64 0, .int .i64 0, .int .i64 0, .int .i64 0, .int .i64 0, .int .i64 0, .int .i64 0, .int .i64 0, .int .i64 0, .int .i64 0, .int .i64 0, .int .i64 0, .int .i64 0, .int .i64 0, .int .i64 0] 33)) (.cells #[.int .i64 wd, .int .i64 nw, .int .i64 hg, .int .i64 tl, .int .i64 ln, .int .i64 hy, .int .i64 du, .int .i64 ad, .int .i64 0, .int .i64 0, .int .i64 0, .int .i64 0, .int .i64 0, .int .i64 0, .int .i64 0, .int .i64 0, .int .i64 0, .int .i64 0, .int .i64 0, .int .i64 0, .int .i64 0, .int .i64 0, .int .i64 0] 33); rw [World.size_alloc, World.size_alloc] at h; exact h)
  have QO1 : Hid ((((((w1.setCell ⟨w.heap.size + 1 + 1, 8, none⟩ (.int .i64 l0)).setCell ⟨w.heap.size + 1 + 1, 9, none⟩ (.int .i64 l1)).setCell ⟨w.heap.size + 1 + 1, 10, none⟩ (.int .i64 l2)).setCell ⟨w.heap.size + 1 + 1, 11, none⟩ (.int .i64 l3)).setCell ⟨w.heap.size + 1 + 1, 12, none⟩ (.int .i64 l4)).heap[w.heap.size + 1 + 1]? = some (.cells #[.int .i64 wd, .int .i64 nw, .int .i64 hg, .int .i64 tl, .int .i64 ln, .int .i64 hy, .int .i64 du, .int .i64 ad, .int .i64 l0, .int .i64 l1, .int .i64 l2, .int .i64 l3, .int .i64 l4, .int .i64 0, .int .i64 0, .int .i64 0, .int .i64 0, .int .i64 0, .int .i64 0, .int .i64 0, .int .i64 0, .int .i64 0, .int .i64 0] 33 (0, 0))) := by
    have e0 := qo1
    have e1 := heap_setCell_same w1 (w.heap.size + 1 + 1) 8 _ 33 (.int .i64 l0) e0
    have e2 := heap_setCell_same _ (w.heap.size + 1 + 1) 9 _ 33 (.int .i64 l1) e1
    have e3 := heap_setCell_same _ (w.heap.size + 1 + 1) 10 _ 33 (.int .i64 l2) e2
    have e4 := heap_setCell_same _ (w.heap.size + 1 + 1) 11 _ 33 (.int .i64 l3) e3
    have e5 := heap_setCell_same _ (w.heap.size + 1 + 1) 12 _ 33 (.int .i64 l4) e4
    exact e5.trans (by rfl)
  have a1_13 : w1.cell? ⟨w.heap.size, 13, none⟩ = some (.int .i64 r0) := by rw [cell_of_row _ _ _ _ 26 _ qa1]; rfl
  have a1_14 : w1.cell? ⟨w.heap.size, 14, none⟩ = some (.int .i64 r1) := by rw [cell_of_row _ _ _ _ 26 _ qa1]; rfl
  have a1_15 : w1.cell? ⟨w.heap.size, 15, none⟩ = some (.int .i64 r2) := by rw [cell_of_row _ _ _ _ 26 _ qa1]; rfl
  have a1_16 : w1.cell? ⟨w.heap.size, 16, none⟩ = some (.int .i64 r3) := by rw [cell_of_row _ _ _ _ 26 _ qa1]; rfl
  have a1_17 : w1.cell? ⟨w.heap.size, 17, none⟩ = some (.int .i64 r4) := by rw [cell_of_row _ _ _ _ 26 _ qa1]; rfl
  have o1_8 : w1.cell? ⟨w.heap.size + 1 + 1, 8, none⟩ = some (.int .i64 0) := by rw [cell_of_row _ _ _ _ 33 _ qo1]; rfl
  have o1_9 : w1.cell? ⟨w.heap.size + 1 + 1, 9, none⟩ = some (.int .i64 0) := by rw [cell_of_row _ _ _ _ 33 _ qo1]; rfl
  have o1_10 : w1.cell? ⟨w.heap.size + 1 + 1, 10, none⟩ = some (.int .i64 0) := by rw [cell_of_row _ _ _ _ 33 _ qo1]; rfl
  have o1_11 : w1.cell? ⟨w.heap.size + 1 + 1, 11, none⟩ = some (.int .i64 0) := by rw [cell_of_row _ _ _ _ 33 _ qo1]; rfl
  have o1_12 : w1.cell? ⟨w.heap.size + 1 + 1, 12, none⟩ = some (.int .i64 0) := by rw [cell_of_row _ _ _ _ 33 _ qo1]; rfl
  have ff1 : ∀ q, w1.frozen? ⟨w.heap.size + 1 + 1, q, none⟩ = false := fun q => frozen_of_row _ _ q _ 33 qo1
  clear hb1 qo1
  have HQA1 := hideP qa1
  have HQP1 := hideP qp1
  go_wp2_with fail
  refine (toGlue_any _ _ _ _ _ _).mono ?_
  rintro e w2 ⟨rfl, hb2⟩
  have hs2 : w.heap.size + 1 + 1 < w2.heap.size := by have := hb2.size; simp at this; omega
  have hy2 : w.heap.size + 1 < w2.heap.size := by omega
  have hx2 : w.heap.size < w2.heap.size := by omega
  have B2 : Hid (Below w.heap.size w w2) := by
    refine below_more ?_ hb2 (by simp; omega)
    repeat (first | with_reducible exact B1.out | (with_reducible refine Below.setCell ?_ ?_ _; rotate_left; focus (first | (simp; done) | (simp; omega))))
  have qa2 : w2.heap[w.heap.size]? = some (.cells #[.int .i64 wd, .int .i64 nw, .int .i64 hg, .int .i64 tl, .int .i64 ln, .int .i64 hy, .int .i64 du, .int .i64 ad, .int .i64 l0, .int .i64 l1, .int .i64 l2, .int .i64 l3, .int .i64 l4, .int .i64 r0, .int .i64 r1, .int .i64 r2, .int .i64 r3, .int .i64 r4, .int .i64 f0, .int .i64 f1, .int .i64 f2, .int .i64 f3, .int .i64 f4] 26 (0, 0)) := (hb2.block _ (by simp; omega)).trans ((heap_set5 _ _ _ (by omega) _ _ _ _ _ _ _ _ _ _).trans qa1)
  have qp2 : w2.heap[w.heap.size + 1]? = some (.cells #[.int .i64 0, .int .i64 0, .int .i64 0, .int .i64 0, .int .i64 0, .int .i64 0, .int .i64 0, .int .i64 0, .int .i64 0, .int .i64 0, .int .i64 0, .int .i64 0, .int .i64 0, .int .i64 0, .int .i64 0, .int .i64 0, .int .i64 0, .int .i64 0, .int .i64 0, .int .i64 0, .int .i64 0, .int .i64 0, .int .i64 0] 33 (0, 0)) := (hb2.block _ (by simp; omega)).trans ((heap_set5 _ _ _ (by omega) _ _ _ _ _ _ _ _ _ _).trans qp1)
  have qo2 : w2.heap[w.heap.size + 1 + 1]? = some (.cells #[.int .i64 wd, .int .i64 nw, .int .i64 hg, .int .i64 tl, .int .i64 ln, .int .i64 hy, .int .i64 du, .int .i64 ad, .int .i64 l0, .int .i64 l1, .int .i64 l2, .int .i64 l3, .int .i64 l4, .int .i64 0, .int .i64 0, .int .i64 0, .int .i64 0, .int .i64 0, .int .i64 0, .int .i64 0, .int .i64 0, .int .i64 0, .int .i64 0] 33 (0, 0)) := (hb2.block _ (by simp; omega)).trans QO1.out
  have QO2 : Hid ((((((w2.setCell ⟨w.heap.size + 1 + 1, 13, none⟩ (.int .i64 r0)).setCell ⟨w.heap.size + 1 + 1, 14, none⟩ (.int .i64 r1)).setCell ⟨w.heap.size + 1 + 1, 15, none⟩ (.int .i64 r2)).setCell ⟨w.heap.size + 1 + 1, 16, none⟩ (.int .i64 r3)).setCell ⟨w.heap.size + 1 + 1, 17, none⟩ (.int .i64 r4)).heap[w.heap.size + 1 + 1]? = some (.cells #[.int .i64 wd, .int .i64 nw, .int .i64 hg, .int .i64 tl, .int .i64 ln, .int .i64 hy, .int .i64 du, .int .i64 ad, .int .i64 l0, .int .i64 l1, .int .i64 l2, .int .i64 l3, .int .i64 l4, .int .i64 r0, .int .i64 r1, .int .i64 r2, .int .i64 r3, .int .i64 r4, .int .i64 0, .int .i64 0, .int .i64 0, .int .i64 0, .int .i64 0] 33 (0, 0))) := by
    have e0 := qo2
    have e1 := heap_setCell_same w2 (w.heap.size + 1 + 1) 13 _ 33 (.int .i64 r0) e0
    have e2 := heap_setCell_same _ (w.heap.size + 1 + 1) 14 _ 33 (.int .i64 r1) e1
    have e3 := heap_setCell_same _ (w.heap.size + 1 + 1) 15 _ 33 (.int .i64 r2) e2
    have e4 := heap_setCell_same _ (w.heap.size + 1 + 1) 16 _ 33 (.int .i64 r3) e3
    have e5 := heap_setCell_same _ (w.heap.size + 1 + 1) 17 _ 33 (.int .i64 r4) e4
    exact e5.trans (by rfl)
  have a2_18 : w2.cell? ⟨w.heap.size, 18, none⟩ = some (.int .i64 f0) := by rw [cell_of_row _ _ _ _ 26 _ qa2]; rfl
  have a2_19 : w2.cell? ⟨w.heap.size, 19, none⟩ = some (.int .i64 f1) := by rw [cell_of_row _ _ _ _ 26 _ qa2]; rfl
  have a2_20 : w2.cell? ⟨w.heap.size, 20, none⟩ = some (.int .i64 f2) := by rw [cell_of_row _ _ _ _ 26 _ qa2]; rfl
  have a2_21 : w2.cell? ⟨w.heap.size, 21, none⟩ = some (.int .i64 f3) := by rw [cell_of_row _ _ _ _ 26 _ qa2]; rfl
  have a2_22 : w2.cell? ⟨w.heap.size, 22, none⟩ = some (.int .i64 f4) := by rw [cell_of_row _ _ _ _ 26 _ qa2]; rfl
  have o2_13 : w2.cell? ⟨w.heap.size + 1 + 1, 13, none⟩ = some (.int .i64 0) := by rw [cell_of_row _ _ _ _ 33 _ qo2]; rfl
  have o2_14 : w2.cell? ⟨w.heap.size + 1 + 1, 14, none⟩ = some (.int .i64 0) := by rw [cell_of_row _ _ _ _ 33 _ qo2]; rfl
  have o2_15 : w2.cell? ⟨w.heap.size + 1 + 1, 15, none⟩ = some (.int .i64 0) := by rw [cell_of_row _ _ _ _ 33 _ qo2]; rfl
  have o2_16 : w2.cell? ⟨w.heap.size + 1 + 1, 16, none⟩ = some (.int .i64 0) := by rw [cell_of_row _ _ _ _ 33 _ qo2]; rfl
  have o2_17 : w2.cell? ⟨w.heap.size + 1 + 1, 17, none⟩ = some (.int .i64 0) := by rw [cell_of_row _ _ _ _ 33 _ qo2]; rfl
  have ff2 : ∀ q, w2.frozen? ⟨w.heap.size + 1 + 1, q, none⟩ = false := fun q => frozen_of_row _ _ q _ 33 qo2
  clear hb2 qo2
  clear qa1 qp1 ff1 o1_8 o1_9 o1_10 o1_11 o1_12 a1_13 a1_14 a1_15 a1_16 a1_17 hs1 hy1 hx1
  have HQA2 := hideP qa2
  have HQP2 := hideP qp2
  go_wp2_with fail
  refine (toGlue_any _ _ _ _ _ _).mono ?_
  rintro e w3 ⟨rfl, hb3⟩
  have hs3 : w.heap.size + 1 + 1 < w3.heap.size := by have := hb3.size; simp at this; omega
  have hy3 : w.heap.size + 1 < w3.heap.size := by omega
  have hx3 : w.heap.size < w3.heap.size := by omega
  have B3 : Hid (Below w.heap.size w w3) := by
    refine below_more ?_ hb3 (by simp; omega)
    repeat (first | with_reducible exact B2.out | (with_reducible refine Below.setCell ?_ ?_ _; rotate_left; focus (first | (simp; done) | (simp; omega))))
  have qa3 : w3.heap[w.heap.size]? = some (.cells #[.int .i64 wd, .int .i64 nw, .int .i64 hg, .int .i64 tl, .int .i64 ln, .int .i64 hy, .int .i64 du, .int .i64 ad, .int .i64 l0, .int .i64 l1, .int .i64 l2, .int .i64 l3, .int .i64 l4, .int .i64 r0, .int .i64 r1, .int .i64 r2, .int .i64 r3, .int .i64 r4, .int .i64 f0, .int .i64 f1, .int .i64 f2, .int .i64 f3, .int .i64 f4] 26 (0, 0)) := (hb3.block _ (by simp; omega)).trans ((heap_set5 _ _ _ (by omega) _ _ _ _ _ _ _ _ _ _).trans qa2)
  have qp3 : w3.heap[w.heap.size + 1]? = some (.cells #[.int .i64 0, .int .i64 0, .int .i64 0, .int .i64 0, .int .i64 0, .int .i64 0, .int .i64 0, .int .i64 0, .int .i64 0, .int .i64 0, .int .i64 0, .int .i64 0, .int .i64 0, .int .i64 0, .int .i64 0, .int .i64 0, .int .i64 0, .int .i64 0, .int .i64 0, .int .i64 0, .int .i64 0, .int .i64 0, .int .i64 0] 33 (0, 0)) := (hb3.block _ (by simp; omega)).trans ((heap_set5 _ _ _ (by omega) _ _ _ _ _ _ _ _ _ _).trans qp2)
  have qo3 : w3.heap[w.heap.size + 1 + 1]? = some (.cells #[.int .i64 wd, .int .i64 nw, .int .i64 hg, .int .i64 tl, .int .i64 ln, .int .i64 hy, .int .i64 du, .int .i64 ad, .int .i64 l0, .int .i64 l1, .int .i64 l2, .int .i64 l3, .int .i64 l4, .int .i64 r0, .int .i64 r1, .int .i64 r2, .int .i64 r3, .int .i64 r4, .int .i64 0, .int .i64 0, .int .i64 0, .int .i64 0, .int .i64 0] 33 (0, 0)) := (hb3.block _ (by simp; omega)).trans QO2.out
  have QO3 : Hid ((((((w3.setCell ⟨w.heap.size + 1 + 1, 18, none⟩ (.int .i64 f0)).setCell ⟨w.heap.size + 1 + 1, 19, none⟩ (.int .i64 f1)).setCell ⟨w.heap.size + 1 + 1, 20, none⟩ (.int .i64 f2)).setCell ⟨w.heap.size + 1 + 1, 21, none⟩ (.int .i64 f3)).setCell ⟨w.heap.size + 1 + 1, 22, none⟩ (.int .i64 f4)).heap[w.heap.size + 1 + 1]? = some (.cells #[.int .i64 wd, .int .i64 nw, .int .i64 hg, .int .i64 tl, .int .i64 ln, .int .i64 hy, .int .i64 du, .int .i64 ad, .int .i64 l0, .int .i64 l1, .int .i64 l2, .int .i64 l3, .int .i64 l4, .int .i64 r0, .int .i64 r1, .int .i64 r2, .int .i64 r3, .int .i64 r4, .int .i64 f0, .int .i64 f1, .int .i64 f2, .int .i64 f3, .int .i64 f4] 33 (0, 0))) := by
    have e0 := qo3
    have e1 := heap_setCell_same w3 (w.heap.size + 1 + 1) 18 _ 33 (.int .i64 f0) e0
    have e2 := heap_setCell_same _ (w.heap.size + 1 + 1) 19 _ 33 (.int .i64 f1) e1
    have e3 := heap_setCell_same _ (w.heap.size + 1 + 1) 20 _ 33 (.int .i64 f2) e2
    have e4 := heap_setCell_same _ (w.heap.size + 1 + 1) 21 _ 33 (.int .i64 f3) e3
    have e5 := heap_setCell_same _ (w.heap.size + 1 + 1) 22 _ 33 (.int .i64 f4) e4
    exact e5.trans (by rfl)
  have o3_18 : w3.cell? ⟨w.heap.size + 1 + 1, 18, none⟩ = some (.int .i64 0) := by rw [cell_of_row _ _ _ _ 33 _ qo3]; rfl
  have o3_19 : w3.cell? ⟨w.heap.size + 1 + 1, 19, none⟩ = some (.int .i64 0) := by rw [cell_of_row _ _ _ _ 33 _ qo3]; rfl
  have o3_20 : w3.cell? ⟨w.heap.size + 1 + 1, 20, none⟩ = some (.int .i64 0) := by rw [cell_of_row _ _ _ _ 33 _ qo3]; rfl
  have o3_21 : w3.cell? ⟨w.heap.size + 1 + 1, 21, none⟩ = some (.int .i64 0) := by rw [cell_of_row _ _ _ _ 33 _ qo3]; rfl
  have o3_22 : w3.cell? ⟨w.heap.size + 1 + 1, 22, none⟩ = some (.int .i64 0) := by rw [cell_of_row _ _ _ _ 33 _ qo3]; rfl
  have ff3 : ∀ q, w3.frozen? ⟨w.heap.size + 1 + 1, q, none⟩ = false := fun q => frozen_of_row _ _ q _ 33 qo3
  clear hb3 qo3
  clear qa2 qp2 ff2 o2_13 o2_14 o2_15 o2_16 o2_17 a2_18 a2_19 a2_20 a2_21 a2_22 hs2 hy2 hx2
  have HQA3 := hideP qa3
  have HQP3 := hideP qp3
  have QP : Hid ((((((w3.setCell ⟨w.heap.size + 1 + 1, 18, none⟩ (.int .i64 f0)).setCell ⟨w.heap.size + 1 + 1, 19, none⟩ (.int .i64 f1)).setCell ⟨w.heap.size + 1 + 1, 20, none⟩ (.int .i64 f2)).setCell ⟨w.heap.size + 1 + 1, 21, none⟩ (.int .i64 f3)).setCell ⟨w.heap.size + 1 + 1, 22, none⟩ (.int .i64 f4)).heap[w.heap.size + 1]? = some (.cells #[.int .i64 0, .int .i64 0, .int .i64 0, .int .i64 0, .int .i64 0, .int .i64 0, .int .i64 0, .int .i64 0, .int .i64 0, .int .i64 0, .int .i64 0, .int .i64 0, .int .i64 0, .int .i64 0, .int .i64 0, .int .i64 0, .int .i64 0, .int .i64 0, .int .i64 0, .int .i64 0, .int .i64 0, .int .i64 0, .int .i64 0] 33 (0, 0))) := hideP ((heap_set5 _ _ _ (by omega) _ _ _ _ _ _ _ _ _ _).trans qp3)
  clear qa3 qp3
  rename_i K1 h1 K2 h2
  have H1 := hideP h1
  clear h1
  go_wp2
  refine H1.out _ _ ?_
  clear H1
  refine wp_seq (wp_region_lit ?_)
  refine wpList_load_row rfl 33 _ rfl (w.heap.size + 1 + 1) rfl #[.int .i64 wd, .int .i64 nw, .int .i64 hg, .int .i64 tl, .int .i64 ln, .int .i64 hy, .int .i64 du, .int .i64 ad, .int .i64 l0, .int .i64 l1, .int .i64 l2, .int .i64 l3, .int .i64 l4, .int .i64 r0, .int .i64 r1, .int .i64 r2, .int .i64 r3, .int .i64 r4, .int .i64 f0, .int .i64 f1, .int .i64 f2, .int .i64 f3, .int .i64 f4] 33 (0, 0) QO3.out _ Try.underlying33 rfl styInfo ?_
  refine wpList_store_row rfl 33 _ _ rfl (w.heap.size + 1) rfl #[.int .i64 0, .int .i64 0, .int .i64 0, .int .i64 0, .int .i64 0, .int .i64 0, .int .i64 0, .int .i64 0, .int .i64 0, .int .i64 0, .int .i64 0, .int .i64 0, .int .i64 0, .int .i64 0, .int .i64 0, .int .i64 0, .int .i64 0, .int .i64 0, .int .i64 0, .int .i64 0, .int .i64 0, .int .i64 0, .int .i64 0] #[.int .i64 wd, .int .i64 nw, .int .i64 hg, .int .i64 tl, .int .i64 ln, .int .i64 hy, .int .i64 du, .int .i64 ad, .int .i64 l0, .int .i64 l1, .int .i64 l2, .int .i64 l3, .int .i64 l4, .int .i64 r0, .int .i64 r1, .int .i64 r2, .int .i64 r3, .int .i64 r4, .int .i64 f0, .int .i64 f1, .int .i64 f2, .int .i64 f3, .int .i64 f4] rfl 33 QP.out styInfo rfl (by simp [Value.oneCell']) ?_
  refine wpList_nil ?_
  have hrow : (World.setRow (((((w3.setCell ⟨w.heap.size + 1 + 1, 18, none⟩ (.int .i64 f0)).setCell ⟨w.heap.size + 1 + 1, 19, none⟩ (.int .i64 f1)).setCell ⟨w.heap.size + 1 + 1, 20, none⟩ (.int .i64 f2)).setCell ⟨w.heap.size + 1 + 1, 21, none⟩ (.int .i64 f3)).setCell ⟨w.heap.size + 1 + 1, 22, none⟩ (.int .i64 f4)) (w.heap.size + 1) #[.int .i64 wd, .int .i64 nw, .int .i64 hg, .int .i64 tl, .int .i64 ln, .int .i64 hy, .int .i64 du, .int .i64 ad, .int .i64 l0, .int .i64 l1, .int .i64 l2, .int .i64 l3, .int .i64 l4, .int .i64 r0, .int .i64 r1, .int .i64 r2, .int .i64 r3, .int .i64 r4, .int .i64 f0, .int .i64 f1, .int .i64 f2, .int .i64 f3, .int .i64 f4]).heap[w.heap.size + 1]? = some (.cells #[.int .i64 wd, .int .i64 nw, .int .i64 hg, .int .i64 tl, .int .i64 ln, .int .i64 hy, .int .i64 du, .int .i64 ad, .int .i64 l0, .int .i64 l1, .int .i64 l2, .int .i64 l3, .int .i64 l4, .int .i64 r0, .int .i64 r1, .int .i64 r2, .int .i64 r3, .int .i64 r4, .int .i64 f0, .int .i64 f1, .int .i64 f2, .int .i64 f3, .int .i64 f4] 33 (0, 0)) := setRow_heap _ _ _ _ _ _ QP.out
  have hres := run_loadVar_row (P := Try.prog) _ _ 33 33 _ (0, 0) _ hrow Try.underlying33 rfl styInfo
  simp only [Exit.then]
  go_wp2
  refine bodyPost_ret (v := syV ⟨wd, nw, hg, tl, ln, hy, du, ad, l0, l1, l2, l3, l4, r0, r1, r2, r3, r4, f0, f1, f2, f3, f4⟩) ?res rfl ⟨rfl, ?_⟩
  case res =>
    simp [results, Try.results7, Sem.run_bind, Sem.run_pure, Act.put, asAddr, hres]
  · refine below_setRow ?_ (by omega) _
    have B4 := B3.out
    repeat (first | with_reducible exact B4 | (with_reducible refine Below.setCell ?_ ?_ _; rotate_left; focus (first | (simp; done) | (simp; omega))))
end Go.Proofs.Ytdgfnceipginkaa
