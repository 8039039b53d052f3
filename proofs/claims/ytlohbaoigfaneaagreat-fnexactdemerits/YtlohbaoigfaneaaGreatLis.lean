import Derived.Test.YtlohbaoigfaneaaGreatTrn
namespace Go.Proofs.YtlohbaoigfaneaaGreat
open Go.RowKit
set_option linter.unusedVariables false
set_option linter.unusedSimpArgs false
set_option maxRecDepth 20000 in
set_option maxHeartbeats 8000000 in
theorem l9Is_any {w : World} {v : Value} {ys : List It} {N lo : Nat} (a : Nat) (h : Heads lo w v ys) (hl : ys.length = N) (ha : a < N) (hN : N ≤ 20001) :
 Calls Tryz.prog 56 #[v, .int .i64 (a : Int)] w fun e w' => e = .returned (.bool (trnB ys a)) ∧ Below w.heap.size w w' := by
 obtain ⟨ao, cap, rfl, hc⟩ := h.is
 rw [hl] at hc ⊢
 have hai : (a : Int) < (N : Int) := by omega
 obtain ⟨b, off, rfl, _, hbl, hcell⟩ := hc (by omega)
 obtain ⟨u, rest, hu, hrow⟩ := hcell a (by omega)
 obtain ⟨x, hx⟩ : ∃ x, x = (ys.getD a It.none).1 := ⟨_, rfl⟩
 rw [← hx] at hrow
 have HX := hideP hx
 obtain ⟨b2, off2, n2, cap2, rfl, hn2, hb2, hcs⟩ := head_cells hrow
 obtain ⟨R, hR⟩ : ∃ R, R = trnB ys a := ⟨_, rfl⟩
 rw [← hR]
 unfold trnB brkB at hR
 rw [← hx] at hR
 have HR := hideP hR
 have hn2i : (0 : Int) < (n2 : Int) := by omega
 obtain ⟨k, wd, ht, dp, sh, fo, ch, nn, gs, gp, gpo, gm, gmo, tx, kids⟩ := x
 simp only [Nd.cells] at hcs
 have n100 : w.cell? ⟨b2, off2, none⟩ = some (.int .i64 k) := hcs 0 (by omega)
 have n101 : w.cell? ⟨b2, off2 + 1, none⟩ = some (.int .i64 wd) := hcs 1 (by omega)
 have n102 : w.cell? ⟨b2, off2 + 2, none⟩ = some (.int .i64 ht) := hcs 2 (by omega)
 have n103 : w.cell? ⟨b2, off2 + 3, none⟩ = some (.int .i64 dp) := hcs 3 (by omega)
 have n104 : w.cell? ⟨b2, off2 + 4, none⟩ = some (.int .i64 sh) := hcs 4 (by omega)
 have n105 : w.cell? ⟨b2, off2 + 5, none⟩ = some (.int .i64 fo) := hcs 5 (by omega)
 have n106 : w.cell? ⟨b2, off2 + 6, none⟩ = some (.int .i64 ch) := hcs 6 (by omega)
 have n107 : w.cell? ⟨b2, off2 + 7, none⟩ = some (.int .i64 nn) := hcs 7 (by omega)
 have n108 : w.cell? ⟨b2, off2 + 8, none⟩ = some (.int .i64 gs) := hcs 8 (by omega)
 have n109 : w.cell? ⟨b2, off2 + 9, none⟩ = some (.int .i64 gp) := hcs 9 (by omega)
 have n110 : w.cell? ⟨b2, off2 + 10, none⟩ = some (.int .i64 gpo) := hcs 10 (by omega)
 have n111 : w.cell? ⟨b2, off2 + 11, none⟩ = some (.int .i64 gm) := hcs 11 (by omega)
 have n112 : w.cell? ⟨b2, off2 + 12, none⟩ = some (.int .i64 gmo) := hcs 12 (by omega)
 have n113 : w.cell? ⟨b2, off2 + 13, none⟩ = some (.string tx) := hcs 13 (by omega)
 have n114 : w.cell? ⟨b2, off2 + 14, none⟩ = some (.int .i64 kids) := hcs 14 (by omega)
 simp only at HR
 clear hcs hR hx
 by_cases h3 : k = 3
 ·subst h3
  by_cases h0 : a = 0
  ·have HE : Hid (R = false) := hideP (by rw [HR.out, if_pos rfl, decide_eq_false (by omega)]; rfl)
   rw [HE.out]
   have hnp : ¬ (0 : Int) < (a : Int) := by omega
   clear hcell hc HE HR h0
   go_enter Tryz.func56, Tryz.ntmps56
   go_wp2
   go_ret
   first | exact ⟨rfl, below1 _ _⟩ | exact ⟨rfl, Below.refl _ _⟩ | exact ⟨rfl, below2 _ _ _⟩
  ·have hap : (0 : Int) < (a : Int) := by omega
   obtain ⟨d, hd⟩ : ∃ d, d = a - 1 := ⟨_, rfl⟩
   obtain ⟨u3, rest3, hu3, hrow3⟩ := hcell d (by omega)
   obtain ⟨y, hy⟩ : ∃ y, y = (ys.getD d It.none).1 := ⟨_, rfl⟩
   rw [← hy] at hrow3
   obtain ⟨b3, off3, n3, cap3, rfl, hn3, hb3, hcs3⟩ := head_cells hrow3
   have HE : Hid (R = !discB y) := hideP (by rw [HR.out, if_pos rfl, decide_eq_true (by omega), ← hd, ← hy]; rfl)
   have DC : Hid (∀ W, Calls Tryz.prog 62 #[ndV y] W fun e w' => e = .returned (.bool (discB y)) ∧ Below W.heap.size W w') := hideP (fun W => specDisc_any y W)
   obtain ⟨dy, hdy⟩ : ∃ v, v = discB y := ⟨_, rfl⟩
   rw [← hdy] at DC HE
   rw [HE.out]
   clear hdy hy
   obtain ⟨k2, wd2, ht2, dp2, sh2, fo2, ch2, nn2, gs2, gp2, gpo2, gm2, gmo2, tx2, kids2⟩ := y
   simp only [Nd.cells] at hcs3
   simp only [ndV] at DC
   have m100 : w.cell? ⟨b3, off3, none⟩ = some (.int .i64 k2) := hcs3 0 (by omega)
   have m101 : w.cell? ⟨b3, off3 + 1, none⟩ = some (.int .i64 wd2) := hcs3 1 (by omega)
   have m102 : w.cell? ⟨b3, off3 + 2, none⟩ = some (.int .i64 ht2) := hcs3 2 (by omega)
   have m103 : w.cell? ⟨b3, off3 + 3, none⟩ = some (.int .i64 dp2) := hcs3 3 (by omega)
   have m104 : w.cell? ⟨b3, off3 + 4, none⟩ = some (.int .i64 sh2) := hcs3 4 (by omega)
   have m105 : w.cell? ⟨b3, off3 + 5, none⟩ = some (.int .i64 fo2) := hcs3 5 (by omega)
   have m106 : w.cell? ⟨b3, off3 + 6, none⟩ = some (.int .i64 ch2) := hcs3 6 (by omega)
   have m107 : w.cell? ⟨b3, off3 + 7, none⟩ = some (.int .i64 nn2) := hcs3 7 (by omega)
   have m108 : w.cell? ⟨b3, off3 + 8, none⟩ = some (.int .i64 gs2) := hcs3 8 (by omega)
   have m109 : w.cell? ⟨b3, off3 + 9, none⟩ = some (.int .i64 gp2) := hcs3 9 (by omega)
   have m110 : w.cell? ⟨b3, off3 + 10, none⟩ = some (.int .i64 gpo2) := hcs3 10 (by omega)
   have m111 : w.cell? ⟨b3, off3 + 11, none⟩ = some (.int .i64 gm2) := hcs3 11 (by omega)
   have m112 : w.cell? ⟨b3, off3 + 12, none⟩ = some (.int .i64 gmo2) := hcs3 12 (by omega)
   have m113 : w.cell? ⟨b3, off3 + 13, none⟩ = some (.string tx2) := hcs3 13 (by omega)
   have m114 : w.cell? ⟨b3, off3 + 14, none⟩ = some (.int .i64 kids2) := hcs3 14 (by omega)
   have hdn : (d : Int) < (N : Int) := by omega
   have hwd : IntKind.i64.wrap ((a : Int) - 1) = (d : Int) := by rw [IntKind.wrap_i64]; omega
   have hdi : ((a : Int) - 1) = (d : Int) := by omega
   have hn3i : (0 : Int) < (n3 : Int) := by omega
   clear hcs3 hcell hc HR hd h0
   go_enter Tryz.func56, Tryz.ntmps56
   go_wp2_with fail
   refine (DC.out _).mono ?_
   rintro e w7 ⟨rfl, hb7⟩
   have B7 : Hid (Below w.heap.size w w7) := hideP (by first | exact below_more (below1 _ _) hb7 (by simp) | exact hb7)
   clear hb7
   go_wp2
   go_ret
   exact ⟨rfl, B7.out⟩
 ·have HE : Hid (R = (k == 8 || if k = 4 then decide (nn < 10000) else false)) := hideP (by rw [HR.out, if_neg h3])
  have b3 : (k == 3) = false := by simp [h3]
  by_cases h4 : k = 4
  ·subst h4
   have HE2 : Hid (R = decide (nn < 10000)) := hideP (by rw [HE.out, if_pos rfl]; rfl)
   rw [HE2.out]
   clear HE HE2 HR hcell hc
   go_enter Tryz.func56, Tryz.ntmps56
   go_wp2
   go_ret
   first | exact ⟨rfl, below1 _ _⟩ | exact ⟨rfl, Below.refl _ _⟩
  ·have HE2 : Hid (R = (k == 8)) := hideP (by rw [HE.out, if_neg h4, Bool.or_false])
   have b4 : (k == 4) = false := by simp [h4]
   by_cases h8 : k = 8
   ·subst h8
    rw [HE2.out]
    clear HE HE2 HR hcell hc
    go_enter Tryz.func56, Tryz.ntmps56
    go_wp2
    go_ret
    first | exact ⟨rfl, below1 _ _⟩ | exact ⟨rfl, Below.refl _ _⟩
   ·have b8 : (k == 8) = false := by simp [h8]
    rw [HE2.out, b8]
    clear HE HE2 HR hcell hc
    go_enter Tryz.func56, Tryz.ntmps56
    go_wp2
    go_ret
    first | exact ⟨rfl, below1 _ _⟩ | exact ⟨rfl, Below.refl _ _⟩
end Go.Proofs.YtlohbaoigfaneaaGreat
