/-
  The program's own ascending at both its types.
-/
import Derived.Test.YtejigikcpmhhoaaCmp
import Derived.Deep.RegionWith
namespace Go.Proofs.Ytejigikcpmhhoaa
open Go.RowKit
set_option linter.unusedVariables false
set_option linter.unusedSimpArgs false

set_option maxHeartbeats 2000000 in
theorem ascI_any {v : Value} {zs : List Int} {w : World} (h : Row w v zs) (hl : zs.length ≤ 1048576) : Calls Try.prog 71 #[v, .func (.func 72) #[] #[]] w fun e w' => e = .returned (.bool (decide (AscI zs))) ∧ Below w.heap.size w w' := by
  obtain ⟨ao, n, cap, rfl, hn, hr⟩ := h
  have HR : Hid (0 < n → ∃ b off, ao = some ⟨b, off, none⟩ ∧ b < w.heap.size ∧ ∀ i, i < n → w.cell? ⟨b, off + i, none⟩ = some (.int .i64 (zs.getD i 0))) := hr
  have HN := hideP hn
  have hnl : n ≤ 1048576 := by omega
  clear hr hn hl
  go_enter Try.func71, Try.ntmps71
  go_wp2
  go_loopw [9] (fun i wr => ∃ k : Nat, k ≤ n ∧ i = .int .i64 k ∧ Hid (∀ j, j < k → zs.getD j 0 < zs.getD (j + 1) 0) ∧ Hid (Below w.heap.size w wr)) (fun i _ => n - (intOf i).toNat)
  case atStart => exact ⟨0, by omega, rfl, hideP (fun j hj => by omega), hideP (Below.refl _ _)⟩
  case round =>
    obtain ⟨k, hk, rfl, HJ, HB⟩ := hrel
    by_cases hlt : k + 1 < n
    · have hki : (k : Int) < (n : Int) - 1 := by omega
      obtain ⟨b, off, rfl, hb, hc⟩ := HR (by omega)
      obtain ⟨x, hx⟩ : ∃ x, x = zs.getD k 0 := ⟨_, rfl⟩
      obtain ⟨y, hy⟩ : ∃ y, y = zs.getD (k + 1) 0 := ⟨_, rfl⟩
      have g0 : wr.cell? ⟨b, off + k, none⟩ = some (.int .i64 x) := by rw [hx]; exact (HB.out.cell (p := ⟨b, off + k, none⟩) hb).trans (hc k (by omega))
      have g1 : wr.cell? ⟨b, off + (k + 1), none⟩ = some (.int .i64 y) := by rw [hy]; exact (HB.out.cell (p := ⟨b, off + (k + 1), none⟩) hb).trans (hc (k + 1) hlt)
      have HX := hideP (And.intro hx hy)
      clear hx hy hc
      obtain ⟨c, hcc⟩ : ∃ c, c = cmpN x y := ⟨_, rfl⟩
      have c1 : Hid (∀ W, Calls Try.prog 72 #[.int .i64 x, .int .i64 y] W fun e w' => e = .returned (.int .i64 c) ∧ w' = W) := hideP (fun W => by rw [hcc]; exact cmpI_any x y W)
      have hge := cmpN_ge x y
      rw [← hcc] at hge
      clear hcc
      have hwr : IntKind.i64.wrap ((k : Int) + 1) = ((k + 1 : Nat) : Int) := by rw [IntKind.wrap_i64]; omega
      have hk1 : ((k + 1 : Nat) : Int) < (n : Int) := by omega
      have hk0 : (k : Int) < (n : Int) := by omega
      have HLT := hideP hlt
      clear hlt
      have BD : Hid (Below w.heap.size w wr.drew) := hideP HB.out.drew
      by_cases hxy : x < y
      · have f1 : decide (0 ≤ c) = false := by rw [hge]; simp [hxy]
        have HXY := hideP hxy
        clear hge hxy
        go_wp2_with fail
        go_region_with (go_at_call 72; refine (c1.out _).mono ?_; rintro e w6 ⟨rfl, rfl⟩)
        all_goals
          go_wp2
          go_roundw
          case rel =>
            refine ⟨k + 1, by have := HLT.out; omega, by go_num, hideP (fun j hj => ?_), BD⟩
            by_cases hjk : j = k
            · subst hjk; rw [← HX.out.1, ← HX.out.2]; exact HXY.out
            · exact HJ.out j (by omega)
          case measure => have := HLT.out; simp [intOf]; omega
      · have f1 : decide (0 ≤ c) = true := by rw [hge]; simp [hxy]
        have HXY : Hid (zs.getD (k + 1) 0 ≤ zs.getD k 0) := hideP (by rw [← HX.out.1, ← HX.out.2]; omega)
        clear hge hxy
        go_wp2_with fail
        go_region_with (go_at_call 72; refine (c1.out _).mono ?_; rintro e w6 ⟨rfl, rfl⟩)
        all_goals
          go_wp2
          go_ret
          exact ⟨retB (ascI_no (j := k) (by rw [HN.out]; have := HLT.out; omega) (by have := HXY.out; omega)).symm, BD.out⟩
    · have hki : ¬ ((k : Int) < (n : Int) - 1) := by omega
      go_wp2
      go_ret
      exact ⟨retB (decide_eq_true (fun j hj => HJ.out j (by have := HN.out; omega))).symm, HB.out⟩

set_option maxHeartbeats 2000000 in
theorem ascS_any {v : Value} {xs : List Pt} {w : World} (h : PRow 0 w v xs) (hl : xs.length ≤ 1048576) : Calls Try.prog 49 #[v, .func (.func 50) #[] #[]] w fun e w' => e = .returned (.bool (decide (AscS xs))) ∧ Below w.heap.size w w' := by
  obtain ⟨ao, n, cap, rfl, hn, hr⟩ := h
  have HR : Hid (0 < n → ∃ b off, ao = some ⟨b, off, none⟩ ∧ 0 ≤ b ∧ b < w.heap.size ∧ ∀ i, i < n → ∃ cs : List Value, cs.length = 2 ∧ PtR 0 w cs (xs.getD i Pt.none) ∧ ∀ j, j < 2 → w.cell? ⟨b, off + i * 2 + j, none⟩ = cs[j]?) := hr
  have HN := hideP hn
  have hnl : n ≤ 1048576 := by omega
  clear hr hn hl
  go_enter Try.func49, Try.ntmps49
  go_wp2
  go_loopw [9] (fun i wr => ∃ k : Nat, k ≤ n ∧ i = .int .i64 k ∧ Hid (∀ j, j < k → ltS (xs.getD j Pt.none).s (xs.getD (j + 1) Pt.none).s = true) ∧ Hid (Below w.heap.size w wr)) (fun i _ => n - (intOf i).toNat)
  case atStart => exact ⟨0, by omega, rfl, hideP (fun j hj => by omega), hideP (Below.refl _ _)⟩
  case round =>
    obtain ⟨k, hk, rfl, HJ, HB⟩ := hrel
    by_cases hlt : k + 1 < n
    · have hki : (k : Int) < (n : Int) - 1 := by omega
      obtain ⟨b, off, rfl, hlo, hb, hc⟩ := HR (by omega)
      obtain ⟨cs1, hcl1, hR1, hc1⟩ := hc k (by omega)
      obtain ⟨cs2, hcl2, hR2, hc2⟩ := hc (k + 1) hlt
      obtain ⟨x, hx⟩ : ∃ x, x = (xs.getD k Pt.none).s := ⟨_, rfl⟩
      obtain ⟨y, hy⟩ : ∃ y, y = (xs.getD (k + 1) Pt.none).s := ⟨_, rfl⟩
      obtain ⟨u1, rfl, hin1⟩ := hR1
      obtain ⟨u2, rfl, hin2⟩ := hR2
      rw [← hx] at hc1
      rw [← hy] at hc2
      obtain ⟨a1, m1, d1, rfl⟩ : ∃ a n c, u1 = .slice a n c := by obtain ⟨a, c, rfl⟩ := hin1.shape; exact ⟨_, _, _, rfl⟩
      obtain ⟨a2, m2, d2, rfl⟩ : ∃ a n c, u2 = .slice a n c := by obtain ⟨a, c, rfl⟩ := hin2.shape; exact ⟨_, _, _, rfl⟩
      have g0 : wr.cell? ⟨b, off + k * 2, none⟩ = some (.string x) := (HB.out.cell (p := ⟨b, off + k * 2, none⟩) hb).trans (hc1 0 (by omega))
      have g1 : wr.cell? ⟨b, off + k * 2 + 1, none⟩ = some (.slice a1 m1 d1) := (HB.out.cell (p := ⟨b, off + k * 2 + 1, none⟩) hb).trans (hc1 1 (by omega))
      have g2 : wr.cell? ⟨b, off + (k + 1) * 2, none⟩ = some (.string y) := (HB.out.cell (p := ⟨b, off + (k + 1) * 2, none⟩) hb).trans (hc2 0 (by omega))
      have g3 : wr.cell? ⟨b, off + (k + 1) * 2 + 1, none⟩ = some (.slice a2 m2 d2) := (HB.out.cell (p := ⟨b, off + (k + 1) * 2 + 1, none⟩) hb).trans (hc2 1 (by omega))
      have HX := hideP (And.intro hx hy)
      clear hx hy hc hin1 hin2 hc1 hc2 hcl1 hcl2
      obtain ⟨c, hcc⟩ : ∃ c, c = cmpC x y := ⟨_, rfl⟩
      have c1 : Hid (∀ W, Calls Try.prog 50 #[patV x (.slice a1 m1 d1), patV y (.slice a2 m2 d2)] W fun e w' => e = .returned (.int .i64 c) ∧ Below W.heap.size W w') := hideP (fun W => by rw [hcc]; exact cmpW_any x y _ _ _ _ _ _ W)
      have hge := cmpC_ge x y
      rw [← hcc] at hge
      clear hcc
      have hwr : IntKind.i64.wrap ((k : Int) + 1) = ((k + 1 : Nat) : Int) := by rw [IntKind.wrap_i64]; omega
      have hk1 : ((k + 1 : Nat) : Int) < (n : Int) := by omega
      have hk0 : (k : Int) < (n : Int) := by omega
      have HLT := hideP hlt
      clear hlt
      have BD : Hid (Below w.heap.size w wr.drew) := hideP HB.out.drew
      cases hxy : ltS x y
      · have f1 : decide (0 ≤ c) = true := by rw [hge, hxy]; rfl
        have HXY : Hid (ltS (xs.getD k Pt.none).s (xs.getD (k + 1) Pt.none).s = false) := hideP (by rw [← HX.out.1, ← HX.out.2]; exact hxy)
        clear hge hxy
        go_wp2_with fail
        go_region_with (go_at_call 50; refine (c1.out _).mono ?_; rintro e w6 ⟨rfl, hb6⟩; have B6 := hideP (below_more BD.out hb6 BD.out.size); clear hb6)
        all_goals
          go_wp2
          go_ret
          exact ⟨retB (ascS_no (j := k) (by rw [HN.out]; have := HLT.out; omega) HXY.out).symm, B6.out⟩
      · have f1 : decide (0 ≤ c) = false := by rw [hge, hxy]; rfl
        have HXY := hideP hxy
        clear hge hxy
        go_wp2_with fail
        go_region_with (go_at_call 50; refine (c1.out _).mono ?_; rintro e w6 ⟨rfl, hb6⟩; have B6 := hideP (below_more BD.out hb6 BD.out.size); clear hb6)
        all_goals
          go_wp2
          go_roundw
          case rel =>
            refine ⟨k + 1, by have := HLT.out; omega, by go_num, hideP (fun j hj => ?_), B6⟩
            by_cases hjk : j = k
            · subst hjk; rw [← HX.out.1, ← HX.out.2]; exact HXY.out
            · exact HJ.out j (by omega)
          case measure => have := HLT.out; simp [intOf]; omega
    · have hki : ¬ ((k : Int) < (n : Int) - 1) := by omega
      go_wp2
      go_ret
      exact ⟨retB (decide_eq_true (fun j hj => HJ.out j (by have := HN.out; omega))).symm, HB.out⟩
end Go.Proofs.Ytejigikcpmhhoaa
