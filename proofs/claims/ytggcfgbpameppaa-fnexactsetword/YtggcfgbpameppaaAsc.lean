/-
  The program's own ascending at both its types.
-/
import Derived.Test.YtggcfgbpameppaaCmp
namespace Go.Proofs.Ytggcfgbpameppaa
open Go.RowKit
set_option linter.unusedVariables false
set_option linter.unusedSimpArgs false

/-- Is the first glyph ahead of the second? -/
def glB2 (x y : Q4) : Bool := decide (x.a < y.a)

abbrev AscG (xs : List Q4) : Prop := ∀ j, j < xs.length - 1 → glB2 (xs.getD j Q4.none) (xs.getD (j + 1) Q4.none) = true
def ascGB (xs : List Q4) : Bool := decide (AscG xs)
theorem ascG_no {xs : List Q4} {j : Nat} (hj : j < xs.length - 1) (h : glB2 (xs.getD j Q4.none) (xs.getD (j + 1) Q4.none) = false) : ascGB xs = false := decide_eq_false fun ha => by rw [ha j hj] at h; cases h

set_option maxHeartbeats 4000000 in
theorem ascG_any {v : Value} {xs : List Q4} {w : World} (h : QRow 0 w v xs) (hl : xs.length ≤ 1048576) : Calls Try.prog 62 #[v, .func (.func 63) #[] #[]] w fun e w' => e = .returned (.bool (ascGB xs)) ∧ Below w.heap.size w w' := by
  have HR := hideP h
  obtain ⟨ao, cap, rfl⟩ := h.shape
  obtain ⟨n, hn⟩ : ∃ n, n = xs.length := ⟨_, rfl⟩
  rw [← hn] at HR
  rw [← hn]
  have HN := hideP hn
  have hnl : n ≤ 1048576 := by omega
  clear h hn hl
  go_enter Try.func62, Try.ntmps62
  go_wp2
  go_loopw [9] (fun i wr => ∃ k : Nat, k ≤ n ∧ i = .int .i64 k ∧ Hid (∀ j, j < k → glB2 (xs.getD j Q4.none) (xs.getD (j + 1) Q4.none) = true) ∧ Hid (Below w.heap.size w wr)) (fun i _ => n - (intOf i).toNat)
  case atStart => exact ⟨0, by omega, rfl, hideP (fun j hj => by omega), hideP (Below.refl _ _)⟩
  case round =>
    obtain ⟨k, hk, rfl, HJ, HB⟩ := hrel
    by_cases hlt : k + 1 < n
    · have hki : (k : Int) < (n : Int) - 1 := by omega
      obtain ⟨b, off, rfl, hb, _, g0, g1, g2, g3⟩ := HR.out.cells HB.out (k := k) (by omega)
      obtain ⟨b', off', he, hb', _, f0, f1, f2, f3⟩ := HR.out.cells HB.out (k := k + 1) hlt
      simp only [Option.some.injEq, Addr.mk.injEq, and_true] at he
      obtain ⟨rfl, rfl⟩ := he
      obtain ⟨x, hx⟩ : ∃ x, x = xs.getD k Q4.none := ⟨_, rfl⟩
      obtain ⟨y, hy⟩ : ∃ y, y = xs.getD (k + 1) Q4.none := ⟨_, rfl⟩
      rw [← hx] at g0 g1 g2 g3
      rw [← hy] at f0 f1 f2 f3
      have HX := hideP (And.intro hx hy)
      clear hx hy
      obtain ⟨c, hcc⟩ : ∃ c, c = cmpN x.a y.a := ⟨_, rfl⟩
      have hge := (show decide (0 ≤ cmpN x.a y.a) = !glB2 x y from cmpN_ge x.a y.a)
      rw [← hcc] at hge
      have C1 : Hid (∀ W, Calls Try.prog 63 #[q4V x, q4V y] W fun e w' => e = .returned (.int .i64 c) ∧ Below W.heap.size W w') := hideP (fun W => by rw [hcc]; exact cmpG_any _ _ _ _ _ _ _ _ W)
      clear hcc
      have hwr : IntKind.i64.wrap ((k : Int) + 1) = ((k + 1 : Nat) : Int) := by rw [IntKind.wrap_i64]; omega
      have hk1 : ((k + 1 : Nat) : Int) < (n : Int) := by omega
      have hk0 : (k : Int) < (n : Int) := by omega
      have HLT := hideP hlt
      clear hlt
      have BD : Hid (Below w.heap.size w wr.drew) := hideP HB.out.drew
      cases hxy : glB2 x y
      · have f1' : decide (0 ≤ c) = true := by rw [hge]; first | (rw [hxy]; rfl) | (simpa using hxy)
        have HXY : Hid (glB2 (xs.getD k Q4.none) (xs.getD (k + 1) Q4.none) = false) := hideP (by rw [← HX.out.1, ← HX.out.2]; exact hxy)
        clear hge hxy
        obtain ⟨xa, xb, xc, xd⟩ := x
        obtain ⟨ya, yb, yc, yd⟩ := y
        dsimp only at g0 g1 g2 g3 f0 f1 f2 f3
        simp only [q4V] at C1
        go_wp2_with fail
        go_region_with (go_at_call 63; refine (C1.out _).mono ?_; rintro e w6 ⟨rfl, hb6⟩; have B6 := hideP (below_more BD.out hb6 BD.out.size); clear hb6)
        all_goals
          go_wp2
          go_ret
          exact ⟨retB (ascG_no (j := k) (by rw [← HN.out]; have := HLT.out; omega) HXY.out).symm, B6.out⟩
      · have f1' : decide (0 ≤ c) = false := by rw [hge]; first | (rw [hxy]; rfl) | (simpa using hxy)
        have HXY : Hid (glB2 (xs.getD k Q4.none) (xs.getD (k + 1) Q4.none) = true) := hideP (by rw [← HX.out.1, ← HX.out.2]; exact hxy)
        clear hge hxy
        obtain ⟨xa, xb, xc, xd⟩ := x
        obtain ⟨ya, yb, yc, yd⟩ := y
        dsimp only at g0 g1 g2 g3 f0 f1 f2 f3
        simp only [q4V] at C1
        go_wp2_with fail
        go_region_with (go_at_call 63; refine (C1.out _).mono ?_; rintro e w6 ⟨rfl, hb6⟩; have B6 := hideP (below_more BD.out hb6 BD.out.size); clear hb6)
        all_goals
          go_wp2
          go_roundw
          case rel =>
            refine ⟨k + 1, by have := HLT.out; omega, by go_num, hideP (fun j hj => ?_), B6⟩
            by_cases hjk : j = k
            · subst hjk; exact HXY.out
            · exact HJ.out j (by omega)
          case measure => have := HLT.out; simp [intOf]; omega
    · have hki : ¬ ((k : Int) < (n : Int) - 1) := by omega
      go_wp2
      go_ret
      exact ⟨retB (show ascGB xs = true from decide_eq_true (fun j hj => HJ.out j (by have := HN.out; omega))).symm, HB.out⟩

abbrev AscP (xs : List Q4) : Prop := ∀ j, j < xs.length - 1 → plB (xs.getD j Q4.none) (xs.getD (j + 1) Q4.none) = true
def ascPB (xs : List Q4) : Bool := decide (AscP xs)
theorem ascP_no {xs : List Q4} {j : Nat} (hj : j < xs.length - 1) (h : plB (xs.getD j Q4.none) (xs.getD (j + 1) Q4.none) = false) : ascPB xs = false := decide_eq_false fun ha => by rw [ha j hj] at h; cases h

set_option maxHeartbeats 4000000 in
theorem ascP_any {v : Value} {xs : List Q4} {w : World} (h : QRow 0 w v xs) (hl : xs.length ≤ 1048576) : Calls Try.prog 65 #[v, .func (.func 66) #[] #[]] w fun e w' => e = .returned (.bool (ascPB xs)) ∧ Below w.heap.size w w' := by
  have HR := hideP h
  obtain ⟨ao, cap, rfl⟩ := h.shape
  obtain ⟨n, hn⟩ : ∃ n, n = xs.length := ⟨_, rfl⟩
  rw [← hn] at HR
  rw [← hn]
  have HN := hideP hn
  have hnl : n ≤ 1048576 := by omega
  clear h hn hl
  go_enter Try.func65, Try.ntmps65
  go_wp2
  go_loopw [9] (fun i wr => ∃ k : Nat, k ≤ n ∧ i = .int .i64 k ∧ Hid (∀ j, j < k → plB (xs.getD j Q4.none) (xs.getD (j + 1) Q4.none) = true) ∧ Hid (Below w.heap.size w wr)) (fun i _ => n - (intOf i).toNat)
  case atStart => exact ⟨0, by omega, rfl, hideP (fun j hj => by omega), hideP (Below.refl _ _)⟩
  case round =>
    obtain ⟨k, hk, rfl, HJ, HB⟩ := hrel
    by_cases hlt : k + 1 < n
    · have hki : (k : Int) < (n : Int) - 1 := by omega
      obtain ⟨b, off, rfl, hb, _, g0, g1, g2, g3⟩ := HR.out.cells HB.out (k := k) (by omega)
      obtain ⟨b', off', he, hb', _, f0, f1, f2, f3⟩ := HR.out.cells HB.out (k := k + 1) hlt
      simp only [Option.some.injEq, Addr.mk.injEq, and_true] at he
      obtain ⟨rfl, rfl⟩ := he
      obtain ⟨x, hx⟩ : ∃ x, x = xs.getD k Q4.none := ⟨_, rfl⟩
      obtain ⟨y, hy⟩ : ∃ y, y = xs.getD (k + 1) Q4.none := ⟨_, rfl⟩
      rw [← hx] at g0 g1 g2 g3
      rw [← hy] at f0 f1 f2 f3
      have HX := hideP (And.intro hx hy)
      clear hx hy
      obtain ⟨c, hcc⟩ : ∃ c, c = cmpP x y := ⟨_, rfl⟩
      have hge := cmpP_ge x y
      rw [← hcc] at hge
      have C1 : Hid (∀ W, Calls Try.prog 66 #[q4V x, q4V y] W fun e w' => e = .returned (.int .i64 c) ∧ Below W.heap.size W w') := hideP (fun W => by rw [hcc]; exact cmpP_any x y W)
      clear hcc
      have hwr : IntKind.i64.wrap ((k : Int) + 1) = ((k + 1 : Nat) : Int) := by rw [IntKind.wrap_i64]; omega
      have hk1 : ((k + 1 : Nat) : Int) < (n : Int) := by omega
      have hk0 : (k : Int) < (n : Int) := by omega
      have HLT := hideP hlt
      clear hlt
      have BD : Hid (Below w.heap.size w wr.drew) := hideP HB.out.drew
      cases hxy : plB x y
      · have f1' : decide (0 ≤ c) = true := by rw [hge]; first | (rw [hxy]; rfl) | (simpa using hxy)
        have HXY : Hid (plB (xs.getD k Q4.none) (xs.getD (k + 1) Q4.none) = false) := hideP (by rw [← HX.out.1, ← HX.out.2]; exact hxy)
        clear hge hxy
        obtain ⟨xa, xb, xc, xd⟩ := x
        obtain ⟨ya, yb, yc, yd⟩ := y
        dsimp only at g0 g1 g2 g3 f0 f1 f2 f3
        simp only [q4V] at C1
        go_wp2_with fail
        go_region_with (go_at_call 66; refine (C1.out _).mono ?_; rintro e w6 ⟨rfl, hb6⟩; have B6 := hideP (below_more BD.out hb6 BD.out.size); clear hb6)
        all_goals
          go_wp2
          go_ret
          exact ⟨retB (ascP_no (j := k) (by rw [← HN.out]; have := HLT.out; omega) HXY.out).symm, B6.out⟩
      · have f1' : decide (0 ≤ c) = false := by rw [hge]; first | (rw [hxy]; rfl) | (simpa using hxy)
        have HXY : Hid (plB (xs.getD k Q4.none) (xs.getD (k + 1) Q4.none) = true) := hideP (by rw [← HX.out.1, ← HX.out.2]; exact hxy)
        clear hge hxy
        obtain ⟨xa, xb, xc, xd⟩ := x
        obtain ⟨ya, yb, yc, yd⟩ := y
        dsimp only at g0 g1 g2 g3 f0 f1 f2 f3
        simp only [q4V] at C1
        go_wp2_with fail
        go_region_with (go_at_call 66; refine (C1.out _).mono ?_; rintro e w6 ⟨rfl, hb6⟩; have B6 := hideP (below_more BD.out hb6 BD.out.size); clear hb6)
        all_goals
          go_wp2
          go_roundw
          case rel =>
            refine ⟨k + 1, by have := HLT.out; omega, by go_num, hideP (fun j hj => ?_), B6⟩
            by_cases hjk : j = k
            · subst hjk; exact HXY.out
            · exact HJ.out j (by omega)
          case measure => have := HLT.out; simp [intOf]; omega
    · have hki : ¬ ((k : Int) < (n : Int) - 1) := by omega
      go_wp2
      go_ret
      exact ⟨retB (show ascPB xs = true from decide_eq_true (fun j hj => HJ.out j (by have := HN.out; omega))).symm, HB.out⟩

end Go.Proofs.Ytggcfgbpameppaa
