/-
  Glyphs that can be.
-/
import Derived.Test.YtggcfgbpameppaaAsc
namespace Go.Proofs.Ytggcfgbpameppaa
open Go.RowKit
set_option linter.unusedVariables false
set_option linter.unusedSimpArgs false

def szB (x : Int) : Bool := decide (0 ≤ x ∧ x ≤ 6553600)
theorem sz_yes {x : Int} (h1 : 0 ≤ x) (h2 : x ≤ 6553600) : szB x = true := by simp [szB, h1, h2]
theorem sz_no {x : Int} (h : ¬ (0 ≤ x ∧ x ≤ 6553600)) : szB x = false := by simp [szB]; omega
theorem implSize_any (x : Int) (w : World) : Calls Try.prog 55 #[.int .i64 x] w fun e w' => e = .returned (.bool (szB x)) ∧ w' = w := by
  by_cases h1 : 0 ≤ x
  · by_cases h2 : x ≤ 6553600
    · rw [sz_yes h1 h2]
      go_enter Try.func55, Try.ntmps55
      go_wp2
      go_ret
      exact ⟨rfl, rfl⟩
    · rw [sz_no (by omega)]
      go_enter Try.func55, Try.ntmps55
      go_wp2
      go_ret
      exact ⟨rfl, rfl⟩
  · rw [sz_no (by omega)]
    go_enter Try.func55, Try.ntmps55
    go_wp2
    go_ret
    exact ⟨rfl, rfl⟩
theorem specSize_any (x : Int) (w : World) : Calls Try.prog 29 #[.int .i64 x] w fun e w' => e = .returned (.bool (szB x)) ∧ w' = w := by
  by_cases h1 : 0 ≤ x
  · by_cases h2 : x ≤ 6553600
    · rw [sz_yes h1 h2]
      go_enter Try.func29, Try.ntmps29
      go_wp2
      go_ret
      exact ⟨rfl, rfl⟩
    · rw [sz_no (by omega)]
      go_enter Try.func29, Try.ntmps29
      go_wp2
      go_ret
      exact ⟨rfl, rfl⟩
  · rw [sz_no (by omega)]
    go_enter Try.func29, Try.ntmps29
    go_wp2
    go_ret
    exact ⟨rfl, rfl⟩

def cdB (x : Int) : Bool := decide (0 ≤ x ∧ x ≤ 255)
/-- A glyph that can be. -/
def gB (x : Q4) : Bool := cdB x.a && szB x.b && szB x.c && szB x.d
set_option maxHeartbeats 2000000 in
theorem glyphOk_any (x : Q4) (w : World) : Calls Try.prog 61 #[q4V x] w fun e w' => e = .returned (.bool (gB x)) ∧ Below w.heap.size w w' := by
  obtain ⟨a, b, c, d⟩ := x
  simp only [q4V]
  by_cases h1 : 0 ≤ a
  · by_cases h2 : a ≤ 255
    · have hc : cdB a = true := by simp [cdB, h1, h2]
      rw [show gB ⟨a, b, c, d⟩ = (szB b && szB c && szB d) by simp [gB, hc]]
      clear hc
      cases hb : szB b <;> cases hcc : szB c <;> cases hd : szB d
      all_goals
        go_enter Try.func61, Try.ntmps61
        go_wp2_with (go_at_call 55; refine (implSize_any _ _).mono ?_; rintro e w' ⟨rfl, rfl⟩)
        go_ret
        exact ⟨rfl, below1 _ _⟩
    · rw [show gB ⟨a, b, c, d⟩ = false by simp [gB, cdB, h2]]
      go_enter Try.func61, Try.ntmps61
      go_wp2
      go_ret
      exact ⟨rfl, below1 _ _⟩
  · rw [show gB ⟨a, b, c, d⟩ = false by simp [gB, cdB, h1]]
    go_enter Try.func61, Try.ntmps61
    go_wp2
    go_ret
    exact ⟨rfl, below1 _ _⟩

abbrev AllG (gs : List Q4) : Prop := ∀ j, j < gs.length → gB (gs.getD j Q4.none) = true
def gsB (gs : List Q4) : Bool := decide (AllG gs ∧ AscG gs)
theorem gs_el {gs : List Q4} {j : Nat} (hj : j < gs.length) (h : gB (gs.getD j Q4.none) = false) : gsB gs = false := decide_eq_false fun hp => by rw [hp.1 j hj] at h; cases h
theorem gs_asc {gs : List Q4} (h : AllG gs) : gsB gs = ascGB gs := decide_eq_decide.2 ⟨fun hp => hp.2, fun hp => ⟨h, hp⟩⟩

set_option maxHeartbeats 4000000 in
theorem glyphsOk_any {v : Value} {gs : List Q4} {w : World} (h : QRow 0 w v gs) (hl : gs.length ≤ 1048576) : Calls Try.prog 51 #[v] w fun e w' => e = .returned (.bool (gsB gs)) ∧ Below w.heap.size w w' := by
  have HR := hideP h
  obtain ⟨ao, cap, rfl⟩ := h.shape
  obtain ⟨n, hn⟩ : ∃ n, n = gs.length := ⟨_, rfl⟩
  rw [← hn] at HR
  rw [← hn]
  have HN := hideP hn
  have hnl : n ≤ 1048576 := by omega
  clear h hn hl
  go_enter Try.func51, Try.ntmps51
  go_wp2
  go_loopw [7] (fun i wr => ∃ k : Nat, k ≤ n ∧ i = .int .i64 k ∧ Hid (∀ j, j < k → gB (gs.getD j Q4.none) = true) ∧ Hid (Below w.heap.size w wr)) (fun i _ => n - (intOf i).toNat)
  case atStart => exact ⟨0, by omega, rfl, hideP (fun j hj => by omega), hideP (Below.refl _ _)⟩
  case round =>
    obtain ⟨k, hk, rfl, HJ, HB⟩ := hrel
    by_cases hlt : k < n
    · have hki : (k : Int) < (n : Int) := by omega
      obtain ⟨b, off, rfl, hb, _, g0, g1, g2, g3⟩ := HR.out.cells HB.out hlt
      obtain ⟨x, hx⟩ : ∃ x, x = gs.getD k Q4.none := ⟨_, rfl⟩
      rw [← hx] at g0 g1 g2 g3
      obtain ⟨r, hr⟩ : ∃ r, r = gB x := ⟨_, rfl⟩
      have C1 : Hid (∀ W, Calls Try.prog 61 #[q4V x] W fun e w' => e = .returned (.bool r) ∧ Below W.heap.size W w') := hideP (fun W => by rw [hr]; exact glyphOk_any x W)
      have HX : Hid (gB (gs.getD k Q4.none) = r) := hideP (by rw [← hx, hr])
      have HKL : Hid (k < gs.length) := hideP (by rw [← HN.out]; exact hlt)
      clear hx hr
      obtain ⟨xa, xb, xc, xd⟩ := x
      dsimp only at g0 g1 g2 g3
      simp only [q4V] at C1
      cases r
      · go_wp2_with fail
        refine (C1.out _).mono ?_
        rintro e w2 ⟨rfl, hb2⟩
        have B2 := hideP (below_more HB.out (below_more (below1 _ _) hb2 (by simp)) HB.out.size)
        clear hb2
        go_wp2
        go_ret
        exact ⟨retB (gs_el HKL.out HX.out).symm, B2.out⟩
      · go_wp2_with fail
        refine (C1.out _).mono ?_
        rintro e w2 ⟨rfl, hb2⟩
        have B2 := hideP (below_more HB.out (below_more (below1 _ _) hb2 (by simp)) HB.out.size)
        clear hb2
        go_wp2
        go_roundw
        case rel =>
          refine ⟨k + 1, by omega, by go_num, hideP (fun j hj => ?_), B2⟩
          by_cases hjk : j = k
          · subst hjk; exact HX.out
          · exact HJ.out j (by omega)
        case measure => simp [intOf]; omega
    · have hki : ¬ (k : Int) < (n : Int) := by omega
      have HE : Hid (gsB gs = ascGB gs) := hideP (gs_asc (fun j hj => HJ.out j (by have := HN.out; omega)))
      have hnl2 : Hid (gs.length ≤ 1048576) := hideP (by rw [← HN.out]; omega)
      go_wp2_with fail
      refine (ascG_any (SRow.below qStable HR.out HB.out) hnl2.out).mono ?_
      rintro e w2 ⟨rfl, hb2⟩
      have B2 := hideP (below_more HB.out hb2 HB.out.size)
      clear hb2
      go_wp2
      go_ret
      exact ⟨retB HE.out.symm, B2.out⟩

theorem beqI (e : Int) : (e == 0) = decide (e = 0) := by by_cases h : e = 0 <;> simp [h]
def spB (g0 g1 g2 g3 g4 : Int) : Bool := glB g0 g1 g2 g3 g4 && decide (0 ≤ g0) && decide (g2 = 0) && decide (g4 = 0)
set_option maxHeartbeats 2000000 in
theorem spaceOk_any (a b c d e : Int) (w : World) : Calls Try.prog 54 #[glueV a b c d e] w fun r w' => r = .returned (.bool (spB a b c d e)) ∧ Below w.heap.size w w' := by
  obtain ⟨r, hr⟩ : ∃ r, r = glB a b c d e := ⟨_, rfl⟩
  have C1 : Hid (∀ W, Calls Try.prog 67 #[glueV a b c d e] W fun e w' => e = .returned (.bool r) ∧ Below W.heap.size W w') := hideP (fun W => by rw [hr]; exact implGlueOk_any _ _ _ _ _ W)
  obtain ⟨R, hR⟩ : ∃ R, R = spB a b c d e := ⟨_, rfl⟩
  have HR : Hid (R = (r && decide (0 ≤ a) && decide (c = 0) && decide (e = 0))) := hideP (by rw [hR, hr]; rfl)
  rw [← hR]
  clear hr hR
  simp only [glueV] at C1 ⊢
  go_enter Try.func54, Try.ntmps54
  go_wp2_with fail
  refine (C1.out _).mono ?_
  rintro x w1 ⟨rfl, hb1⟩
  have hz1 : w.heap.size < w1.heap.size := by have := hb1.size; simp at this; omega
  have B1 : Hid (Below w.heap.size w w1) := hideP (below_more (below1 _ _) hb1 (by simp))
  obtain ⟨hc1, hf1⟩ := bcell hb1
  simp only [World.size_alloc] at hc1 hf1
  clear hb1
  cases r
  · go_wp2
    go_ret
    exact ⟨retB (by rw [HR.out]; simp), B1.out⟩
  · by_cases ha : 0 ≤ a
    · by_cases hcz : c = 0
      · subst hcz
        go_wp2
        go_ret
        exact ⟨retB (by rw [HR.out]; simp [ha, beqI]), B1.out⟩
      · have h1 : (c == 0) = false := by simp [hcz]
        have h2 : decide (c = 0) = false := by simp [hcz]
        go_wp2
        go_ret
        exact ⟨retB (by rw [HR.out]; simp [hcz]), B1.out⟩
    · have h2 : decide (0 ≤ a) = false := by simp; omega
      go_wp2
      go_ret
      exact ⟨retB (by rw [HR.out, h2]; simp), B1.out⟩
end Go.Proofs.Ytggcfgbpameppaa
