/-
  Whether a list is a formula: both sides, and the law's walk.
-/
import Derived.Test.YtfcfihlkckdmbaaFof
import Derived.Test.YtfcfihlkckdmbaaSok
namespace Go.Proofs.Ytfcfihlkckdmbaa
open Go.RowKit
set_option linter.unusedVariables false
set_option linter.unusedSimpArgs false

/-- Whether a list of atoms is a formula. -/
def formB (xs : List At) : Bool := decide (xs.length ≤ 2000) && ok xs 0

theorem specFormula_any {ao : Option Addr} {n cap : Nat} {xs : List At} {w : World} (h : ARow 0 w (.slice ao n cap) xs) (hc : n ≤ cap) (hc9 : cap ≤ 1000000000) :
    Calls Try.prog 7 #[.slice ao n cap] w fun e w' => e = .returned (.bool (formB xs)) ∧ Below w.heap.size w w' := by
  have hl : xs.length = n := by obtain ⟨ao', n', c', he, hl, _⟩ := h; simp only [Value.slice.injEq] at he; rw [hl, ← he.2.1]
  unfold formB
  rw [hl]
  by_cases hn : n ≤ 2000
  · have hni : (n : Int) ≤ 2000 := by omega
    have C := hideP (specOk_any n ao n cap xs w 0 (Nat.le_refl _) hc hc9 h hn (by omega))
    obtain ⟨R, hR⟩ : ∃ R, R = ok xs 0 := ⟨_, rfl⟩
    rw [← hR] at C ⊢
    rw [show decide (n ≤ 2000) = true by simp [hn], Bool.true_and]
    have C2 : Hid (Calls Try.prog 19 #[.slice ao n cap, .int .i64 0] w fun e w' => e = .returned (.bool R) ∧ Below w.heap.size w w') := hideP C.out
    clear hR h hl C
    go_enter Try.func7, Try.ntmps7
    go_wp2_with fail
    refine C2.out.mono ?_
    rintro e w2 ⟨rfl, hb⟩
    have B2 := hideP hb
    clear hb
    go_wp2
    go_ret
    exact ⟨rfl, B2.out⟩
  · have hni : ¬ (n : Int) ≤ 2000 := by omega
    rw [show decide (n ≤ 2000) = false by simp [hn], Bool.false_and]
    clear h hl
    go_enter Try.func7, Try.ntmps7
    go_wp2
    go_ret
    exact ⟨rfl, Below.refl _ _⟩

theorem checked_any {ao : Option Addr} {n cap : Nat} {xs : List At} {w : World} (h : ARow 0 w (.slice ao n cap) xs) (hc : n ≤ cap) (hc9 : cap ≤ 1000000000) :
    Calls Try.prog 21 #[.slice ao n cap] w fun e w' => (∃ a l c, e = .returned (.tuple #[.slice a l c, .bool (formB xs)]) ∧ (formB xs = true → HRow w.heap.size w' (.slice a l c) (hds xs)) ∧ (formB xs = false → l = 0)) ∧ Below w.heap.size w w' := by
  have hl : xs.length = n := by obtain ⟨ao', n', c', he, hl, _⟩ := h; simp only [Value.slice.injEq] at he; rw [hl, ← he.2.1]
  have hF : formB xs = (decide (n ≤ 2000) && ok xs 0) := by unfold formB; rw [hl]
  rw [hF]
  by_cases hn : n ≤ 2000
  · have hni : ¬ (2000 : Int) < (n : Int) := by omega
    have C := hideP (formulaOf_any (n + 1) ao n cap xs w 0 (by omega) hc hc9 h hn (by omega))
    obtain ⟨R, hR⟩ : ∃ R, R = ok xs 0 := ⟨_, rfl⟩
    rw [← hR] at C ⊢
    rw [show decide (n ≤ 2000) = true by simp [hn], Bool.true_and]
    have C2 : Hid (Calls Try.prog 30 #[.slice ao n cap, .int .i64 0] w fun e w' => (∃ a l c, e = .returned (.tuple #[.slice a l c, .bool R]) ∧ (R = true → HRow w.heap.size w' (.slice a l c) (hds xs)) ∧ (R = false → l = 0)) ∧ Below w.heap.size w w') := hideP C.out
    have HN := hideP hn
    clear hR h hl C hF
    go_enter Try.func21, Try.ntmps21
    go_wp2_with fail
    refine C2.out.mono ?_
    rintro e w2 ⟨⟨a, l, c, rfl, hh⟩, hb⟩
    have B2 := hideP (And.intro hh hb)
    clear hb hh
    go_wp2
    first | (go_ret2; exact ⟨⟨_, _, _, rfl, B2.out.1.1, B2.out.1.2⟩, B2.out.2⟩) | exact ⟨⟨_, _, _, rfl, B2.out.1.1, B2.out.1.2⟩, B2.out.2⟩
  · have hni : (2000 : Int) < (n : Int) := by omega
    rw [show decide (n ≤ 2000) = false by simp [hn], Bool.false_and]
    clear h hl hF
    go_enter Try.func21, Try.ntmps21
    go_wp2
    first | (go_ret2; exact ⟨⟨none, 0, 0, rfl, fun h => absurd h (by decide), fun _ => rfl⟩, Below.refl _ _⟩) | exact ⟨⟨none, 0, 0, rfl, fun h => absurd h (by decide), fun _ => rfl⟩, Below.refl _ _⟩

theorem implFormula_any {ao : Option Addr} {n cap : Nat} {xs : List At} {w : World} (h : ARow 0 w (.slice ao n cap) xs) (hc : n ≤ cap) (hc9 : cap ≤ 1000000000) :
    Calls Try.prog 9 #[.slice ao n cap] w fun e w' => e = .returned (.bool (formB xs)) ∧ Below w.heap.size w w' := by
  have C := hideP (checked_any h hc hc9)
  obtain ⟨R, hR⟩ : ∃ R, R = formB xs := ⟨_, rfl⟩
  rw [← hR] at C ⊢
  clear hR h
  go_enter Try.func9, Try.ntmps9
  go_wp2_with fail
  refine C.out.mono ?_
  rintro e w2 ⟨⟨a, l, c, rfl, hh, hh2⟩, hb⟩
  have B2 := hideP hb
  clear hb hh hh2
  go_wp2
  go_ret
  exact ⟨rfl, B2.out⟩

set_option maxHeartbeats 4000000 in
theorem lawFormula_any {v : Value} {xs : List At} {w : World} (h : ARow 0 w v xs) (hl63 : xs.length ≤ 9223372036854775807) :
    Calls Try.prog 3 #[v] w fun e w' => e = .returned (.bool true) ∧ Below w.heap.size w w' := by
  have HA := hideP h
  obtain ⟨ao, n, cap, rfl, hl, _⟩ := h
  have hn63 : n ≤ 9223372036854775807 := by rw [← hl]; exact hl63
  have HL := hideP hl
  have CZ : Hid (∀ W, Calls Try.prog 6 #[.slice ao n cap, .int .i64 1048576] W fun e w' => (∃ m : Int, e = .returned (.int .i64 m) ∧ (0 ≤ m → n ≤ 1048576)) ∧ w' = W) := hideP (fun W => szAtoms_any W hn63)
  clear hl hl63
  go_enter Try.func3, Try.ntmps3
  go_wp2_with fail
  refine (CZ.out _).mono ?_
  rintro e w1 ⟨⟨z, rfl, hz⟩, rfl⟩
  by_cases hz0 : z < 0
  · go_wp2
    go_ret
    exact ⟨rfl, Below.refl _ _⟩
  · have hn : n ≤ 1048576 := hz (by omega)
    obtain ⟨R, hR⟩ : ∃ R, R = formB xs := ⟨_, rfl⟩
    have CT : Hid (∀ W, Below w1.heap.size w1 W → Calls Try.prog 8 #[.slice ao n cap] W fun e w' => e = .returned (.slice (some ⟨W.heap.size, 0, none⟩) n n) ∧ ARow W.heap.size w' (.slice (some ⟨W.heap.size, 0, none⟩) n n) xs ∧ Below W.heap.size W w') := hideP (fun W hW => by
      have := toAtoms_any (HA.out.below atStable hW) (by rw [HL.out]; exact hn)
      rw [HL.out] at this
      exact this)
    have CS : Hid (∀ W (p : Nat), ARow 0 W (.slice (some ⟨p, 0, none⟩) n n) xs → Calls Try.prog 7 #[.slice (some ⟨p, 0, none⟩) n n] W fun e w' => e = .returned (.bool R) ∧ Below W.heap.size W w') := hideP (fun W p hp => by rw [hR]; exact specFormula_any hp (Nat.le_refl _) (by omega))
    have CM : Hid (∀ W (p : Nat), ARow 0 W (.slice (some ⟨p, 0, none⟩) n n) xs → Calls Try.prog 9 #[.slice (some ⟨p, 0, none⟩) n n] W fun e w' => e = .returned (.bool R) ∧ Below W.heap.size W w') := hideP (fun W p hp => by rw [hR]; exact implFormula_any hp (Nat.le_refl _) (by omega))
    have CE : Hid (∀ W (p q : Nat), ARow 0 W (.slice (some ⟨p, 0, none⟩) n n) xs → ARow 0 W (.slice (some ⟨q, 0, none⟩) n n) xs → Calls Try.prog 10 #[.slice (some ⟨p, 0, none⟩) n n, .slice (some ⟨q, 0, none⟩) n n] W fun e w' => e = .returned (.bool true) ∧ Below W.heap.size W w') := hideP (fun W p q h1 h2 => eqAtoms_same h1 h2 (by rw [HL.out]; exact hn))
    clear hR hz
    go_wp2_with fail
    refine (CT.out _ (Below.refl _ _)).mono ?_
    rintro e w2 ⟨rfl, hr2, hb2⟩
    have H2 := hideP (And.intro (hr2.mono atStable (Nat.zero_le _)) hb2)
    clear hr2 hb2
    go_wp2_with fail
    refine (CS.out _ _ H2.out.1).mono ?_
    rintro e w3 ⟨rfl, hb3⟩
    have H3 := hideP (below_more H2.out.2 hb3 H2.out.2.size)
    clear hb3
    go_wp2_with fail
    refine (CT.out _ H3.out).mono ?_
    rintro e w4 ⟨rfl, hr4, hb4⟩
    have H4 := hideP (And.intro (hr4.mono atStable (Nat.zero_le _)) (below_more H3.out hb4 H3.out.size))
    clear hr4 hb4
    go_wp2_with fail
    refine (CM.out _ _ H4.out.1).mono ?_
    rintro e w5 ⟨rfl, hb5⟩
    have H5 := hideP (And.intro (H4.out.1.below atStable hb5) (below_more H4.out.2 hb5 H4.out.2.size))
    clear hb5
    have hRR : (R != R) = false := by simp
    have hRS : (R == R) = true := by simp
    go_wp2_with fail
    refine (CT.out _ H5.out.2).mono ?_
    rintro e w6 ⟨rfl, hr6, hb6⟩
    have H6 := hideP (And.intro (hr6.mono atStable (Nat.zero_le _)) (And.intro (H5.out.1.below atStable hb6) (below_more H5.out.2 hb6 H5.out.2.size)))
    clear hr6 hb6
    go_wp2_with fail
    refine (CE.out _ _ _ H6.out.2.1 H6.out.1).mono ?_
    rintro e w7 ⟨rfl, hb7⟩
    have H7 := hideP (below_more H6.out.2.2 hb7 H6.out.2.2.size)
    clear hb7
    go_wp2
    go_ret
    exact ⟨rfl, H7.out⟩
end Go.Proofs.Ytfcfihlkckdmbaa
