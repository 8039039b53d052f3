import Derived.Test.YtbpidcfoldkhgaaGreatMok
namespace Go.Proofs.YtbpidcfoldkhgaaGreat
open Go.RowKit
set_option linter.unusedVariables false
set_option linter.unusedSimpArgs false
theorem noTok_ways (c h : Int) (s : ByteArray) : (c = 0 ∧ h = 0 ∧ s.toList = [] ∧ noTok ⟨c, h, s⟩ = true) ∨ (¬ c = 0 ∧ noTok ⟨c, h, s⟩ = false) ∨ (c = 0 ∧ ¬ h = 0 ∧ noTok ⟨c, h, s⟩ = false) ∨ (c = 0 ∧ h = 0 ∧ ¬ s.toList = [] ∧ noTok ⟨c, h, s⟩ = false) := by
 by_cases hc : c = 0
 ·by_cases hh : h = 0
  ·by_cases hs : s.toList = []
   ·exact .inl ⟨hc, hh, hs, noTok_yes hc hh hs⟩
   ·exact .inr (.inr (.inr ⟨hc, hh, hs, noTok_s hs⟩))
  ·exact .inr (.inr (.inl ⟨hc, hh, noTok_h hh⟩))
 ·exact .inr (.inl ⟨hc, noTok_c hc⟩)
theorem noMac_ways (p b : List Tk) (sl : Int) {n1 n2 : Nat} (h1 : p.length = n1) (h2 : b.length = n2) : (n1 = 0 ∧ sl = 0 ∧ n2 = 0 ∧ noMac p sl b = true) ∨ (¬ n1 = 0 ∧ noMac p sl b = false) ∨ (n1 = 0 ∧ ¬ sl = 0 ∧ noMac p sl b = false) ∨ (n1 = 0 ∧ sl = 0 ∧ ¬ n2 = 0 ∧ noMac p sl b = false) := by
 unfold noMac
 by_cases hc : n1 = 0
 ·by_cases hh : sl = 0
  ·by_cases hs : n2 = 0
   ·exact .inl ⟨hc, hh, hs, by simp [hh, h1, h2, hc, hs]⟩
   ·exact .inr (.inr (.inr ⟨hc, hh, hs, by rw [decide_eq_false (by omega)]; rfl⟩))
  ·exact .inr (.inr (.inl ⟨hc, hh, by simp [hh]⟩))
 ·exact .inr (.inl ⟨hc, by rw [decide_eq_false (by omega)]; rfl⟩)
theorem mean_is {k n : Int} {t : Tk} {p b : List Tk} {sl : Int} {nt nm ic mc : Bool} (h1 : noTok t = nt) (h2 : noMac p sl b = nm) (h3 : ic = isCh t) (h4 : mc = macB p sl b) : meanB k n t p sl b =
 if k = 0 then decide (n = 0) && (nt && nm)
 else if k = 1 then decide (1 ≤ n ∧ n ≤ 58) && (nt && nm)
 else if k = 2 then decide (n = 0) && (ic && nm)
 else if k = 3 then decide (n = 0) && (nt && mc)
 else false := by
 unfold meanB; rw [h1, h2, ← h3, ← h4]
end Go.Proofs.YtbpidcfoldkhgaaGreat
