/-
  The classes of a formula: the program.
-/
import Derived.Test.YtfcfihlkckdmbaaCnt
namespace Go.Proofs.Ytfcfihlkckdmbaa
open Go.RowKit
set_option linter.unusedVariables false
set_option linter.unusedSimpArgs false

/-- The classes that the atoms of a formula count as. -/
def clsL (xs : List At) : List Int := if formB xs = true then count none ((hds xs).map Hd.c) else []

theorem counted_none {a : Option Addr} {c : Nat} {w : World} :
    Calls Try.prog 25 #[.slice a 0 c, .func (.func 26) #[] #[]] w fun e w' => (∃ u, e = .returned u ∧ w'.ownsRow w.heap.size 2 1 u 0 []) ∧ Below w.heap.size w w' := by
  go_enter Try.func25, Try.ntmps25
  go_wp2
  refine wp_loop_rounds 1 ?_
  rw [rounds_succ]
  go_wp2
  go_ret
  exact ⟨⟨_, rfl, ⟨by simp, .inr ⟨_, _, _, rfl, Nat.le_refl _, heap_alloc_new w _, by omega, by decide, rfl, rfl⟩⟩⟩, below1 _ _⟩

theorem own_lower {w : World} {b b' n : Nat} {u : Value} {L : List Value} (h : w.ownsRow b 2 1 u n L) (hb : b' ≤ b) : w.ownsRow b' 2 1 u n L := by
  obtain ⟨h1, h2⟩ := h
  refine ⟨h1, ?_⟩
  rcases h2 with h2 | ⟨g, cap, cur, hv, hg, hr⟩
  · exact .inl h2
  · exact .inr ⟨g, cap, cur, hv, Nat.le_trans hb hg, hr⟩

theorem implClasses_any {ao : Option Addr} {n cap : Nat} {xs : List At} {w : World} (h : ARow 0 w (.slice ao n cap) xs) (hc : n ≤ cap) (hc9 : cap ≤ 1000000000) :
    Calls Try.prog 14 #[.slice ao n cap] w fun e w' => (∃ u, e = .returned u ∧ w'.ownsRow w.heap.size 2 1 u (clsL xs).length ((clsL xs).map (Value.int .i64))) ∧ Below w.heap.size w w' := by
  have C := hideP (checked_any h hc hc9)
  have hln : xs.length = n := by obtain ⟨ao', n', c', he, hl, _⟩ := h; simp only [Value.slice.injEq] at he; rw [hl, ← he.2.1]
  have HF : Hid (formB xs = true → (hds xs).length ≤ 2000) := hideP (fun hf => by
    unfold formB at hf
    simp only [Bool.and_eq_true, decide_eq_true_eq] at hf
    rw [hds_len _ _ (Nat.le_refl _)]
    exact Nat.le_trans (tops_le _ _ (Nat.le_refl _)) hf.1)
  unfold clsL
  obtain ⟨R, hR⟩ : ∃ R, R = formB xs := ⟨_, rfl⟩
  rw [← hR] at C HF ⊢
  clear hR h hln
  go_enter Try.func14, Try.ntmps14
  go_wp2_with fail
  refine C.out.mono ?_
  rintro e w2 ⟨⟨a, l, c, rfl, hh, hh2⟩, hb⟩
  have B2 := hideP hb
  clear hb
  cases R
  · obtain rfl : l = 0 := hh2 rfl
    clear hh hh2
    go_wp2_with fail
    refine counted_none.mono ?_
    rintro e w3 ⟨⟨u, rfl, hu⟩, hb3⟩
    have H3 := hideP (And.intro hu hb3)
    clear hu hb3
    go_wp2
    go_ret
    exact ⟨⟨_, rfl, by simpa using own_lower H3.out.1 B2.out.size⟩, below_more B2.out H3.out.2 B2.out.size⟩
  · have hrow := hh rfl
    have hl : l = (hds xs).length := by
      obtain ⟨a', c', hsl⟩ := hrow.slice
      simp only [Value.slice.injEq] at hsl
      exact hsl.2.1
    have HC := hideP (counted_any hrow hl.symm (by rw [hl]; exact HF.out rfl))
    have HLL := hideP hl
    clear hh hh2 hrow hl
    go_wp2_with fail
    refine HC.out.mono ?_
    rintro e w3 ⟨⟨u, rfl, hu⟩, hb3⟩
    have H3 := hideP (And.intro hu hb3)
    clear hu hb3
    go_wp2
    go_ret
    refine ⟨⟨_, rfl, ?_⟩, below_more B2.out H3.out.2 B2.out.size⟩
    simp only [if_true]
    rw [count_len, List.length_map, ← HLL.out]
    exact own_lower H3.out.1 B2.out.size
end Go.Proofs.Ytfcfihlkckdmbaa
