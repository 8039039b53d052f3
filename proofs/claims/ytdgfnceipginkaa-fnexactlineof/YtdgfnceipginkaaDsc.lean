/-
  Whether an item is discardable.
-/
import Derived.Test.YtdgfnceipginkaaThq
namespace Go.Proofs.Ytdgfnceipginkaa
open Go.RowKit
set_option linter.unusedVariables false
set_option linter.unusedSimpArgs false

theorem thV_0 (x : Nd) (hk : ¬ (1 ≤ x.k ∧ x.k ≤ 11)) : thV x = .nilIface := by
  unfold thV
  rw [if_neg (by omega), if_neg (by omega), if_neg (by omega), if_neg (by omega), if_neg (by omega), if_neg (by omega), if_neg (by omega), if_neg (by omega), if_neg (by omega), if_neg (by omega), if_neg (by omega)]
theorem ask_space (x : Nd) : ∃ c0 c1 c2 c3 c4 c5 : Int, (∀ W : World, (Instr.typeAssert (thV x) 70 72 true).run Try.prog W = .ok (.tuple #[.agg #[.int .i64 c0, .int .i64 c1, .int .i64 c2, .int .i64 c3, .int .i64 c4, .int .i64 c5], .bool (x.k == 3)]) W) ∧ (x.k = 3 → c0 = x.gs ∧ c1 = x.gp ∧ c2 = x.gpo ∧ c3 = x.gm ∧ c4 = x.gmo ∧ c5 = x.wd) := by
  obtain ⟨k, wd, ht, dp, sh, fo, ch, nn, gs, gp, gpo, gm, gmo, tx, kids⟩ := x
  by_cases hk : 1 ≤ k ∧ k ≤ 11
  · rcases kinds hk.1 hk.2 with rfl | rfl | rfl | rfl | rfl | rfl | rfl | rfl | rfl | rfl | rfl
    · exact ⟨0, 0, 0, 0, 0, 0, fun _ => by kernel_rfl, fun h => absurd h (by simp)⟩
    · exact ⟨0, 0, 0, 0, 0, 0, fun _ => by kernel_rfl, fun h => absurd h (by simp)⟩
    · exact ⟨gs, gp, gpo, gm, gmo, wd, fun _ => by kernel_rfl, fun _ => ⟨rfl, rfl, rfl, rfl, rfl, rfl⟩⟩
    · exact ⟨0, 0, 0, 0, 0, 0, fun _ => by kernel_rfl, fun h => absurd h (by simp)⟩
    · exact ⟨0, 0, 0, 0, 0, 0, fun _ => by kernel_rfl, fun h => absurd h (by simp)⟩
    · exact ⟨0, 0, 0, 0, 0, 0, fun _ => by kernel_rfl, fun h => absurd h (by simp)⟩
    · exact ⟨0, 0, 0, 0, 0, 0, fun _ => by kernel_rfl, fun h => absurd h (by simp)⟩
    · exact ⟨0, 0, 0, 0, 0, 0, fun _ => by kernel_rfl, fun h => absurd h (by simp)⟩
    · exact ⟨0, 0, 0, 0, 0, 0, fun _ => by kernel_rfl, fun h => absurd h (by simp)⟩
    · exact ⟨0, 0, 0, 0, 0, 0, fun _ => by kernel_rfl, fun h => absurd h (by simp)⟩
    · exact ⟨0, 0, 0, 0, 0, 0, fun _ => by kernel_rfl, fun h => absurd h (by simp)⟩
  · exact ⟨0, 0, 0, 0, 0, 0, fun _ => by rw [thV_0 _ hk, show (k == 3) = false by simp; omega]; kernel_rfl, fun h => absurd (show k = 3 from h) (by omega)⟩

theorem ask_kern (x : Nd) : ∃ c0 : Int, (∀ W : World, (Instr.typeAssert (thV x) 70 128 true).run Try.prog W = .ok (.tuple #[.agg #[.int .i64 c0], .bool (x.k == 2)]) W) ∧ (x.k = 2 → c0 = x.wd) := by
  obtain ⟨k, wd, ht, dp, sh, fo, ch, nn, gs, gp, gpo, gm, gmo, tx, kids⟩ := x
  by_cases hk : 1 ≤ k ∧ k ≤ 11
  · rcases kinds hk.1 hk.2 with rfl | rfl | rfl | rfl | rfl | rfl | rfl | rfl | rfl | rfl | rfl
    · exact ⟨0, fun _ => by kernel_rfl, fun h => absurd h (by simp)⟩
    · exact ⟨wd, fun _ => by kernel_rfl, fun _ => rfl⟩
    · exact ⟨0, fun _ => by kernel_rfl, fun h => absurd h (by simp)⟩
    · exact ⟨0, fun _ => by kernel_rfl, fun h => absurd h (by simp)⟩
    · exact ⟨0, fun _ => by kernel_rfl, fun h => absurd h (by simp)⟩
    · exact ⟨0, fun _ => by kernel_rfl, fun h => absurd h (by simp)⟩
    · exact ⟨0, fun _ => by kernel_rfl, fun h => absurd h (by simp)⟩
    · exact ⟨0, fun _ => by kernel_rfl, fun h => absurd h (by simp)⟩
    · exact ⟨0, fun _ => by kernel_rfl, fun h => absurd h (by simp)⟩
    · exact ⟨0, fun _ => by kernel_rfl, fun h => absurd h (by simp)⟩
    · exact ⟨0, fun _ => by kernel_rfl, fun h => absurd h (by simp)⟩
  · exact ⟨0, fun _ => by rw [thV_0 _ hk, show (k == 2) = false by simp; omega]; kernel_rfl, fun h => absurd (show k = 2 from h) (by omega)⟩

theorem ask_pen (x : Nd) : ∃ c0 : Int, (∀ W : World, (Instr.typeAssert (thV x) 70 75 true).run Try.prog W = .ok (.tuple #[.agg #[.int .i64 c0], .bool (x.k == 4)]) W) ∧ (x.k = 4 → c0 = x.nn) := by
  obtain ⟨k, wd, ht, dp, sh, fo, ch, nn, gs, gp, gpo, gm, gmo, tx, kids⟩ := x
  by_cases hk : 1 ≤ k ∧ k ≤ 11
  · rcases kinds hk.1 hk.2 with rfl | rfl | rfl | rfl | rfl | rfl | rfl | rfl | rfl | rfl | rfl
    · exact ⟨0, fun _ => by kernel_rfl, fun h => absurd h (by simp)⟩
    · exact ⟨0, fun _ => by kernel_rfl, fun h => absurd h (by simp)⟩
    · exact ⟨0, fun _ => by kernel_rfl, fun h => absurd h (by simp)⟩
    · exact ⟨nn, fun _ => by kernel_rfl, fun _ => rfl⟩
    · exact ⟨0, fun _ => by kernel_rfl, fun h => absurd h (by simp)⟩
    · exact ⟨0, fun _ => by kernel_rfl, fun h => absurd h (by simp)⟩
    · exact ⟨0, fun _ => by kernel_rfl, fun h => absurd h (by simp)⟩
    · exact ⟨0, fun _ => by kernel_rfl, fun h => absurd h (by simp)⟩
    · exact ⟨0, fun _ => by kernel_rfl, fun h => absurd h (by simp)⟩
    · exact ⟨0, fun _ => by kernel_rfl, fun h => absurd h (by simp)⟩
    · exact ⟨0, fun _ => by kernel_rfl, fun h => absurd h (by simp)⟩
  · exact ⟨0, fun _ => by rw [thV_0 _ hk, show (k == 4) = false by simp; omega]; kernel_rfl, fun h => absurd (show k = 4 from h) (by omega)⟩

theorem thV_shape (x : Nd) : thV x = .nilIface ∨ ∃ X p, thV x = .iface X p := by
  obtain ⟨k, wd, ht, dp, sh, fo, ch, nn, gs, gp, gpo, gm, gmo, tx, kids⟩ := x
  by_cases hk : 1 ≤ k ∧ k ≤ 11
  · rcases kinds hk.1 hk.2 with rfl | rfl | rfl | rfl | rfl | rfl | rfl | rfl | rfl | rfl | rfl
    · exact .inr ⟨_, _, rfl⟩
    · exact .inr ⟨_, _, rfl⟩
    · exact .inr ⟨_, _, rfl⟩
    · exact .inr ⟨_, _, rfl⟩
    · exact .inr ⟨_, _, rfl⟩
    · exact .inr ⟨_, _, rfl⟩
    · exact .inr ⟨_, _, rfl⟩
    · exact .inr ⟨_, _, rfl⟩
    · exact .inr ⟨_, _, rfl⟩
    · exact .inr ⟨_, _, rfl⟩
    · exact .inr ⟨_, _, rfl⟩
  · exact .inl (thV_0 _ hk)

def discB (x : Nd) : Bool := x.k == 3 || (x.k == 2 || x.k == 4)
abbrev itV (x : Nd) (a b : Int) : Value := .agg #[thV x, .int .i64 a, .int .i64 b]

set_option maxHeartbeats 4000000 in
theorem disc_any (x : Nd) (a b : Int) (w : World) : Calls Try.prog 55 #[itV x a b] w fun e w' => e = .returned (.bool (discB x)) ∧ Below w.heap.size w w' := by
  obtain ⟨s0, s1, s2, s3, s4, s5, hs, _⟩ := ask_space x
  obtain ⟨k0, hk, _⟩ := ask_kern x
  obtain ⟨p0, hp, _⟩ := ask_pen x
  have hsh := thV_shape x
  unfold discB
  simp only [itV]
  obtain ⟨v, hv⟩ : ∃ v, v = thV x := ⟨_, rfl⟩
  obtain ⟨b3, h3⟩ : ∃ b, b = (x.k == 3) := ⟨_, rfl⟩
  obtain ⟨b2, h2⟩ : ∃ b, b = (x.k == 2) := ⟨_, rfl⟩
  obtain ⟨b4, h4⟩ : ∃ b, b = (x.k == 4) := ⟨_, rfl⟩
  rw [← hv] at hs hk hp hsh ⊢
  rw [← h3] at hs ⊢
  rw [← h2] at hk ⊢
  rw [← h4] at hp ⊢
  clear hv h3 h2 h4
  rcases hsh with rfl | ⟨X, q, rfl⟩
  all_goals
    cases b3 <;> cases b2 <;> cases b4
  all_goals
    go_enter Try.func55, Try.ntmps55
    go_wp2
    go_ret
    exact ⟨rfl, below1 _ _⟩
end Go.Proofs.Ytdgfnceipginkaa
