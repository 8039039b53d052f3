/-
  Where a page or a line may end: the program.
-/
import Derived.Test.YtjagagbelpihbaaThq
import Derived.Test.YtjagagbelpihbaaNds
import Derived.RegionTactic
import Derived.ChangeAlike
namespace Go.Proofs.Ytjagagbelpihbaa
open Go.RowKit
set_option linter.unusedVariables false
set_option linter.unusedSimpArgs false

theorem thV_0 (x : Nd) (hk : ¬ (1 ≤ x.k ∧ x.k ≤ 11)) : thV x = .nilIface := by
  unfold thV
  rw [if_neg (by omega), if_neg (by omega), if_neg (by omega), if_neg (by omega), if_neg (by omega), if_neg (by omega), if_neg (by omega), if_neg (by omega), if_neg (by omega), if_neg (by omega), if_neg (by omega)]
theorem ask_space (x : Nd) : ∃ c0 c1 c2 c3 c4 c5 : Int, (∀ W : World, (Instr.typeAssert (thV x) 64 117 true).run Try.prog W = .ok (.tuple #[.agg #[.int .i64 c0, .int .i64 c1, .int .i64 c2, .int .i64 c3, .int .i64 c4, .int .i64 c5], .bool (x.k == 3)]) W) ∧ (x.k = 3 → c0 = x.gs ∧ c1 = x.gp ∧ c2 = x.gpo ∧ c3 = x.gm ∧ c4 = x.gmo ∧ c5 = x.wd) := by
  obtain ⟨k, wd, ht, dp, sh, fo, ch, nn, gs, gp, gpo, gm, gmo, tx, kids⟩ := x
  by_cases hk : 1 ≤ k ∧ k ≤ 11
  · rcases kinds hk.1 hk.2 with rfl | rfl | rfl | rfl | rfl | rfl | rfl | rfl | rfl | rfl | rfl
    · exact ⟨0, 0, 0, 0, 0, 0, fun _ => by kernel_rfl, fun h => absurd h (by simp)⟩
    · exact ⟨0, 0, 0, 0, 0, 0, fun _ => by kernel_rfl, fun h => absurd h (by simp)⟩
    · exact ⟨gs, gp, gpo, gm, gmo, wd, fun _ => by kernel_rfl, fun _ => ⟨rfl, rfl, rfl, rfl, rfl, rfl⟩⟩
    · exact ⟨0, 0, 0, 0, 0, 0, fun _ => by kernel_rfl, fun h => absurd h (by simp)⟩
    · exact ⟨0, 0, 0, 0, 0, 0, fun _ => by kernel_rfl, fun h => absurd h (by simp)⟩
    · exact ⟨0, 0, 0, 0, 0, 0, fun _ => by kernel_rfl, fun h => absurd h (by simp)⟩
    · exact ⟨0, 0, 0, 0, 0, 0, fun _ => by kernel_rfl, fun h => absurd h (by simp)⟩
    · exact ⟨0, 0, 0, 0, 0, 0, fun _ => by kernel_rfl, fun h => absurd h (by simp)⟩
    · exact ⟨0, 0, 0, 0, 0, 0, fun _ => by kernel_rfl, fun h => absurd h (by simp)⟩
    · exact ⟨0, 0, 0, 0, 0, 0, fun _ => by kernel_rfl, fun h => absurd h (by simp)⟩
    · exact ⟨0, 0, 0, 0, 0, 0, fun _ => by kernel_rfl, fun h => absurd h (by simp)⟩
  · exact ⟨0, 0, 0, 0, 0, 0, fun _ => by rw [thV_0 _ hk, show (k == 3) = false by simp; omega]; kernel_rfl, fun h => absurd (show k = 3 from h) (by omega)⟩

theorem ask_kern (x : Nd) : ∃ c0 : Int, (∀ W : World, (Instr.typeAssert (thV x) 64 115 true).run Try.prog W = .ok (.tuple #[.agg #[.int .i64 c0], .bool (x.k == 2)]) W) ∧ (x.k = 2 → c0 = x.wd) := by
  obtain ⟨k, wd, ht, dp, sh, fo, ch, nn, gs, gp, gpo, gm, gmo, tx, kids⟩ := x
  by_cases hk : 1 ≤ k ∧ k ≤ 11
  · rcases kinds hk.1 hk.2 with rfl | rfl | rfl | rfl | rfl | rfl | rfl | rfl | rfl | rfl | rfl
    · exact ⟨0, fun _ => by kernel_rfl, fun h => absurd h (by simp)⟩
    · exact ⟨wd, fun _ => by kernel_rfl, fun _ => rfl⟩
    · exact ⟨0, fun _ => by kernel_rfl, fun h => absurd h (by simp)⟩
    · exact ⟨0, fun _ => by kernel_rfl, fun h => absurd h (by simp)⟩
    · exact ⟨0, fun _ => by kernel_rfl, fun h => absurd h (by simp)⟩
    · exact ⟨0, fun _ => by kernel_rfl, fun h => absurd h (by simp)⟩
    · exact ⟨0, fun _ => by kernel_rfl, fun h => absurd h (by simp)⟩
    · exact ⟨0, fun _ => by kernel_rfl, fun h => absurd h (by simp)⟩
    · exact ⟨0, fun _ => by kernel_rfl, fun h => absurd h (by simp)⟩
    · exact ⟨0, fun _ => by kernel_rfl, fun h => absurd h (by simp)⟩
    · exact ⟨0, fun _ => by kernel_rfl, fun h => absurd h (by simp)⟩
  · exact ⟨0, fun _ => by rw [thV_0 _ hk, show (k == 2) = false by simp; omega]; kernel_rfl, fun h => absurd (show k = 2 from h) (by omega)⟩

theorem ask_pen (x : Nd) : ∃ c0 : Int, (∀ W : World, (Instr.typeAssert (thV x) 64 119 true).run Try.prog W = .ok (.tuple #[.agg #[.int .i64 c0], .bool (x.k == 4)]) W) ∧ (x.k = 4 → c0 = x.nn) := by
  obtain ⟨k, wd, ht, dp, sh, fo, ch, nn, gs, gp, gpo, gm, gmo, tx, kids⟩ := x
  by_cases hk : 1 ≤ k ∧ k ≤ 11
  · rcases kinds hk.1 hk.2 with rfl | rfl | rfl | rfl | rfl | rfl | rfl | rfl | rfl | rfl | rfl
    · exact ⟨0, fun _ => by kernel_rfl, fun h => absurd h (by simp)⟩
    · exact ⟨0, fun _ => by kernel_rfl, fun h => absurd h (by simp)⟩
    · exact ⟨0, fun _ => by kernel_rfl, fun h => absurd h (by simp)⟩
    · exact ⟨nn, fun _ => by kernel_rfl, fun _ => rfl⟩
    · exact ⟨0, fun _ => by kernel_rfl, fun h => absurd h (by simp)⟩
    · exact ⟨0, fun _ => by kernel_rfl, fun h => absurd h (by simp)⟩
    · exact ⟨0, fun _ => by kernel_rfl, fun h => absurd h (by simp)⟩
    · exact ⟨0, fun _ => by kernel_rfl, fun h => absurd h (by simp)⟩
    · exact ⟨0, fun _ => by kernel_rfl, fun h => absurd h (by simp)⟩
    · exact ⟨0, fun _ => by kernel_rfl, fun h => absurd h (by simp)⟩
    · exact ⟨0, fun _ => by kernel_rfl, fun h => absurd h (by simp)⟩
  · exact ⟨0, fun _ => by rw [thV_0 _ hk, show (k == 4) = false by simp; omega]; kernel_rfl, fun h => absurd (show k = 4 from h) (by omega)⟩

theorem ask_note (x : Nd) : ∃ c0 c1 c2 : Int, (∀ W : World, (Instr.typeAssert (thV x) 64 129 true).run Try.prog W = .ok (.tuple #[.agg #[.int .i64 c0, .int .i64 c1, .int .i64 c2], .bool (x.k == 11)]) W) ∧ (x.k = 11 → c0 = x.nn ∧ c1 = x.ht ∧ c2 = x.kids) := by
  obtain ⟨k, wd, ht, dp, sh, fo, ch, nn, gs, gp, gpo, gm, gmo, tx, kids⟩ := x
  by_cases hk : 1 ≤ k ∧ k ≤ 11
  · rcases kinds hk.1 hk.2 with rfl | rfl | rfl | rfl | rfl | rfl | rfl | rfl | rfl | rfl | rfl
    · exact ⟨0, 0, 0, fun _ => by kernel_rfl, fun h => absurd h (by simp)⟩
    · exact ⟨0, 0, 0, fun _ => by kernel_rfl, fun h => absurd h (by simp)⟩
    · exact ⟨0, 0, 0, fun _ => by kernel_rfl, fun h => absurd h (by simp)⟩
    · exact ⟨0, 0, 0, fun _ => by kernel_rfl, fun h => absurd h (by simp)⟩
    · exact ⟨0, 0, 0, fun _ => by kernel_rfl, fun h => absurd h (by simp)⟩
    · exact ⟨0, 0, 0, fun _ => by kernel_rfl, fun h => absurd h (by simp)⟩
    · exact ⟨0, 0, 0, fun _ => by kernel_rfl, fun h => absurd h (by simp)⟩
    · exact ⟨0, 0, 0, fun _ => by kernel_rfl, fun h => absurd h (by simp)⟩
    · exact ⟨0, 0, 0, fun _ => by kernel_rfl, fun h => absurd h (by simp)⟩
    · exact ⟨0, 0, 0, fun _ => by kernel_rfl, fun h => absurd h (by simp)⟩
    · exact ⟨nn, ht, kids, fun _ => by kernel_rfl, fun _ => ⟨rfl, rfl, rfl⟩⟩
  · exact ⟨0, 0, 0, fun _ => by rw [thV_0 _ hk, show (k == 11) = false by simp; omega]; kernel_rfl, fun h => absurd (show k = 11 from h) (by omega)⟩

theorem thV_shape (x : Nd) : thV x = .nilIface ∨ ∃ X p, thV x = .iface X p := by
  obtain ⟨k, wd, ht, dp, sh, fo, ch, nn, gs, gp, gpo, gm, gmo, tx, kids⟩ := x
  by_cases hk : 1 ≤ k ∧ k ≤ 11
  · rcases kinds hk.1 hk.2 with rfl | rfl | rfl | rfl | rfl | rfl | rfl | rfl | rfl | rfl | rfl
    · exact .inr ⟨_, _, rfl⟩
    · exact .inr ⟨_, _, rfl⟩
    · exact .inr ⟨_, _, rfl⟩
    · exact .inr ⟨_, _, rfl⟩
    · exact .inr ⟨_, _, rfl⟩
    · exact .inr ⟨_, _, rfl⟩
    · exact .inr ⟨_, _, rfl⟩
    · exact .inr ⟨_, _, rfl⟩
    · exact .inr ⟨_, _, rfl⟩
    · exact .inr ⟨_, _, rfl⟩
    · exact .inr ⟨_, _, rfl⟩
  · exact .inl (thV_0 _ hk)
end Go.Proofs.Ytjagagbelpihbaa

namespace Go.Proofs.Ytjagagbelpihbaa
open Go.RowKit
set_option linter.unusedVariables false
set_option linter.unusedSimpArgs false

def discB (x : Nd) : Bool := x.k == 3 || (x.k == 2 || x.k == 4)
abbrev itV (x : Nd) (a b : Int) : Value := .agg #[thV x, .int .i64 a, .int .i64 b]

set_option maxHeartbeats 4000000 in
theorem disc_any (x : Nd) (a b : Int) (w : World) : Calls Try.prog 83 #[itV x a b] w fun e w' => e = .returned (.bool (discB x)) ∧ Below w.heap.size w w' := by
  obtain ⟨s0, s1, s2, s3, s4, s5, hs, _⟩ := ask_space x
  obtain ⟨k0, hk, _⟩ := ask_kern x
  obtain ⟨p0, hp, _⟩ := ask_pen x
  have hsh := thV_shape x
  unfold discB
  simp only [itV]
  obtain ⟨v, hv⟩ : ∃ v, v = thV x := ⟨_, rfl⟩
  obtain ⟨b3, h3⟩ : ∃ b, b = (x.k == 3) := ⟨_, rfl⟩
  obtain ⟨b2, h2⟩ : ∃ b, b = (x.k == 2) := ⟨_, rfl⟩
  obtain ⟨b4, h4⟩ : ∃ b, b = (x.k == 4) := ⟨_, rfl⟩
  rw [← hv] at hs hk hp hsh ⊢
  rw [← h3] at hs ⊢
  rw [← h2] at hk ⊢
  rw [← h4] at hp ⊢
  clear hv h3 h2 h4
  rcases hsh with rfl | ⟨X, q, rfl⟩
  all_goals
    cases b3 <;> cases b2 <;> cases b4
  all_goals
    go_enter Try.func83, Try.ntmps83
    go_wp2
    go_ret
    exact ⟨rfl, below1 _ _⟩
end Go.Proofs.Ytjagagbelpihbaa

namespace Go.Proofs.Ytjagagbelpihbaa
open Go.RowKit
set_option linter.unusedVariables false
set_option linter.unusedSimpArgs false

abbrev It := Nd × Int × Int
abbrev It.none : It := (Nd.none, 0, 0)
/-- A row of items: what each is, and where its nodes begin and end. -/
structure ItR (w : World) (B : Nat) (ys : List It) : Prop where
  c0 : ∀ i, i < ys.length → w.cell? ⟨B, i * 3, none⟩ = some (thV (ys.getD i It.none).1)
  c1 : ∀ i, i < ys.length → w.cell? ⟨B, i * 3 + 1, none⟩ = some (.int .i64 (ys.getD i It.none).2.1)
  c2 : ∀ i, i < ys.length → w.cell? ⟨B, i * 3 + 2, none⟩ = some (.int .i64 (ys.getD i It.none).2.2)
def brkB (ys : List It) (a : Nat) : Bool :=
  if (ys.getD a It.none).1.k = 3 then decide (0 < a) && !discB (ys.getD (a - 1) It.none).1
  else if (ys.getD a It.none).1.k = 4 then decide ((ys.getD a It.none).1.nn < 10000) else false

set_option maxRecDepth 20000 in
set_option maxHeartbeats 8000000 in
theorem breakAt_any {w : World} {B cap n : Nat} {ys : List It} (a : Nat) (h : ItR w B ys) (hl : ys.length = n) (hB : B < w.heap.size) (ha : a < n) (hn : n ≤ 20000) :
    Calls Try.prog 68 #[.slice (some ⟨B, 0, none⟩) n cap, .int .i64 (a : Int)] w fun e w' => (∃ c : Int, e = .returned (.tuple #[.int .i64 c, .bool (brkB ys a)])) ∧ Below w.heap.size w w' := by
  have ha' : a < ys.length := by omega
  have hai : (a : Int) < (n : Int) := by omega
  have g0 := h.c0 a ha'
  obtain ⟨x, hx⟩ : ∃ x, x = (ys.getD a It.none).1 := ⟨_, rfl⟩
  rw [← hx] at g0
  obtain ⟨s0, s1, s2, s3, s4, s5, hs, _⟩ := ask_space x
  obtain ⟨p0, hp, hpn⟩ := ask_pen x
  have hsh := thV_shape x
  obtain ⟨R, hR⟩ : ∃ R, R = brkB ys a := ⟨_, rfl⟩
  rw [← hR]
  unfold brkB at hR
  rw [← hx] at hR
  have HR := hideP hR
  clear hR
  obtain ⟨v, hv⟩ : ∃ v, v = thV x := ⟨_, rfl⟩
  rw [← hv] at hs hp hsh g0
  clear hv
  by_cases h3 : x.k = 3
  · rw [show (x.k == 3) = true by simp [h3]] at hs
    by_cases h0 : a = 0
    · subst h0
      have HE : Hid (R = false) := hideP (by rw [HR.out, if_pos h3]; rfl)
      clear hp hpn h3 hx
      rcases hsh with rfl | ⟨X, q, rfl⟩
      all_goals
        go_enter Try.func68, Try.ntmps68
        go_wp2
        refine bodyPost_ret (v := .tuple #[.int .i64 0, .bool false]) (by simp [results, Try.results68, go_sem]) rfl ⟨⟨_, by rw [HE.out]⟩, ?_⟩
        repeat (first | with_reducible exact below1 _ _ | with_reducible exact below2 _ _ _ | (with_reducible refine Below.setCell ?_ ?_ _; rotate_left; focus (first | (simp; done) | (simp; omega))))
    · have hap : (0 : Int) < (a : Int) := by omega
      obtain ⟨d, hd⟩ : ∃ d, d = a - 1 := ⟨_, rfl⟩
      have hd' : d < ys.length := by omega
      have k0 := h.c0 d hd'
      have k1 := h.c1 d hd'
      have k2 := h.c2 d hd'
      obtain ⟨y, hy⟩ : ∃ y, y = ys.getD d It.none := ⟨_, rfl⟩
      rw [← hy] at k0 k1 k2
      obtain ⟨y, ya, ye⟩ := y
      simp only at k0 k1 k2
      have HE : Hid (R = !discB y) := hideP (by rw [HR.out, if_pos h3, ← hd, ← hy, decide_eq_true (by omega)]; rfl)
      have DC : Hid (∀ W, Calls Try.prog 83 #[.agg #[thV y, .int .i64 ya, .int .i64 ye]] W fun e w' => e = .returned (.bool (discB y)) ∧ Below W.heap.size W w') := hideP (fun W => disc_any y ya ye W)
      obtain ⟨vy, hvy⟩ : ∃ v, v = thV y := ⟨_, rfl⟩
      obtain ⟨dy, hdy⟩ : ∃ v, v = discB y := ⟨_, rfl⟩
      rw [← hvy] at k0 DC
      rw [← hdy] at DC HE
      have hone : vy.oneCell' = true := by
        rw [hvy]
        rcases thV_shape y with h | ⟨X, q, h⟩ <;> rw [h] <;> rfl
      have hdi : ((a : Int) - 1) = (d : Int) := by omega
      have hdn : (d : Int) < (n : Int) := by omega
      have hwd : IntKind.i64.wrap ((a : Int) - 1) = (d : Int) := by rw [IntKind.wrap_i64]; omega
      clear hvy hdy hy hp hpn h3 hx hd h
      rcases hsh with rfl | ⟨X, q, rfl⟩
      all_goals
        go_enter Try.func68, Try.ntmps68
        go_wp2_with fail
        refine (DC.out _).mono ?_
        rintro e w2 ⟨rfl, hb2⟩
        have BY : Hid (Below w.heap.size w w2) := hideP (below_more (below1 _ _) hb2 (by simp))
        clear hb2
        go_wp2
        refine bodyPost_ret (v := .tuple #[.int .i64 0, .bool (!dy)]) (by simp [results, Try.results68, go_sem]) rfl ⟨⟨_, by rw [HE.out]⟩, BY.out⟩
  · rw [show (x.k == 3) = false by simp [h3]] at hs
    by_cases h4 : x.k = 4
    · rw [show (x.k == 4) = true by simp [h4]] at hp
      have HE : Hid (R = decide (p0 < 10000)) := hideP (by rw [HR.out, if_neg h3, if_pos h4, hpn h4])
      clear hpn h3 hx h4 h
      rcases hsh with rfl | ⟨X, q, rfl⟩
      all_goals
        go_enter Try.func68, Try.ntmps68
        go_wp2
        go_region
        go_wp2
        refine bodyPost_ret (v := .tuple #[.int .i64 p0, .bool (decide (p0 < 10000))]) (by simp [results, Try.results68, go_sem]) rfl ⟨⟨_, by rw [HE.out]⟩, ?_⟩
        exact Below.drew (below1 _ _)
    · rw [show (x.k == 4) = false by simp [h4]] at hp
      have HE : Hid (R = false) := hideP (by rw [HR.out, if_neg h3, if_neg h4])
      clear hpn h3 hx h4 h
      rcases hsh with rfl | ⟨X, q, rfl⟩
      all_goals
        go_enter Try.func68, Try.ntmps68
        go_wp2
        refine bodyPost_ret (v := .tuple #[.int .i64 0, .bool false]) (by simp [results, Try.results68, go_sem]) rfl ⟨⟨_, by rw [HE.out]⟩, Below.refl _ _⟩
end Go.Proofs.Ytjagagbelpihbaa
