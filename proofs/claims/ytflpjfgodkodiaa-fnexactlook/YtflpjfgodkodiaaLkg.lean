/-
  Marks of a meaning that is one's own, and whether they stand.
-/
import Derived.Test.YtflpjfgodkodiaaLkf
import Derived.Test.YtflpjfgodkodiaaMrg
namespace Go.Proofs.Ytflpjfgodkodiaa
open Go.RowKit
set_option linter.unusedVariables false
set_option linter.unusedSimpArgs false

theorem own_mark {base n c : Nat} {w : World} {a : Option Addr} {xs : List Value} (h : w.ownsRow base 31 3 (.slice a n c) n xs) : 0 < n → ∃ g, a = some ⟨g, 0, none⟩ ∧ n ≤ c ∧ base ≤ g ∧ g < w.heap.size ∧ TPart w g c 0 [] := by
  intro h0
  obtain ⟨hl, ⟨e, h1⟩ | ⟨g, cap, cur, e, hg, hb, hn, hm, hs, hr⟩⟩ := h
  · omega
  · simp at e
    obtain ⟨rfl, rfl⟩ := e
    exact ⟨g, rfl, hn, hg, (Array.getElem?_eq_some_iff.1 hb).1, cur, hb, hs, fun i hi => by omega⟩
theorem marked_row {n c k : Nat} {w : World} {a : Option Addr} (h : 0 < n → ∃ g, a = some ⟨g, 0, none⟩ ∧ n ≤ c ∧ TPart w g c n (marks k n)) : TRow w (.slice a n c) (marks k n) := by
  refine ⟨a, n, c, rfl, marks_len k n, fun h0 => ?_⟩
  obtain ⟨g, rfl, hc, hp⟩ := h h0
  have := (hp.on (marks_len k n) hc).row
  obtain ⟨a2, n2, c2, e, hl, hr⟩ := this
  simp at e
  obtain ⟨rfl, rfl, rfl⟩ := e
  exact hr h0

/-- Two rows of one's own, the second behind mid. -/
def TwoOwn (lo mid hi : Nat) (w : World) (a1 : Option Addr) (n1 c1 : Nat) (a2 : Option Addr) (n2 c2 : Nat) : Prop :=
  (0 < n1 → ∃ g, a1 = some ⟨g, 0, none⟩ ∧ n1 ≤ c1 ∧ lo ≤ g ∧ g < mid ∧ TPart w g c1 0 []) ∧ (0 < n2 → ∃ g, a2 = some ⟨g, 0, none⟩ ∧ n2 ≤ c2 ∧ mid ≤ g ∧ g < hi ∧ TPart w g c2 0 [])
theorem TwoOwn.below {lo mid hi n1 c1 n2 c2 : Nat} {w w' : World} {a1 a2 : Option Addr} (h : TwoOwn lo mid hi w a1 n1 c1 a2 n2 c2) (hb : Below w.heap.size w w') : TwoOwn lo mid hi w' a1 n1 c1 a2 n2 c2 := by
  refine ⟨fun h0 => ?_, fun h0 => ?_⟩
  · obtain ⟨g, e, h1, h2, h3, h4⟩ := h.1 h0
    exact ⟨g, e, h1, h2, h3, h4.below hb⟩
  · obtain ⟨g, e, h1, h2, h3, h4⟩ := h.2 h0
    exact ⟨g, e, h1, h2, h3, h4.below hb⟩

set_option maxRecDepth 100000 in
set_option maxHeartbeats 4000000 in
theorem markMacro_o {lo mid hi : Nat} {a1 a2 : Option Addr} {n1 c1 n2 c2 : Nat} {sl : Int} {w : World} (b1 : n1 ≤ 1048576) (b2 : n2 ≤ 1048576) (hlm : lo ≤ mid) (hmh : mid ≤ hi) (hmw : hi ≤ w.heap.size) (h : TwoOwn lo mid hi w a1 n1 c1 a2 n2 c2) :
    Calls Try.prog 32 #[macV (.slice a1 n1 c1) sl (.slice a2 n2 c2), .int .i64 1] w fun e w' => e = .returned (.int .i64 ((1 + 3 * n1 + 3 * n2 : Nat) : Int)) ∧ TRow w' (.slice a1 n1 c1) (marks 1 n1) ∧ TRow w' (.slice a2 n2 c2) (marks (1 + 3 * n1) n2) ∧ Below lo w w' ∧ Abv hi w w' := by
  have HH : Hid (TwoOwn lo mid hi w a1 n1 c1 a2 n2 c2) := h
  clear h
  obtain ⟨W1, hW1⟩ : ∃ W, W = w.alloc (.cells #[.slice a1 n1 c1, .int .i64 sl, .slice a2 n2 c2] 34) := ⟨_, rfl⟩
  have HW1 : Hid (Below w.heap.size w W1 ∧ W1.heap.size = w.heap.size + 1 ∧ W1.cell? ⟨w.heap.size, 2, none⟩ = some (.slice a2 n2 c2)) := by rw [hW1]; exact ⟨below1 w _, by simp, by simp⟩
  have HW : Hid (W1 = w.alloc (.cells #[.slice a1 n1 c1, .int .i64 sl, .slice a2 n2 c2] 34)) := hW1
  clear hW1
  have T1 : Hid (TwoOwn lo mid hi W1 a1 n1 c1 a2 n2 c2) := HH.below HW1.1
  go_enter Try.func32, Try.ntmps32
  go_wp2_with fail
  rw [← show W1 = _ from HW]
  refine (markTokens_any (N := c1) (lo := lo) (hi := mid) 1 (by decide) (by omega) (by rw [HW1.2.1]; omega) T1.1).mono ?_
  rintro e w2 ⟨rfl, ht2, hb2, ha2, hs2⟩
  have m2 : w2.cell? ⟨w.heap.size, 2, none⟩ = some (.slice a2 n2 c2) := by
    rw [World.cell?_of_block (w := W1) (a := ⟨w.heap.size, 2, none⟩) (ha2.block w.heap.size (Nat.le_trans hmh hmw) (by rw [HW1.2.1]; exact Nat.lt_succ_self _))]
    exact HW1.2.2
  have H2 : Hid ((∀ g, 0 < n1 → a1 = some ⟨g, 0, none⟩ → TPart w2 g c1 n1 (marks 1 n1)) ∧ Below lo w w2 ∧ (0 < n2 → ∃ g, a2 = some ⟨g, 0, none⟩ ∧ n2 ≤ c2 ∧ mid ≤ g ∧ g < hi ∧ TPart w2 g c2 0 []) ∧ Abv hi w w2) := by
    refine ⟨ht2, (HW1.1.mono (by omega)).trans hb2, fun h0 => ?_, (Abv.below HW1.1).trans (ha2.mono hmh)⟩
    obtain ⟨g, e, h1, h2, h3, h4⟩ := T1.2 h0
    exact ⟨g, e, h1, h2, h3, h4.congr (ha2.block g h2 h4.lt)⟩
  have hmw2 : mid ≤ w2.heap.size := by have := hb2.size; rw [HW1.2.1] at this; omega
  clear hb2 ha2 hs2 ht2
  obtain ⟨k1, hk1⟩ : ∃ x, x = 1 + 3 * n1 := ⟨_, rfl⟩
  have HK1 : Hid (k1 = 1 + 3 * n1) := hk1
  rw [← hk1]
  have hk1b : 0 < k1 ∧ k1 ≤ 3145729 := by omega
  clear hk1
  go_wp2_with fail
  refine (markTokens_any (N := c2) (lo := mid) (hi := hi) k1 hk1b.1 (by omega) hmw2 H2.2.2.1).mono ?_
  rintro e w3 ⟨rfl, ht3, hb3, ha3, hs3⟩
  have H3 : Hid (TRow w3 (.slice a1 n1 c1) (marks 1 n1) ∧ TRow w3 (.slice a2 n2 c2) (marks k1 n2) ∧ Below lo w w3 ∧ Abv hi w w3) := by
    refine ⟨marked_row (fun h0 => ?_), marked_row (fun h0 => ?_), H2.2.1.trans (hb3.mono hlm), H2.2.2.2.trans ha3⟩
    · obtain ⟨g, e, h1, h2, h3, h4⟩ := HH.1 h0
      exact ⟨g, e, h1, (H2.1 g h0 e).congr (hb3.block g h3)⟩
    · obtain ⟨g, e, h1, h2, h3, h4⟩ := H2.2.2.1 h0
      exact ⟨g, e, h1, ht3 g h0 e⟩
  clear ht3 hb3 ha3 hs3
  go_wp2
  go_ret
  refine ⟨?_, H3.1, by rw [← show k1 = _ from HK1]; exact H3.2.1, H3.2.2⟩
  have e1 : ((1 + 3 * n1 + 3 * n2 : Nat) : Int) = (k1 : Int) + 3 * (n2 : Int) := by have := show k1 = _ from HK1; omega
  have e2 : 1 + 3 * (n1 : Int) + 3 * (n2 : Int) = (k1 : Int) + 3 * (n2 : Int) := by have := show k1 = _ from HK1; omega
  first
    | rw [e1]
    | rw [e2]
  rfl

set_option maxRecDepth 100000 in
set_option maxHeartbeats 4000000 in
theorem markMean_o {lo mid hi : Nat} {a1 a2 : Option Addr} {n1 c1 n2 c2 : Nat} {m : Mn} {w : World} (b1 : n1 ≤ 1048576) (b2 : n2 ≤ 1048576) (hlm : lo ≤ mid) (hmh : mid ≤ hi) (hmw : hi ≤ w.heap.size) (h : TwoOwn lo mid hi w a1 n1 c1 a2 n2 c2) :
    Calls Try.prog 21 #[mnV m (.slice a1 n1 c1) (.slice a2 n2 c2), .int .i64 1] w fun e w' => e = .returned (.int .i64 ((1 + 3 * n1 + 3 * n2 : Nat) : Int)) ∧ TRow w' (.slice a1 n1 c1) (marks 1 n1) ∧ TRow w' (.slice a2 n2 c2) (marks (1 + 3 * n1) n2) ∧ Below lo w w' ∧ Abv hi w w' := by
  have HH : Hid (TwoOwn lo mid hi w a1 n1 c1 a2 n2 c2) := h
  obtain ⟨k, n, t, p, sl, b⟩ := m
  clear h
  obtain ⟨K, hK⟩ : ∃ x, x = 1 + 3 * n1 + 3 * n2 := ⟨_, rfl⟩
  have CM : Hid (∀ W, Below w.heap.size w W → Calls Try.prog 32 #[macV (.slice a1 n1 c1) sl (.slice a2 n2 c2), .int .i64 1] W fun e w' => e = .returned (.int .i64 (K : Int)) ∧ TRow w' (.slice a1 n1 c1) (marks 1 n1) ∧ TRow w' (.slice a2 n2 c2) (marks (1 + 3 * n1) n2) ∧ Below lo W w' ∧ Abv hi W w') := fun W hW => by rw [hK]; exact markMacro_o b1 b2 hlm hmh (Nat.le_trans hmw hW.size) (HH.below hW)
  rw [← hK]
  clear hK
  go_enter Try.func21, Try.ntmps21
  go_wp2_with fail
  refine (CM _ (below1 _ _)).mono ?_
  rintro e w1 ⟨rfl, h1, h2, h3, h4⟩
  have H1 : Hid (TRow w1 (.slice a1 n1 c1) (marks 1 n1) ∧ TRow w1 (.slice a2 n2 c2) (marks (1 + 3 * n1) n2) ∧ Below lo w w1 ∧ Abv hi w w1) := ⟨h1, h2, ((below1 w _).mono (by omega)).trans h3, (Abv.below (below1 w _)).trans h4⟩
  clear h1 h2 h3 h4
  go_wp2
  go_ret
  exact ⟨rfl, H1⟩

set_option maxRecDepth 100000 in
set_option maxHeartbeats 4000000 in
theorem heldMacro_any {a1 a2 : Option Addr} {n1 c1 n2 c2 : Nat} {sl : Int} {w : World} (b1 : n1 ≤ 1048576) (b2 : n2 ≤ 1048576) (h1 : TRow w (.slice a1 n1 c1) (marks 1 n1)) (h2 : TRow w (.slice a2 n2 c2) (marks (1 + 3 * n1) n2)) :
    Calls Try.prog 63 #[macV (.slice a1 n1 c1) sl (.slice a2 n2 c2), .int .i64 1] w fun e w' => e = .returned (.int .i64 ((1 + 3 * n1 + 3 * n2 : Nat) : Int)) ∧ Below w.heap.size w w' := by
  have H1 : Hid (TRow w (.slice a1 n1 c1) (marks 1 n1)) := h1
  have H2 : Hid (TRow w (.slice a2 n2 c2) (marks (1 + 3 * n1) n2)) := h2
  clear h1 h2
  go_enter Try.func63, Try.ntmps63
  go_wp2_with fail
  refine (heldTokens_any (k := 1) (n := n1) (TRow.below H1 (below1 _ _)) (by decide) (by omega)).mono ?_
  rintro e w1 ⟨rfl, hb1⟩
  obtain ⟨hc1, hf1⟩ := bcell hb1
  have hz1 : w.heap.size < w1.heap.size := by have := hb1.size; simp at this; omega
  have B1 : Hid (Below w.heap.size w w1) := (below1 _ _).trans (hb1.mono (by simp))
  clear hb1
  obtain ⟨k1, hk1⟩ : ∃ x, x = 1 + 3 * n1 := ⟨_, rfl⟩
  rw [← hk1] at H2
  rw [← hk1]
  have hk1b : 0 < k1 ∧ k1 ≤ 3145729 := by omega
  have hkn : ¬ (k1 : Int) < 0 := by omega
  have HK1 : Hid (k1 = 1 + 3 * n1) := hk1
  clear hk1
  go_wp2_with fail
  refine (heldTokens_any (k := k1) (n := n2) (TRow.below H2 B1) hk1b.1 (by omega)).mono ?_
  rintro e w2 ⟨rfl, hb2⟩
  have B2 : Hid (Below w.heap.size w w2) := below_more B1 hb2 (Below.size B1)
  clear hb2
  obtain ⟨k2, hk2⟩ : ∃ x, x = k1 + 3 * n2 := ⟨_, rfl⟩
  rw [← hk2]
  have hkn2 : ¬ (k2 : Int) < 0 := by omega
  have HK2 : Hid (k2 = k1 + 3 * n2) := hk2
  clear hk2
  go_wp2
  go_ret
  refine ⟨?_, B2⟩
  have e1 : ((1 + 3 * n1 + 3 * n2 : Nat) : Int) = (k2 : Int) := by have h1 := show k1 = _ from HK1; have h2 := show k2 = _ from HK2; omega
  have e2 : 1 + 3 * (n1 : Int) + 3 * (n2 : Int) = (k2 : Int) := by have h1 := show k1 = _ from HK1; have h2 := show k2 = _ from HK2; omega
  first
    | rw [e1]
    | rw [e2]
  rfl

set_option maxRecDepth 100000 in
set_option maxHeartbeats 4000000 in
theorem heldMean_any {a1 a2 : Option Addr} {n1 c1 n2 c2 : Nat} {m : Mn} {w : World} (b1 : n1 ≤ 1048576) (b2 : n2 ≤ 1048576) (h1 : TRow w (.slice a1 n1 c1) (marks 1 n1)) (h2 : TRow w (.slice a2 n2 c2) (marks (1 + 3 * n1) n2)) :
    Calls Try.prog 22 #[mnV m (.slice a1 n1 c1) (.slice a2 n2 c2), .int .i64 1] w fun e w' => e = .returned (.int .i64 ((1 + 3 * n1 + 3 * n2 : Nat) : Int)) ∧ Below w.heap.size w w' := by
  obtain ⟨k, n, t, p, sl, b⟩ := m
  obtain ⟨K, hK⟩ : ∃ x, x = 1 + 3 * n1 + 3 * n2 := ⟨_, rfl⟩
  have CM : Hid (∀ W, Below w.heap.size w W → Calls Try.prog 63 #[macV (.slice a1 n1 c1) sl (.slice a2 n2 c2), .int .i64 1] W fun e w' => e = .returned (.int .i64 (K : Int)) ∧ Below W.heap.size W w') := fun W hW => by rw [hK]; exact heldMacro_any b1 b2 (TRow.below h1 hW) (TRow.below h2 hW)
  rw [← hK]
  have hkn : ¬ (K : Int) < 0 := by omega
  clear hK h1 h2
  go_enter Try.func22, Try.ntmps22
  go_wp2_with fail
  refine (CM _ (below1 _ _)).mono ?_
  rintro e w1 ⟨rfl, hb1⟩
  have B1 : Hid (Below w.heap.size w w1) := (below1 _ _).trans (hb1.mono (by simp))
  clear hb1
  go_wp2
  go_ret
  exact ⟨rfl, B1⟩
end Go.Proofs.Ytflpjfgodkodiaa
