/-
  How glues share what is wanted, as data; the walks of the small functions under it.
-/
import Derived.Test.YtgfphgbemfmkfaaSumE
import Derived.Test.YtgfphgbemfmkfaaBadS
import Derived.Test.YtgfphgbemfmkfaaDiv
namespace Go.Proofs.Ytgfphgbemfmkfaa
open Go.RowKit
set_option linter.unusedVariables false
set_option linter.unusedSimpArgs false

/-- The highest order whose sum is not 0. -/
def top (xs : List Int) : Nat := if xs.getD 3 0 ≠ 0 then 3 else if xs.getD 2 0 ≠ 0 then 2 else if xs.getD 1 0 ≠ 0 then 1 else 0
theorem top_le (xs : List Int) : top xs ≤ 3 := by unfold top; split <;> (try split) <;> (try split) <;> omega

/-- want times a over have, to the nearest, of at most 2^60. -/
def cutN (want a have_ : Int) : Nat := BigN.near want.natAbs a.natAbs have_.natAbs 1152921504606846976
def cut (want a have_ : Int) : Int := if a < 0 then -(cutN want a have_ : Int) else (cutN want a have_ : Int)
theorem cutN_le (want a have_ : Int) : cutN want a have_ ≤ 1152921504606846976 := BigN.part_le _ _ _
theorem cut_le (want a have_ : Int) : -1152921504606846976 ≤ cut want a have_ ∧ cut want a have_ ≤ 1152921504606846976 := by
  have := cutN_le want a have_
  unfold cut
  split <;> omega
theorem min_near (a b c : Nat) : min (BigN.near a b c (1152921504606846976 + 1)) 1152921504606846976 = BigN.near a b c 1152921504606846976 := by
  unfold BigN.near BigN.part
  split <;> omega

theorem div_all (hi lo y : Nat) (hhy : hi < y) (hl : lo < 18446744073709551616) (hy' : y < 18446744073709551616) : DivAt hi lo y := by
  by_cases h : hi = 0
  · subst h
    exact div_zero lo y hl hhy hy'
  · exact div_high hi lo y (by omega) hhy hl hy'

/-- The program's own cut. -/
theorem scaledCut_any (x num den : Int) (w : World) (hx1 : 0 < x) (hx2 : x ≤ 9223372036854775807) (hn1 : -9223372036854775808 ≤ num) (hn2 : num ≤ 9223372036854775807) (hd1 : 0 < den) (hd2 : den ≤ 9223372036854775807) :
    Calls Try.prog 55 #[.int .i64 x, .int .i64 num, .int .i64 den, .int .i64 1152921504606846976] w fun e w' => (∃ b, e = .returned (.tuple #[.int .i64 (cut x num den), .bool b])) ∧ Below w.heap.size w w' := by
  refine (scaled_any x num den 1152921504606846976 w (by omega) hx2 hn1 hn2 (by omega) hd2 (by omega) (Nat.le_refl _) (fun h => div_all _ _ _ h (Nat.mod_lt _ (by decide)) (by omega))).mono ?_
  rintro e w' ⟨rfl, hb⟩
  have hneg : negB x num den = decide (num < 0) := by
    have h1 : decide (x < 0) = false := decide_eq_false (by omega)
    have h2 : decide (den < 0) = false := decide_eq_false (by omega)
    unfold negB
    rw [h1, h2]
    cases decide (num < 0) <;> rfl
  have hv : (if negB x num den = true then -((min (scaleN x.natAbs num.natAbs den.natAbs 1152921504606846976) 1152921504606846976 : Nat) : Int) else ((min (scaleN x.natAbs num.natAbs den.natAbs 1152921504606846976) 1152921504606846976 : Nat) : Int)) = cut x num den := by
    rw [hneg]
    unfold scaleN
    rw [min_near]
    unfold cut cutN
    by_cases h : num < 0 <;> simp [h]
  exact ⟨⟨_, by rw [hv]⟩, hb⟩

theorem retI {a b : Int} (h : a = b) : Ending.returned (Value.int .i64 a) = Ending.returned (Value.int .i64 b) := by rw [h]

theorem specAbs_any (x : Int) (w : World) (h1 : -9223372036854775808 ≤ x) (h2 : x ≤ 9223372036854775807) :
    Calls Try.prog 50 #[.int .i64 x] w fun e w' => e = .returned (.int .u64 ((x.natAbs : Nat) : Int)) ∧ w' = w := by
  by_cases h : x < 0
  · have e : ((x.natAbs : Nat) : Int) = -(x + 1) + 1 := by omega
    rw [e]
    clear e
    go_enter Try.func50, Try.ntmps50
    go_wp2
    go_ret
    exact ⟨rfl, rfl⟩
  · have e : ((x.natAbs : Nat) : Int) = x := by omega
    rw [e]
    clear e
    go_enter Try.func50, Try.ntmps50
    go_wp2
    go_ret
    exact ⟨rfl, rfl⟩

set_option maxHeartbeats 1000000 in
/-- The specification's cut. -/
theorem specCut_any (x num den : Int) (w : World) (hx1 : 0 < x) (hx2 : x ≤ 9223372036854775807) (hn1 : -9223372036854775807 ≤ num) (hn2 : num ≤ 9223372036854775807) (hd1 : 0 < den) (hd2 : den ≤ 9223372036854775807) :
    Calls Try.prog 35 #[.int .i64 x, .int .i64 num, .int .i64 den] w fun e w' => e = .returned (.int .i64 (cut x num den)) ∧ Below w.heap.size w w' := by
  have hwx : IntKind.u64.wrap x = x := by rw [IntKind.wrap_u64]; omega
  have hwd : IntKind.u64.wrap den = den := by rw [IntKind.wrap_u64]; omega
  have hnear := fun W => near_any x.natAbs num.natAbs den.natAbs 1152921504606846976 W (by omega) (by omega) (by omega) (by omega)
  rw [show ((x.natAbs : Nat) : Int) = x by omega, show ((den.natAbs : Nat) : Int) = den by omega] at hnear
  have HN : Hid (∀ W, Calls Try.prog 49 #[.int .u64 x, .int .u64 ((num.natAbs : Nat) : Int), .int .u64 den, .int .u64 ((1152921504606846976 : Nat) : Int)] W fun e w' => e = .returned (.int .u64 ((BigN.near x.natAbs num.natAbs den.natAbs 1152921504606846976 : Nat) : Int)) ∧ Below W.heap.size W w') := hnear
  clear hnear
  obtain ⟨c, hc⟩ : ∃ c, c = cutN x num den := ⟨_, rfl⟩
  have hcl : c ≤ 1152921504606846976 := by rw [hc]; exact cutN_le _ _ _
  obtain ⟨ci, hci⟩ : ∃ ci : Int, ci = (c : Int) := ⟨_, rfl⟩
  have hci0 : 0 ≤ ci := by omega
  have hci1 : ci ≤ 1152921504606846976 := by omega
  have hwc : IntKind.i64.wrap ci = ci := by rw [IntKind.wrap_i64]; omega
  have HC : Hid (ci = ((cutN x num den : Nat) : Int)) := hci.trans (by rw [hc])
  clear hc hci hcl
  have hneg2 : -ci ≤ 0 := by omega
  go_enter Try.func35, Try.ntmps35
  go_wp2_with fail
  refine (specAbs_any num _ (by omega) hn2).mono ?_
  rintro e w1 ⟨rfl, hw1⟩
  have hw1' := hw1.symm
  clear hw1
  subst hw1'
  go_wp2_with fail
  refine (HN _).mono ?_
  rintro e w2 ⟨rfl, hb2⟩
  rw [show ((BigN.near x.natAbs num.natAbs den.natAbs 1152921504606846976 : Nat) : Int) = ci from (show ci = ((cutN x num den : Nat) : Int) from HC).symm]
  have HB : Hid (Below w.heap.size w w2) := hb2
  clear hb2
  by_cases h : num < 0
  · go_wp2
    go_ret
    refine ⟨?_, HB⟩
    unfold cut
    rw [if_pos h, ← show ci = ((cutN x num den : Nat) : Int) from HC]
    rfl
  · go_wp2
    go_ret
    refine ⟨?_, HB⟩
    unfold cut
    rw [if_neg (by omega), ← show ci = ((cutN x num den : Nat) : Int) from HC]
    rfl

set_option maxHeartbeats 1000000 in
theorem specTop_any {v : Value} {xs : List Int} {w : World} (h : Row w v xs) (hl : xs.length = 4) : Calls Try.prog 33 #[v] w fun e w' => e = .returned (.int .i64 (top xs : Int)) ∧ w' = w := by
  obtain ⟨ao, n, cap, rfl, hn, hr⟩ := h
  obtain rfl : n = 4 := by omega
  obtain ⟨b, off, rfl, hb, hc⟩ := hr (by omega)
  have HC : Hid (∀ i, i < 4 → w.cell? ⟨b, off + i, none⟩ = some (.int .i64 (xs.getD i 0))) := hc
  clear hc hr hn hl
  go_enter Try.func33, Try.ntmps33
  go_wp2
  go_loop [3] (fun i => ∃ k : Nat, k ≤ 3 ∧ i = .int .i64 k ∧ ∀ j, k < j → j ≤ 3 → xs.getD j 0 = 0) (fun i => (intOf i).toNat)
  case atStart => exact ⟨3, by omega, rfl, fun j h1 h2 => by omega⟩
  case round =>
    obtain ⟨k, hk, rfl, hz⟩ := hrel
    have HZ : Hid (∀ j, k < j → j ≤ 3 → xs.getD j 0 = 0) := hz
    clear hz
    by_cases hk0 : 0 < k
    · have hki : (0 : Int) < (k : Int) := by omega
      have hk4 : (k : Int) < 4 := by omega
      obtain ⟨z, hz⟩ : ∃ z, z = xs.getD k 0 := ⟨_, rfl⟩
      have hcell : w.cell? ⟨b, off + k, none⟩ = some (.int .i64 z) := by rw [hz]; exact HC k (by omega)
      have HZZ : Hid (z = xs.getD k 0) := hz
      clear hz
      by_cases hz0 : z = 0
      · go_wp2
        go_round
        case rel =>
          refine ⟨k - 1, by omega, ?_, fun j h1 h2 => ?_⟩
          · rw [show (((k - 1 : Nat)) : Int) = (k : Int) - 1 by omega]
          · by_cases hjk : j = k
            · subst hjk; rw [← show z = xs.getD j 0 from HZZ]; exact hz0
            · exact HZ j (by omega) h2
        case measure => simp [intOf]; omega
      · go_wp2
        go_ret
        refine ⟨retI ?_, rfl⟩
        have hne : xs.getD k 0 ≠ 0 := by rw [← show z = xs.getD k 0 from HZZ]; exact hz0
        have : top xs = k := by
          unfold top
          rcases (show k = 1 ∨ k = 2 ∨ k = 3 by omega) with rfl | rfl | rfl
          · rw [if_neg (by rw [HZ 3 (by omega) (by omega)]; simp), if_neg (by rw [HZ 2 (by omega) (by omega)]; simp), if_pos hne]
          · rw [if_neg (by rw [HZ 3 (by omega) (by omega)]; simp), if_pos hne]
          · rw [if_pos hne]
        rw [this]
    · obtain rfl : k = 0 := by omega
      go_wp2
      go_ret
      refine ⟨retI ?_, rfl⟩
      have : top xs = 0 := by
        unfold top
        rw [if_neg (by rw [HZ 3 (by omega) (by omega)]; simp), if_neg (by rw [HZ 2 (by omega) (by omega)]; simp), if_neg (by rw [HZ 1 (by omega) (by omega)]; simp)]
      rw [this]
      rfl

set_option maxHeartbeats 2000000 in
theorem highest_any (a0 a1 a2 a3 : Int) (w : World) : Calls Try.prog 58 #[.agg #[.int .i64 a0, .int .i64 a1, .int .i64 a2, .int .i64 a3]] w fun e w' =>
    e = .returned (.tuple #[.int .i64 (top [a0, a1, a2, a3] : Int), .int .i64 (([a0, a1, a2, a3] : List Int).getD (top [a0, a1, a2, a3]) 0)]) ∧ Below w.heap.size w w' := by
  obtain ⟨xs, hxs⟩ : ∃ xs : List Int, xs = [a0, a1, a2, a3] := ⟨_, rfl⟩
  have hc : ∀ i, i < 4 → (w.alloc (.cells #[.int .i64 a0, .int .i64 a1, .int .i64 a2, .int .i64 a3] 53)).cell? ⟨w.heap.size, i, none⟩ = some (.int .i64 (xs.getD i 0)) := by
    intro i hi
    rw [hxs, cell_of_row _ w.heap.size i _ 53 (0, 0) (heap_alloc_new w _)]
    rcases (show i = 0 ∨ i = 1 ∨ i = 2 ∨ i = 3 by omega) with rfl | rfl | rfl | rfl <;> rfl
  rw [← hxs]
  have HC : Hid (∀ i, i < 4 → (w.alloc (.cells #[.int .i64 a0, .int .i64 a1, .int .i64 a2, .int .i64 a3] 53)).cell? ⟨w.heap.size, i, none⟩ = some (.int .i64 (xs.getD i 0))) := hc
  clear hc hxs
  have HB : Hid (Below w.heap.size w (w.alloc (.cells #[.int .i64 a0, .int .i64 a1, .int .i64 a2, .int .i64 a3] 53)).drew) := ((Below.refl _ _).alloc (Nat.le_refl _) _).drew
  go_enter Try.func58, Try.ntmps58
  go_wp2
  obtain ⟨W, hW⟩ : ∃ W, W = w.alloc (.cells #[.int .i64 a0, .int .i64 a1, .int .i64 a2, .int .i64 a3] 53) := ⟨_, rfl⟩
  rw [← hW]
  have HC2 : Hid (∀ i, i < 4 → W.cell? ⟨w.heap.size, i, none⟩ = some (.int .i64 (xs.getD i 0))) := by rw [hW]; exact HC
  have HB2 : Hid (Below w.heap.size w W.drew) := by rw [hW]; exact HB
  clear HC HB hW
  go_loop [2] (fun i => ∃ k : Nat, k ≤ 3 ∧ i = .int .i64 k ∧ ∀ j, k < j → j ≤ 3 → xs.getD j 0 = 0) (fun i => (intOf i).toNat)
  case atStart => exact ⟨3, by omega, rfl, fun j h1 h2 => by omega⟩
  case round =>
    obtain ⟨k, hk, rfl, hz⟩ := hrel
    have HZ : Hid (∀ j, k < j → j ≤ 3 → xs.getD j 0 = 0) := hz
    clear hz
    have hk4 : (k : Int) < 4 := by omega
    obtain ⟨z, hz⟩ : ∃ z, z = xs.getD k 0 := ⟨_, rfl⟩
    have hcell : W.cell? ⟨w.heap.size, k, none⟩ = some (.int .i64 z) := by rw [hz]; exact HC2 k (by omega)
    have HZZ : Hid (z = xs.getD k 0) := hz
    clear hz
    have fin : (k = 0 ∨ z ≠ 0) → Hid (top xs = k) := by
      intro hor
      have hne : k ≠ 0 → xs.getD k 0 ≠ 0 := fun h0 => by rw [← show z = xs.getD k 0 from HZZ]; exact hor.resolve_left h0
      show top xs = k
      unfold top
      rcases (show k = 0 ∨ k = 1 ∨ k = 2 ∨ k = 3 by omega) with rfl | rfl | rfl | rfl
      · rw [if_neg (by rw [HZ 3 (by omega) (by omega)]; simp), if_neg (by rw [HZ 2 (by omega) (by omega)]; simp), if_neg (by rw [HZ 1 (by omega) (by omega)]; simp)]
      · rw [if_neg (by rw [HZ 3 (by omega) (by omega)]; simp), if_neg (by rw [HZ 2 (by omega) (by omega)]; simp), if_pos (hne (by omega))]
      · rw [if_neg (by rw [HZ 3 (by omega) (by omega)]; simp), if_pos (hne (by omega))]
      · rw [if_pos (hne (by omega))]
    by_cases hk0 : 0 < k
    · have hki : (0 : Int) < (k : Int) := by omega
      by_cases hz0 : z = 0
      · clear fin
        go_wp2
        go_round
        case rel =>
          refine ⟨k - 1, by omega, ?_, fun j h1 h2 => ?_⟩
          · rw [show (((k - 1 : Nat)) : Int) = (k : Int) - 1 by omega]
          · by_cases hjk : j = k
            · subst hjk; rw [← show z = xs.getD j 0 from HZZ]; exact hz0
            · exact HZ j (by omega) h2
        case measure => simp [intOf]; omega
      · have FIN := fin (Or.inr hz0)
        clear fin
        go_wp2
        go_region
        all_goals (try go_wp2)
        all_goals go_ret2
        all_goals
          refine ⟨?_, HB2⟩
          rw [show top xs = k from FIN, ← show z = xs.getD k 0 from HZZ]
          rfl
    · have FIN := fin (Or.inl (by omega))
      clear fin
      have hki : ¬ (0 : Int) < (k : Int) := by omega
      go_wp2
      go_region
      all_goals (try go_wp2)
      all_goals go_ret2
      all_goals
        refine ⟨?_, HB2⟩
        rw [show top xs = k from FIN, ← show z = xs.getD k 0 from HZZ]
        rfl

/-- How a row was set. -/
structure Sett where
  sign : Int
  order : Int
  want : Int
  have_ : Int
  bad : Int
  over : Int
abbrev setV (a b c d e f : Int) : Value := .agg #[.int .i64 a, .int .i64 b, .int .i64 c, .int .i64 d, .int .i64 e, .int .i64 f]

set_option maxHeartbeats 1000000 in
theorem eqSetting_same (a b c d e f : Int) (w : World) : Calls Try.prog 15 #[setV a b c d e f, setV a b c d e f] w fun e' w' => e' = .returned (.bool true) ∧ Below w.heap.size w w' := by
  go_enter Try.func15, Try.ntmps15
  go_wp2
  go_ret
  exact ⟨rfl, ((Below.refl _ _).alloc (Nat.le_refl _) _).alloc (by simp) _⟩

set_option maxHeartbeats 1000000 in
theorem boundBad_any (a b c d e f : Int) (w : World) (hc : c ≤ 9223372036854775807) (hd : d ≤ 9223372036854775807) :
    Calls Try.prog 59 #[setV a b c d e f] w fun e' w' => e' = .returned (.int .i64 (if 0 < b then 0 else badV c d)) ∧ Below w.heap.size w w' := by
  by_cases h : 0 < b
  · rw [if_pos h]
    go_enter Try.func59, Try.ntmps59
    go_wp2
    go_ret
    exact ⟨rfl, (Below.refl _ _).alloc (Nat.le_refl _) _⟩
  · rw [if_neg h]
    go_enter Try.func59, Try.ntmps59
    go_wp2_with fail
    refine (implBad_any c d _ hc hd).mono ?_
    rintro e' w2 ⟨rfl, hb2⟩
    have HB : Hid (Below w.heap.size w w2) := ((Below.refl _ _).alloc (Nat.le_refl _) _).trans (hb2.mono (by simp))
    clear hb2
    go_wp2
    go_ret
    exact ⟨rfl, HB⟩
end Go.Proofs.Ytgfphgbemfmkfaa
