/-
  The walks of the glue functions: what each Go function that tells or adds glues returns.
-/
import Derived.Test.YtbbehmcekbnkiaaFne
import Derived.Test.YtbbehmcekbnkiaaProg
import Derived.WalkKit
import Derived.WalkSpells
import Derived.RowKit3
import Derived.Below
import Derived.Outline
namespace Go.Proofs.Ytbbehmcekbnkiaa
open Go.RowKit
set_option linter.unusedVariables false
set_option linter.unusedSimpArgs false

theorem R4.cell {e base n : Nat} {w : World} {v : Value} (h : R4 e base w v n) : ∃ (g cap : Nat), (0 < n → v = .slice (some ⟨g, 0, none⟩) n cap ∧ g < w.heap.size) ∧ ∀ j, j < n * 4 → ∃ x : Int, w.cell? ⟨g, j, none⟩ = some (.int .i64 x) := by
  obtain ⟨xs, ⟨hl, h⟩, hall⟩ := h
  rcases h with ⟨_, h0⟩ | ⟨g, cap, cur, rfl, _, hb, hn, hm, hs, hx⟩
  · exact ⟨0, 0, fun h => by omega, fun j hj => by omega⟩
  · refine ⟨g, cap, fun _ => ⟨rfl, (Array.getElem?_eq_some_iff.1 hb).1⟩, fun j hj => ?_⟩
    have hjx : j < xs.length := by omega
    obtain ⟨x, hxj⟩ := hall xs[j] (List.getElem_mem hjx)
    refine ⟨x, ?_⟩
    rw [cell_of_row w g j cur e _ hb, ← Array.getElem?_toList]
    have h1 : xs[j]? = some (.int .i64 x) := by rw [List.getElem?_eq_getElem hjx, hxj]
    rw [← hx, List.getElem?_take] at h1
    rw [if_pos (by first | exact hj | omega)] at h1
    exact h1

set_option maxRecDepth 20000 in
set_option maxHeartbeats 4000000 in
theorem glyph_any {nm : ByteArray} {gv pv : Value} {s1 s2 s3 s4 s5 q r : Int} {m base : Nat} (c : Int) (w : World) (h : R4 122 base w gv m) (hm : m ≤ 200) :
    Calls Try.prog 48 #[.agg (ftA nm gv pv s1 s2 s3 s4 s5 q r), .int .i64 c] w fun e w' => ∃ i : Int, e = .returned (.int .i64 i) ∧ -1 ≤ i ∧ i < (m : Int) ∧ Below w.heap.size w w' := by
  obtain ⟨g, cap, hv, hc⟩ := h.cell
  obtain ⟨ga, gc, rfl⟩ := h.shape0
  have HV := hideP hv
  have HC := hideP hc
  clear hv hc h
  have hfc : (w.alloc (.cells (ftA nm (.slice ga m gc) pv s1 s2 s3 s4 s5 q r) 118)).cell? ⟨w.heap.size, 1, none⟩ = some (.slice ga m gc) := cell_of_row _ _ 1 _ 118 _ (heap_alloc_new w _)
  have HB := hideP (below1 w (.cells (ftA nm (.slice ga m gc) pv s1 s2 s3 s4 s5 q r) 118))
  go_enter Try.func48, Try.ntmps48
  go_wp2_with fail
  generalize World.alloc _ _ = W at *
  go_loopw [5, 6, 7] (fun s5 s6 _ wr => wr = W ∧ ∃ lo hi : Nat, lo ≤ hi ∧ hi ≤ m ∧ s5 = .int .i64 (lo : Int) ∧ s6 = .int .i64 (hi : Int)) (fun s5 s6 _ _ => (intOf s6 - intOf s5).toNat)
  case atStart => exact ⟨rfl, 0, m, Nat.zero_le _, Nat.le_refl _, rfl, rfl⟩
  case round =>
    obtain ⟨rfl, lo, hi, hlh, hhm, rfl, rfl⟩ := hrel
    by_cases hlt : lo < hi
    · have hli : (lo : Int) < (hi : Int) := by omega
      obtain ⟨mid, hmid⟩ : ∃ mid : Nat, ((lo : Int) + (hi : Int)) / 2 = (mid : Int) := ⟨(lo + hi) / 2, by omega⟩
      have hm1 : (mid : Int) < (m : Int) := by omega
      have hm0 : mid < m := by omega
      have HM : Hid (lo ≤ mid ∧ mid < hi) := hideP (by omega)
      obtain ⟨hve, hgl⟩ := HV.out (by omega)
      obtain ⟨x, hx⟩ := HC.out (mid * 4) (by omega)
      cases hve
      have hx' := (HB.out.cell (p := ⟨g, mid * 4, none⟩) hgl).trans hx
      go_wp2
      · go_roundw
        case rel => exact ⟨trivial, mid + 1, hi, by have := HM.out; omega, by omega, by go_num, rfl⟩
        case measure => have := HM.out; simp [intOf]; omega
      · go_roundw
        case rel => exact ⟨trivial, lo, mid, by have := HM.out; omega, by omega, rfl, by rw [hmid]⟩
        case measure => have := HM.out; simp [intOf]; omega
    · have hli : ¬ (lo : Int) < (hi : Int) := by omega
      obtain rfl : lo = hi := by omega
      by_cases hlm : lo < m
      · have hlmi : (lo : Int) < (m : Int) := by omega
        obtain ⟨hve, hgl⟩ := HV.out (by omega)
        obtain ⟨x, hx⟩ := HC.out (lo * 4) (by omega)
        cases hve
        have hx' := (HB.out.cell (p := ⟨g, lo * 4, none⟩) hgl).trans hx
        go_wp2
        all_goals go_ret
        all_goals exact ⟨_, rfl, by omega, by omega, HB.out⟩
      · have hlmi : ¬ (lo : Int) < (m : Int) := by omega
        have hlmd : decide ((lo : Int) < (m : Int)) = false := by simp; omega
        go_wp2
        go_ret
        exact ⟨_, rfl, by omega, by omega, HB.out⟩
end Go.Proofs.Ytbbehmcekbnkiaa
namespace Go.Proofs.Ytbbehmcekbnkiaa.Shr
open Go.RowKit
set_option linter.unusedVariables false
set_option linter.unusedSimpArgs false

def fitsB (x : Int) : Bool := decide (-1073741823 ≤ x ∧ x ≤ 1073741823)
def orderB (x : Int) : Bool := decide (0 ≤ x ∧ x ≤ 3)
theorem fits_yes {x : Int} (h1 : -1073741823 ≤ x) (h2 : x ≤ 1073741823) : fitsB x = true := by simp [fitsB, h1, h2]
theorem fits_no {x : Int} (h : ¬ (-1073741823 ≤ x ∧ x ≤ 1073741823)) : fitsB x = false := by simp [fitsB]; omega
theorem order_no {x : Int} (h : ¬ (0 ≤ x ∧ x ≤ 3)) : orderB x = false := by simp [orderB]; omega

theorem specFits_any (x : Int) (w : World) : Calls Try.prog 31 #[.int .i64 x] w fun e w' => e = .returned (.bool (fitsB x)) ∧ w' = w := by
  by_cases h1 : -1073741823 ≤ x
  · by_cases h2 : x ≤ 1073741823
    · rw [fits_yes h1 h2]
      go_enter Try.func31, Try.ntmps31
      go_wp2
      go_ret
      exact ⟨rfl, rfl⟩
    · rw [fits_no (by omega)]
      go_enter Try.func31, Try.ntmps31
      go_wp2
      go_ret
      exact ⟨rfl, rfl⟩
  · rw [fits_no (by omega)]
    go_enter Try.func31, Try.ntmps31
    go_wp2
    go_ret
    exact ⟨rfl, rfl⟩

theorem implFits_any (x : Int) (w : World) : Calls Try.prog 88 #[.int .i64 x] w fun e w' => e = .returned (.bool (fitsB x)) ∧ w' = w := by
  by_cases h1 : -1073741823 ≤ x
  · by_cases h2 : x ≤ 1073741823
    · rw [fits_yes h1 h2]
      go_enter Try.func88, Try.ntmps88
      go_wp2
      go_ret
      exact ⟨rfl, rfl⟩
    · rw [fits_no (by omega)]
      go_enter Try.func88, Try.ntmps88
      go_wp2
      go_ret
      exact ⟨rfl, rfl⟩
  · rw [fits_no (by omega)]
    go_enter Try.func88, Try.ntmps88
    go_wp2
    go_ret
    exact ⟨rfl, rfl⟩

theorem specOrder_any (x : Int) (w : World) : Calls Try.prog 63 #[.int .i64 x] w fun e w' => e = .returned (.bool (orderB x)) ∧ w' = w := by
  by_cases h1 : 0 ≤ x
  · by_cases h2 : x ≤ 3
    · rw [show orderB x = true by simp [orderB, h1, h2]]
      go_enter Try.func63, Try.ntmps63
      go_wp2
      go_ret
      exact ⟨rfl, rfl⟩
    · rw [order_no (by omega)]
      go_enter Try.func63, Try.ntmps63
      go_wp2
      go_ret
      exact ⟨rfl, rfl⟩
  · rw [order_no (by omega)]
    go_enter Try.func63, Try.ntmps63
    go_wp2
    go_ret
    exact ⟨rfl, rfl⟩

theorem implOrder_any (x : Int) (w : World) : Calls Try.prog 94 #[.int .i64 x] w fun e w' => e = .returned (.bool (orderB x)) ∧ w' = w := by
  by_cases h1 : 0 ≤ x
  · by_cases h2 : x ≤ 3
    · rw [show orderB x = true by simp [orderB, h1, h2]]
      go_enter Try.func94, Try.ntmps94
      go_wp2
      go_ret
      exact ⟨rfl, rfl⟩
    · rw [order_no (by omega)]
      go_enter Try.func94, Try.ntmps94
      go_wp2
      go_ret
      exact ⟨rfl, rfl⟩
  · rw [order_no (by omega)]
    go_enter Try.func94, Try.ntmps94
    go_wp2
    go_ret
    exact ⟨rfl, rfl⟩

/-- A glue that can be. -/
def okB (s p po m mo : Int) : Bool := fitsB s && fitsB p && fitsB m && orderB po && orderB mo

abbrev glueV (s p po m mo : Int) : Value := .agg #[.int .i64 s, .int .i64 p, .int .i64 po, .int .i64 m, .int .i64 mo]

theorem specGlueOk_ex (s p po m mo : Int) (w : World) : Calls Try.prog 51 #[glueV s p po m mo] w fun e w' => e = .returned (.bool (okB s p po m mo)) ∧ ∃ c : Array Value, w' = w.alloc (.cells c 30) := by
  unfold okB
  cases h1 : fitsB s <;> cases h2 : fitsB p <;> cases h3 : fitsB m <;> cases h4 : orderB po <;> cases h5 : orderB mo
  all_goals
    go_enter Try.func51, Try.ntmps51
    go_wp2_with (first
      | (go_at_call 31; refine (specFits_any _ _).mono ?_; rintro e w' ⟨rfl, rfl⟩)
      | (go_at_call 63; refine (specOrder_any _ _).mono ?_; rintro e w' ⟨rfl, rfl⟩))
    go_ret
    exact ⟨rfl, _, rfl⟩
theorem specGlueOk_any (s p po m mo : Int) (w : World) : Calls Try.prog 51 #[glueV s p po m mo] w fun e w' => e = .returned (.bool (okB s p po m mo)) ∧ Below w.heap.size w w' := by
  refine (specGlueOk_ex s p po m mo w).mono ?_
  rintro e w' ⟨rfl, c, rfl⟩
  exact ⟨rfl, (Below.refl _ _).alloc (Nat.le_refl _) _⟩

theorem implGlueOk_ex (s p po m mo : Int) (w : World) : Calls Try.prog 93 #[glueV s p po m mo] w fun e w' => e = .returned (.bool (okB s p po m mo)) ∧ ∃ c : Array Value, w' = w.alloc (.cells c 30) := by
  unfold okB
  cases h1 : fitsB s <;> cases h2 : fitsB p <;> cases h3 : fitsB m <;> cases h4 : orderB po <;> cases h5 : orderB mo
  all_goals
    go_enter Try.func93, Try.ntmps93
    go_wp2_with (first
      | (go_at_call 88; refine (implFits_any _ _).mono ?_; rintro e w' ⟨rfl, rfl⟩)
      | (go_at_call 94; refine (implOrder_any _ _).mono ?_; rintro e w' ⟨rfl, rfl⟩))
    go_ret
    exact ⟨rfl, _, rfl⟩
theorem implGlueOk_any (s p po m mo : Int) (w : World) : Calls Try.prog 93 #[glueV s p po m mo] w fun e w' => e = .returned (.bool (okB s p po m mo)) ∧ Below w.heap.size w w' := by
  refine (implGlueOk_ex s p po m mo w).mono ?_
  rintro e w' ⟨rfl, c, rfl⟩
  exact ⟨rfl, (Below.refl _ _).alloc (Nat.le_refl _) _⟩

/-- Behind a call that only made memory, every old cell and every old mark reads as before. -/
theorem bcell {W w1 : World} (hb : Below W.heap.size W w1) : (∀ b o, b < W.heap.size → w1.cell? ⟨b, o, none⟩ = W.cell? ⟨b, o, none⟩) ∧ (∀ b o, b < W.heap.size → w1.frozen? ⟨b, o, none⟩ = W.frozen? ⟨b, o, none⟩) :=
  ⟨fun b o h => hb.cell (p := ⟨b, o, none⟩) h, fun b o h => hb.frozen (p := ⟨b, o, none⟩) h⟩
end Go.Proofs.Ytbbehmcekbnkiaa.Shr
