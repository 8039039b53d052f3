/-
  Rows that ascend: the comparisons of glyphs and of pairs.
-/
import Derived.Test.YtggcfgbpameppaaFnt
import Derived.Deep.RegionHeld3
namespace Go.Proofs.Ytggcfgbpameppaa
open Go.RowKit
set_option linter.unusedVariables false
set_option linter.unusedSimpArgs false

theorem nan_any (a : Int) (w : World) : Calls Try.prog 72 #[.int .i64 a] w fun e w' => e = .returned (.bool false) ∧ w' = w := by
  go_enter Try.func72, Try.ntmps72
  go_wp2
  go_ret
  exact ⟨rfl, rfl⟩
def cmpN (a b : Int) : Int := if a < b then -1 else if b < a then 1 else 0
theorem cmpN_ge (a b : Int) : decide (0 ≤ cmpN a b) = !decide (a < b) := by
  unfold cmpN
  by_cases h : a < b
  · simp [h]
  · simp only [h, if_false]
    split <;> simp
theorem cmpN_zero (a b : Int) : cmpN a b = 0 ↔ a = b := by
  unfold cmpN
  by_cases h : a < b
  · simp [h]; omega
  · by_cases h2 : b < a
    · simp [h, h2]; omega
    · simp [h, h2]; omega
set_option maxHeartbeats 1000000 in
theorem cmpI_any (a b : Int) (w : World) : Calls Try.prog 68 #[.int .i64 a, .int .i64 b] w fun e w' => e = .returned (.int .i64 (cmpN a b)) ∧ w' = w := by
  by_cases h1 : a < b
  · rw [show cmpN a b = -1 by simp [cmpN, h1]]
    go_enter Try.func68, Try.ntmps68
    go_wp2_with (go_at_call 72; refine (nan_any _ _).mono ?_; rintro e w2 ⟨rfl, rfl⟩)
    go_ret
    exact ⟨rfl, rfl⟩
  · by_cases h2 : b < a
    · rw [show cmpN a b = 1 by simp [cmpN, h1, h2]]
      go_enter Try.func68, Try.ntmps68
      go_wp2_with (go_at_call 72; refine (nan_any _ _).mono ?_; rintro e w2 ⟨rfl, rfl⟩)
      go_ret
      exact ⟨rfl, rfl⟩
    · rw [show cmpN a b = 0 by simp [cmpN, h1, h2]]
      go_enter Try.func68, Try.ntmps68
      go_wp2_with (go_at_call 72; refine (nan_any _ _).mono ?_; rintro e w2 ⟨rfl, rfl⟩)
      go_ret
      exact ⟨rfl, rfl⟩

theorem cmpG_any (a b c d a' b' c' d' : Int) (w : World) : Calls Try.prog 63 #[.agg #[.int .i64 a, .int .i64 b, .int .i64 c, .int .i64 d], .agg #[.int .i64 a', .int .i64 b', .int .i64 c', .int .i64 d']] w fun e w' => e = .returned (.int .i64 (cmpN a a')) ∧ Below w.heap.size w w' := by
  go_enter Try.func63, Try.ntmps63
  go_wp2_with (go_at_call 68; refine (cmpI_any _ _ _).mono ?_; rintro e w2 ⟨rfl, rfl⟩)
  go_ret
  exact ⟨rfl, below2 _ _ _⟩

theorem retI {a b : Int} (h : a = b) : Ending.returned (Value.int .i64 a) = Ending.returned (Value.int .i64 b) := by rw [h]
def orC (x y : Int) : Int := if x = 0 then y else x
set_option maxHeartbeats 1000000 in
theorem or_any {g cap : Nat} {x y : Int} {w : World} (c0 : w.cell? ⟨g, 0, none⟩ = some (.int .i64 x)) (c1 : w.cell? ⟨g, 1, none⟩ = some (.int .i64 y)) :
    Calls Try.prog 69 #[.slice (some ⟨g, 0, none⟩) 2 cap] w fun e w' => e = .returned (.int .i64 (orC x y)) ∧ w' = w := by
  go_enter Try.func69, Try.ntmps69
  go_wp2
  go_loopw [8] (fun i wr => ∃ k : Nat, k ≤ 2 ∧ i = .int .i64 k ∧ wr = w ∧ Hid ((0 < k → x = 0) ∧ (1 < k → y = 0))) (fun i _ => 2 - (intOf i).toNat)
  case atStart => exact ⟨0, by omega, rfl, rfl, hideP ⟨fun h => by omega, fun h => by omega⟩⟩
  case round =>
    obtain ⟨k, hk, rfl, hwr, HK⟩ := hrel
    have hwr2 := hwr.symm
    subst hwr2
    by_cases h2 : k = 2
    · subst h2
      have HE : Hid (orC x y = 0) := hideP (by simp [orC, HK.out.1, HK.out.2])
      go_wp2
      go_ret
      exact ⟨retI HE.out.symm, rfl⟩
    · by_cases h1 : k = 1
      · subst h1
        have HE : Hid (orC x y = y) := hideP (by simp [orC, HK.out.1])
        by_cases hy : y = 0
        · subst hy
          go_wp2
          go_roundw
          case rel => exact ⟨2, by omega, rfl, by first | rfl | trivial, by first | exact hideP ⟨fun _ => HK.out.1 (by omega), fun _ => trivial⟩ | exact hideP ⟨fun _ => HK.out.1 (by omega), fun _ => rfl⟩⟩
          case measure => simp [intOf]
        · have hy1 : (y != 0) = true := by simp [hy]
          have hy2 : decide (y = 0) = false := by simp [hy]
          have hy3 : (y == 0) = false := by simp [hy]
          go_wp2
          go_ret
          exact ⟨retI HE.out.symm, rfl⟩
      · obtain rfl : k = 0 := by omega
        by_cases hx : x = 0
        · subst hx
          go_wp2
          go_roundw
          case rel => exact ⟨1, by omega, rfl, by first | rfl | trivial, by first | exact hideP ⟨fun _ => trivial, fun h => by omega⟩ | exact hideP ⟨fun _ => rfl, fun h => by omega⟩⟩
          case measure => simp [intOf]
        · have hy1 : (x != 0) = true := by simp [hx]
          have hy2 : decide (x = 0) = false := by simp [hx]
          have hy3 : (x == 0) = false := by simp [hx]
          have HE : Hid (orC x y = x) := hideP (by simp [orC, hx])
          go_wp2
          go_ret
          exact ⟨retI HE.out.symm, rfl⟩

/-- Is the first pair ahead of the second? -/
def plB (x y : Q4) : Bool := decide (x.a < y.a ∨ x.a = y.a ∧ x.b < y.b)
def cmpP (x y : Q4) : Int := orC (cmpN x.a y.a) (cmpN x.b y.b)
theorem cmpP_ge (x y : Q4) : decide (0 ≤ cmpP x y) = !plB x y := by
  have h1 := cmpN_ge x.a y.a
  have h2 := cmpN_ge x.b y.b
  have h3 := cmpN_zero x.a y.a
  unfold cmpP orC plB
  by_cases h : x.a = y.a
  · rw [if_pos (h3.2 h), h2]
    simp [h]
  · rw [if_neg (fun e => h (h3.1 e)), h1]
    simp [h]

set_option maxHeartbeats 4000000 in
theorem cmpP_any (x y : Q4) (w : World) : Calls Try.prog 66 #[q4V x, q4V y] w fun e w' => e = .returned (.int .i64 (cmpP x y)) ∧ Below w.heap.size w w' := by
  obtain ⟨a, b, c, d⟩ := x
  obtain ⟨a', b', c', d'⟩ := y
  obtain ⟨u, hu⟩ : ∃ u, u = cmpN a a' := ⟨_, rfl⟩
  obtain ⟨v, hv⟩ : ∃ v, v = cmpN b b' := ⟨_, rfl⟩
  rw [show cmpP ⟨a, b, c, d⟩ ⟨a', b', c', d'⟩ = orC u v by rw [hu, hv]; rfl]
  have C1 : Hid (∀ W, Calls Try.prog 68 #[.int .i64 a, .int .i64 a'] W fun e w' => e = .returned (.int .i64 u) ∧ w' = W) := hideP (fun W => by rw [hu]; exact cmpI_any _ _ W)
  have C2 : Hid (∀ W, Calls Try.prog 68 #[.int .i64 b, .int .i64 b'] W fun e w' => e = .returned (.int .i64 v) ∧ w' = W) := hideP (fun W => by rw [hv]; exact cmpI_any _ _ W)
  clear hu hv
  simp only [q4V]
  go_enter Try.func66, Try.ntmps66
  go_wp2_with fail
  obtain ⟨W, hW⟩ : ∃ W, W = (w.alloc (Obj.cells #[Value.int IntKind.i64 a, Value.int IntKind.i64 b, Value.int IntKind.i64 c, Value.int IntKind.i64 d] 63)).alloc (Obj.cells #[Value.int IntKind.i64 a', Value.int IntKind.i64 b', Value.int IntKind.i64 c', Value.int IntKind.i64 d'] 63) := ⟨_, rfl⟩
  have p0 : W.cell? ⟨w.heap.size, 0, none⟩ = some (.int .i64 a) := by rw [hW]; simp [go_sem]
  have p1 : W.cell? ⟨w.heap.size, 1, none⟩ = some (.int .i64 b) := by rw [hW]; simp [go_sem]
  have p2 : W.cell? ⟨w.heap.size + 1, 0, none⟩ = some (.int .i64 a') := by rw [hW]; simp [go_sem]
  have p3 : W.cell? ⟨w.heap.size + 1, 1, none⟩ = some (.int .i64 b') := by rw [hW]; simp [go_sem]
  have BW : Hid (Below w.heap.size w W) := hideP (by rw [hW]; exact below2 _ _ _)
  have hz0 : w.heap.size < W.heap.size := by rw [hW]; simp; omega
  have hz1 : w.heap.size + 1 < W.heap.size := by rw [hW]; simp
  rw [← hW]
  clear hW
  have Q : Hid (∀ x : World, Below W.heap.size W x → x.cell? ⟨w.heap.size, 0, none⟩ = some (.int .i64 a) ∧ x.cell? ⟨w.heap.size, 1, none⟩ = some (.int .i64 b) ∧ x.cell? ⟨w.heap.size + 1, 0, none⟩ = some (.int .i64 a') ∧ x.cell? ⟨w.heap.size + 1, 1, none⟩ = some (.int .i64 b')) := hideP (fun x hx => ⟨(hx.cell (p := ⟨w.heap.size, 0, none⟩) hz0).trans p0, (hx.cell (p := ⟨w.heap.size, 1, none⟩) hz0).trans p1, (hx.cell (p := ⟨w.heap.size + 1, 0, none⟩) hz1).trans p2, (hx.cell (p := ⟨w.heap.size + 1, 1, none⟩) hz1).trans p3⟩)
  have BD : Hid (Below W.heap.size W W.drew) := hideP (Below.refl _ _).drew
  have BA : Hid (∀ o, Below W.heap.size W (W.drew.alloc o)) := hideP (fun o => BD.out.alloc (Nat.le_refl _) o)
  clear p0 p1 p2 p3
  go_region_held3 (fun x => x.cell? ⟨w.heap.size, 0, none⟩ = some (.int .i64 a) ∧ x.cell? ⟨w.heap.size, 1, none⟩ = some (.int .i64 b) ∧ x.cell? ⟨w.heap.size + 1, 0, none⟩ = some (.int .i64 a') ∧ x.cell? ⟨w.heap.size + 1, 1, none⟩ = some (.int .i64 b')) (first | exact Q.out _ BD.out | exact Q.out _ (BA.out _)) (first | (go_at_call_of 68 (Value.int IntKind.i64 a); refine (C1.out _).mono ?_; rintro e w2 ⟨rfl, rfl⟩) | (go_at_call_of 68 (Value.int IntKind.i64 b); refine (C2.out _).mono ?_; rintro e w2 ⟨rfl, rfl⟩) | (go_at_call 69; refine (or_any (x := u) (y := v) (by simp [go_sem]) (by simp [go_sem])).mono ?_; rintro e w2 ⟨rfl, rfl⟩))
  all_goals
    go_wp2
    go_ret
    exact ⟨rfl, below_more BW.out (BA.out _) BW.out.size⟩
end Go.Proofs.Ytggcfgbpameppaa
