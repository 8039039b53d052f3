/-
  The program's ParseLen.
-/
import Derived.Test.YtkimbgmjhclghaaDoorSpc
namespace Go.Proofs.YtkimbgmjhclghaaDoor
open Go.RowKit
set_option linter.unusedVariables false
set_option linter.unusedSimpArgs false

theorem sign_none (s : ByteArray) (w : World) (h0 : s.size = 0) : Calls Tryd.prog 15 #[.string s] w fun e w' => e = .returned (.tuple #[.bool false, .string s]) ∧ Below w.heap.size w w' := by
  obtain rfl : s = ⟨#[]⟩ := by
    obtain ⟨⟨l⟩⟩ := s
    have : l.length = 0 := h0
    rw [List.length_eq_zero_iff.1 this]
  clear h0
  go_enter Tryd.func15, Tryd.ntmps15
  go_wp2
  go_ret2
  exact ⟨rfl, Below.refl _ _⟩

/-- The table of units lies in its cells. -/
def Units (w : World) : Prop := 1 < w.heap.size ∧ w.cell? ⟨1, 0, none⟩ = some (.string ⟨#[112, 116]⟩) ∧ w.cell? ⟨1, 1, none⟩ = some (.int .i64 65536) ∧ w.cell? ⟨1, 2, none⟩ = some (.int .i64 1) ∧ w.cell? ⟨1, 3, none⟩ = some (.string ⟨#[109, 109]⟩) ∧ w.cell? ⟨1, 4, none⟩ = some (.int .i64 473628672) ∧ w.cell? ⟨1, 5, none⟩ = some (.int .i64 2540) ∧ w.cell? ⟨1, 6, none⟩ = some (.string ⟨#[105, 110]⟩) ∧ w.cell? ⟨1, 7, none⟩ = some (.int .i64 473628672) ∧ w.cell? ⟨1, 8, none⟩ = some (.int .i64 100) ∧ w.cell? ⟨1, 9, none⟩ = some (.string ⟨#[112, 99]⟩) ∧ w.cell? ⟨1, 10, none⟩ = some (.int .i64 786432) ∧ w.cell? ⟨1, 11, none⟩ = some (.int .i64 1) ∧ w.cell? ⟨1, 12, none⟩ = some (.string ⟨#[115, 112]⟩) ∧ w.cell? ⟨1, 13, none⟩ = some (.int .i64 1) ∧ w.cell? ⟨1, 14, none⟩ = some (.int .i64 1)

theorem Units.kept {w w' : World} (h : Units w) (hb : Below w.heap.size w w') : Units w' := by
  obtain ⟨h0, c0, c1, c2, c3, c4, c5, c6, c7, c8, c9, c10, c11, c12, c13, c14⟩ := h
  have hz := hb.size
  exact ⟨by omega, (hb.cell (p := ⟨1, 0, none⟩) h0).trans c0, (hb.cell (p := ⟨1, 1, none⟩) h0).trans c1, (hb.cell (p := ⟨1, 2, none⟩) h0).trans c2, (hb.cell (p := ⟨1, 3, none⟩) h0).trans c3, (hb.cell (p := ⟨1, 4, none⟩) h0).trans c4, (hb.cell (p := ⟨1, 5, none⟩) h0).trans c5, (hb.cell (p := ⟨1, 6, none⟩) h0).trans c6, (hb.cell (p := ⟨1, 7, none⟩) h0).trans c7, (hb.cell (p := ⟨1, 8, none⟩) h0).trans c8, (hb.cell (p := ⟨1, 9, none⟩) h0).trans c9, (hb.cell (p := ⟨1, 10, none⟩) h0).trans c10, (hb.cell (p := ⟨1, 11, none⟩) h0).trans c11, (hb.cell (p := ⟨1, 12, none⟩) h0).trans c12, (hb.cell (p := ⟨1, 13, none⟩) h0).trans c13, (hb.cell (p := ⟨1, 14, none⟩) h0).trans c14⟩

theorem toList_ne {s : ByteArray} (h : 0 < s.size) : (s.toList == []) = false := by
  rw [ByteArray.toList_eq]
  obtain ⟨⟨l⟩⟩ := s
  have hl : 0 < l.length := h
  cases l with
  | nil => simp at hl
  | cons a b => rfl

theorem sign_at (s : ByteArray) (c : Nat) (w : World) (h0 : 0 < s.size) (hc : c = byteAt s 0) (hs : s.size ≤ 9223372036854775807) :
    Calls Tryd.prog 15 #[.string s] w fun e w' => e = .returned (.tuple #[.bool (decide (c = 45)), .string (if c = 45 ∨ c = 43 then s.extract 1 s.size else s)]) ∧ Below w.heap.size w w' := by
  have hb : ((s[0]'h0).toNat : Int) = (c : Int) := by rw [byteAt_get s 0 h0, hc]
  have hne := toList_ne h0
  clear hc
  by_cases h1 : c = 45
  · subst h1
    rw [if_pos (Or.inl rfl)]
    go_enter Tryd.func15, Tryd.ntmps15
    go_wp2
    go_quiet (fail)
    go_wp2
    go_ret2
    exact ⟨rfl, below_drewN (Below.refl _ _) _⟩
  · by_cases h2 : c = 43
    · subst h2
      rw [if_pos (Or.inr rfl)]
      go_enter Tryd.func15, Tryd.ntmps15
      go_wp2
      go_quiet (fail)
      go_wp2
      go_ret2
      exact ⟨rfl, below_drewN (Below.refl _ _) _⟩
    · rw [if_neg (fun h => h.elim h1 h2), show decide (c = 45) = false by simp [h1]]
      have f1 : ((c : Int) == 45) = false := by simp; omega
      have f2 : ((c : Int) == 43) = false := by simp; omega
      have f3 : ((c : Int) != 45) = true := by simp; omega
      have f4 : ((c : Int) != 43) = true := by simp; omega
      clear h1 h2
      go_enter Tryd.func15, Tryd.ntmps15
      go_wp2
      go_ret2
      exact ⟨rfl, Below.refl _ _⟩

theorem near_zero (un c most : Nat) (hc : 0 < c) : BigN.near 0 un c most = 0 := by
  by_cases h : 0 < most
  · have := (BigN.part_iff (0 * un * 2 + c) (c * 2) most 1 h)
    have h2 : ¬ 1 ≤ BigN.part (0 * un * 2 + c) (c * 2) most := fun h3 => by have := this.2 h3; omega
    show BigN.part (0 * un * 2 + c) (c * 2) most = 0
    omega
  · have := BigN.part_le (0 * un * 2 + c) (c * 2) most
    show BigN.part (0 * un * 2 + c) (c * 2) most = 0
    omega

/-- What Ratio makes of a number that was read, its sign ahead. -/
theorem ratio_read (n un ud t : Nat) (neg : Bool) (hd : 0 < ud * t) :
    ratioB (if neg then -(n : Int) else (n : Int)) (un : Int) ((t : Int) * (ud : Int)) = decide (BigN.near n un (ud * t) 1073741824 ≤ 1073741823) ∧
    ratioV (if neg then -(n : Int) else (n : Int)) (un : Int) ((t : Int) * (ud : Int)) = if BigN.near n un (ud * t) 1073741824 ≤ 1073741823 then (if neg then -((BigN.near n un (ud * t) 1073741824 : Nat) : Int) else ((BigN.near n un (ud * t) 1073741824 : Nat) : Int)) else 0 := by
  have e1 : (if neg then -(n : Int) else (n : Int)).natAbs = n := by cases neg <;> simp
  have e2 : ((t : Int) * (ud : Int)).natAbs = ud * t := by rw [← Int.natCast_mul, Int.natAbs_natCast, Nat.mul_comm]
  have e3 : ratioN (if neg then -(n : Int) else (n : Int)) (un : Int) ((t : Int) * (ud : Int)) = BigN.near n un (ud * t) 1073741824 := by
    unfold ratioN scaleN
    rw [e1, e2, Int.natAbs_natCast]
  have e4 : decide ((t : Int) * (ud : Int) < 0) = false := by
    rw [← Int.natCast_mul]; exact decide_eq_false (Int.not_lt.2 (Int.natCast_nonneg _))
  have e5 : decide ((un : Int) < 0) = false := by simp
  refine ⟨by unfold ratioB; rw [e3], ?_⟩
  unfold ratioV
  rw [e3]
  cases neg
  · have : negB (if false = true then -(n : Int) else (n : Int)) (un : Int) ((t : Int) * (ud : Int)) = false := by
      unfold negB
      rw [e4, e5]
      simp
    rw [this]
  · by_cases hn : n = 0
    · subst hn
      rw [near_zero _ _ _ hd]
      simp
    · have : negB (if true = true then -(n : Int) else (n : Int)) (un : Int) ((t : Int) * (ud : Int)) = true := by
        unfold negB
        rw [e4, e5]
        simp; omega
      rw [this]

theorem unitRow0 (w : World) : (Instr.index 40 (.agg #[.string ⟨#[112, 116]⟩, .int .i64 65536, .int .i64 1, .string ⟨#[109, 109]⟩, .int .i64 473628672, .int .i64 2540, .string ⟨#[105, 110]⟩, .int .i64 473628672, .int .i64 100, .string ⟨#[112, 99]⟩, .int .i64 786432, .int .i64 1, .string ⟨#[115, 112]⟩, .int .i64 1, .int .i64 1]) (.int .i64 0)).run Tryd.prog w = .ok (.agg #[.string ⟨#[112, 116]⟩, .int .i64 65536, .int .i64 1]) w := by kernel_rfl
theorem unitRow1 (w : World) : (Instr.index 40 (.agg #[.string ⟨#[112, 116]⟩, .int .i64 65536, .int .i64 1, .string ⟨#[109, 109]⟩, .int .i64 473628672, .int .i64 2540, .string ⟨#[105, 110]⟩, .int .i64 473628672, .int .i64 100, .string ⟨#[112, 99]⟩, .int .i64 786432, .int .i64 1, .string ⟨#[115, 112]⟩, .int .i64 1, .int .i64 1]) (.int .i64 1)).run Tryd.prog w = .ok (.agg #[.string ⟨#[109, 109]⟩, .int .i64 473628672, .int .i64 2540]) w := by kernel_rfl
theorem unitRow2 (w : World) : (Instr.index 40 (.agg #[.string ⟨#[112, 116]⟩, .int .i64 65536, .int .i64 1, .string ⟨#[109, 109]⟩, .int .i64 473628672, .int .i64 2540, .string ⟨#[105, 110]⟩, .int .i64 473628672, .int .i64 100, .string ⟨#[112, 99]⟩, .int .i64 786432, .int .i64 1, .string ⟨#[115, 112]⟩, .int .i64 1, .int .i64 1]) (.int .i64 2)).run Tryd.prog w = .ok (.agg #[.string ⟨#[105, 110]⟩, .int .i64 473628672, .int .i64 100]) w := by kernel_rfl
theorem unitRow3 (w : World) : (Instr.index 40 (.agg #[.string ⟨#[112, 116]⟩, .int .i64 65536, .int .i64 1, .string ⟨#[109, 109]⟩, .int .i64 473628672, .int .i64 2540, .string ⟨#[105, 110]⟩, .int .i64 473628672, .int .i64 100, .string ⟨#[112, 99]⟩, .int .i64 786432, .int .i64 1, .string ⟨#[115, 112]⟩, .int .i64 1, .int .i64 1]) (.int .i64 3)).run Tryd.prog w = .ok (.agg #[.string ⟨#[112, 99]⟩, .int .i64 786432, .int .i64 1]) w := by kernel_rfl
theorem unitRow4 (w : World) : (Instr.index 40 (.agg #[.string ⟨#[112, 116]⟩, .int .i64 65536, .int .i64 1, .string ⟨#[109, 109]⟩, .int .i64 473628672, .int .i64 2540, .string ⟨#[105, 110]⟩, .int .i64 473628672, .int .i64 100, .string ⟨#[112, 99]⟩, .int .i64 786432, .int .i64 1, .string ⟨#[115, 112]⟩, .int .i64 1, .int .i64 1]) (.int .i64 4)).run Tryd.prog w = .ok (.agg #[.string ⟨#[115, 112]⟩, .int .i64 1, .int .i64 1]) w := by kernel_rfl

/-- The first i rows of the table have another name. -/
def Miss (l : List UInt8) (i : Nat) : Prop :=
  (0 < i → ([112, 116] == l) = false) ∧ (1 < i → ([109, 109] == l) = false) ∧ (2 < i → ([105, 110] == l) = false) ∧ (3 < i → ([112, 99] == l) = false) ∧ (4 < i → ([115, 112] == l) = false)


theorem parse_hit (neg : Bool) (R : Dec) (l : List UInt8) (un ud : Nat) (hun : unitN l = un) (hud : unitD l = ud) (h0 : 0 < R.count) (h1 : R.count ≤ 15) (hu : 0 < un) :
    parseGood R l = decide (BigN.near R.num un (ud * R.ten) 1073741824 ≤ 1073741823) ∧
    parseV neg R l = if BigN.near R.num un (ud * R.ten) 1073741824 ≤ 1073741823 then (if neg then -((BigN.near R.num un (ud * R.ten) 1073741824 : Nat) : Int) else ((BigN.near R.num un (ud * R.ten) 1073741824 : Nat) : Int)) else 0 := by
  have e : parseGood R l = decide (BigN.near R.num un (ud * R.ten) 1073741824 ≤ 1073741823) := by
    unfold parseGood parseQ
    rw [hun, hud]
    simp [h0, h1, hu]
  refine ⟨e, ?_⟩
  unfold parseV
  rw [e]
  unfold parseQ
  rw [hun, hud]
  simp only [decide_eq_true_eq]

theorem parse_miss (neg : Bool) (R : Dec) (l : List UInt8) (hun : unitN l = 0) : parseGood R l = false ∧ parseV neg R l = 0 := by
  have e : parseGood R l = false := by
    unfold parseGood
    rw [hun]
    simp
  exact ⟨e, by unfold parseV; rw [e]; rfl⟩

theorem parse_none (neg : Bool) (R : Dec) (l : List UInt8) (h : R.count = 0 ∨ R.count = 16) : parseGood R l = false ∧ parseV neg R l = 0 := by
  have e : parseGood R l = false := by
    unfold parseGood
    rcases h with h | h <;> simp [h]
  exact ⟨e, by unfold parseV; rw [e]; rfl⟩

theorem ratio_call (n un ud t : Nat) (neg : Bool) (x den V : Int) (B : Bool) (hx : x = if neg then -(n : Int) else (n : Int)) (hden : den = (t : Int) * (ud : Int)) (hn : n < 1000000000000000) (hun : un ≤ 473628672) (hud : ud ≤ 2540) (hud0 : 0 < ud) (ht : t ≤ 1000000000000000) (ht0 : 0 < t)
    (hB : B = decide (BigN.near n un (ud * t) 1073741824 ≤ 1073741823))
    (hV : V = if BigN.near n un (ud * t) 1073741824 ≤ 1073741823 then (if neg then -((BigN.near n un (ud * t) 1073741824 : Nat) : Int) else ((BigN.near n un (ud * t) 1073741824 : Nat) : Int)) else 0) :
    ∀ w, Calls Tryd.prog 17 #[.int .i64 x, .int .i64 (un : Int), .int .i64 den] w fun e w' => e = .returned (.tuple #[.int .i64 V, .bool B]) ∧ Below w.heap.size w w' := by
  intro w
  obtain ⟨r1, r2⟩ := ratio_read n un ud t neg (Nat.mul_pos hud0 ht0)
  have hm : ud * t ≤ 2540 * 1000000000000000 := Nat.mul_le_mul hud ht
  have hm0 : 0 < ud * t := Nat.mul_pos hud0 ht0
  have hd2 : den = ((ud * t : Nat) : Int) := by rw [hden, Nat.mul_comm]; exact (Int.natCast_mul _ _).symm
  rw [← hx, ← hden] at r1 r2
  rw [hB, hV, ← r1, ← r2]
  have hxb : -1000000000000000 ≤ x ∧ x ≤ 1000000000000000 := by rw [hx]; cases neg <;> simp <;> omega
  exact implRatio_all x un den w (by omega) (by omega) (by omega) (by omega) (by omega) (by omega) (by omega)

theorem Miss.next0 {l : List UInt8} (h : Miss l 0) (hm : ([112, 116] == l) = false) : Miss l 1 := ⟨fun _ => hm, fun h => by omega, fun h => by omega, fun h => by omega, fun h => by omega⟩
theorem Miss.next1 {l : List UInt8} (h : Miss l 1) (hm : ([109, 109] == l) = false) : Miss l 2 := ⟨fun _ => h.1 (by omega), fun _ => hm, fun h => by omega, fun h => by omega, fun h => by omega⟩
theorem Miss.next2 {l : List UInt8} (h : Miss l 2) (hm : ([105, 110] == l) = false) : Miss l 3 := ⟨fun _ => h.1 (by omega), fun _ => h.2.1 (by omega), fun _ => hm, fun h => by omega, fun h => by omega⟩
theorem Miss.next3 {l : List UInt8} (h : Miss l 3) (hm : ([112, 99] == l) = false) : Miss l 4 := ⟨fun _ => h.1 (by omega), fun _ => h.2.1 (by omega), fun _ => h.2.2.1 (by omega), fun _ => hm, fun h => by omega⟩
theorem Miss.next4 {l : List UInt8} (h : Miss l 4) (hm : ([115, 112] == l) = false) : Miss l 5 := ⟨fun _ => h.1 (by omega), fun _ => h.2.1 (by omega), fun _ => h.2.2.1 (by omega), fun _ => h.2.2.2.1 (by omega), fun _ => hm⟩
theorem Miss.none {l : List UInt8} (h : Miss l 5) : unitN l = 0 := by
  obtain ⟨h0, h1, h2, h3, h4⟩ := h
  have f : ∀ x : List UInt8, (x == l) = false → (l == x) = false := fun x hx => by
    rw [BEq.comm]; exact hx
  unfold unitN
  simp [f _ (h0 (by omega)), f _ (h1 (by omega)), f _ (h2 (by omega)), f _ (h3 (by omega)), f _ (h4 (by omega))]

set_option maxRecDepth 100000 in
set_option maxHeartbeats 4000000 in
theorem implParse_any (s r : ByteArray) (neg : Bool) (R : Dec) (V : Int) (B : Bool) (w : World) (hU : Units w) (hs : r.size ≤ 9223372036854775807)
    (SG : Hid (∀ w, Calls Tryd.prog 15 #[.string s] w fun e w' => e = .returned (.tuple #[.bool neg, .string r]) ∧ Below w.heap.size w w'))
    (HR : Hid (R = dec (byteAt r) (r.size - 0) 0 0 1 0 false))
    (HV : Hid (V = parseV neg R (r.extract R.at_ r.size).toList)) (HB : Hid (B = parseGood R (r.extract R.at_ r.size).toList)) :
    Calls Tryd.prog 9 #[.string s] w fun e w' => e = .returned (.tuple #[.int .i64 V, .bool B]) ∧ Below w.heap.size w w' := by
  have HU0 := hideP hU
  clear hU
  go_enter Tryd.func9, Tryd.ntmps9
  go_wp2_with fail
  refine (SG.out _).mono ?_
  rintro e w1 ⟨rfl, hb1⟩
  have HW1 := hideP hb1
  clear hb1 SG
  go_wp2_with fail
  refine (takeDecimal_any r R _ hs HR).mono ?_
  rintro e w2 ⟨⟨h16, rfl⟩ | ⟨hS, hat, rfl⟩, hb2⟩
  · obtain ⟨z1, z2⟩ := parse_none neg R (r.extract R.at_ r.size).toList (.inr h16)
    have hV : V = 0 := HV.out.trans z2
    have hB : B = false := HB.out.trans z1
    have HW2 := hideP (HW1.out.trans (hb2.mono HW1.out.size))
    subst hV hB
    clear z1 z2 HV HB HR h16 hb2
    go_wp2
    go_ret2
    exact ⟨rfl, HW2.out⟩
  have HW2 := hideP (HW1.out.trans (hb2.mono HW1.out.size))
  obtain ⟨a, n, t, k⟩ := R
  have HS := hideP hS
  have HU := HU0.out.kept HW2.out
  have HN := hideP hS.bounds
  have hn1 : n < 1000000000000000 := HN.out.1
  have ht1 : t ≤ 1000000000000000 := HN.out.2
  clear HR hb2 HW1 HU0 hS hat
  by_cases hk : k = 0
  · obtain ⟨z1, z2⟩ := parse_none neg ⟨a, n, t, k⟩ (r.extract a r.size).toList (.inl hk)
    have hV : V = 0 := HV.out.trans z2
    have hB : B = false := HB.out.trans z1
    subst hV hB hk
    clear z1 z2 HV HB HU
    go_wp2
    go_ret2
    exact ⟨rfl, HW2.out⟩
  have K0 : Hid (0 < k) := by show 0 < k; omega
  have k0 : decide (0 < k) = true := decide_eq_true K0.out
  simp only [k0]
  clear hk k0
  obtain ⟨u0, c0, c1, c2, c3, c4, c5, c6, c7, c8, c9, c10, c11, c12, c13, c14⟩ := HU
  cases neg
  · -- no sign, or +
    go_wp2
    clear c0 c1 c2 c3 c4 c5 c6 c7 c8 c9 c10 c11 c12 c13 c14
    go_loopw [30] (fun s30 wr => Hid (Below w.heap.size w wr) ∧ ∃ i : Nat, i ≤ 5 ∧ s30 = .int .i64 (i : Int) ∧ Hid (Miss (r.extract a r.size).toList i)) (fun s30 _ => 5 - (intOf s30).toNat)
    case atStart => exact ⟨HW2, 0, by omega, rfl, hideP ⟨fun h => by omega, fun h => by omega, fun h => by omega, fun h => by omega, fun h => by omega⟩⟩
    case round =>
      clear HW2
      obtain ⟨HW, i, hi, rfl, HM⟩ := hrel
      obtain rfl | rfl | rfl | rfl | rfl | rfl : i = 0 ∨ i = 1 ∨ i = 2 ∨ i = 3 ∨ i = 4 ∨ i = 5 := by omega
      · have hr := unitRow0 wr
        by_cases hm : ([112, 116] == (r.extract a r.size).toList) = true
        · obtain ⟨z1, z2⟩ := parse_hit false ⟨a, n, t, k⟩ (r.extract a r.size).toList 65536 1 (by rw [← eq_of_beq hm]; rfl) (by rw [← eq_of_beq hm]; rfl) K0.out HS.out.1 (by decide)
          have RT := hideP (ratio_call n 65536 1 t false (n : Int) (t : Int) V B rfl (by simp) HN.out.1 (by decide) (by decide) (by decide) HN.out.2 HS.out.2.2.2 (HB.out.trans z1) (HV.out.trans z2))
          clear HM z1 z2 HV HB
          go_wp2_with fail
          refine (RT.out _).mono ?_
          rintro e w3 ⟨rfl, hb3⟩
          have HW3 := hideP (((HW.out.alloc HW.out.size _)).trans (hb3.mono (HW.out.alloc HW.out.size _).size))
          clear hb3
          go_wp2
          go_ret2
          exact ⟨rfl, HW3.out⟩
        · simp only [Bool.not_eq_true] at hm
          have HMM := hideP hm
          go_wp2
          go_roundw
          case rel => exact ⟨hideP (HW.out.alloc HW.out.size _), 1, by omega, rfl, hideP (HM.out.next0 HMM.out)⟩
          case measure => simp [intOf]
      · have hr := unitRow1 wr
        by_cases hm : ([109, 109] == (r.extract a r.size).toList) = true
        · obtain ⟨z1, z2⟩ := parse_hit false ⟨a, n, t, k⟩ (r.extract a r.size).toList 473628672 2540 (by rw [← eq_of_beq hm]; rfl) (by rw [← eq_of_beq hm]; rfl) K0.out HS.out.1 (by decide)
          have RT := hideP (ratio_call n 473628672 2540 t false (n : Int) ((t : Int) * 2540) V B rfl (by simp) HN.out.1 (by decide) (by decide) (by decide) HN.out.2 HS.out.2.2.2 (HB.out.trans z1) (HV.out.trans z2))
          clear HM z1 z2 HV HB
          go_wp2_with fail
          refine (RT.out _).mono ?_
          rintro e w3 ⟨rfl, hb3⟩
          have HW3 := hideP (((HW.out.alloc HW.out.size _)).trans (hb3.mono (HW.out.alloc HW.out.size _).size))
          clear hb3
          go_wp2
          go_ret2
          exact ⟨rfl, HW3.out⟩
        · simp only [Bool.not_eq_true] at hm
          have HMM := hideP hm
          go_wp2
          go_roundw
          case rel => exact ⟨hideP (HW.out.alloc HW.out.size _), 2, by omega, rfl, hideP (HM.out.next1 HMM.out)⟩
          case measure => simp [intOf]
      · have hr := unitRow2 wr
        by_cases hm : ([105, 110] == (r.extract a r.size).toList) = true
        · obtain ⟨z1, z2⟩ := parse_hit false ⟨a, n, t, k⟩ (r.extract a r.size).toList 473628672 100 (by rw [← eq_of_beq hm]; rfl) (by rw [← eq_of_beq hm]; rfl) K0.out HS.out.1 (by decide)
          have RT := hideP (ratio_call n 473628672 100 t false (n : Int) ((t : Int) * 100) V B rfl (by simp) HN.out.1 (by decide) (by decide) (by decide) HN.out.2 HS.out.2.2.2 (HB.out.trans z1) (HV.out.trans z2))
          clear HM z1 z2 HV HB
          go_wp2_with fail
          refine (RT.out _).mono ?_
          rintro e w3 ⟨rfl, hb3⟩
          have HW3 := hideP (((HW.out.alloc HW.out.size _)).trans (hb3.mono (HW.out.alloc HW.out.size _).size))
          clear hb3
          go_wp2
          go_ret2
          exact ⟨rfl, HW3.out⟩
        · simp only [Bool.not_eq_true] at hm
          have HMM := hideP hm
          go_wp2
          go_roundw
          case rel => exact ⟨hideP (HW.out.alloc HW.out.size _), 3, by omega, rfl, hideP (HM.out.next2 HMM.out)⟩
          case measure => simp [intOf]
      · have hr := unitRow3 wr
        by_cases hm : ([112, 99] == (r.extract a r.size).toList) = true
        · obtain ⟨z1, z2⟩ := parse_hit false ⟨a, n, t, k⟩ (r.extract a r.size).toList 786432 1 (by rw [← eq_of_beq hm]; rfl) (by rw [← eq_of_beq hm]; rfl) K0.out HS.out.1 (by decide)
          have RT := hideP (ratio_call n 786432 1 t false (n : Int) (t : Int) V B rfl (by simp) HN.out.1 (by decide) (by decide) (by decide) HN.out.2 HS.out.2.2.2 (HB.out.trans z1) (HV.out.trans z2))
          clear HM z1 z2 HV HB
          go_wp2_with fail
          refine (RT.out _).mono ?_
          rintro e w3 ⟨rfl, hb3⟩
          have HW3 := hideP (((HW.out.alloc HW.out.size _)).trans (hb3.mono (HW.out.alloc HW.out.size _).size))
          clear hb3
          go_wp2
          go_ret2
          exact ⟨rfl, HW3.out⟩
        · simp only [Bool.not_eq_true] at hm
          have HMM := hideP hm
          go_wp2
          go_roundw
          case rel => exact ⟨hideP (HW.out.alloc HW.out.size _), 4, by omega, rfl, hideP (HM.out.next3 HMM.out)⟩
          case measure => simp [intOf]
      · have hr := unitRow4 wr
        by_cases hm : ([115, 112] == (r.extract a r.size).toList) = true
        · obtain ⟨z1, z2⟩ := parse_hit false ⟨a, n, t, k⟩ (r.extract a r.size).toList 1 1 (by rw [← eq_of_beq hm]; rfl) (by rw [← eq_of_beq hm]; rfl) K0.out HS.out.1 (by decide)
          have RT := hideP (ratio_call n 1 1 t false (n : Int) (t : Int) V B rfl (by simp) HN.out.1 (by decide) (by decide) (by decide) HN.out.2 HS.out.2.2.2 (HB.out.trans z1) (HV.out.trans z2))
          clear HM z1 z2 HV HB
          go_wp2_with fail
          refine (RT.out _).mono ?_
          rintro e w3 ⟨rfl, hb3⟩
          have HW3 := hideP (((HW.out.alloc HW.out.size _)).trans (hb3.mono (HW.out.alloc HW.out.size _).size))
          clear hb3
          go_wp2
          go_ret2
          exact ⟨rfl, HW3.out⟩
        · simp only [Bool.not_eq_true] at hm
          have HMM := hideP hm
          go_wp2
          go_roundw
          case rel => exact ⟨hideP (HW.out.alloc HW.out.size _), 5, by omega, rfl, hideP (HM.out.next4 HMM.out)⟩
          case measure => simp [intOf]
      · obtain ⟨z1, z2⟩ := parse_miss false ⟨a, n, t, k⟩ (r.extract a r.size).toList (HM.out.none)
        have hV : V = 0 := HV.out.trans z2
        have hB : B = false := HB.out.trans z1
        subst hV hB
        clear z1 z2 HV HB HM
        go_wp2
        go_ret2
        exact ⟨rfl, HW.out⟩
  · -- below 0
    go_wp2
    clear c0 c1 c2 c3 c4 c5 c6 c7 c8 c9 c10 c11 c12 c13 c14
    go_loopw [30] (fun s30 wr => Hid (Below w.heap.size w wr) ∧ ∃ i : Nat, i ≤ 5 ∧ s30 = .int .i64 (i : Int) ∧ Hid (Miss (r.extract a r.size).toList i)) (fun s30 _ => 5 - (intOf s30).toNat)
    case atStart => exact ⟨HW2, 0, by omega, rfl, hideP ⟨fun h => by omega, fun h => by omega, fun h => by omega, fun h => by omega, fun h => by omega⟩⟩
    case round =>
      clear HW2
      obtain ⟨HW, i, hi, rfl, HM⟩ := hrel
      obtain rfl | rfl | rfl | rfl | rfl | rfl : i = 0 ∨ i = 1 ∨ i = 2 ∨ i = 3 ∨ i = 4 ∨ i = 5 := by omega
      · have hr := unitRow0 wr
        by_cases hm : ([112, 116] == (r.extract a r.size).toList) = true
        · obtain ⟨z1, z2⟩ := parse_hit true ⟨a, n, t, k⟩ (r.extract a r.size).toList 65536 1 (by rw [← eq_of_beq hm]; rfl) (by rw [← eq_of_beq hm]; rfl) K0.out HS.out.1 (by decide)
          have RT := hideP (ratio_call n 65536 1 t true (-(n : Int)) (t : Int) V B rfl (by simp) HN.out.1 (by decide) (by decide) (by decide) HN.out.2 HS.out.2.2.2 (HB.out.trans z1) (HV.out.trans z2))
          clear HM z1 z2 HV HB
          go_wp2_with fail
          refine (RT.out _).mono ?_
          rintro e w3 ⟨rfl, hb3⟩
          have HW3 := hideP (((HW.out.alloc HW.out.size _)).trans (hb3.mono (HW.out.alloc HW.out.size _).size))
          clear hb3
          go_wp2
          go_ret2
          exact ⟨rfl, HW3.out⟩
        · simp only [Bool.not_eq_true] at hm
          have HMM := hideP hm
          go_wp2
          go_roundw
          case rel => exact ⟨hideP (HW.out.alloc HW.out.size _), 1, by omega, rfl, hideP (HM.out.next0 HMM.out)⟩
          case measure => simp [intOf]
      · have hr := unitRow1 wr
        by_cases hm : ([109, 109] == (r.extract a r.size).toList) = true
        · obtain ⟨z1, z2⟩ := parse_hit true ⟨a, n, t, k⟩ (r.extract a r.size).toList 473628672 2540 (by rw [← eq_of_beq hm]; rfl) (by rw [← eq_of_beq hm]; rfl) K0.out HS.out.1 (by decide)
          have RT := hideP (ratio_call n 473628672 2540 t true (-(n : Int)) ((t : Int) * 2540) V B rfl (by simp) HN.out.1 (by decide) (by decide) (by decide) HN.out.2 HS.out.2.2.2 (HB.out.trans z1) (HV.out.trans z2))
          clear HM z1 z2 HV HB
          go_wp2_with fail
          refine (RT.out _).mono ?_
          rintro e w3 ⟨rfl, hb3⟩
          have HW3 := hideP (((HW.out.alloc HW.out.size _)).trans (hb3.mono (HW.out.alloc HW.out.size _).size))
          clear hb3
          go_wp2
          go_ret2
          exact ⟨rfl, HW3.out⟩
        · simp only [Bool.not_eq_true] at hm
          have HMM := hideP hm
          go_wp2
          go_roundw
          case rel => exact ⟨hideP (HW.out.alloc HW.out.size _), 2, by omega, rfl, hideP (HM.out.next1 HMM.out)⟩
          case measure => simp [intOf]
      · have hr := unitRow2 wr
        by_cases hm : ([105, 110] == (r.extract a r.size).toList) = true
        · obtain ⟨z1, z2⟩ := parse_hit true ⟨a, n, t, k⟩ (r.extract a r.size).toList 473628672 100 (by rw [← eq_of_beq hm]; rfl) (by rw [← eq_of_beq hm]; rfl) K0.out HS.out.1 (by decide)
          have RT := hideP (ratio_call n 473628672 100 t true (-(n : Int)) ((t : Int) * 100) V B rfl (by simp) HN.out.1 (by decide) (by decide) (by decide) HN.out.2 HS.out.2.2.2 (HB.out.trans z1) (HV.out.trans z2))
          clear HM z1 z2 HV HB
          go_wp2_with fail
          refine (RT.out _).mono ?_
          rintro e w3 ⟨rfl, hb3⟩
          have HW3 := hideP (((HW.out.alloc HW.out.size _)).trans (hb3.mono (HW.out.alloc HW.out.size _).size))
          clear hb3
          go_wp2
          go_ret2
          exact ⟨rfl, HW3.out⟩
        · simp only [Bool.not_eq_true] at hm
          have HMM := hideP hm
          go_wp2
          go_roundw
          case rel => exact ⟨hideP (HW.out.alloc HW.out.size _), 3, by omega, rfl, hideP (HM.out.next2 HMM.out)⟩
          case measure => simp [intOf]
      · have hr := unitRow3 wr
        by_cases hm : ([112, 99] == (r.extract a r.size).toList) = true
        · obtain ⟨z1, z2⟩ := parse_hit true ⟨a, n, t, k⟩ (r.extract a r.size).toList 786432 1 (by rw [← eq_of_beq hm]; rfl) (by rw [← eq_of_beq hm]; rfl) K0.out HS.out.1 (by decide)
          have RT := hideP (ratio_call n 786432 1 t true (-(n : Int)) (t : Int) V B rfl (by simp) HN.out.1 (by decide) (by decide) (by decide) HN.out.2 HS.out.2.2.2 (HB.out.trans z1) (HV.out.trans z2))
          clear HM z1 z2 HV HB
          go_wp2_with fail
          refine (RT.out _).mono ?_
          rintro e w3 ⟨rfl, hb3⟩
          have HW3 := hideP (((HW.out.alloc HW.out.size _)).trans (hb3.mono (HW.out.alloc HW.out.size _).size))
          clear hb3
          go_wp2
          go_ret2
          exact ⟨rfl, HW3.out⟩
        · simp only [Bool.not_eq_true] at hm
          have HMM := hideP hm
          go_wp2
          go_roundw
          case rel => exact ⟨hideP (HW.out.alloc HW.out.size _), 4, by omega, rfl, hideP (HM.out.next3 HMM.out)⟩
          case measure => simp [intOf]
      · have hr := unitRow4 wr
        by_cases hm : ([115, 112] == (r.extract a r.size).toList) = true
        · obtain ⟨z1, z2⟩ := parse_hit true ⟨a, n, t, k⟩ (r.extract a r.size).toList 1 1 (by rw [← eq_of_beq hm]; rfl) (by rw [← eq_of_beq hm]; rfl) K0.out HS.out.1 (by decide)
          have RT := hideP (ratio_call n 1 1 t true (-(n : Int)) (t : Int) V B rfl (by simp) HN.out.1 (by decide) (by decide) (by decide) HN.out.2 HS.out.2.2.2 (HB.out.trans z1) (HV.out.trans z2))
          clear HM z1 z2 HV HB
          go_wp2_with fail
          refine (RT.out _).mono ?_
          rintro e w3 ⟨rfl, hb3⟩
          have HW3 := hideP (((HW.out.alloc HW.out.size _)).trans (hb3.mono (HW.out.alloc HW.out.size _).size))
          clear hb3
          go_wp2
          go_ret2
          exact ⟨rfl, HW3.out⟩
        · simp only [Bool.not_eq_true] at hm
          have HMM := hideP hm
          go_wp2
          go_roundw
          case rel => exact ⟨hideP (HW.out.alloc HW.out.size _), 5, by omega, rfl, hideP (HM.out.next4 HMM.out)⟩
          case measure => simp [intOf]
      · obtain ⟨z1, z2⟩ := parse_miss true ⟨a, n, t, k⟩ (r.extract a r.size).toList (HM.out.none)
        have hV : V = 0 := HV.out.trans z2
        have hB : B = false := HB.out.trans z1
        subst hV hB
        clear z1 z2 HV HB HM
        go_wp2
        go_ret2
        exact ⟨rfl, HW.out⟩
end Go.Proofs.YtkimbgmjhclghaaDoor
