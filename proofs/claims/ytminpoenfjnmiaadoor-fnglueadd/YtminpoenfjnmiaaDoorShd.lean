/-
  The walk of showDecimal: as many places as it needs.
-/
import Derived.Test.YtminpoenfjnmiaaDoorNum
import Derived.Test.YtminpoenfjnmiaaDoorShw
import Derived.Test.YtminpoenfjnmiaaDoorShl
namespace Go.Proofs.YtminpoenfjnmiaaDoor
open Go.RowKit
set_option linter.unusedVariables false
set_option linter.unusedSimpArgs false

/-- The table of powers of ten lies as it was laid. -/
def Pows (w : World) : Prop := 1 < w.heap.size ∧ Lib.TabIs Tryd.prog w "internal/strconv.uint64pow10" .u64 Lib.pow10Tab
theorem gPows : Tryd.prog.globalNamed "internal/strconv.uint64pow10" = some 1 := by kernel_rfl
theorem Pows.kept {w w' : World} (h : Pows w) (hb : Below w.heap.size w w') : Pows w' := by
  obtain ⟨h0, h1⟩ := h
  refine ⟨Nat.lt_of_lt_of_le h0 hb.size, ?_⟩
  unfold Lib.TabIs World.var? at h1 ⊢
  simp only [gPows, Option.bind_some] at h1 ⊢
  rw [hb.block 1 h0]
  exact h1

set_option maxRecDepth 100000 in
set_option maxHeartbeats 4000000 in
theorem showNeg1 (x : Int) (w : World) (m r : Nat → Int) (W F k : Nat) (pt wt zt : ByteArray) (hx : -1073741823 ≤ x ∧ x ≤ 1073741823) (hTab : Pows w)
    (hm : ∀ p, 1 ≤ p → p ≤ 5 → -10000000000 ≤ m p ∧ m p ≤ 10000000000)
    (LW : ∀ p, 1 ≤ p → p ≤ 5 → ∀ w, Calls Tryd.prog 23 #[.int .i64 (x * ((10 ^ p : Nat) : Int)), .int .i64 65536] w fun e w' => e = .returned (.int .i64 (m p)) ∧ w' = w)
    (NR : ∀ p, 1 ≤ p → p ≤ 5 → ∀ w, Calls Tryd.prog 24 #[.int .i64 (m p * 65536), .int .i64 ((10 ^ p : Nat) : Int)] w fun e w' => e = .returned (.int .i64 (r p)) ∧ Below w.heap.size w w')
    (hr : r 1 = x) (hr1 : ∀ q, 1 ≤ q → q < 1 → r q ≠ x)
    (hs : m 1 < 0) (eF : -(m 1).tmod 10 = (F : Int)) (eW : -(m 1).tdiv 10 = (W : Int)) (hF : F < 10) (hW : W < 100000) (hk : k ≤ 1) (hpt : pt.size = k) (hwt : wt.size ≤ 5) (hzt : zt.size ≤ 5)
    (FM : ∀ w, Pows w → Calls Tryd.prog 25 #[.int .i64 (F : Int), .int .i64 10] w fun e w' => e = .returned (.string pt) ∧ Below w.heap.size w w')
    (FW : ∀ w, Pows w → Calls Tryd.prog 25 #[.int .i64 (W : Int), .int .i64 10] w fun e w' => e = .returned (.string wt) ∧ Below w.heap.size w w')
    (RP : ∀ w, Calls Tryd.prog 26 #[.string ⟨#[48]⟩, .int .i64 ((1 : Int) - (k : Int))] w fun e w' => e = .returned (.string zt) ∧ Below w.heap.size w w') :
    Calls Tryd.prog 21 #[.int .i64 x] w fun e w' => e = .returned (.string (⟨#[45]⟩ ++ wt ++ ⟨#[46]⟩ ++ zt ++ pt)) ∧ Below w.heap.size w w' := by
  have L1 := hideP (LW 1 (by decide) (by decide))
  have R1 := hideP (NR 1 (by decide) (by decide))
  have b1 := hm 1 (by decide) (by decide)
  have q1 : (r 1 == x) = true := by simp [hr]
  have q1' : (r 1 != x) = false := by simp [hr]
  have m0 : decide (m 1 < 0) = true := by simp; omega
  have HFM := hideP FM
  have HFW := hideP FW
  have HRP := hideP RP
  have HT := hideP hTab
  clear LW NR FM FW RP hTab hr hr1 hm hs
  go_enter Tryd.func21, Tryd.ntmps21
  go_wp2_with fail
  refine (L1.out _).mono ?_
  rintro e w1 ⟨rfl, rfl⟩
  go_wp2_with fail
  go_loopw [3, 4, 5] (fun s3 s4 s5 wr => Hid (Below w1.heap.size w1 wr) ∧ ∃ p : Nat, 1 ≤ p ∧ p ≤ 1 ∧ s3 = .int .i64 (p : Int) ∧ s4 = .int .i64 ((10 ^ p : Nat) : Int) ∧ s5 = .int .i64 (m p)) (fun s3 _ _ _ => 5 - (intOf s3).toNat)
  case atStart => exact ⟨hideP (Below.refl _ _), 1, by omega, by omega, rfl, rfl, rfl⟩
  case round =>
    obtain ⟨HW, p, hp1, hp2, rfl, rfl, rfl⟩ := hrel
    obtain rfl : p = 1 := by omega
    · simp only [Nat.reducePow]
      go_wp2_with fail
      refine (R1.out _).mono ?_
      rintro e w2 ⟨rfl, hb2⟩
      have HW2 := hideP (HW.out.trans (hb2.mono HW.out.size))
      clear hb2
      go_wp2_with fail
      refine (HFM.out _ (HT.out.kept HW2.out)).mono ?_
      rintro e w3 ⟨rfl, hb3⟩
      have HW3 := hideP (HW2.out.trans (hb3.mono HW2.out.size))
      clear hb3
      go_wp2_with fail
      refine (HRP.out _).mono ?_
      rintro e w4 ⟨rfl, hb4⟩
      have HW4 := hideP (HW3.out.trans (hb4.mono HW3.out.size))
      clear hb4
      go_wp2_with fail
      refine (HFW.out _ (HT.out.kept HW4.out)).mono ?_
      rintro e w5 ⟨rfl, hb5⟩
      have HW5 := hideP (HW4.out.trans (hb5.mono HW4.out.size))
      clear hb5
      go_wp2
      go_ret
      exact ⟨rfl, HW5.out⟩

set_option maxRecDepth 100000 in
set_option maxHeartbeats 4000000 in
theorem showNeg2 (x : Int) (w : World) (m r : Nat → Int) (W F k : Nat) (pt wt zt : ByteArray) (hx : -1073741823 ≤ x ∧ x ≤ 1073741823) (hTab : Pows w)
    (hm : ∀ p, 1 ≤ p → p ≤ 5 → -10000000000 ≤ m p ∧ m p ≤ 10000000000)
    (LW : ∀ p, 1 ≤ p → p ≤ 5 → ∀ w, Calls Tryd.prog 23 #[.int .i64 (x * ((10 ^ p : Nat) : Int)), .int .i64 65536] w fun e w' => e = .returned (.int .i64 (m p)) ∧ w' = w)
    (NR : ∀ p, 1 ≤ p → p ≤ 5 → ∀ w, Calls Tryd.prog 24 #[.int .i64 (m p * 65536), .int .i64 ((10 ^ p : Nat) : Int)] w fun e w' => e = .returned (.int .i64 (r p)) ∧ Below w.heap.size w w')
    (hr : r 2 = x) (hr1 : ∀ q, 1 ≤ q → q < 2 → r q ≠ x)
    (hs : m 2 < 0) (eF : -(m 2).tmod 100 = (F : Int)) (eW : -(m 2).tdiv 100 = (W : Int)) (hF : F < 100) (hW : W < 100000) (hk : k ≤ 2) (hpt : pt.size = k) (hwt : wt.size ≤ 5) (hzt : zt.size ≤ 5)
    (FM : ∀ w, Pows w → Calls Tryd.prog 25 #[.int .i64 (F : Int), .int .i64 10] w fun e w' => e = .returned (.string pt) ∧ Below w.heap.size w w')
    (FW : ∀ w, Pows w → Calls Tryd.prog 25 #[.int .i64 (W : Int), .int .i64 10] w fun e w' => e = .returned (.string wt) ∧ Below w.heap.size w w')
    (RP : ∀ w, Calls Tryd.prog 26 #[.string ⟨#[48]⟩, .int .i64 ((2 : Int) - (k : Int))] w fun e w' => e = .returned (.string zt) ∧ Below w.heap.size w w') :
    Calls Tryd.prog 21 #[.int .i64 x] w fun e w' => e = .returned (.string (⟨#[45]⟩ ++ wt ++ ⟨#[46]⟩ ++ zt ++ pt)) ∧ Below w.heap.size w w' := by
  have L1 := hideP (LW 1 (by decide) (by decide))
  have R1 := hideP (NR 1 (by decide) (by decide))
  have b1 := hm 1 (by decide) (by decide)
  have L2 := hideP (LW 2 (by decide) (by decide))
  have R2 := hideP (NR 2 (by decide) (by decide))
  have b2 := hm 2 (by decide) (by decide)
  have hq1 : r 1 ≠ x := hr1 1 (by decide) (by decide)
  have q1 : (r 1 == x) = false := by simp [hq1]
  have q1' : (r 1 != x) = true := by simp [hq1]
  clear hq1
  have q2 : (r 2 == x) = true := by simp [hr]
  have q2' : (r 2 != x) = false := by simp [hr]
  have m0 : decide (m 2 < 0) = true := by simp; omega
  have HFM := hideP FM
  have HFW := hideP FW
  have HRP := hideP RP
  have HT := hideP hTab
  clear LW NR FM FW RP hTab hr hr1 hm hs
  go_enter Tryd.func21, Tryd.ntmps21
  go_wp2_with fail
  refine (L1.out _).mono ?_
  rintro e w1 ⟨rfl, rfl⟩
  go_wp2_with fail
  go_loopw [3, 4, 5] (fun s3 s4 s5 wr => Hid (Below w1.heap.size w1 wr) ∧ ∃ p : Nat, 1 ≤ p ∧ p ≤ 2 ∧ s3 = .int .i64 (p : Int) ∧ s4 = .int .i64 ((10 ^ p : Nat) : Int) ∧ s5 = .int .i64 (m p)) (fun s3 _ _ _ => 5 - (intOf s3).toNat)
  case atStart => exact ⟨hideP (Below.refl _ _), 1, by omega, by omega, rfl, rfl, rfl⟩
  case round =>
    obtain ⟨HW, p, hp1, hp2, rfl, rfl, rfl⟩ := hrel
    obtain rfl | rfl : p = 1 ∨ p = 2 := by omega
    · simp only [Nat.reducePow]
      go_wp2_with fail
      refine (R1.out _).mono ?_
      rintro e w2 ⟨rfl, hb2⟩
      have HW2 := hideP (HW.out.trans (hb2.mono HW.out.size))
      clear hb2
      go_wp2_with fail
      refine (L2.out _).mono ?_
      rintro e w3 ⟨rfl, rfl⟩
      go_wp2
      go_roundw
      case rel => exact ⟨HW2, 2, by omega, by omega, rfl, rfl, rfl⟩
      case measure => simp [intOf]
    · simp only [Nat.reducePow]
      go_wp2_with fail
      refine (R2.out _).mono ?_
      rintro e w2 ⟨rfl, hb2⟩
      have HW2 := hideP (HW.out.trans (hb2.mono HW.out.size))
      clear hb2
      go_wp2_with fail
      refine (HFM.out _ (HT.out.kept HW2.out)).mono ?_
      rintro e w3 ⟨rfl, hb3⟩
      have HW3 := hideP (HW2.out.trans (hb3.mono HW2.out.size))
      clear hb3
      go_wp2_with fail
      refine (HRP.out _).mono ?_
      rintro e w4 ⟨rfl, hb4⟩
      have HW4 := hideP (HW3.out.trans (hb4.mono HW3.out.size))
      clear hb4
      go_wp2_with fail
      refine (HFW.out _ (HT.out.kept HW4.out)).mono ?_
      rintro e w5 ⟨rfl, hb5⟩
      have HW5 := hideP (HW4.out.trans (hb5.mono HW4.out.size))
      clear hb5
      go_wp2
      go_ret
      exact ⟨rfl, HW5.out⟩

set_option maxRecDepth 100000 in
set_option maxHeartbeats 4000000 in
theorem showNeg3 (x : Int) (w : World) (m r : Nat → Int) (W F k : Nat) (pt wt zt : ByteArray) (hx : -1073741823 ≤ x ∧ x ≤ 1073741823) (hTab : Pows w)
    (hm : ∀ p, 1 ≤ p → p ≤ 5 → -10000000000 ≤ m p ∧ m p ≤ 10000000000)
    (LW : ∀ p, 1 ≤ p → p ≤ 5 → ∀ w, Calls Tryd.prog 23 #[.int .i64 (x * ((10 ^ p : Nat) : Int)), .int .i64 65536] w fun e w' => e = .returned (.int .i64 (m p)) ∧ w' = w)
    (NR : ∀ p, 1 ≤ p → p ≤ 5 → ∀ w, Calls Tryd.prog 24 #[.int .i64 (m p * 65536), .int .i64 ((10 ^ p : Nat) : Int)] w fun e w' => e = .returned (.int .i64 (r p)) ∧ Below w.heap.size w w')
    (hr : r 3 = x) (hr1 : ∀ q, 1 ≤ q → q < 3 → r q ≠ x)
    (hs : m 3 < 0) (eF : -(m 3).tmod 1000 = (F : Int)) (eW : -(m 3).tdiv 1000 = (W : Int)) (hF : F < 1000) (hW : W < 100000) (hk : k ≤ 3) (hpt : pt.size = k) (hwt : wt.size ≤ 5) (hzt : zt.size ≤ 5)
    (FM : ∀ w, Pows w → Calls Tryd.prog 25 #[.int .i64 (F : Int), .int .i64 10] w fun e w' => e = .returned (.string pt) ∧ Below w.heap.size w w')
    (FW : ∀ w, Pows w → Calls Tryd.prog 25 #[.int .i64 (W : Int), .int .i64 10] w fun e w' => e = .returned (.string wt) ∧ Below w.heap.size w w')
    (RP : ∀ w, Calls Tryd.prog 26 #[.string ⟨#[48]⟩, .int .i64 ((3 : Int) - (k : Int))] w fun e w' => e = .returned (.string zt) ∧ Below w.heap.size w w') :
    Calls Tryd.prog 21 #[.int .i64 x] w fun e w' => e = .returned (.string (⟨#[45]⟩ ++ wt ++ ⟨#[46]⟩ ++ zt ++ pt)) ∧ Below w.heap.size w w' := by
  have L1 := hideP (LW 1 (by decide) (by decide))
  have R1 := hideP (NR 1 (by decide) (by decide))
  have b1 := hm 1 (by decide) (by decide)
  have L2 := hideP (LW 2 (by decide) (by decide))
  have R2 := hideP (NR 2 (by decide) (by decide))
  have b2 := hm 2 (by decide) (by decide)
  have L3 := hideP (LW 3 (by decide) (by decide))
  have R3 := hideP (NR 3 (by decide) (by decide))
  have b3 := hm 3 (by decide) (by decide)
  have hq1 : r 1 ≠ x := hr1 1 (by decide) (by decide)
  have q1 : (r 1 == x) = false := by simp [hq1]
  have q1' : (r 1 != x) = true := by simp [hq1]
  clear hq1
  have hq2 : r 2 ≠ x := hr1 2 (by decide) (by decide)
  have q2 : (r 2 == x) = false := by simp [hq2]
  have q2' : (r 2 != x) = true := by simp [hq2]
  clear hq2
  have q3 : (r 3 == x) = true := by simp [hr]
  have q3' : (r 3 != x) = false := by simp [hr]
  have m0 : decide (m 3 < 0) = true := by simp; omega
  have HFM := hideP FM
  have HFW := hideP FW
  have HRP := hideP RP
  have HT := hideP hTab
  clear LW NR FM FW RP hTab hr hr1 hm hs
  go_enter Tryd.func21, Tryd.ntmps21
  go_wp2_with fail
  refine (L1.out _).mono ?_
  rintro e w1 ⟨rfl, rfl⟩
  go_wp2_with fail
  go_loopw [3, 4, 5] (fun s3 s4 s5 wr => Hid (Below w1.heap.size w1 wr) ∧ ∃ p : Nat, 1 ≤ p ∧ p ≤ 3 ∧ s3 = .int .i64 (p : Int) ∧ s4 = .int .i64 ((10 ^ p : Nat) : Int) ∧ s5 = .int .i64 (m p)) (fun s3 _ _ _ => 5 - (intOf s3).toNat)
  case atStart => exact ⟨hideP (Below.refl _ _), 1, by omega, by omega, rfl, rfl, rfl⟩
  case round =>
    obtain ⟨HW, p, hp1, hp2, rfl, rfl, rfl⟩ := hrel
    obtain rfl | rfl | rfl : p = 1 ∨ p = 2 ∨ p = 3 := by omega
    · simp only [Nat.reducePow]
      go_wp2_with fail
      refine (R1.out _).mono ?_
      rintro e w2 ⟨rfl, hb2⟩
      have HW2 := hideP (HW.out.trans (hb2.mono HW.out.size))
      clear hb2
      go_wp2_with fail
      refine (L2.out _).mono ?_
      rintro e w3 ⟨rfl, rfl⟩
      go_wp2
      go_roundw
      case rel => exact ⟨HW2, 2, by omega, by omega, rfl, rfl, rfl⟩
      case measure => simp [intOf]
    · simp only [Nat.reducePow]
      go_wp2_with fail
      refine (R2.out _).mono ?_
      rintro e w2 ⟨rfl, hb2⟩
      have HW2 := hideP (HW.out.trans (hb2.mono HW.out.size))
      clear hb2
      go_wp2_with fail
      refine (L3.out _).mono ?_
      rintro e w3 ⟨rfl, rfl⟩
      go_wp2
      go_roundw
      case rel => exact ⟨HW2, 3, by omega, by omega, rfl, rfl, rfl⟩
      case measure => simp [intOf]
    · simp only [Nat.reducePow]
      go_wp2_with fail
      refine (R3.out _).mono ?_
      rintro e w2 ⟨rfl, hb2⟩
      have HW2 := hideP (HW.out.trans (hb2.mono HW.out.size))
      clear hb2
      go_wp2_with fail
      refine (HFM.out _ (HT.out.kept HW2.out)).mono ?_
      rintro e w3 ⟨rfl, hb3⟩
      have HW3 := hideP (HW2.out.trans (hb3.mono HW2.out.size))
      clear hb3
      go_wp2_with fail
      refine (HRP.out _).mono ?_
      rintro e w4 ⟨rfl, hb4⟩
      have HW4 := hideP (HW3.out.trans (hb4.mono HW3.out.size))
      clear hb4
      go_wp2_with fail
      refine (HFW.out _ (HT.out.kept HW4.out)).mono ?_
      rintro e w5 ⟨rfl, hb5⟩
      have HW5 := hideP (HW4.out.trans (hb5.mono HW4.out.size))
      clear hb5
      go_wp2
      go_ret
      exact ⟨rfl, HW5.out⟩

set_option maxRecDepth 100000 in
set_option maxHeartbeats 4000000 in
theorem showNeg4 (x : Int) (w : World) (m r : Nat → Int) (W F k : Nat) (pt wt zt : ByteArray) (hx : -1073741823 ≤ x ∧ x ≤ 1073741823) (hTab : Pows w)
    (hm : ∀ p, 1 ≤ p → p ≤ 5 → -10000000000 ≤ m p ∧ m p ≤ 10000000000)
    (LW : ∀ p, 1 ≤ p → p ≤ 5 → ∀ w, Calls Tryd.prog 23 #[.int .i64 (x * ((10 ^ p : Nat) : Int)), .int .i64 65536] w fun e w' => e = .returned (.int .i64 (m p)) ∧ w' = w)
    (NR : ∀ p, 1 ≤ p → p ≤ 5 → ∀ w, Calls Tryd.prog 24 #[.int .i64 (m p * 65536), .int .i64 ((10 ^ p : Nat) : Int)] w fun e w' => e = .returned (.int .i64 (r p)) ∧ Below w.heap.size w w')
    (hr : r 4 = x) (hr1 : ∀ q, 1 ≤ q → q < 4 → r q ≠ x)
    (hs : m 4 < 0) (eF : -(m 4).tmod 10000 = (F : Int)) (eW : -(m 4).tdiv 10000 = (W : Int)) (hF : F < 10000) (hW : W < 100000) (hk : k ≤ 4) (hpt : pt.size = k) (hwt : wt.size ≤ 5) (hzt : zt.size ≤ 5)
    (FM : ∀ w, Pows w → Calls Tryd.prog 25 #[.int .i64 (F : Int), .int .i64 10] w fun e w' => e = .returned (.string pt) ∧ Below w.heap.size w w')
    (FW : ∀ w, Pows w → Calls Tryd.prog 25 #[.int .i64 (W : Int), .int .i64 10] w fun e w' => e = .returned (.string wt) ∧ Below w.heap.size w w')
    (RP : ∀ w, Calls Tryd.prog 26 #[.string ⟨#[48]⟩, .int .i64 ((4 : Int) - (k : Int))] w fun e w' => e = .returned (.string zt) ∧ Below w.heap.size w w') :
    Calls Tryd.prog 21 #[.int .i64 x] w fun e w' => e = .returned (.string (⟨#[45]⟩ ++ wt ++ ⟨#[46]⟩ ++ zt ++ pt)) ∧ Below w.heap.size w w' := by
  have L1 := hideP (LW 1 (by decide) (by decide))
  have R1 := hideP (NR 1 (by decide) (by decide))
  have b1 := hm 1 (by decide) (by decide)
  have L2 := hideP (LW 2 (by decide) (by decide))
  have R2 := hideP (NR 2 (by decide) (by decide))
  have b2 := hm 2 (by decide) (by decide)
  have L3 := hideP (LW 3 (by decide) (by decide))
  have R3 := hideP (NR 3 (by decide) (by decide))
  have b3 := hm 3 (by decide) (by decide)
  have L4 := hideP (LW 4 (by decide) (by decide))
  have R4 := hideP (NR 4 (by decide) (by decide))
  have b4 := hm 4 (by decide) (by decide)
  have hq1 : r 1 ≠ x := hr1 1 (by decide) (by decide)
  have q1 : (r 1 == x) = false := by simp [hq1]
  have q1' : (r 1 != x) = true := by simp [hq1]
  clear hq1
  have hq2 : r 2 ≠ x := hr1 2 (by decide) (by decide)
  have q2 : (r 2 == x) = false := by simp [hq2]
  have q2' : (r 2 != x) = true := by simp [hq2]
  clear hq2
  have hq3 : r 3 ≠ x := hr1 3 (by decide) (by decide)
  have q3 : (r 3 == x) = false := by simp [hq3]
  have q3' : (r 3 != x) = true := by simp [hq3]
  clear hq3
  have q4 : (r 4 == x) = true := by simp [hr]
  have q4' : (r 4 != x) = false := by simp [hr]
  have m0 : decide (m 4 < 0) = true := by simp; omega
  have HFM := hideP FM
  have HFW := hideP FW
  have HRP := hideP RP
  have HT := hideP hTab
  clear LW NR FM FW RP hTab hr hr1 hm hs
  go_enter Tryd.func21, Tryd.ntmps21
  go_wp2_with fail
  refine (L1.out _).mono ?_
  rintro e w1 ⟨rfl, rfl⟩
  go_wp2_with fail
  go_loopw [3, 4, 5] (fun s3 s4 s5 wr => Hid (Below w1.heap.size w1 wr) ∧ ∃ p : Nat, 1 ≤ p ∧ p ≤ 4 ∧ s3 = .int .i64 (p : Int) ∧ s4 = .int .i64 ((10 ^ p : Nat) : Int) ∧ s5 = .int .i64 (m p)) (fun s3 _ _ _ => 5 - (intOf s3).toNat)
  case atStart => exact ⟨hideP (Below.refl _ _), 1, by omega, by omega, rfl, rfl, rfl⟩
  case round =>
    obtain ⟨HW, p, hp1, hp2, rfl, rfl, rfl⟩ := hrel
    obtain rfl | rfl | rfl | rfl : p = 1 ∨ p = 2 ∨ p = 3 ∨ p = 4 := by omega
    · simp only [Nat.reducePow]
      go_wp2_with fail
      refine (R1.out _).mono ?_
      rintro e w2 ⟨rfl, hb2⟩
      have HW2 := hideP (HW.out.trans (hb2.mono HW.out.size))
      clear hb2
      go_wp2_with fail
      refine (L2.out _).mono ?_
      rintro e w3 ⟨rfl, rfl⟩
      go_wp2
      go_roundw
      case rel => exact ⟨HW2, 2, by omega, by omega, rfl, rfl, rfl⟩
      case measure => simp [intOf]
    · simp only [Nat.reducePow]
      go_wp2_with fail
      refine (R2.out _).mono ?_
      rintro e w2 ⟨rfl, hb2⟩
      have HW2 := hideP (HW.out.trans (hb2.mono HW.out.size))
      clear hb2
      go_wp2_with fail
      refine (L3.out _).mono ?_
      rintro e w3 ⟨rfl, rfl⟩
      go_wp2
      go_roundw
      case rel => exact ⟨HW2, 3, by omega, by omega, rfl, rfl, rfl⟩
      case measure => simp [intOf]
    · simp only [Nat.reducePow]
      go_wp2_with fail
      refine (R3.out _).mono ?_
      rintro e w2 ⟨rfl, hb2⟩
      have HW2 := hideP (HW.out.trans (hb2.mono HW.out.size))
      clear hb2
      go_wp2_with fail
      refine (L4.out _).mono ?_
      rintro e w3 ⟨rfl, rfl⟩
      go_wp2
      go_roundw
      case rel => exact ⟨HW2, 4, by omega, by omega, rfl, rfl, rfl⟩
      case measure => simp [intOf]
    · simp only [Nat.reducePow]
      go_wp2_with fail
      refine (R4.out _).mono ?_
      rintro e w2 ⟨rfl, hb2⟩
      have HW2 := hideP (HW.out.trans (hb2.mono HW.out.size))
      clear hb2
      go_wp2_with fail
      refine (HFM.out _ (HT.out.kept HW2.out)).mono ?_
      rintro e w3 ⟨rfl, hb3⟩
      have HW3 := hideP (HW2.out.trans (hb3.mono HW2.out.size))
      clear hb3
      go_wp2_with fail
      refine (HRP.out _).mono ?_
      rintro e w4 ⟨rfl, hb4⟩
      have HW4 := hideP (HW3.out.trans (hb4.mono HW3.out.size))
      clear hb4
      go_wp2_with fail
      refine (HFW.out _ (HT.out.kept HW4.out)).mono ?_
      rintro e w5 ⟨rfl, hb5⟩
      have HW5 := hideP (HW4.out.trans (hb5.mono HW4.out.size))
      clear hb5
      go_wp2
      go_ret
      exact ⟨rfl, HW5.out⟩

set_option maxRecDepth 100000 in
set_option maxHeartbeats 4000000 in
theorem showNeg5 (x : Int) (w : World) (m r : Nat → Int) (W F k : Nat) (pt wt zt : ByteArray) (hx : -1073741823 ≤ x ∧ x ≤ 1073741823) (hTab : Pows w)
    (hm : ∀ p, 1 ≤ p → p ≤ 5 → -10000000000 ≤ m p ∧ m p ≤ 10000000000)
    (LW : ∀ p, 1 ≤ p → p ≤ 5 → ∀ w, Calls Tryd.prog 23 #[.int .i64 (x * ((10 ^ p : Nat) : Int)), .int .i64 65536] w fun e w' => e = .returned (.int .i64 (m p)) ∧ w' = w)
    (NR : ∀ p, 1 ≤ p → p ≤ 5 → ∀ w, Calls Tryd.prog 24 #[.int .i64 (m p * 65536), .int .i64 ((10 ^ p : Nat) : Int)] w fun e w' => e = .returned (.int .i64 (r p)) ∧ Below w.heap.size w w')
    (hr : r 5 = x) (hr1 : ∀ q, 1 ≤ q → q < 5 → r q ≠ x)
    (hs : m 5 < 0) (eF : -(m 5).tmod 100000 = (F : Int)) (eW : -(m 5).tdiv 100000 = (W : Int)) (hF : F < 100000) (hW : W < 100000) (hk : k ≤ 5) (hpt : pt.size = k) (hwt : wt.size ≤ 5) (hzt : zt.size ≤ 5)
    (FM : ∀ w, Pows w → Calls Tryd.prog 25 #[.int .i64 (F : Int), .int .i64 10] w fun e w' => e = .returned (.string pt) ∧ Below w.heap.size w w')
    (FW : ∀ w, Pows w → Calls Tryd.prog 25 #[.int .i64 (W : Int), .int .i64 10] w fun e w' => e = .returned (.string wt) ∧ Below w.heap.size w w')
    (RP : ∀ w, Calls Tryd.prog 26 #[.string ⟨#[48]⟩, .int .i64 ((5 : Int) - (k : Int))] w fun e w' => e = .returned (.string zt) ∧ Below w.heap.size w w') :
    Calls Tryd.prog 21 #[.int .i64 x] w fun e w' => e = .returned (.string (⟨#[45]⟩ ++ wt ++ ⟨#[46]⟩ ++ zt ++ pt)) ∧ Below w.heap.size w w' := by
  have L1 := hideP (LW 1 (by decide) (by decide))
  have R1 := hideP (NR 1 (by decide) (by decide))
  have b1 := hm 1 (by decide) (by decide)
  have L2 := hideP (LW 2 (by decide) (by decide))
  have R2 := hideP (NR 2 (by decide) (by decide))
  have b2 := hm 2 (by decide) (by decide)
  have L3 := hideP (LW 3 (by decide) (by decide))
  have R3 := hideP (NR 3 (by decide) (by decide))
  have b3 := hm 3 (by decide) (by decide)
  have L4 := hideP (LW 4 (by decide) (by decide))
  have R4 := hideP (NR 4 (by decide) (by decide))
  have b4 := hm 4 (by decide) (by decide)
  have L5 := hideP (LW 5 (by decide) (by decide))
  have R5 := hideP (NR 5 (by decide) (by decide))
  have b5 := hm 5 (by decide) (by decide)
  have hq1 : r 1 ≠ x := hr1 1 (by decide) (by decide)
  have q1 : (r 1 == x) = false := by simp [hq1]
  have q1' : (r 1 != x) = true := by simp [hq1]
  clear hq1
  have hq2 : r 2 ≠ x := hr1 2 (by decide) (by decide)
  have q2 : (r 2 == x) = false := by simp [hq2]
  have q2' : (r 2 != x) = true := by simp [hq2]
  clear hq2
  have hq3 : r 3 ≠ x := hr1 3 (by decide) (by decide)
  have q3 : (r 3 == x) = false := by simp [hq3]
  have q3' : (r 3 != x) = true := by simp [hq3]
  clear hq3
  have hq4 : r 4 ≠ x := hr1 4 (by decide) (by decide)
  have q4 : (r 4 == x) = false := by simp [hq4]
  have q4' : (r 4 != x) = true := by simp [hq4]
  clear hq4
  have q5 : (r 5 == x) = true := by simp [hr]
  have q5' : (r 5 != x) = false := by simp [hr]
  have m0 : decide (m 5 < 0) = true := by simp; omega
  have HFM := hideP FM
  have HFW := hideP FW
  have HRP := hideP RP
  have HT := hideP hTab
  clear LW NR FM FW RP hTab hr hr1 hm hs
  go_enter Tryd.func21, Tryd.ntmps21
  go_wp2_with fail
  refine (L1.out _).mono ?_
  rintro e w1 ⟨rfl, rfl⟩
  go_wp2_with fail
  go_loopw [3, 4, 5] (fun s3 s4 s5 wr => Hid (Below w1.heap.size w1 wr) ∧ ∃ p : Nat, 1 ≤ p ∧ p ≤ 5 ∧ s3 = .int .i64 (p : Int) ∧ s4 = .int .i64 ((10 ^ p : Nat) : Int) ∧ s5 = .int .i64 (m p)) (fun s3 _ _ _ => 5 - (intOf s3).toNat)
  case atStart => exact ⟨hideP (Below.refl _ _), 1, by omega, by omega, rfl, rfl, rfl⟩
  case round =>
    obtain ⟨HW, p, hp1, hp2, rfl, rfl, rfl⟩ := hrel
    obtain rfl | rfl | rfl | rfl | rfl : p = 1 ∨ p = 2 ∨ p = 3 ∨ p = 4 ∨ p = 5 := by omega
    · simp only [Nat.reducePow]
      go_wp2_with fail
      refine (R1.out _).mono ?_
      rintro e w2 ⟨rfl, hb2⟩
      have HW2 := hideP (HW.out.trans (hb2.mono HW.out.size))
      clear hb2
      go_wp2_with fail
      refine (L2.out _).mono ?_
      rintro e w3 ⟨rfl, rfl⟩
      go_wp2
      go_roundw
      case rel => exact ⟨HW2, 2, by omega, by omega, rfl, rfl, rfl⟩
      case measure => simp [intOf]
    · simp only [Nat.reducePow]
      go_wp2_with fail
      refine (R2.out _).mono ?_
      rintro e w2 ⟨rfl, hb2⟩
      have HW2 := hideP (HW.out.trans (hb2.mono HW.out.size))
      clear hb2
      go_wp2_with fail
      refine (L3.out _).mono ?_
      rintro e w3 ⟨rfl, rfl⟩
      go_wp2
      go_roundw
      case rel => exact ⟨HW2, 3, by omega, by omega, rfl, rfl, rfl⟩
      case measure => simp [intOf]
    · simp only [Nat.reducePow]
      go_wp2_with fail
      refine (R3.out _).mono ?_
      rintro e w2 ⟨rfl, hb2⟩
      have HW2 := hideP (HW.out.trans (hb2.mono HW.out.size))
      clear hb2
      go_wp2_with fail
      refine (L4.out _).mono ?_
      rintro e w3 ⟨rfl, rfl⟩
      go_wp2
      go_roundw
      case rel => exact ⟨HW2, 4, by omega, by omega, rfl, rfl, rfl⟩
      case measure => simp [intOf]
    · simp only [Nat.reducePow]
      go_wp2_with fail
      refine (R4.out _).mono ?_
      rintro e w2 ⟨rfl, hb2⟩
      have HW2 := hideP (HW.out.trans (hb2.mono HW.out.size))
      clear hb2
      go_wp2_with fail
      refine (L5.out _).mono ?_
      rintro e w3 ⟨rfl, rfl⟩
      go_wp2
      go_roundw
      case rel => exact ⟨HW2, 5, by omega, by omega, rfl, rfl, rfl⟩
      case measure => simp [intOf]
    · simp only [Nat.reducePow]
      go_wp2_with fail
      refine (R5.out _).mono ?_
      rintro e w2 ⟨rfl, hb2⟩
      have HW2 := hideP (HW.out.trans (hb2.mono HW.out.size))
      clear hb2
      go_wp2_with fail
      refine (HFM.out _ (HT.out.kept HW2.out)).mono ?_
      rintro e w3 ⟨rfl, hb3⟩
      have HW3 := hideP (HW2.out.trans (hb3.mono HW2.out.size))
      clear hb3
      go_wp2_with fail
      refine (HRP.out _).mono ?_
      rintro e w4 ⟨rfl, hb4⟩
      have HW4 := hideP (HW3.out.trans (hb4.mono HW3.out.size))
      clear hb4
      go_wp2_with fail
      refine (HFW.out _ (HT.out.kept HW4.out)).mono ?_
      rintro e w5 ⟨rfl, hb5⟩
      have HW5 := hideP (HW4.out.trans (hb5.mono HW4.out.size))
      clear hb5
      go_wp2
      go_ret
      exact ⟨rfl, HW5.out⟩

end Go.Proofs.YtminpoenfjnmiaaDoor
