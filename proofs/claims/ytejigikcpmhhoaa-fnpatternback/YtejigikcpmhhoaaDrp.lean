/-
  The draws of texts and patterns: what is drawn is not told, only how long it may be.
-/
import Derived.Test.YtejigikcpmhhoaaDraw
import Derived.Test.YtejigikcpmhhoaaRds
namespace Go.Proofs.Ytejigikcpmhhoaa
open Go.RowKit
set_option linter.unusedVariables false
set_option linter.unusedSimpArgs false

theorem Cur.below {w wr w' : World} {ao : Option Addr} {len cap : Nat} (h : Cur w wr ao len cap) (hb : Below wr.heap.size wr w') : Cur w w' ao len cap := by
  obtain ⟨i, x, h1, h2, h3, h4⟩ := h
  exact ⟨i, x, h1, h2, (hb.block _ (Array.getElem?_eq_some_iff.1 h3).1).trans h3, below_more h4 hb h4.size⟩
theorem Fram.below {w a b c : World} (h : Fram w a b) (hb : Below b.heap.size b c) : Fram w a c := h.trans ⟨hb.size, fun n hn _ => hb.block n hn⟩

set_option maxRecDepth 100000 in
set_option maxHeartbeats 2000000 in
theorem decimal0_any (z : Int) (hz : 0 ≤ z) (hz9 : z ≤ 9) (w : World) : Calls Try.prog 42 #[.int .u64 z] w fun e w' => (∃ T : ByteArray, e = .returned (.string T) ∧ T.size = 1) ∧ Below w.heap.size w w' := by
  have h9 : decide (9 < z) = false := by simp; omega
  have hcv := conv_one w (48 + z)
  go_enter Try.func42, Try.ntmps42
  go_wp2
  go_loopw [0, 3] (fun d s wr => d = .int .u64 z ∧ s = .string ⟨#[]⟩ ∧ wr = w) (fun _ _ _ => 0)
  case atStart => exact ⟨rfl, rfl, rfl⟩
  case round =>
    obtain ⟨rfl, rfl, hw⟩ := hrel
    subst hw
    go_wp2
    go_ret
    refine ⟨⟨_, rfl, ?_⟩, below1 _ _⟩
    rw [ByteArray.size_append]
    rfl

theorem abs_any (z : Int) (hz : 0 ≤ z) (hz9 : z ≤ 9) (w : World) : Calls Try.prog 70 #[.int .i64 z] w fun e w' => e = .returned (.int .u64 z) ∧ w' = w := by
  have h0 : decide (z < 0) = false := by simp; omega
  go_enter Try.func70, Try.ntmps70
  go_wp2
  go_ret
  exact ⟨rfl, rfl⟩

theorem signed_any (z : Int) (hz : 0 ≤ z) (hz9 : z ≤ 9) (w : World) : Calls Try.prog 59 #[.int .i64 z] w fun e w' => (∃ T : ByteArray, e = .returned (.string T) ∧ T.size = 1) ∧ Below w.heap.size w w' := by
  have h0 : decide (z < 0) = false := by simp; omega
  go_enter Try.func59, Try.ntmps59
  go_wp2_with fail
  refine (abs_any z hz hz9 _).mono ?_
  rintro e w1 ⟨rfl, hw⟩
  have hw2 := hw.symm
  subst hw2
  go_wp2_with fail
  refine (decimal0_any z hz hz9 _).mono ?_
  rintro e w1 ⟨⟨T, rfl, hT⟩, hb⟩
  go_wp2
  go_ret
  exact ⟨⟨T, rfl, hT⟩, hb⟩

theorem six_strs (w : World) : ∀ j : Nat, j < 6 → ∃ D : ByteArray, D.size ≤ 21 ∧ (w.alloc (.cells #[.string ⟨#[97]⟩, .string ⟨#[98]⟩, .string ⟨#[99]⟩, .string ⟨#[101]⟩, .string ⟨#[110]⟩, .string ⟨#[116]⟩] 9)).cell? ⟨w.heap.size, j, none⟩ = some (.string D) := by
  intro j hj
  have : j = 0 ∨ j = 1 ∨ j = 2 ∨ j = 3 ∨ j = 4 ∨ j = 5 := by omega
  rcases this with rfl | rfl | rfl | rfl | rfl | rfl
  · exact ⟨⟨#[97]⟩, by decide, by simp [go_sem]⟩
  · exact ⟨⟨#[98]⟩, by decide, by simp [go_sem]⟩
  · exact ⟨⟨#[99]⟩, by decide, by simp [go_sem]⟩
  · exact ⟨⟨#[101]⟩, by decide, by simp [go_sem]⟩
  · exact ⟨⟨#[110]⟩, by decide, by simp [go_sem]⟩
  · exact ⟨⟨#[116]⟩, by decide, by simp [go_sem]⟩

theorem five_strs (w : World) : ∀ j : Nat, j < 5 → ∃ D : ByteArray, D.size ≤ 21 ∧ (w.alloc (.cells #[.string ⟨#[49, 49, 97]⟩, .string ⟨#[46, 98]⟩, .string ⟨#[65]⟩, .string ⟨#[]⟩, .string ⟨#[97, 97, 97, 97, 97, 97, 97, 97, 97, 97, 97, 97, 97, 97, 97, 97, 97, 97, 97, 97, 97]⟩] 9)).cell? ⟨w.heap.size, j, none⟩ = some (.string D) := by
  intro j hj
  have : j = 0 ∨ j = 1 ∨ j = 2 ∨ j = 3 ∨ j = 4 := by omega
  rcases this with rfl | rfl | rfl | rfl | rfl
  · exact ⟨⟨#[49, 49, 97]⟩, by decide, by simp [go_sem]⟩
  · exact ⟨⟨#[46, 98]⟩, by decide, by simp [go_sem]⟩
  · exact ⟨⟨#[65]⟩, by decide, by simp [go_sem]⟩
  · exact ⟨⟨#[]⟩, by decide, by simp [go_sem]⟩
  · exact ⟨⟨#[97, 97, 97, 97, 97, 97, 97, 97, 97, 97, 97, 97, 97, 97, 97, 97, 97, 97, 97, 97, 97]⟩, by decide, by simp [go_sem]⟩

theorem six_more (w : World) : ∀ j : Nat, j < 6 → ∃ D : ByteArray, D.size ≤ 21 ∧ (w.alloc (.cells #[.string ⟨#[46, 46]⟩, .string ⟨#[46]⟩, .string ⟨#[97, 46]⟩, .string ⟨#[]⟩, .string ⟨#[46, 97, 46, 98]⟩, .string ⟨#[97, 97, 97, 97, 97, 97, 97, 97, 97, 97, 97, 97, 97, 97, 97, 97, 97, 97, 97, 97]⟩] 9)).cell? ⟨w.heap.size, j, none⟩ = some (.string D) := by
  intro j hj
  have : j = 0 ∨ j = 1 ∨ j = 2 ∨ j = 3 ∨ j = 4 ∨ j = 5 := by omega
  rcases this with rfl | rfl | rfl | rfl | rfl | rfl
  · exact ⟨⟨#[46, 46]⟩, by decide, by simp [go_sem]⟩
  · exact ⟨⟨#[46]⟩, by decide, by simp [go_sem]⟩
  · exact ⟨⟨#[97, 46]⟩, by decide, by simp [go_sem]⟩
  · exact ⟨⟨#[]⟩, by decide, by simp [go_sem]⟩
  · exact ⟨⟨#[46, 97, 46, 98]⟩, by decide, by simp [go_sem]⟩
  · exact ⟨⟨#[97, 97, 97, 97, 97, 97, 97, 97, 97, 97, 97, 97, 97, 97, 97, 97, 97, 97, 97, 97]⟩, by decide, by simp [go_sem]⟩

set_option maxRecDepth 100000 in
set_option maxHeartbeats 8000000 in
theorem drawText_any (ao : Option Addr) (len cap : Nat) (w wr : World) (hB : Bytes w ao len cap) (hC : Cur w wr ao len cap) :
    Calls Try.prog 34 #[curP w] wr fun e w' => ∃ T : ByteArray, e = .returned (.string T) ∧ T.size ≤ 200 ∧ Cur w w' ao len cap ∧ Fram w wr w' := by
  have HB := hideP hB
  have C0 := hideP hC
  have F0 := hideP (Fram.refl w wr)
  clear hB hC
  go_enter Try.func34, Try.ntmps34
  go_wp2_with fail
  refine (once_any 8 ao len cap w _ HB.out C0.out (by omega) (by omega)).mono ?_
  rintro e w1 ⟨b1, rfl, cc, oo⟩
  have F1 := hideP (F0.out.other oo cc)
  have C1 := hideP cc
  clear cc oo
  cases b1
  · skip
    go_wp2_with fail
    refine (below_any 4 ao len cap w _ HB.out C1.out (by omega) (by omega)).mono ?_
    rintro e wb ⟨x, rfl, xl, xh, cc, oo⟩
    have FB := hideP (F1.out.other oo cc)
    have CB := hideP cc
    clear cc oo
    go_wp2
    go_loopw [3, 4] (fun t i wq => ∃ (j : Nat) (T : ByteArray), j ≤ 4 ∧ i = .int .i64 j ∧ t = .string T ∧ T.size ≤ 1 + 22 * (4 - j) ∧ Hid (Cur w wq ao len cap) ∧ Hid (Fram w wr wq)) (fun _ i _ => (intOf i).toNat)
    case atStart =>
      obtain ⟨xn, rfl⟩ := Int.eq_ofNat_of_zero_le xl
      exact ⟨1 + xn, _, by omega, by simp, rfl, by first | (simp [ByteArray.size]; done) | (simp [ByteArray.size]; omega), CB, FB⟩
    case round =>
      obtain ⟨j, T, hj, rfl, rfl, hTs, CQ, FQ⟩ := hrel
      by_cases hj0 : 0 < j
      · have hji : (0 : Int) < (j : Int) := by omega
        obtain ⟨B, hB⟩ : ∃ B : Nat, B = 1 + 22 * (4 - j) := ⟨_, rfl⟩
        have hB1 : B ≤ 67 := by omega
        have hTB : T.size ≤ B := by omega
        have HBB := hideP hB
        clear hB hTs
        go_wp2_with fail
        refine (once_any 2 ao len cap w _ HB.out CQ.out (by omega) (by omega)).mono ?_
        rintro e w2 ⟨b2, rfl, cc, oo⟩
        have F2 := hideP (FQ.out.other oo cc)
        have C2 := hideP cc
        clear cc oo
        cases b2
        · skip
          have S3 := hideP (six_strs w2)
          have hz3 : w.heap.size < w2.heap.size := Cur.lt C2.out
          go_wp2_with fail
          refine (below_any 6 ao len cap w _ HB.out (C2.out.alloc _) (by omega) (by omega)).mono ?_
          rintro e w3 ⟨x3, rfl, xl3, xh3, cc, oo⟩
          obtain ⟨j3, rfl⟩ := Int.eq_ofNat_of_zero_le xl3
          obtain ⟨D3, hD3, hcv3⟩ := S3.out j3 (by omega)
          have hcell3 := (oo.cell (n := w2.heap.size) (o := j3) (by omega)).trans hcv3
          have F3 := hideP ((F2.out.alloc _).other oo cc)
          have C3 := hideP cc
          clear cc oo hcv3 S3
          obtain ⟨T4, hT4⟩ : ∃ T2, T2 = T ++ D3 := ⟨_, rfl⟩
          have hs4 : T4.size ≤ B + 21 := by rw [hT4, ByteArray.size_append]; omega
          have hu4 : ¬ 9223372036854775807 < T.size + D3.size := by omega
          have hT4b := hT4.symm
          clear hT4
          go_wp2
          go_roundw
          case rel => exact ⟨j - 1, T4, by omega, by first | go_num | (congr 1; omega), rfl, by have := HBB.out; omega, C3, F3⟩
          case measure => simp [intOf]; omega
        · skip
          go_wp2_with fail
          refine (below_any 6 ao len cap w _ HB.out C2.out (by omega) (by omega)).mono ?_
          rintro e w5 ⟨x5, rfl, xl5, xh5, cc, oo⟩
          have F5 := hideP (F2.out.other oo cc)
          have C5 := hideP cc
          clear cc oo
          go_wp2_with fail
          refine (signed_any x5 xl5 (by omega) _).mono ?_
          rintro e w6 ⟨⟨D6, rfl, hD6⟩, hb6⟩
          have F6 := hideP (F5.out.below hb6)
          have C6 := hideP (C5.out.below hb6)
          clear hb6
          obtain ⟨T7, hT7⟩ : ∃ T2, T2 = T ++ D6 := ⟨_, rfl⟩
          have hs7 : T7.size ≤ B + 1 := by rw [hT7, ByteArray.size_append]; omega
          have hu7 : ¬ 9223372036854775807 < T.size + D6.size := by omega
          have hT7b := hT7.symm
          clear hT7
          have S8 := hideP (six_strs w6)
          have hz8 : w.heap.size < w6.heap.size := Cur.lt C6.out
          go_wp2_with fail
          refine (below_any 6 ao len cap w _ HB.out (C6.out.alloc _) (by omega) (by omega)).mono ?_
          rintro e w8 ⟨x8, rfl, xl8, xh8, cc, oo⟩
          obtain ⟨j8, rfl⟩ := Int.eq_ofNat_of_zero_le xl8
          obtain ⟨D8, hD8, hcv8⟩ := S8.out j8 (by omega)
          have hcell8 := (oo.cell (n := w6.heap.size) (o := j8) (by omega)).trans hcv8
          have F8 := hideP ((F6.out.alloc _).other oo cc)
          have C8 := hideP cc
          clear cc oo hcv8 S8
          obtain ⟨T9, hT9⟩ : ∃ T2, T2 = T7 ++ D8 := ⟨_, rfl⟩
          have hs9 : T9.size ≤ B + 1 + 21 := by rw [hT9, ByteArray.size_append]; omega
          have hu9 : ¬ 9223372036854775807 < T7.size + D8.size := by omega
          have hT9b := hT9.symm
          clear hT9
          go_wp2
          go_roundw
          case rel => exact ⟨j - 1, T9, by omega, by first | go_num | (congr 1; omega), rfl, by have := HBB.out; omega, C8, F8⟩
          case measure => simp [intOf]; omega
      · have hji : ¬ ((0 : Int) < (j : Int)) := by omega
        obtain rfl : j = 0 := by omega
        go_wp2_with fail
        refine (once_any 3 ao len cap w _ HB.out CQ.out (by omega) (by omega)).mono ?_
        rintro e w10 ⟨b10, rfl, cc, oo⟩
        have F10 := hideP (FQ.out.other oo cc)
        have C10 := hideP cc
        clear cc oo
        cases b10
        · skip
          go_wp2_with fail
          refine (once_any 10 ao len cap w _ HB.out C10.out (by omega) (by omega)).mono ?_
          rintro e w11 ⟨b11, rfl, cc, oo⟩
          have F11 := hideP (F10.out.other oo cc)
          have C11 := hideP cc
          clear cc oo
          cases b11
          · skip
            go_wp2_with fail
            refine (once_any 30 ao len cap w _ HB.out C11.out (by omega) (by omega)).mono ?_
            rintro e w12 ⟨b12, rfl, cc, oo⟩
            have F12 := hideP (F11.out.other oo cc)
            have C12 := hideP cc
            clear cc oo
            cases b12
            · skip
              go_wp2
              go_ret
              exact ⟨T, rfl, by omega, C12.out, F12.out⟩
            · skip
              have S13 := hideP (five_strs w12)
              have hz13 : w.heap.size < w12.heap.size := Cur.lt C12.out
              go_wp2_with fail
              refine (below_any 5 ao len cap w _ HB.out (C12.out.alloc _) (by omega) (by omega)).mono ?_
              rintro e w13 ⟨x13, rfl, xl13, xh13, cc, oo⟩
              obtain ⟨j13, rfl⟩ := Int.eq_ofNat_of_zero_le xl13
              obtain ⟨D13, hD13, hcv13⟩ := S13.out j13 (by omega)
              have hcell13 := (oo.cell (n := w12.heap.size) (o := j13) (by omega)).trans hcv13
              have F13 := hideP ((F12.out.alloc _).other oo cc)
              have C13 := hideP cc
              clear cc oo hcv13 S13
              obtain ⟨T14, hT14⟩ : ∃ T2, T2 = T ++ D13 := ⟨_, rfl⟩
              have hs14 : T14.size ≤ 89 + 21 := by rw [hT14, ByteArray.size_append]; omega
              have hu14 : ¬ 9223372036854775807 < T.size + D13.size := by omega
              have hT14b := hT14.symm
              clear hT14
              go_wp2
              go_ret
              exact ⟨T14, rfl, by omega, C13.out, F13.out⟩
          · skip
            obtain ⟨T15, hT15⟩ : ∃ T2, T2 = T ++ (⟨#[46]⟩ : ByteArray) := ⟨_, rfl⟩
            have hs15 : T15.size ≤ 89 + 1 := by rw [hT15, ByteArray.size_append]; have : (⟨#[46]⟩ : ByteArray).size = 1 := rfl; omega
            have hu15 : ¬ 9223372036854775807 < T.size + 1 := by omega
            have hT15b := hT15.symm
            clear hT15
            go_wp2_with fail
            refine (once_any 30 ao len cap w _ HB.out C11.out (by omega) (by omega)).mono ?_
            rintro e w16 ⟨b16, rfl, cc, oo⟩
            have F16 := hideP (F11.out.other oo cc)
            have C16 := hideP cc
            clear cc oo
            cases b16
            · skip
              go_wp2
              go_ret
              exact ⟨T15, rfl, by omega, C16.out, F16.out⟩
            · skip
              have S17 := hideP (five_strs w16)
              have hz17 : w.heap.size < w16.heap.size := Cur.lt C16.out
              go_wp2_with fail
              refine (below_any 5 ao len cap w _ HB.out (C16.out.alloc _) (by omega) (by omega)).mono ?_
              rintro e w17 ⟨x17, rfl, xl17, xh17, cc, oo⟩
              obtain ⟨j17, rfl⟩ := Int.eq_ofNat_of_zero_le xl17
              obtain ⟨D17, hD17, hcv17⟩ := S17.out j17 (by omega)
              have hcell17 := (oo.cell (n := w16.heap.size) (o := j17) (by omega)).trans hcv17
              have F17 := hideP ((F16.out.alloc _).other oo cc)
              have C17 := hideP cc
              clear cc oo hcv17 S17
              obtain ⟨T18, hT18⟩ : ∃ T2, T2 = T15 ++ D17 := ⟨_, rfl⟩
              have hs18 : T18.size ≤ 89 + 1 + 21 := by rw [hT18, ByteArray.size_append]; omega
              have hu18 : ¬ 9223372036854775807 < T15.size + D17.size := by omega
              have hT18b := hT18.symm
              clear hT18
              go_wp2
              go_ret
              exact ⟨T18, rfl, by omega, C17.out, F17.out⟩
        · skip
          go_wp2_with fail
          refine (below_any 6 ao len cap w _ HB.out C10.out (by omega) (by omega)).mono ?_
          rintro e w19 ⟨x19, rfl, xl19, xh19, cc, oo⟩
          have F19 := hideP (F10.out.other oo cc)
          have C19 := hideP cc
          clear cc oo
          go_wp2_with fail
          refine (signed_any x19 xl19 (by omega) _).mono ?_
          rintro e w20 ⟨⟨D20, rfl, hD20⟩, hb20⟩
          have F20 := hideP (F19.out.below hb20)
          have C20 := hideP (C19.out.below hb20)
          clear hb20
          obtain ⟨T21, hT21⟩ : ∃ T2, T2 = T ++ D20 := ⟨_, rfl⟩
          have hs21 : T21.size ≤ 89 + 1 := by rw [hT21, ByteArray.size_append]; omega
          have hu21 : ¬ 9223372036854775807 < T.size + D20.size := by omega
          have hT21b := hT21.symm
          clear hT21
          go_wp2_with fail
          refine (once_any 10 ao len cap w _ HB.out C20.out (by omega) (by omega)).mono ?_
          rintro e w22 ⟨b22, rfl, cc, oo⟩
          have F22 := hideP (F20.out.other oo cc)
          have C22 := hideP cc
          clear cc oo
          cases b22
          · skip
            go_wp2_with fail
            refine (once_any 30 ao len cap w _ HB.out C22.out (by omega) (by omega)).mono ?_
            rintro e w23 ⟨b23, rfl, cc, oo⟩
            have F23 := hideP (F22.out.other oo cc)
            have C23 := hideP cc
            clear cc oo
            cases b23
            · skip
              go_wp2
              go_ret
              exact ⟨T21, rfl, by omega, C23.out, F23.out⟩
            · skip
              have S24 := hideP (five_strs w23)
              have hz24 : w.heap.size < w23.heap.size := Cur.lt C23.out
              go_wp2_with fail
              refine (below_any 5 ao len cap w _ HB.out (C23.out.alloc _) (by omega) (by omega)).mono ?_
              rintro e w24 ⟨x24, rfl, xl24, xh24, cc, oo⟩
              obtain ⟨j24, rfl⟩ := Int.eq_ofNat_of_zero_le xl24
              obtain ⟨D24, hD24, hcv24⟩ := S24.out j24 (by omega)
              have hcell24 := (oo.cell (n := w23.heap.size) (o := j24) (by omega)).trans hcv24
              have F24 := hideP ((F23.out.alloc _).other oo cc)
              have C24 := hideP cc
              clear cc oo hcv24 S24
              obtain ⟨T25, hT25⟩ : ∃ T2, T2 = T21 ++ D24 := ⟨_, rfl⟩
              have hs25 : T25.size ≤ 89 + 1 + 21 := by rw [hT25, ByteArray.size_append]; omega
              have hu25 : ¬ 9223372036854775807 < T21.size + D24.size := by omega
              have hT25b := hT25.symm
              clear hT25
              go_wp2
              go_ret
              exact ⟨T25, rfl, by omega, C24.out, F24.out⟩
          · skip
            obtain ⟨T26, hT26⟩ : ∃ T2, T2 = T21 ++ (⟨#[46]⟩ : ByteArray) := ⟨_, rfl⟩
            have hs26 : T26.size ≤ 89 + 1 + 1 := by rw [hT26, ByteArray.size_append]; have : (⟨#[46]⟩ : ByteArray).size = 1 := rfl; omega
            have hu26 : ¬ 9223372036854775807 < T21.size + 1 := by omega
            have hT26b := hT26.symm
            clear hT26
            go_wp2_with fail
            refine (once_any 30 ao len cap w _ HB.out C22.out (by omega) (by omega)).mono ?_
            rintro e w27 ⟨b27, rfl, cc, oo⟩
            have F27 := hideP (F22.out.other oo cc)
            have C27 := hideP cc
            clear cc oo
            cases b27
            · skip
              go_wp2
              go_ret
              exact ⟨T26, rfl, by omega, C27.out, F27.out⟩
            · skip
              have S28 := hideP (five_strs w27)
              have hz28 : w.heap.size < w27.heap.size := Cur.lt C27.out
              go_wp2_with fail
              refine (below_any 5 ao len cap w _ HB.out (C27.out.alloc _) (by omega) (by omega)).mono ?_
              rintro e w28 ⟨x28, rfl, xl28, xh28, cc, oo⟩
              obtain ⟨j28, rfl⟩ := Int.eq_ofNat_of_zero_le xl28
              obtain ⟨D28, hD28, hcv28⟩ := S28.out j28 (by omega)
              have hcell28 := (oo.cell (n := w27.heap.size) (o := j28) (by omega)).trans hcv28
              have F28 := hideP ((F27.out.alloc _).other oo cc)
              have C28 := hideP cc
              clear cc oo hcv28 S28
              obtain ⟨T29, hT29⟩ : ∃ T2, T2 = T26 ++ D28 := ⟨_, rfl⟩
              have hs29 : T29.size ≤ 89 + 1 + 1 + 21 := by rw [hT29, ByteArray.size_append]; omega
              have hu29 : ¬ 9223372036854775807 < T26.size + D28.size := by omega
              have hT29b := hT29.symm
              clear hT29
              go_wp2
              go_ret
              exact ⟨T29, rfl, by omega, C28.out, F28.out⟩
  · skip
    go_wp2_with fail
    refine (below_any 4 ao len cap w _ HB.out C1.out (by omega) (by omega)).mono ?_
    rintro e wb ⟨x, rfl, xl, xh, cc, oo⟩
    have FB := hideP (F1.out.other oo cc)
    have CB := hideP cc
    clear cc oo
    go_wp2
    go_loopw [3, 4] (fun t i wq => ∃ (j : Nat) (T : ByteArray), j ≤ 4 ∧ i = .int .i64 j ∧ t = .string T ∧ T.size ≤ 1 + 22 * (4 - j) ∧ Hid (Cur w wq ao len cap) ∧ Hid (Fram w wr wq)) (fun _ i _ => (intOf i).toNat)
    case atStart =>
      obtain ⟨xn, rfl⟩ := Int.eq_ofNat_of_zero_le xl
      exact ⟨1 + xn, _, by omega, by simp, rfl, by first | (simp [ByteArray.size]; done) | (simp [ByteArray.size]; omega), CB, FB⟩
    case round =>
      obtain ⟨j, T, hj, rfl, rfl, hTs, CQ, FQ⟩ := hrel
      by_cases hj0 : 0 < j
      · have hji : (0 : Int) < (j : Int) := by omega
        obtain ⟨B, hB⟩ : ∃ B : Nat, B = 1 + 22 * (4 - j) := ⟨_, rfl⟩
        have hB1 : B ≤ 67 := by omega
        have hTB : T.size ≤ B := by omega
        have HBB := hideP hB
        clear hB hTs
        go_wp2_with fail
        refine (once_any 2 ao len cap w _ HB.out CQ.out (by omega) (by omega)).mono ?_
        rintro e w30 ⟨b30, rfl, cc, oo⟩
        have F30 := hideP (FQ.out.other oo cc)
        have C30 := hideP cc
        clear cc oo
        cases b30
        · skip
          have S31 := hideP (six_strs w30)
          have hz31 : w.heap.size < w30.heap.size := Cur.lt C30.out
          go_wp2_with fail
          refine (below_any 6 ao len cap w _ HB.out (C30.out.alloc _) (by omega) (by omega)).mono ?_
          rintro e w31 ⟨x31, rfl, xl31, xh31, cc, oo⟩
          obtain ⟨j31, rfl⟩ := Int.eq_ofNat_of_zero_le xl31
          obtain ⟨D31, hD31, hcv31⟩ := S31.out j31 (by omega)
          have hcell31 := (oo.cell (n := w30.heap.size) (o := j31) (by omega)).trans hcv31
          have F31 := hideP ((F30.out.alloc _).other oo cc)
          have C31 := hideP cc
          clear cc oo hcv31 S31
          obtain ⟨T32, hT32⟩ : ∃ T2, T2 = T ++ D31 := ⟨_, rfl⟩
          have hs32 : T32.size ≤ B + 21 := by rw [hT32, ByteArray.size_append]; omega
          have hu32 : ¬ 9223372036854775807 < T.size + D31.size := by omega
          have hT32b := hT32.symm
          clear hT32
          go_wp2
          go_roundw
          case rel => exact ⟨j - 1, T32, by omega, by first | go_num | (congr 1; omega), rfl, by have := HBB.out; omega, C31, F31⟩
          case measure => simp [intOf]; omega
        · skip
          go_wp2_with fail
          refine (below_any 6 ao len cap w _ HB.out C30.out (by omega) (by omega)).mono ?_
          rintro e w33 ⟨x33, rfl, xl33, xh33, cc, oo⟩
          have F33 := hideP (F30.out.other oo cc)
          have C33 := hideP cc
          clear cc oo
          go_wp2_with fail
          refine (signed_any x33 xl33 (by omega) _).mono ?_
          rintro e w34 ⟨⟨D34, rfl, hD34⟩, hb34⟩
          have F34 := hideP (F33.out.below hb34)
          have C34 := hideP (C33.out.below hb34)
          clear hb34
          obtain ⟨T35, hT35⟩ : ∃ T2, T2 = T ++ D34 := ⟨_, rfl⟩
          have hs35 : T35.size ≤ B + 1 := by rw [hT35, ByteArray.size_append]; omega
          have hu35 : ¬ 9223372036854775807 < T.size + D34.size := by omega
          have hT35b := hT35.symm
          clear hT35
          have S36 := hideP (six_strs w34)
          have hz36 : w.heap.size < w34.heap.size := Cur.lt C34.out
          go_wp2_with fail
          refine (below_any 6 ao len cap w _ HB.out (C34.out.alloc _) (by omega) (by omega)).mono ?_
          rintro e w36 ⟨x36, rfl, xl36, xh36, cc, oo⟩
          obtain ⟨j36, rfl⟩ := Int.eq_ofNat_of_zero_le xl36
          obtain ⟨D36, hD36, hcv36⟩ := S36.out j36 (by omega)
          have hcell36 := (oo.cell (n := w34.heap.size) (o := j36) (by omega)).trans hcv36
          have F36 := hideP ((F34.out.alloc _).other oo cc)
          have C36 := hideP cc
          clear cc oo hcv36 S36
          obtain ⟨T37, hT37⟩ : ∃ T2, T2 = T35 ++ D36 := ⟨_, rfl⟩
          have hs37 : T37.size ≤ B + 1 + 21 := by rw [hT37, ByteArray.size_append]; omega
          have hu37 : ¬ 9223372036854775807 < T35.size + D36.size := by omega
          have hT37b := hT37.symm
          clear hT37
          go_wp2
          go_roundw
          case rel => exact ⟨j - 1, T37, by omega, by first | go_num | (congr 1; omega), rfl, by have := HBB.out; omega, C36, F36⟩
          case measure => simp [intOf]; omega
      · have hji : ¬ ((0 : Int) < (j : Int)) := by omega
        obtain rfl : j = 0 := by omega
        go_wp2_with fail
        refine (once_any 3 ao len cap w _ HB.out CQ.out (by omega) (by omega)).mono ?_
        rintro e w38 ⟨b38, rfl, cc, oo⟩
        have F38 := hideP (FQ.out.other oo cc)
        have C38 := hideP cc
        clear cc oo
        cases b38
        · skip
          go_wp2_with fail
          refine (once_any 10 ao len cap w _ HB.out C38.out (by omega) (by omega)).mono ?_
          rintro e w39 ⟨b39, rfl, cc, oo⟩
          have F39 := hideP (F38.out.other oo cc)
          have C39 := hideP cc
          clear cc oo
          cases b39
          · skip
            go_wp2_with fail
            refine (once_any 30 ao len cap w _ HB.out C39.out (by omega) (by omega)).mono ?_
            rintro e w40 ⟨b40, rfl, cc, oo⟩
            have F40 := hideP (F39.out.other oo cc)
            have C40 := hideP cc
            clear cc oo
            cases b40
            · skip
              go_wp2
              go_ret
              exact ⟨T, rfl, by omega, C40.out, F40.out⟩
            · skip
              have S41 := hideP (five_strs w40)
              have hz41 : w.heap.size < w40.heap.size := Cur.lt C40.out
              go_wp2_with fail
              refine (below_any 5 ao len cap w _ HB.out (C40.out.alloc _) (by omega) (by omega)).mono ?_
              rintro e w41 ⟨x41, rfl, xl41, xh41, cc, oo⟩
              obtain ⟨j41, rfl⟩ := Int.eq_ofNat_of_zero_le xl41
              obtain ⟨D41, hD41, hcv41⟩ := S41.out j41 (by omega)
              have hcell41 := (oo.cell (n := w40.heap.size) (o := j41) (by omega)).trans hcv41
              have F41 := hideP ((F40.out.alloc _).other oo cc)
              have C41 := hideP cc
              clear cc oo hcv41 S41
              obtain ⟨T42, hT42⟩ : ∃ T2, T2 = T ++ D41 := ⟨_, rfl⟩
              have hs42 : T42.size ≤ 89 + 21 := by rw [hT42, ByteArray.size_append]; omega
              have hu42 : ¬ 9223372036854775807 < T.size + D41.size := by omega
              have hT42b := hT42.symm
              clear hT42
              go_wp2
              go_ret
              exact ⟨T42, rfl, by omega, C41.out, F41.out⟩
          · skip
            obtain ⟨T43, hT43⟩ : ∃ T2, T2 = T ++ (⟨#[46]⟩ : ByteArray) := ⟨_, rfl⟩
            have hs43 : T43.size ≤ 89 + 1 := by rw [hT43, ByteArray.size_append]; have : (⟨#[46]⟩ : ByteArray).size = 1 := rfl; omega
            have hu43 : ¬ 9223372036854775807 < T.size + 1 := by omega
            have hT43b := hT43.symm
            clear hT43
            go_wp2_with fail
            refine (once_any 30 ao len cap w _ HB.out C39.out (by omega) (by omega)).mono ?_
            rintro e w44 ⟨b44, rfl, cc, oo⟩
            have F44 := hideP (F39.out.other oo cc)
            have C44 := hideP cc
            clear cc oo
            cases b44
            · skip
              go_wp2
              go_ret
              exact ⟨T43, rfl, by omega, C44.out, F44.out⟩
            · skip
              have S45 := hideP (five_strs w44)
              have hz45 : w.heap.size < w44.heap.size := Cur.lt C44.out
              go_wp2_with fail
              refine (below_any 5 ao len cap w _ HB.out (C44.out.alloc _) (by omega) (by omega)).mono ?_
              rintro e w45 ⟨x45, rfl, xl45, xh45, cc, oo⟩
              obtain ⟨j45, rfl⟩ := Int.eq_ofNat_of_zero_le xl45
              obtain ⟨D45, hD45, hcv45⟩ := S45.out j45 (by omega)
              have hcell45 := (oo.cell (n := w44.heap.size) (o := j45) (by omega)).trans hcv45
              have F45 := hideP ((F44.out.alloc _).other oo cc)
              have C45 := hideP cc
              clear cc oo hcv45 S45
              obtain ⟨T46, hT46⟩ : ∃ T2, T2 = T43 ++ D45 := ⟨_, rfl⟩
              have hs46 : T46.size ≤ 89 + 1 + 21 := by rw [hT46, ByteArray.size_append]; omega
              have hu46 : ¬ 9223372036854775807 < T43.size + D45.size := by omega
              have hT46b := hT46.symm
              clear hT46
              go_wp2
              go_ret
              exact ⟨T46, rfl, by omega, C45.out, F45.out⟩
        · skip
          go_wp2_with fail
          refine (below_any 6 ao len cap w _ HB.out C38.out (by omega) (by omega)).mono ?_
          rintro e w47 ⟨x47, rfl, xl47, xh47, cc, oo⟩
          have F47 := hideP (F38.out.other oo cc)
          have C47 := hideP cc
          clear cc oo
          go_wp2_with fail
          refine (signed_any x47 xl47 (by omega) _).mono ?_
          rintro e w48 ⟨⟨D48, rfl, hD48⟩, hb48⟩
          have F48 := hideP (F47.out.below hb48)
          have C48 := hideP (C47.out.below hb48)
          clear hb48
          obtain ⟨T49, hT49⟩ : ∃ T2, T2 = T ++ D48 := ⟨_, rfl⟩
          have hs49 : T49.size ≤ 89 + 1 := by rw [hT49, ByteArray.size_append]; omega
          have hu49 : ¬ 9223372036854775807 < T.size + D48.size := by omega
          have hT49b := hT49.symm
          clear hT49
          go_wp2_with fail
          refine (once_any 10 ao len cap w _ HB.out C48.out (by omega) (by omega)).mono ?_
          rintro e w50 ⟨b50, rfl, cc, oo⟩
          have F50 := hideP (F48.out.other oo cc)
          have C50 := hideP cc
          clear cc oo
          cases b50
          · skip
            go_wp2_with fail
            refine (once_any 30 ao len cap w _ HB.out C50.out (by omega) (by omega)).mono ?_
            rintro e w51 ⟨b51, rfl, cc, oo⟩
            have F51 := hideP (F50.out.other oo cc)
            have C51 := hideP cc
            clear cc oo
            cases b51
            · skip
              go_wp2
              go_ret
              exact ⟨T49, rfl, by omega, C51.out, F51.out⟩
            · skip
              have S52 := hideP (five_strs w51)
              have hz52 : w.heap.size < w51.heap.size := Cur.lt C51.out
              go_wp2_with fail
              refine (below_any 5 ao len cap w _ HB.out (C51.out.alloc _) (by omega) (by omega)).mono ?_
              rintro e w52 ⟨x52, rfl, xl52, xh52, cc, oo⟩
              obtain ⟨j52, rfl⟩ := Int.eq_ofNat_of_zero_le xl52
              obtain ⟨D52, hD52, hcv52⟩ := S52.out j52 (by omega)
              have hcell52 := (oo.cell (n := w51.heap.size) (o := j52) (by omega)).trans hcv52
              have F52 := hideP ((F51.out.alloc _).other oo cc)
              have C52 := hideP cc
              clear cc oo hcv52 S52
              obtain ⟨T53, hT53⟩ : ∃ T2, T2 = T49 ++ D52 := ⟨_, rfl⟩
              have hs53 : T53.size ≤ 89 + 1 + 21 := by rw [hT53, ByteArray.size_append]; omega
              have hu53 : ¬ 9223372036854775807 < T49.size + D52.size := by omega
              have hT53b := hT53.symm
              clear hT53
              go_wp2
              go_ret
              exact ⟨T53, rfl, by omega, C52.out, F52.out⟩
          · skip
            obtain ⟨T54, hT54⟩ : ∃ T2, T2 = T49 ++ (⟨#[46]⟩ : ByteArray) := ⟨_, rfl⟩
            have hs54 : T54.size ≤ 89 + 1 + 1 := by rw [hT54, ByteArray.size_append]; have : (⟨#[46]⟩ : ByteArray).size = 1 := rfl; omega
            have hu54 : ¬ 9223372036854775807 < T49.size + 1 := by omega
            have hT54b := hT54.symm
            clear hT54
            go_wp2_with fail
            refine (once_any 30 ao len cap w _ HB.out C50.out (by omega) (by omega)).mono ?_
            rintro e w55 ⟨b55, rfl, cc, oo⟩
            have F55 := hideP (F50.out.other oo cc)
            have C55 := hideP cc
            clear cc oo
            cases b55
            · skip
              go_wp2
              go_ret
              exact ⟨T54, rfl, by omega, C55.out, F55.out⟩
            · skip
              have S56 := hideP (five_strs w55)
              have hz56 : w.heap.size < w55.heap.size := Cur.lt C55.out
              go_wp2_with fail
              refine (below_any 5 ao len cap w _ HB.out (C55.out.alloc _) (by omega) (by omega)).mono ?_
              rintro e w56 ⟨x56, rfl, xl56, xh56, cc, oo⟩
              obtain ⟨j56, rfl⟩ := Int.eq_ofNat_of_zero_le xl56
              obtain ⟨D56, hD56, hcv56⟩ := S56.out j56 (by omega)
              have hcell56 := (oo.cell (n := w55.heap.size) (o := j56) (by omega)).trans hcv56
              have F56 := hideP ((F55.out.alloc _).other oo cc)
              have C56 := hideP cc
              clear cc oo hcv56 S56
              obtain ⟨T57, hT57⟩ : ∃ T2, T2 = T54 ++ D56 := ⟨_, rfl⟩
              have hs57 : T57.size ≤ 89 + 1 + 1 + 21 := by rw [hT57, ByteArray.size_append]; omega
              have hu57 : ¬ 9223372036854775807 < T54.size + D56.size := by omega
              have hT57b := hT57.symm
              clear hT57
              go_wp2
              go_ret
              exact ⟨T57, rfl, by omega, C56.out, F56.out⟩
end Go.Proofs.Ytejigikcpmhhoaa
