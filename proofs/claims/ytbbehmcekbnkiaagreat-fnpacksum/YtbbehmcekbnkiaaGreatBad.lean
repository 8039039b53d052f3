import Derived.Test.YtbbehmcekbnkiaaGreatBigD
import Derived.Test.YtbbehmcekbnkiaaGreatProg
import Derived.WalkKit
import Derived.WalkSpells
import Derived.WalkLawsBesides
import Derived.Laws.MathBits
import Derived.Below
import Derived.Outline
import Derived.Deep.QuietTactic
import Derived.BigQuiet
import Derived.WalkSmall
namespace Go.Proofs.YtbbehmcekbnkiaaGreat.Shr
open Go.RowKit
set_option linter.unusedVariables false
set_option linter.unusedSimpArgs false
def lid : Nat := 16777216 ^ 40
theorem IsBig.len {w : World} {v : Value} {N : Nat} (h : IsBig w v N) (hN : N < lid) : ∃ xs, IsNum w v xs ∧ BigN.Digits xs ∧ BigN.Trim xs ∧ BigN.val xs = N ∧ xs.length ≤ 1000 := by
 obtain ⟨xs, h1, h2, h3, h4⟩ := h
 exact ⟨xs, h1, h2, h3, h4, by have := BigN.len_le_of_val xs h3 40 (by rw [h4]; exact hN); omega⟩
theorem times_any (va vb : Value) (a b : Nat) (w : World) (na : IsBig w va a) (nb : IsBig w vb b) (ha : a < lid) (hb : b < lid) :
 Calls Tryz.prog 124 #[va, vb] w fun e w' => ∃ v, e = .returned v ∧ IsBig w' v (a * b) ∧ Below w.heap.size w w' := by
 obtain ⟨xs, h1, h2, h3, rfl, h5⟩ := na.len ha
 obtain ⟨ys, k1, k2, k3, rfl, k5⟩ := nb.len hb
 exact times_num va vb xs ys w h1 k1 h2 k2 h5 k5
theorem sum_any (va vb : Value) (a b : Nat) (w : World) (na : IsBig w va a) (nb : IsBig w vb b) (ha : a < lid) (hb : b < lid) :
 Calls Tryz.prog 125 #[va, vb] w fun e w' => ∃ v, e = .returned v ∧ IsBig w' v (a + b) ∧ Below w.heap.size w w' := by
 obtain ⟨xs, h1, h2, h3, rfl, h5⟩ := na.len ha
 obtain ⟨ys, k1, k2, k3, rfl, k5⟩ := nb.len hb
 exact sum_num va vb xs ys w h1 k1 h2 k2 h3 k3 h5 k5
theorem most_any (va vb : Value) (a b : Nat) (w : World) (na : IsBig w va a) (nb : IsBig w vb b) (ha : a < lid) (hb : b < lid) :
 Calls Tryz.prog 141 #[va, vb] w fun e w' => e = .returned (.bool (decide (a ≤ b))) ∧ Below w.heap.size w w' := by
 obtain ⟨xs, h1, h2, h3, rfl, h5⟩ := na.len ha
 obtain ⟨ys, k1, k2, k3, rfl, k5⟩ := nb.len hb
 exact most_num va vb xs ys w h1 k1 h2 k2 h3 k3 h5 k5
theorem lid_small {x : Nat} (h : x < 18446744073709551616) : x < lid := by
 have : (18446744073709551616 : Nat) ≤ 16777216 ^ 40 := by decide +kernel
 unfold lid; omega
theorem lid_d {x : Nat} (h : x < 16777216 ^ 30) : x < lid := Nat.lt_of_lt_of_le h (Nat.pow_le_pow_right (by decide) (by decide))
theorem lid_mul {x d : Nat} (h : x < 18446744073709551616) (hd : d < 16777216 ^ 30) : x * d < lid := by
 have h1 : x * d ≤ 18446744073709551616 * 16777216 ^ 30 := Nat.mul_le_mul (Nat.le_of_lt h) (Nat.le_of_lt hd)
 have h2 : (18446744073709551616 : Nat) * 16777216 ^ 30 < 16777216 ^ 40 := by decide +kernel
 unfold lid; omega
theorem mid_facts {low most : Nat} (h : low < most) (hm : most < 18446744073709551616) : low + (most - low + 1) / 2 ≤ most ∧ low < low + (most - low + 1) / 2 ∧ low + (most - low + 1) / 2 < 18446744073709551616 := by omega
set_option maxHeartbeats 2000000 in
theorem part_any (vn vd : Value) (n d most : Nat) (w : World) (nn : IsBig w vn n) (nd : IsBig w vd d) (hn : n < lid) (hd : d < 16777216 ^ 30) (hm : most < 18446744073709551615) :
 Calls Tryz.prog 126 #[vn, vd, .int .u64 (most : Int)] w fun e w' => e = .returned (.int .u64 ((BigN.part n d most : Nat) : Int)) ∧ Below w.heap.size w w' := by
 have NN := hideB nn
 have ND := hideB nd
 have HN := hideB hn
 have HD := hideB hd
 obtain ⟨R, hR⟩ : ∃ R, R = BigN.part n d most := ⟨_, rfl⟩
 have hRm : R ≤ most := by rw [hR]; exact BigN.part_le n d most
 have HR := hideB (fun mid (h : mid ≤ most) => BigN.part_iff n d most mid h)
 rw [← hR] at HR
 rw [← hR]
 clear nn nd hn hd hR
 go_enter Tryz.func126, Tryz.ntmps126
 go_wp2_with fail
 go_loopw [2, 7, 8] (fun s2 s7 _ wr => Hid (Below w.heap.size w wr) ∧ ∃ hi lo : Nat, lo ≤ R ∧ R ≤ hi ∧ hi ≤ most ∧ s2 = .int .u64 (hi : Int) ∧ s7 = .int .u64 (lo : Int)) (fun s2 s7 _ _ => (intOf s2 - intOf s7).toNat)
 case atStart => exact ⟨hideB (Below.refl _ _), most, 0, Nat.zero_le _, hRm, Nat.le_refl _, rfl, rfl⟩
 case round =>
  obtain ⟨HW, hi, lo, h1, h2, h3, rfl, rfl⟩ := hrel
  by_cases hlt : lo < hi
  ·obtain ⟨mid, hmid⟩ : ∃ mid, mid = lo + (hi - lo + 1) / 2 := ⟨_, rfl⟩
   have hmf := mid_facts hlt (show hi < 18446744073709551616 by omega)
   rw [← hmid] at hmf
   obtain ⟨m1, m2, m3⟩ := hmf
   have HM : Hid ((lo : Int) + ((hi : Int) - (lo : Int) + 1) / 2 = (mid : Int)) := by show _ = _; omega
   clear hmid
   go_wp2_with fail
   rw [HM.out]
   refine (big_any mid _ m3).mono ?_
   rintro e w1 ⟨v1, rfl, hv1, hb1⟩
   have HB1 := hideB (HW.out.trans (hb1.mono HW.out.size))
   have HV1 := hideB hv1
   clear hv1 hb1
   go_wp2_with fail
   refine (times_any v1 vd mid d _ HV1.out (ND.out.kept HB1.out) (lid_small m3) (lid_d HD.out)).mono ?_
   rintro e w2 ⟨v2, rfl, hv2, hb2⟩
   have HB2 := hideB (HB1.out.trans (hb2.mono HB1.out.size))
   have HV2 := hideB hv2
   clear hv2 hb2
   go_wp2_with fail
   refine (most_any v2 vn (mid * d) n _ HV2.out (NN.out.kept HB2.out) (lid_mul m3 HD.out) HN.out).mono ?_
   rintro e w3 ⟨rfl, hb3⟩
   have HB3 := hideB (HB2.out.trans (hb3.mono HB2.out.size))
   clear hb3
   have hiff := HR.out mid (by omega)
   by_cases hle : mid * d ≤ n
   ·have hmr : mid ≤ R := hiff.1 hle
    rw [show decide (mid * d ≤ n) = true by simp [hle]]
    clear hiff hle
    go_wp2
    go_roundw
    case rel => exact ⟨HB3, hi, mid, hmr, h2, h3, rfl, rfl⟩
    case measure => simp [intOf]; omega
   ·have hmr : R < mid := by
     by_cases hh : mid ≤ R
     ·exact absurd (hiff.2 hh) hle
     ·omega
    rw [show decide (mid * d ≤ n) = false by simp [hle]]
    have HM1 : Hid ((mid : Int) - 1 = ((mid - 1 : Nat) : Int)) := by show _ = _; omega
    clear hiff hle
    go_wp2
    go_roundw
    case rel => exact ⟨HB3, mid - 1, lo, h1, by omega, by omega, by rw [HM1.out], rfl⟩
    case measure => rw [HM1.out]; simp [intOf]; omega
  ·obtain rfl : lo = R := by omega
   go_wp2
   go_ret
   exact ⟨rfl, HW.out⟩
theorem lid_ab {a b : Nat} (ha : a < 18446744073709551616) (hb : b < 18446744073709551616) : a * b < lid ∧ a * b * 2 < lid := by
 have h1 : a * b ≤ 18446744073709551616 * 18446744073709551616 := Nat.mul_le_mul (Nat.le_of_lt ha) (Nat.le_of_lt hb)
 have h2 : (18446744073709551616 : Nat) * 18446744073709551616 * 2 < 16777216 ^ 40 := by decide +kernel
 unfold lid; omega
theorem lid_abc {a b c : Nat} (ha : a < 18446744073709551616) (hb : b < 18446744073709551616) (hc : c < 18446744073709551616) : a * b * 2 + c < lid ∧ c * 2 < 16777216 ^ 30 := by
 have h1 : a * b ≤ 18446744073709551616 * 18446744073709551616 := Nat.mul_le_mul (Nat.le_of_lt ha) (Nat.le_of_lt hb)
 have h2 : (18446744073709551616 : Nat) * 18446744073709551616 * 2 + 18446744073709551616 < 16777216 ^ 40 := by decide +kernel
 have h3 : (18446744073709551616 : Nat) * 2 < 16777216 ^ 30 := by decide +kernel
 unfold lid; omega
set_option maxHeartbeats 2000000 in
theorem near_any (a b c most : Nat) (w : World) (ha : a < 18446744073709551616) (hb : b < 18446744073709551616) (hc : c < 18446744073709551616) (hm : most < 18446744073709551615) :
 Calls Tryz.prog 127 #[.int .u64 (a : Int), .int .u64 (b : Int), .int .u64 (c : Int), .int .u64 (most : Int)] w fun e w' => e = .returned (.int .u64 ((BigN.near a b c most : Nat) : Int)) ∧ Below w.heap.size w w' := by
 have LD := hideB (And.intro (lid_ab ha hb) (lid_abc ha hb hc))
 go_enter Tryz.func127, Tryz.ntmps127
 go_wp2_with fail
 refine (big_any a _ ha).mono ?_
 rintro e w1 ⟨v1, rfl, hv1, hb1⟩
 have H1 := hideB hb1
 have V1 := hideB hv1
 clear hv1 hb1
 go_wp2_with fail
 refine (big_any b _ hb).mono ?_
 rintro e w2 ⟨v2, rfl, hv2, hb2⟩
 have H2 := hideB (H1.out.trans (hb2.mono H1.out.size))
 have V2 := hideB hv2
 have W1 := hideB (V1.out.kept hb2)
 clear hv2 hb2 V1
 go_wp2_with fail
 refine (times_any v1 v2 a b _ W1.out V2.out (lid_small ha) (lid_small hb)).mono ?_
 rintro e w3 ⟨v3, rfl, hv3, hb3⟩
 have H3 := hideB (H2.out.trans (hb3.mono H2.out.size))
 have V3 := hideB hv3
 clear hv3 hb3 W1 V2
 go_wp2_with fail
 refine (big_any 2 _ (by decide)).mono ?_
 rintro e w4 ⟨v4, rfl, hv4, hb4⟩
 have H4 := hideB (H3.out.trans (hb4.mono H3.out.size))
 have V4 := hideB hv4
 have W3 := hideB (V3.out.kept hb4)
 clear hv4 hb4 V3
 go_wp2_with fail
 refine (times_any v3 v4 (a * b) 2 _ W3.out V4.out LD.out.1.1 (lid_small (by decide))).mono ?_
 rintro e w5 ⟨v5, rfl, hv5, hb5⟩
 have H5 := hideB (H4.out.trans (hb5.mono H4.out.size))
 have V5 := hideB hv5
 clear hv5 hb5 W3 V4
 go_wp2_with fail
 refine (big_any c _ hc).mono ?_
 rintro e w6 ⟨v6, rfl, hv6, hb6⟩
 have H6 := hideB (H5.out.trans (hb6.mono H5.out.size))
 have V6 := hideB hv6
 have W5 := hideB (V5.out.kept hb6)
 clear hv6 hb6 V5
 go_wp2_with fail
 refine (sum_any v5 v6 (a * b * 2) c _ W5.out V6.out LD.out.1.2 (lid_small hc)).mono ?_
 rintro e w7 ⟨v7, rfl, hv7, hb7⟩
 have H7 := hideB (H6.out.trans (hb7.mono H6.out.size))
 have V7 := hideB hv7
 clear hv7 hb7 W5 V6
 go_wp2_with fail
 refine (big_any c _ hc).mono ?_
 rintro e w8 ⟨v8, rfl, hv8, hb8⟩
 have H8 := hideB (H7.out.trans (hb8.mono H7.out.size))
 have V8 := hideB hv8
 have W7 := hideB (V7.out.kept hb8)
 clear hv8 hb8 V7
 go_wp2_with fail
 refine (big_any 2 _ (by decide)).mono ?_
 rintro e w9 ⟨v9, rfl, hv9, hb9⟩
 have H9 := hideB (H8.out.trans (hb9.mono H8.out.size))
 have V9 := hideB hv9
 have W8 := hideB (V8.out.kept hb9)
 have X7 := hideB (W7.out.kept hb9)
 clear hv9 hb9 V8 W7
 go_wp2_with fail
 refine (times_any v8 v9 c 2 _ W8.out V9.out (lid_small hc) (lid_small (by decide))).mono ?_
 rintro e w10 ⟨v10, rfl, hv10, hb10⟩
 have H10 := hideB (H9.out.trans (hb10.mono H9.out.size))
 have V10 := hideB hv10
 have Y7 := hideB (X7.out.kept hb10)
 clear hv10 hb10 W8 V9 X7
 go_wp2_with fail
 refine (part_any v7 v10 (a * b * 2 + c) (c * 2) most _ Y7.out V10.out LD.out.2.1 LD.out.2.2 hm).mono ?_
 rintro e w11 ⟨rfl, hb11⟩
 go_wp2
 go_ret
 exact ⟨rfl, H10.out.trans (hb11.mono H10.out.size)⟩
theorem half_mul {a b : Nat} (ha : a < 4294967296) (hb : b < 4294967296) : a * b ≤ 18446744065119617025 := by
 have := Nat.mul_le_mul (show a ≤ 4294967295 by omega) (show b ≤ 4294967295 by omega)
 simpa using this
theorem prod_halves (x1 x0 y1 y0 : Nat) (h1 : x1 < 4294967296) (h2 : x0 < 4294967296) (h3 : y1 < 4294967296) (h4 : y0 < 4294967296) :
 x1 * y1 + (x1 * y0 + x0 * y0 / 4294967296) / 4294967296 + (x0 * y1 + (x1 * y0 + x0 * y0 / 4294967296) % 4294967296) / 4294967296 = (x1 * 4294967296 + x0) * (y1 * 4294967296 + y0) / 18446744073709551616 := by
 have e : (x1 * 4294967296 + x0) * (y1 * 4294967296 + y0) = x1 * y1 * 18446744073709551616 + (x1 * y0 + x0 * y1) * 4294967296 + x0 * y0 := by
  have a1 : (x1 * 4294967296 + x0) * (y1 * 4294967296 + y0) = x1 * 4294967296 * (y1 * 4294967296) + x1 * 4294967296 * y0 + (x0 * (y1 * 4294967296) + x0 * y0) := by
   rw [Nat.add_mul, Nat.mul_add, Nat.mul_add]
  have a2 : x1 * 4294967296 * (y1 * 4294967296) = x1 * y1 * 18446744073709551616 := by
   rw [Nat.mul_assoc, ← Nat.mul_assoc 4294967296, Nat.mul_comm 4294967296 y1, Nat.mul_assoc y1, ← Nat.mul_assoc]
  have a3 : x1 * 4294967296 * y0 = x1 * y0 * 4294967296 := by rw [Nat.mul_assoc, Nat.mul_comm 4294967296, ← Nat.mul_assoc]
  have a4 : x0 * (y1 * 4294967296) = x0 * y1 * 4294967296 := by rw [Nat.mul_assoc]
  rw [a1, a2, a3, a4]
  omega
 rw [e]
 have b1 := half_mul h1 h3
 have b2 := half_mul h1 h4
 have b3 := half_mul h2 h3
 have b4 := half_mul h2 h4
 generalize x1 * y1 = A at *
 generalize x1 * y0 = B at *
 generalize x0 * y1 = C at *
 generalize x0 * y0 = D at *
 omega
theorem prod_hi (x y : Nat) (hx : x < 18446744073709551616) (hy : y < 18446744073709551616) :
 IntKind.u64.wrap (IntKind.u64.wrap (IntKind.u64.wrap ((x : Int) / 4294967296 * ((y : Int) / 4294967296)) +
  IntKind.u64.wrap (IntKind.u64.wrap ((x : Int) / 4294967296 * bits BinOp.and IntKind.u64 (y : Int) 4294967295) + IntKind.u64.wrap (bits BinOp.and IntKind.u64 (x : Int) 4294967295 * bits BinOp.and IntKind.u64 (y : Int) 4294967295) / 4294967296) / 4294967296) +
  IntKind.u64.wrap (IntKind.u64.wrap (bits BinOp.and IntKind.u64 (x : Int) 4294967295 * ((y : Int) / 4294967296)) +
   bits BinOp.and IntKind.u64 (IntKind.u64.wrap (IntKind.u64.wrap ((x : Int) / 4294967296 * bits BinOp.and IntKind.u64 (y : Int) 4294967295) + IntKind.u64.wrap (bits BinOp.and IntKind.u64 (x : Int) 4294967295 * bits BinOp.and IntKind.u64 (y : Int) 4294967295) / 4294967296)) 4294967295) / 4294967296)
  = ((x * y / 18446744073709551616 : Nat) : Int) := by
 have hp := prod_halves (x / 4294967296) (x % 4294967296) (y / 4294967296) (y % 4294967296) (by omega) (by omega) (by omega) (by omega)
 rw [show x / 4294967296 * 4294967296 + x % 4294967296 = x by omega, show y / 4294967296 * 4294967296 + y % 4294967296 = y by omega] at hp
 rw [and_low32 (x : Int) (by omega) (by omega), and_low32 (y : Int) (by omega) (by omega)]
 have e1 : (x : Int) / 4294967296 = ((x / 4294967296 : Nat) : Int) := by omega
 have e2 : (x : Int) % 4294967296 = ((x % 4294967296 : Nat) : Int) := by omega
 have e3 : (y : Int) / 4294967296 = ((y / 4294967296 : Nat) : Int) := by omega
 have e4 : (y : Int) % 4294967296 = ((y % 4294967296 : Nat) : Int) := by omega
 rw [e1, e2, e3, e4, ← hp]
 have g1 : x / 4294967296 < 4294967296 := by omega
 have g2 : x % 4294967296 < 4294967296 := by omega
 have g3 : y / 4294967296 < 4294967296 := by omega
 have g4 : y % 4294967296 < 4294967296 := by omega
 clear hp e1 e2 e3 e4
 generalize x / 4294967296 = x1 at *
 generalize x % 4294967296 = x0 at *
 generalize y / 4294967296 = y1 at *
 generalize y % 4294967296 = y0 at *
 have b1 := half_mul g1 g3
 have b2 := half_mul g1 g4
 have b3 := half_mul g2 g3
 have b4 := half_mul g2 g4
 simp only [← Int.natCast_mul]
 generalize x1 * y1 = A at *
 generalize x1 * y0 = B at *
 generalize x0 * y1 = C at *
 generalize x0 * y0 = D at *
 rw [and_low32 _ (by rw [IntKind.wrap_u64]; omega) (by rw [IntKind.wrap_u64]; omega)]
 simp only [IntKind.wrap_u64]
 omega
theorem prod_lo (x y : Nat) : IntKind.u64.wrap ((x : Int) * (y : Int)) = ((x * y % 18446744073709551616 : Nat) : Int) := by
 rw [IntKind.wrap_u64]; simp
theorem ret2u {a b c d : Int} (h1 : a = c) (h2 : b = d) : Ending.returned (.tuple #[.int .u64 a, .int .u64 b]) = Ending.returned (.tuple #[.int .u64 c, .int .u64 d]) := by rw [h1, h2]
set_option maxHeartbeats 1000000 in
theorem product_any (x y : Nat) (w : World) (hx : x < 18446744073709551616) (hy : y < 18446744073709551616) :
 Calls Tryz.prog 134 #[.int .u64 (x : Int), .int .u64 (y : Int)] w fun e w' => e = .returned (.tuple #[.int .u64 ((x * y / 18446744073709551616 : Nat) : Int), .int .u64 ((x * y % 18446744073709551616 : Nat) : Int)]) ∧ w' = w := by
 have H1 : Hid _ := prod_hi x y hx hy
 have H2 : Hid _ := prod_lo x y
 go_enter Tryz.func134, Tryz.ntmps134
 go_wp2
 go_ret2
 exact ⟨ret2u H1.out H2.out, rfl⟩
theorem hideW {p : Prop} (h : p) : Hid p := h
abbrev cU (d : Nat) : Value := .int .u64 (d : Int)
abbrev wideV (a b c d : Nat) : Value := .agg #[cU a, cU b, cU c, cU d]
def Arr (wr : World) (n a b c d : Nat) : Prop := wr.ownsRow 0 246 1 (.slice (some ⟨n, 0, none⟩) 4 4) 4 [cU a, cU b, cU c, cU d]
theorem Arr.cells {wr : World} {n a b c d : Nat} (h : Arr wr n a b c d) : wr.cell? ⟨n, 0, none⟩ = some (cU a) ∧ wr.cell? ⟨n, 1, none⟩ = some (cU b) ∧ wr.cell? ⟨n, 2, none⟩ = some (cU c) ∧ wr.cell? ⟨n, 3, none⟩ = some (cU d) :=
 ⟨World.ownsRow.cellAt h 0 (by omega), World.ownsRow.cellAt h 1 (by omega), World.ownsRow.cellAt h 2 (by omega), World.ownsRow.cellAt h 3 (by omega)⟩
theorem Arr.free {wr : World} {n a b c d : Nat} (h : Arr wr n a b c d) (j : Nat) : wr.frozen? ⟨n, j, none⟩ = false := World.ownsRow.frozenAt h j
theorem Arr.set0 {wr : World} {n a b c d : Nat} (h : Arr wr n a b c d) (x : Nat) : Arr (wr.setCell ⟨n, 0, none⟩ (cU x)) n x b c d := (World.ownsRow.stored h 0 (cU x)).1
theorem Arr.set1 {wr : World} {n a b c d : Nat} (h : Arr wr n a b c d) (x : Nat) : Arr (wr.setCell ⟨n, 1, none⟩ (cU x)) n a x c d := (World.ownsRow.stored h 1 (cU x)).1
theorem Arr.set2 {wr : World} {n a b c d : Nat} (h : Arr wr n a b c d) (x : Nat) : Arr (wr.setCell ⟨n, 2, none⟩ (cU x)) n a b x d := (World.ownsRow.stored h 2 (cU x)).1
theorem Arr.set3 {wr : World} {n a b c d : Nat} (h : Arr wr n a b c d) (x : Nat) : Arr (wr.setCell ⟨n, 3, none⟩ (cU x)) n a b c x := (World.ownsRow.stored h 3 (cU x)).1
theorem Arr.other {wr : World} {n n' a b c d : Nat} (h : Arr wr n a b c d) {a' b' c' d' : Nat} (h' : Arr wr n' a' b' c' d') (hne : n ≠ n') (j : Nat) (u : Value) : Arr (wr.setCell ⟨n', j, none⟩ u) n a b c d :=
 World.ownsRow.kept h (World.ownsRow.stored h' j u).2 (Or.inr (by simp [Value.ownBlock]; exact hne))
theorem Arr.alloc {wr : World} {n a b c d : Nat} (h : Arr wr n a b c d) (o : Obj) : Arr (wr.alloc o) n a b c d := World.ownsRow.alloc h o
theorem arr_new (w : World) (a b c d : Nat) : Arr (w.alloc (.cells #[cU a, cU b, cU c, cU d] 246)) w.heap.size a b c d := World.ownsRow_lit w #[cU a, cU b, cU c, cU d] 4 (Nat.zero_le _) (by decide) rfl
theorem four_below {B : Nat} {T w' : World} {g : Nat} (h : Below B T w') (hg : B ≤ g) (v0 v1 v2 v3 : Value) :
 Below B T ((((w'.setCell ⟨g, 0, none⟩ v0).setCell ⟨g, 1, none⟩ v1).setCell ⟨g, 2, none⟩ v2).setCell ⟨g, 3, none⟩ v3) :=
 (((h.setCell hg v0).setCell hg v1).setCell hg v2).setCell hg v3
theorem lt_of_cellW {w : World} {b o : Nat} {v : Value} (h : w.cell? ⟨b, o, none⟩ = some v) : b < w.heap.size := by
 by_cases hb : b < w.heap.size
 ·exact hb
 ·exfalso
  rw [World.cell?] at h
  simp [Array.getElem?_eq_none (show w.heap.size ≤ b by omega)] at h
theorem word_step {x m c : Nat} (hx : x < 18446744073709551616) (hm : m < 18446744073709551616) (hc : c < 18446744073709551616) : x * m + c < 18446744073709551616 * 18446744073709551616 := by
 have := Nat.mul_le_mul (show x ≤ 18446744073709551615 by omega) (show m ≤ 18446744073709551615 by omega)
 have e : (18446744073709551615 : Nat) * 18446744073709551615 = 340282366920938463426481119284349108225 := by decide
 have e' : (18446744073709551616 : Nat) * 18446744073709551616 = 340282366920938463463374607431768211456 := by decide
 omega
theorem round_words {x m c : Nat} (hx : x < 18446744073709551616) (hm : m < 18446744073709551616) (hc : c < 18446744073709551616) :
 ∃ lo hi r, lo = x * m % 18446744073709551616 ∧ hi = x * m / 18446744073709551616 ∧ r = (x * m + c) % 18446744073709551616 ∧ IntKind.u64.wrap ((lo : Int) + (c : Int)) = (r : Int) ∧ lo < 18446744073709551616 ∧ hi ≤ 18446744073709551614 ∧ r < 18446744073709551616 ∧
  ((lo ≤ r ∧ hi = (x * m + c) / 18446744073709551616) ∨ (r < lo ∧ hi + 1 = (x * m + c) / 18446744073709551616)) := by
 have h := word_step hx hm hc
 have h0 := Nat.mul_le_mul (show x ≤ 18446744073709551615 by omega) (show m ≤ 18446744073709551615 by omega)
 have e : (18446744073709551615 : Nat) * 18446744073709551615 = 340282366920938463426481119284349108225 := by decide
 generalize x * m = p at *
 refine ⟨_, _, _, rfl, rfl, rfl, ?_, by omega, by omega, by omega, ?_⟩
 ·rw [IntKind.wrap_u64]; omega
 ·omega
def carry1 (a m : Nat) : Nat := a * m / 18446744073709551616
def carry2 (a b m : Nat) : Nat := (b * m + carry1 a m) / 18446744073709551616
def carry3 (a b c m : Nat) : Nat := (c * m + carry2 a b m) / 18446744073709551616
def out0 (a m : Nat) : Nat := a * m % 18446744073709551616
def out1 (a b m : Nat) : Nat := (b * m + carry1 a m) % 18446744073709551616
def out2 (a b c m : Nat) : Nat := (c * m + carry2 a b m) % 18446744073709551616
def out3 (a b c d m : Nat) : Nat := (d * m + carry3 a b c m) % 18446744073709551616
def wideN (a b c d : Nat) : Nat := a + 18446744073709551616 * (b + 18446744073709551616 * (c + 18446744073709551616 * d))
theorem wide_mul (a b c d m : Nat) (h : wideN a b c d * m < 18446744073709551616 ^ 4) : wideN (out0 a m) (out1 a b m) (out2 a b c m) (out3 a b c d m) = wideN a b c d * m := by
 have e : (18446744073709551616 : Nat) ^ 4 = 115792089237316195423570985008687907853269984665640564039457584007913129639936 := by decide
 rw [e] at h
 have e2 : wideN a b c d * m = a * m + 18446744073709551616 * (b * m + 18446744073709551616 * (c * m + 18446744073709551616 * (d * m))) := by
  unfold wideN
  simp only [Nat.add_mul, Nat.mul_assoc]
 rw [e2] at h ⊢
 unfold wideN out0 out1 out2 out3 carry3 carry2 carry1
 generalize a * m = A at *
 generalize b * m = B at *
 generalize c * m = C at *
 generalize d * m = E at *
 omega
theorem carry_lt {x m c : Nat} (hx : x < 18446744073709551616) (hm : m < 18446744073709551616) (hc : c < 18446744073709551616) : (x * m + c) / 18446744073709551616 < 18446744073709551616 := by
 have := word_step hx hm hc
 generalize x * m = p at *
 omega
theorem carry1_lt {a m : Nat} (ha : a < 18446744073709551616) (hm : m < 18446744073709551616) : carry1 a m < 18446744073709551616 := carry_lt (c := 0) ha hm (by decide)
theorem carry2_lt {a b m : Nat} (ha : a < 18446744073709551616) (hb : b < 18446744073709551616) (hm : m < 18446744073709551616) : carry2 a b m < 18446744073709551616 := carry_lt hb hm (carry1_lt ha hm)
theorem carry3_lt {a b c m : Nat} (ha : a < 18446744073709551616) (hb : b < 18446744073709551616) (hc : c < 18446744073709551616) (hm : m < 18446744073709551616) : carry3 a b c m < 18446744073709551616 := carry_lt hc hm (carry2_lt ha hb hm)
def TimesAt (a b c d m : Nat) (w wr : World) (s5 s9 : Value) : Prop :=
 Below w.heap.size w wr ∧ Arr wr (w.heap.size + 1) 0 0 0 0 ∧
 ((s9 = .int .i64 0 ∧ s5 = cU 0 ∧ Arr wr w.heap.size a b c d) ∨
  (s9 = .int .i64 1 ∧ s5 = cU (carry1 a m) ∧ Arr wr w.heap.size (out0 a m) b c d) ∨
  (s9 = .int .i64 2 ∧ s5 = cU (carry2 a b m) ∧ Arr wr w.heap.size (out0 a m) (out1 a b m) c d) ∨
  (s9 = .int .i64 3 ∧ s5 = cU (carry3 a b c m) ∧ Arr wr w.heap.size (out0 a m) (out1 a b m) (out2 a b c m) d) ∨
  (s9 = .int .i64 4 ∧ Arr wr w.heap.size (out0 a m) (out1 a b m) (out2 a b c m) (out3 a b c d m)))
set_option maxHeartbeats 2000000 in
theorem wideTimes_any (a b c d m : Nat) (w : World) (ha : a < 18446744073709551616) (hb : b < 18446744073709551616) (hc : c < 18446744073709551616) (hd : d < 18446744073709551616) (hm : m < 18446744073709551616) :
 Calls Tryz.prog 148 #[wideV a b c d, cU m] w fun e w' => e = .returned (wideV (out0 a m) (out1 a b m) (out2 a b c m) (out3 a b c d m)) ∧ Below w.heap.size w w' := by
 have hat : TimesAt a b c d m w ((w.alloc (.cells #[cU a, cU b, cU c, cU d] 246)).alloc (.cells #[cU 0, cU 0, cU 0, cU 0] 246)) (cU 0) (.int .i64 0) := by
  refine ⟨((Below.refl _ _).alloc (Nat.le_refl _) _).alloc (by simp) _, ?_, .inl ⟨rfl, rfl, (arr_new w a b c d).alloc _⟩⟩
  have := arr_new (w.alloc (.cells #[cU a, cU b, cU c, cU d] 246)) 0 0 0 0
  simpa using this
 have HAT := hideW hat
 clear hat
 go_enter Tryz.func148, Tryz.ntmps148
 go_wp2_with fail
 go_loopw [5, 6, 7, 8, 9] (fun s5 _ _ _ s9 wr => TimesAt a b c d m w wr s5 s9) (fun _ _ _ _ s9 _ => 4 - (intOf s9).toNat)
 case atStart => exact HAT.out
 case round =>
  obtain ⟨hbel, hres, h | h | h | h | h⟩ := hrel
  ·obtain ⟨rfl, rfl, harr⟩ := h
   obtain ⟨q0, q1, q2, q3⟩ := harr.cells
   have qf := harr.free
   have HARR := hideW harr
   have HRES := hideW hres
   have HBEL := hideW hbel
   clear harr hres hbel
   have C := hideW (product_any a m wr ha hm)
   obtain ⟨lo, e1⟩ : ∃ lo, lo = a * m % 18446744073709551616 := ⟨_, rfl⟩
   obtain ⟨hi, e2⟩ : ∃ hi, hi = a * m / 18446744073709551616 := ⟨_, rfl⟩
   rw [← e1, ← e2] at C
   have l1 : lo < 18446744073709551616 := by omega
   have E1 := hideW e1
   have E2 := hideW e2
   clear e1 e2
   go_wp2_with (go_at_call 134; refine C.out.mono ?_; rintro e w' ⟨rfl, rfl⟩)
   go_roundw
   case rel =>
    have e1 : out0 a m = lo := E1.out.symm
    have e2 : carry1 a m = hi := E2.out.symm
    refine ⟨HBEL.out.setCell (Nat.le_refl _) _, HRES.out.other HARR.out (by omega) _ _, .inr (.inl ⟨rfl, by rw [e2], ?_⟩)⟩
    rw [e1]
    exact HARR.out.set0 lo
   case measure => simp [intOf]
  ·obtain ⟨rfl, rfl, harr⟩ := h
   obtain ⟨q0, q1, q2, q3⟩ := harr.cells
   have qf := harr.free
   have HARR := hideW harr
   have HRES := hideW hres
   have HBEL := hideW hbel
   clear harr hres hbel
   have hcl := carry1_lt ha hm
   obtain ⟨cy, hcy⟩ : ∃ cy, cy = carry1 a m := ⟨_, rfl⟩
   rw [← hcy] at hcl ⊢
   obtain ⟨lo, hi, r, e1, e2, e3, hw, l1, l2, l3, hcase⟩ := round_words hb hm hcl
   have C := hideW (product_any b m wr hb hm)
   rw [← e1, ← e2] at C
   have E3 : Hid (out1 a b m = r) := by rw [e3, hcy]; rfl
   have E4 : Hid ((lo ≤ r ∧ hi = (b * m + carry1 a m) / 18446744073709551616) ∨ (r < lo ∧ hi + 1 = (b * m + carry1 a m) / 18446744073709551616)) := by rw [← hcy]; exact hcase
   clear e1 e2 e3 hcy hcase
   rcases Nat.lt_or_ge r lo with g1 | g1
   ·go_wp2_with (go_at_call 134; refine C.out.mono ?_; rintro e w' ⟨rfl, rfl⟩)
    go_roundw
    case rel =>
     have ee : (b * m + carry1 a m) / 18446744073709551616 = hi + 1 := by rcases E4.out with h | h <;> omega
     have e3 := E3.out
     refine ⟨HBEL.out.setCell (Nat.le_refl _) _, HRES.out.other HARR.out (by omega) _ _, .inr (.inr (.inl ⟨rfl, by show _ = cU ((b * m + carry1 a m) / 18446744073709551616); rw [ee]; simp [cU], ?_⟩))⟩
     rw [e3]
     exact HARR.out.set1 r
    case measure => simp [intOf]
   ·go_wp2_with (go_at_call 134; refine C.out.mono ?_; rintro e w' ⟨rfl, rfl⟩)
    go_roundw
    case rel =>
     have ee : (b * m + carry1 a m) / 18446744073709551616 = hi := by rcases E4.out with h | h <;> omega
     have e3 := E3.out
     refine ⟨HBEL.out.setCell (Nat.le_refl _) _, HRES.out.other HARR.out (by omega) _ _, .inr (.inr (.inl ⟨rfl, by show _ = cU ((b * m + carry1 a m) / 18446744073709551616); rw [ee], ?_⟩))⟩
     rw [e3]
     exact HARR.out.set1 r
    case measure => simp [intOf]
  ·obtain ⟨rfl, rfl, harr⟩ := h
   obtain ⟨q0, q1, q2, q3⟩ := harr.cells
   have qf := harr.free
   have HARR := hideW harr
   have HRES := hideW hres
   have HBEL := hideW hbel
   clear harr hres hbel
   have hcl := carry2_lt ha hb hm
   obtain ⟨cy, hcy⟩ : ∃ cy, cy = carry2 a b m := ⟨_, rfl⟩
   rw [← hcy] at hcl ⊢
   obtain ⟨lo, hi, r, e1, e2, e3, hw, l1, l2, l3, hcase⟩ := round_words hc hm hcl
   have C := hideW (product_any c m wr hc hm)
   rw [← e1, ← e2] at C
   have E3 : Hid (out2 a b c m = r) := by rw [e3, hcy]; rfl
   have E4 : Hid ((lo ≤ r ∧ hi = (c * m + carry2 a b m) / 18446744073709551616) ∨ (r < lo ∧ hi + 1 = (c * m + carry2 a b m) / 18446744073709551616)) := by rw [← hcy]; exact hcase
   clear e1 e2 e3 hcy hcase
   rcases Nat.lt_or_ge r lo with g1 | g1
   ·go_wp2_with (go_at_call 134; refine C.out.mono ?_; rintro e w' ⟨rfl, rfl⟩)
    go_roundw
    case rel =>
     have ee : (c * m + carry2 a b m) / 18446744073709551616 = hi + 1 := by rcases E4.out with h | h <;> omega
     have e3 := E3.out
     refine ⟨HBEL.out.setCell (Nat.le_refl _) _, HRES.out.other HARR.out (by omega) _ _, .inr (.inr (.inr (.inl ⟨rfl, by show _ = cU ((c * m + carry2 a b m) / 18446744073709551616); rw [ee]; simp [cU], ?_⟩)))⟩
     rw [e3]
     exact HARR.out.set2 r
    case measure => simp [intOf]
   ·go_wp2_with (go_at_call 134; refine C.out.mono ?_; rintro e w' ⟨rfl, rfl⟩)
    go_roundw
    case rel =>
     have ee : (c * m + carry2 a b m) / 18446744073709551616 = hi := by rcases E4.out with h | h <;> omega
     have e3 := E3.out
     refine ⟨HBEL.out.setCell (Nat.le_refl _) _, HRES.out.other HARR.out (by omega) _ _, .inr (.inr (.inr (.inl ⟨rfl, by show _ = cU ((c * m + carry2 a b m) / 18446744073709551616); rw [ee], ?_⟩)))⟩
     rw [e3]
     exact HARR.out.set2 r
    case measure => simp [intOf]
  ·obtain ⟨rfl, rfl, harr⟩ := h
   obtain ⟨q0, q1, q2, q3⟩ := harr.cells
   have qf := harr.free
   have HARR := hideW harr
   have HRES := hideW hres
   have HBEL := hideW hbel
   clear harr hres hbel
   have hcl := carry3_lt ha hb hc hm
   obtain ⟨cy, hcy⟩ : ∃ cy, cy = carry3 a b c m := ⟨_, rfl⟩
   rw [← hcy] at hcl ⊢
   obtain ⟨lo, hi, r, e1, e2, e3, hw, l1, l2, l3, hcase⟩ := round_words hd hm hcl
   have C := hideW (product_any d m wr hd hm)
   rw [← e1, ← e2] at C
   have E3 : Hid (out3 a b c d m = r) := by rw [e3, hcy]; rfl
   have E4 : Hid ((lo ≤ r ∧ hi = (d * m + carry3 a b c m) / 18446744073709551616) ∨ (r < lo ∧ hi + 1 = (d * m + carry3 a b c m) / 18446744073709551616)) := by rw [← hcy]; exact hcase
   clear e1 e2 e3 hcy hcase
   rcases Nat.lt_or_ge r lo with g1 | g1
   ·go_wp2_with (go_at_call 134; refine C.out.mono ?_; rintro e w' ⟨rfl, rfl⟩)
    go_roundw
    case rel =>
     have ee : (d * m + carry3 a b c m) / 18446744073709551616 = hi + 1 := by rcases E4.out with h | h <;> omega
     have e3 := E3.out
     refine ⟨HBEL.out.setCell (Nat.le_refl _) _, HRES.out.other HARR.out (by omega) _ _, .inr (.inr (.inr (.inr ⟨rfl, ?_⟩)))⟩
     rw [e3]
     exact HARR.out.set3 r
    case measure => simp [intOf]
   ·go_wp2_with (go_at_call 134; refine C.out.mono ?_; rintro e w' ⟨rfl, rfl⟩)
    go_roundw
    case rel =>
     have ee : (d * m + carry3 a b c m) / 18446744073709551616 = hi := by rcases E4.out with h | h <;> omega
     have e3 := E3.out
     refine ⟨HBEL.out.setCell (Nat.le_refl _) _, HRES.out.other HARR.out (by omega) _ _, .inr (.inr (.inr (.inr ⟨rfl, ?_⟩)))⟩
     rw [e3]
     exact HARR.out.set3 r
    case measure => simp [intOf]
  ·obtain ⟨rfl, harr⟩ := h
   obtain ⟨q0, q1, q2, q3⟩ := harr.cells
   obtain ⟨r0, r1, r2, r3⟩ := hres.cells
   have rf := hres.free
   have hz := lt_of_cellW r0
   have HBEL := hideW hbel
   clear harr hres hbel HAT
   go_wp2
   exact bodyPost_ret (v := wideV (out0 a m) (out1 a b m) (out2 a b c m) (out3 a b c d m)) (by simp [results, Tryz.results148, go_sem, r0, r1, r2, r3]) rfl ⟨rfl, four_below HBEL.out (Nat.le_succ _) _ _ _ _⟩
theorem balW {w w' : World} (h : Below w.heap.size w w') (o : Obj) : Below w.heap.size w (w'.alloc o) := h.alloc h.size o
theorem wide_le (a b c d a' b' c' d' : Nat) (ha : a < 18446744073709551616) (hb : b < 18446744073709551616) (hc : c < 18446744073709551616) (ha' : a' < 18446744073709551616) (hb' : b' < 18446744073709551616) (hc' : c' < 18446744073709551616) :
 decide (wideN a b c d ≤ wideN a' b' c' d') = (if d ≠ d' then decide (d < d') else if c ≠ c' then decide (c < c') else if b ≠ b' then decide (b < b') else if a ≠ a' then decide (a < a') else true) := by
 unfold wideN
 split
 ·exact decide_eq_decide.2 (by omega)
 ·split
  ·exact decide_eq_decide.2 (by omega)
  ·split
   ·exact decide_eq_decide.2 (by omega)
   ·split
    ·exact decide_eq_decide.2 (by omega)
    ·simp; omega
set_option maxHeartbeats 4000000 in
theorem atMost_any (a b c d a' b' c' d' : Nat) (w : World) (ha : a < 18446744073709551616) (hb : b < 18446744073709551616) (hc : c < 18446744073709551616) (ha' : a' < 18446744073709551616) (hb' : b' < 18446744073709551616) (hc' : c' < 18446744073709551616) :
 Calls Tryz.prog 149 #[wideV a b c d, wideV a' b' c' d'] w fun e w' => e = .returned (.bool (decide (wideN a b c d ≤ wideN a' b' c' d'))) ∧ Below w.heap.size w w' := by
 rw [wide_le a b c d a' b' c' d' ha hb hc ha' hb' hc']
 have hn : ∀ x y : Nat, x = y → ((x : Int) != (y : Int)) = false := by intro x y h; simp [h]
 have hy : ∀ x y : Nat, x ≠ y → ((x : Int) != (y : Int)) = true := by intro x y h; simp; omega
 have Hn := hideW hn
 have Hy := hideW hy
 clear hn hy
 by_cases hdd : d = d'
 ·have nd := Hn.out d d' hdd
  rw [if_neg (by simp [hdd])]
  by_cases hcc : c = c'
  ·have nc := Hn.out c c' hcc
   rw [if_neg (by simp [hcc])]
   by_cases hbb : b = b'
   ·have nb := Hn.out b b' hbb
    rw [if_neg (by simp [hbb])]
    by_cases haa : a = a'
    ·have na := Hn.out a a' haa
     rw [if_neg (by simp [haa])]
     clear hdd hcc hbb haa
     go_enter Tryz.func149, Tryz.ntmps149
     go_wp2_with fail
     refine wp_loop_rounds 5 ?_
     rw [rounds_succ]
     go_wp2
     go_quiet (fail)
     go_wp2
     rw [rounds_succ]
     go_wp2
     go_quiet (fail)
     go_wp2
     rw [rounds_succ]
     go_wp2
     go_quiet (fail)
     go_wp2
     rw [rounds_succ]
     go_wp2
     go_quiet (fail)
     go_wp2
     rw [rounds_succ]
     go_wp2
     go_ret
     exact ⟨rfl, by repeat (first | exact Below.refl _ _ | apply below_drewN | apply balW)⟩
    ·have na := Hy.out a a' haa
     rw [if_pos haa]
     clear hdd hcc hbb haa
     go_enter Tryz.func149, Tryz.ntmps149
     go_wp2_with fail
     refine wp_loop_rounds 5 ?_
     rw [rounds_succ]
     go_wp2
     go_quiet (fail)
     go_wp2
     rw [rounds_succ]
     go_wp2
     go_quiet (fail)
     go_wp2
     rw [rounds_succ]
     go_wp2
     go_quiet (fail)
     go_wp2
     rw [rounds_succ]
     go_wp2
     go_quiet (fail)
     go_wp2
     go_quiet (fail)
     go_wp2
     go_ret
     exact ⟨rfl, by repeat (first | exact Below.refl _ _ | apply below_drewN | apply balW)⟩
   ·have nb := Hy.out b b' hbb
    rw [if_pos hbb]
    clear hdd hcc hbb
    go_enter Tryz.func149, Tryz.ntmps149
    go_wp2_with fail
    refine wp_loop_rounds 5 ?_
    rw [rounds_succ]
    go_wp2
    go_quiet (fail)
    go_wp2
    rw [rounds_succ]
    go_wp2
    go_quiet (fail)
    go_wp2
    rw [rounds_succ]
    go_wp2
    go_quiet (fail)
    go_wp2
    go_quiet (fail)
    go_wp2
    go_ret
    exact ⟨rfl, by repeat (first | exact Below.refl _ _ | apply below_drewN | apply balW)⟩
  ·have nc := Hy.out c c' hcc
   rw [if_pos hcc]
   clear hdd hcc
   go_enter Tryz.func149, Tryz.ntmps149
   go_wp2_with fail
   refine wp_loop_rounds 5 ?_
   rw [rounds_succ]
   go_wp2
   go_quiet (fail)
   go_wp2
   rw [rounds_succ]
   go_wp2
   go_quiet (fail)
   go_wp2
   go_quiet (fail)
   go_wp2
   go_ret
   exact ⟨rfl, by repeat (first | exact Below.refl _ _ | apply below_drewN | apply balW)⟩
 ·have nd := Hy.out d d' hdd
  rw [if_pos hdd]
  clear hdd
  go_enter Tryz.func149, Tryz.ntmps149
  go_wp2_with fail
  refine wp_loop_rounds 5 ?_
  rw [rounds_succ]
  go_wp2
  go_quiet (fail)
  go_wp2
  go_quiet (fail)
  go_wp2
  go_ret
  exact ⟨rfl, by repeat (first | exact Below.refl _ _ | apply below_drewN | apply balW)⟩
end Go.Proofs.YtbbehmcekbnkiaaGreat.Shr
