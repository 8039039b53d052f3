import Derived.Shelf.Small.Bits
import Derived.Shelf.Strconv.Itoa0
import Derived.Test.YtojoehdmjkgnnaaGreatProg
import Derived.Test.YtojoehdmjkgnnaaGreatWide
import Derived.Test.YtojoehdmjkgnnaaGreatBigA
import Derived.Deep.QuietTactic
import Derived.BigQuiet
import Derived.WalkSmall
namespace Go.Proofs.YtojoehdmjkgnnaaGreat.Shr
open Go.Shelf
set_option linter.unusedVariables false
def lz_ren : Go.Shelf.Ren := ⟨fun | 134 => 186 | 129 => 190 | n => n, fun | 53 => 250 | 3 => 3 | 4 => 4 | 46 => 217 | 5 => 5 | 9 => 9 | n => n, fun | n => n⟩
theorem lz_lays : Go.Proofs.Lays.n134 Tryz.prog lz_ren := {
 mixed := by kernel_rfl
 f129 := Tryz.func190.trans (congrArg some (by kernel_rfl))
 f134 := Tryz.func186.trans (congrArg some (by kernel_rfl))
 t3 := Tryz.underlying3
 a3 := Tryz.isAgg3
 z3 := Tryz.sizeOf3
 v3 := Tryz.zeroValue3
 t4 := Tryz.underlying4
 a4 := Tryz.isAgg4
 z4 := Tryz.sizeOf4
 v4 := Tryz.zeroValue4
 t5 := Tryz.underlying5
 a5 := Tryz.isAgg5
 z5 := Tryz.sizeOf5
 v5 := Tryz.zeroValue5
 t9 := Tryz.underlying9
 a9 := Tryz.isAgg9
 z9 := Tryz.sizeOf9
 v9 := Tryz.zeroValue9
 t46 := Tryz.underlying217
 a46 := Tryz.isAgg217
 z46 := Tryz.sizeOf217
 v46 := Tryz.zeroValue217
 t53 := Tryz.underlying250
 a53 := Tryz.isAgg250
 z53 := Tryz.sizeOf250
 v53 := Tryz.zeroValue250 }
theorem zeros_any (x : Int) (w : World) (h0 : 0 ≤ x) (h1 : x ≤ 18446744073709551615) :
 Calls Tryz.prog 186 #[.int .u64 x] w fun e w' => e = .returned (.int .i64 (64 - (Lib.bitLen x.toNat : Int))) ∧ w' = w := Any.bits_LeadingZeros64 lz_lays x w h0 h1
end Go.Proofs.YtojoehdmjkgnnaaGreat.Shr
namespace Go.Proofs.YtojoehdmjkgnnaaGreat.DivN
set_option linter.unusedVariables false
def Guess (u d yn1 yn0 q r : Nat) : Prop := q * yn1 + r = u ∧ (u * 4294967296 + d) / (yn1 * 4294967296 + yn0) ≤ q ∧ q ≤ 4294967297
theorem test_iff {u d yn1 yn0 q r : Nat} (h : q * yn1 + r = u) : q * (yn1 * 4294967296 + yn0) ≤ u * 4294967296 + d ↔ q * yn0 ≤ 4294967296 * r + d := by
 have e1 : q * (yn1 * 4294967296 + yn0) = q * yn1 * 4294967296 + q * yn0 := by rw [Nat.mul_add, Nat.mul_assoc]
 have e2 : u * 4294967296 = q * yn1 * 4294967296 + 4294967296 * r := by rw [← h, Nat.add_mul, Nat.mul_comm r]
 rw [e1, e2]
 omega
theorem top_lt {u d yn1 yn0 : Nat} (hu : u < yn1 * 4294967296 + yn0) (hd : d < 4294967296) : (u * 4294967296 + d) / (yn1 * 4294967296 + yn0) < 4294967296 := by
 rw [Nat.div_lt_iff_lt_mul (by omega)]
 have : (u + 1) * 4294967296 ≤ (yn1 * 4294967296 + yn0) * 4294967296 := Nat.mul_le_mul_right _ hu
 rw [Nat.mul_comm 4294967296]
 omega
theorem le_top {u d yn1 yn0 q : Nat} (hy : 0 < yn1 * 4294967296 + yn0) : q ≤ (u * 4294967296 + d) / (yn1 * 4294967296 + yn0) ↔ q * (yn1 * 4294967296 + yn0) ≤ u * 4294967296 + d := Nat.le_div_iff_mul_le hy
theorem guess_init {u d yn1 yn0 : Nat} (h1 : 2147483648 ≤ yn1) (h0 : yn0 < 4294967296) (hu : u < yn1 * 4294967296 + yn0) (hd : d < 4294967296) : Guess u d yn1 yn0 (u / yn1) (u % yn1) := by
 have hdm := Nat.div_add_mod u yn1
 refine ⟨by rw [Nat.mul_comm]; exact hdm, ?_, ?_⟩
 ·have h2 : (u * 4294967296 + d) / (yn1 * 4294967296 + yn0) ≤ (u * 4294967296 + d) / (yn1 * 4294967296) := Nat.div_le_div_left (by omega) (by omega)
  have h3 : (u * 4294967296 + d) / (yn1 * 4294967296) = u / yn1 := by
   rw [Nat.mul_comm yn1, ← Nat.div_div_eq_div_mul]
   congr 1
   omega
  omega
 ·have : u / yn1 < 4294967298 := by
   rw [Nat.div_lt_iff_lt_mul (by omega)]
   omega
  omega
def digit (u d y : Nat) : Nat := (u * 4294967296 + d) / y
theorem guess_end {u d yn1 yn0 q r : Nat} (h1 : 2147483648 ≤ yn1) (h : Guess u d yn1 yn0 q r) (ht : q * yn0 ≤ 4294967296 * r + d) : q = digit u d (yn1 * 4294967296 + yn0) := by
 have h2 := (test_iff (d := d) (yn0 := yn0) h.1).2 ht
 have h3 := (le_top (u := u) (d := d) (q := q) (show 0 < yn1 * 4294967296 + yn0 by omega)).2 h2
 have := h.2.1
 unfold digit
 omega
theorem guess_next {u d yn1 yn0 q r : Nat} (h1 : 2147483648 ≤ yn1) (hu : u < yn1 * 4294967296 + yn0) (hd : d < 4294967296) (h : Guess u d yn1 yn0 q r) (ht : 4294967296 ≤ q ∨ 4294967296 * r + d < q * yn0) :
 0 < q ∧ Guess u d yn1 yn0 (q - 1) (r + yn1) ∧ q - 1 ≤ 4294967296 := by
 have hlt : (u * 4294967296 + d) / (yn1 * 4294967296 + yn0) < q := by
  rcases ht with ht | ht
  ·have := top_lt hu hd
   omega
  ·by_cases hh : q ≤ (u * 4294967296 + d) / (yn1 * 4294967296 + yn0)
   ·have h2 := (le_top (u := u) (d := d) (q := q) (show 0 < yn1 * 4294967296 + yn0 by omega)).1 hh
    have h3 := (test_iff (d := d) (yn0 := yn0) h.1).1 h2
    omega
   ·omega
 have hq : 0 < q := Nat.lt_of_le_of_lt (Nat.zero_le _) hlt
 have h3 := h.1
 have h4 := h.2.2
 refine ⟨hq, ⟨?_, by omega, by omega⟩, by omega⟩
 have e : q * yn1 = (q - 1) * yn1 + yn1 := by
  rw [← Nat.succ_mul]
  congr 1
  omega
 omega
theorem guess_break {u d yn1 yn0 q r : Nat} (h1 : 2147483648 ≤ yn1) (h0 : yn0 < 4294967296) (h : Guess u d yn1 yn0 q r) (hq : q ≤ 4294967296) (hr : 4294967296 ≤ r) : q = digit u d (yn1 * 4294967296 + yn0) := by
 refine guess_end h1 h ?_
 have h2 : q * yn0 ≤ 18446744069414584320 := by
  have := Nat.mul_le_mul hq (show yn0 ≤ 4294967295 by omega)
  simpa using this
 omega
theorem two_digits {u v0 v1 y q1 r1 q0 r0 : Nat} (h1 : y * q1 + r1 = u * 4294967296 + v1) (h2 : y * q0 + r0 = r1 * 4294967296 + v0) : (u * 4294967296 + v1) * 4294967296 + v0 = (q1 * 4294967296 + q0) * y + r0 := by
 rw [← h1, Nat.add_mul (q1 * 4294967296) q0 y]
 have e : q1 * 4294967296 * y = y * q1 * 4294967296 := by rw [Nat.mul_comm y q1, Nat.mul_right_comm]
 rw [e, Nat.add_mul, Nat.mul_comm q0 y]
 generalize y * q1 = A at *
 generalize y * q0 = B at *
 omega
theorem quot_of {U q r y : Nat} (h : U = q * y + r) (hr : r < y) : U / y = q ∧ U % y = r := by
 have e : U = r + q * y := by omega
 constructor
 ·rw [e, Nat.add_mul_div_right _ _ (by omega), Nat.div_eq_of_lt hr]; omega
 ·rw [e, Nat.add_mul_mod_self_right, Nat.mod_eq_of_lt hr]
end Go.Proofs.YtojoehdmjkgnnaaGreat.DivN
namespace Go.Proofs.YtojoehdmjkgnnaaGreat.Shr
open Go.RowKit
set_option linter.unusedVariables false
set_option linter.unusedSimpArgs false
theorem hideR {p : Prop} (h : p) : Hid p := h
theorem magnitude_any (x : Int) (w : World) (h1 : -9223372036854775808 ≤ x) (h2 : x ≤ 9223372036854775807) :
 Calls Tryz.prog 174 #[.int .i64 x] w fun e w' => e = .returned (.int .u64 ((x.natAbs : Nat) : Int)) ∧ w' = w := by
 by_cases h : x < 0
 ·have e : IntKind.u64.wrap (-IntKind.u64.wrap x) = ((x.natAbs : Nat) : Int) := by rw [IntKind.wrap_u64, IntKind.wrap_u64]; omega
  have E := hideR e
  clear e
  go_enter Tryz.func174, Tryz.ntmps174
  go_wp2
  go_ret
  exact ⟨by rw [← E.out]; rfl, rfl⟩
 ·have e : ((x.natAbs : Nat) : Int) = x := by omega
  rw [e]
  clear e
  go_enter Tryz.func174, Tryz.ntmps174
  go_wp2
  go_ret
  exact ⟨rfl, rfl⟩
theorem nearest_any (r c : Nat) (w : World) (hc : 0 < c) (h : r < c) (hc' : c < 18446744073709551616) :
 Calls Tryz.prog 177 #[.int .u64 (r : Int), .int .u64 (c : Int)] w fun e w' => e = .returned (.int .u64 ((if c ≤ 2 * r then 1 else 0 : Nat) : Int)) ∧ Below w.heap.size w w' := by
 have e1 : (r : Int) / (c : Int) = 0 := Int.ediv_eq_zero_of_lt (by omega) (by omega)
 have e2 : (r : Int) % (c : Int) = (r : Int) := Int.emod_eq_of_lt (by omega) (by omega)
 by_cases hh : c ≤ 2 * r
 ·rw [if_pos hh]
  have g : (c : Int) - (r : Int) ≤ (r : Int) := by omega
  go_enter Tryz.func177, Tryz.ntmps177
  go_wp2
  go_quiet (fail)
  go_wp2
  go_ret
  exact ⟨rfl, below_drewN (Below.refl _ _) _⟩
 ·rw [if_neg hh]
  have g : ¬ (c : Int) - (r : Int) ≤ (r : Int) := by omega
  have g' : decide ((c : Int) - (r : Int) ≤ (r : Int)) = false := by simp; omega
  go_enter Tryz.func177, Tryz.ntmps177
  go_wp2
  go_quiet (fail)
  go_wp2
  go_ret
  exact ⟨rfl, below_drewN (Below.refl _ _) _⟩
def DivAt (hi lo y : Nat) : Prop := ∀ w, Calls Tryz.prog 176 #[.int .u64 (hi : Int), .int .u64 (lo : Int), .int .u64 (y : Int)] w fun e w' =>
 e = .returned (.tuple #[.int .u64 (((hi * 18446744073709551616 + lo) / y : Nat) : Int), .int .u64 (((hi * 18446744073709551616 + lo) % y : Nat) : Int)]) ∧ Below w.heap.size w w'
theorem div_zero (lo y : Nat) (hl : lo < 18446744073709551616) (hy : 0 < y) (hy' : y < 18446744073709551616) : DivAt 0 lo y := by
 intro w
 rw [Nat.zero_mul, Nat.zero_add]
 have e1 : IntKind.u64.wrap ((lo : Int) / (y : Int)) = ((lo / y : Nat) : Int) := by
  have := Nat.div_le_self lo y
  rw [← Int.natCast_ediv]
  generalize lo / y = d at *
  rw [IntWalk.u64_in _ (by omega)]
 have E1 := hideR e1
 clear e1
 go_enter Tryz.func176, Tryz.ntmps176
 go_wp2
 go_quiet (fail)
 go_wp2
 go_ret2
 exact ⟨ret2u E1.out (by simp), below_drewN (Below.refl _ _) _⟩
def scaleN (a b c bound : Nat) : Nat := BigN.near a b c (bound + 1)
theorem scale_top {a b c bound : Nat} (hc : 0 < c) (hb : bound < 18446744073709551615) (h : c ≤ a * b / 18446744073709551616) : scaleN a b c bound = bound + 1 := by
 unfold scaleN
 rw [BigN.near_eq a b c _ hc]
 have h1 : c * 18446744073709551616 ≤ a * b := (Nat.le_div_iff_mul_le (by decide)).1 h
 have h2 : 18446744073709551616 ≤ a * b / c := (Nat.le_div_iff_mul_le hc).2 (by rw [Nat.mul_comm]; exact h1)
 omega
theorem scale_big {a b c bound : Nat} (hc : 0 < c) (h : bound < a * b / c) : scaleN a b c bound = bound + 1 := by
 unfold scaleN
 rw [BigN.near_eq a b c _ hc]
 omega
theorem scale_in {a b c bound : Nat} (hc : 0 < c) (h : a * b / c ≤ bound) : scaleN a b c bound = a * b / c + if c ≤ 2 * (a * b % c) then 1 else 0 := by
 unfold scaleN
 rw [BigN.near_eq a b c _ hc]
 split <;> omega
def negB (x num den : Int) : Bool := !((!(decide (x < 0) == decide (num < 0))) == decide (den < 0))
set_option maxHeartbeats 2000000 in
theorem scaled_any (x num den : Int) (bound : Nat) (w : World) (hx1 : -9223372036854775808 ≤ x) (hx2 : x ≤ 9223372036854775807) (hn1 : -9223372036854775808 ≤ num) (hn2 : num ≤ 9223372036854775807) (hd1 : -9223372036854775808 ≤ den) (hd2 : den ≤ 9223372036854775807)
 (hd0 : den ≠ 0) (hbd : bound ≤ 1152921504606846976)
 (hdiv : x.natAbs * num.natAbs / 18446744073709551616 < den.natAbs → DivAt (x.natAbs * num.natAbs / 18446744073709551616) (x.natAbs * num.natAbs % 18446744073709551616) den.natAbs) :
 Calls Tryz.prog 161 #[.int .i64 x, .int .i64 num, .int .i64 den, .int .i64 (bound : Int)] w fun e w' =>
  e = .returned (.tuple #[.int .i64 (if negB x num den then -((min (scaleN x.natAbs num.natAbs den.natAbs bound) bound : Nat) : Int) else ((min (scaleN x.natAbs num.natAbs den.natAbs bound) bound : Nat) : Int)), .bool (decide (scaleN x.natAbs num.natAbs den.natAbs bound ≤ bound))]) ∧ Below w.heap.size w w' := by
 have M1 := hideR (magnitude_any x)
 have M2 := hideR (magnitude_any num)
 have M3 := hideR (magnitude_any den)
 have hc0 : 0 < den.natAbs := by omega
 have ha : x.natAbs < 18446744073709551616 := by omega
 have hb : num.natAbs < 18446744073709551616 := by omega
 have hc : den.natAbs < 18446744073709551616 := by omega
 generalize hA : x.natAbs = a at *
 generalize hBb : num.natAbs = b at *
 generalize hC : den.natAbs = c at *
 clear hA hBb hC
 have PR := hideR (product_any a b)
 have HDIV := hideR hdiv
 clear hdiv
 obtain ⟨hi, hhi⟩ : ∃ hi, hi = a * b / 18446744073709551616 := ⟨_, rfl⟩
 obtain ⟨lo, hlo⟩ : ∃ lo, lo = a * b % 18446744073709551616 := ⟨_, rfl⟩
 rw [← hhi, ← hlo] at PR HDIV
 have HHI := hideR hhi
 have HLO := hideR hlo
 have hi1 : hi < 18446744073709551616 := by
  rw [hhi]
  have h2 := Nat.mul_le_mul (show a ≤ 18446744073709551615 by omega) (show b ≤ 18446744073709551615 by omega)
  generalize a * b = p at *
  omega
 have lo1 : lo < 18446744073709551616 := by rw [hlo]; exact Nat.mod_lt _ (by decide)
 clear hhi hlo
 by_cases h1 : c ≤ hi
 ·have e := scale_top (a := a) (b := b) (c := c) (bound := bound) hc0 (by omega) (by rw [← HHI.out]; exact h1)
  rw [e, show min (bound + 1) bound = bound by omega, show decide (bound + 1 ≤ bound) = false by simp]
  clear e
  cases hneg : negB x num den
  ·unfold negB at hneg
   go_enter Tryz.func161, Tryz.ntmps161
   go_wp2_with fail
   refine (M3.out _ hd1 hd2).mono ?_
   rintro e w1 ⟨rfl, rfl⟩
   go_wp2_with fail
   refine (M1.out _ hx1 hx2).mono ?_
   rintro e w1 ⟨rfl, rfl⟩
   go_wp2_with fail
   refine (M2.out _ hn1 hn2).mono ?_
   rintro e w1 ⟨rfl, rfl⟩
   go_wp2_with fail
   refine (PR.out _ ha hb).mono ?_
   rintro e w1 ⟨rfl, rfl⟩
   go_wp2
   go_ret2
   exact ⟨rfl, Below.refl _ _⟩
  ·unfold negB at hneg
   go_enter Tryz.func161, Tryz.ntmps161
   go_wp2_with fail
   refine (M3.out _ hd1 hd2).mono ?_
   rintro e w1 ⟨rfl, rfl⟩
   go_wp2_with fail
   refine (M1.out _ hx1 hx2).mono ?_
   rintro e w1 ⟨rfl, rfl⟩
   go_wp2_with fail
   refine (M2.out _ hn1 hn2).mono ?_
   rintro e w1 ⟨rfl, rfl⟩
   go_wp2_with fail
   refine (PR.out _ ha hb).mono ?_
   rintro e w1 ⟨rfl, rfl⟩
   go_wp2
   go_ret2
   exact ⟨rfl, Below.refl _ _⟩
 have hd := HDIV.out (by omega)
 unfold DivAt at hd
 rw [show hi * 18446744073709551616 + lo = a * b by rw [HHI.out, HLO.out, Nat.mul_comm]; exact Nat.div_add_mod _ _] at hd
 have hr1 : a * b % c < c := Nat.mod_lt _ hc0
 have NE := hideR (fun w => nearest_any (a * b % c) c w hc0 hr1 hc)
 have hbig := fun h => scale_big (a := a) (b := b) (c := c) (bound := bound) hc0 h
 have hin := fun h => scale_in (a := a) (b := b) (c := c) (bound := bound) hc0 h
 clear HDIV
 generalize hq : a * b / c = q at hd hbig hin
 generalize hr : a * b % c = r at hd hin NE
 clear hq hr hr1
 obtain ⟨n, hn⟩ : ∃ n : Nat, n = if c ≤ 2 * r then 1 else 0 := ⟨_, rfl⟩
 rw [← hn] at NE hin
 have hn1' : n ≤ 1 := by rw [hn]; split <;> omega
 clear hn
 have HD := hideR hd
 clear hd
 by_cases h2 : bound < q
 ·have e := hbig h2
  rw [e, show min (bound + 1) bound = bound by omega, show decide (bound + 1 ≤ bound) = false by simp]
  clear e hbig hin
  cases hneg : negB x num den
  ·unfold negB at hneg
   go_enter Tryz.func161, Tryz.ntmps161
   go_wp2_with fail
   refine (M3.out _ hd1 hd2).mono ?_
   rintro e w1 ⟨rfl, rfl⟩
   go_wp2_with fail
   refine (M1.out _ hx1 hx2).mono ?_
   rintro e w1 ⟨rfl, rfl⟩
   go_wp2_with fail
   refine (M2.out _ hn1 hn2).mono ?_
   rintro e w1 ⟨rfl, rfl⟩
   go_wp2_with fail
   refine (PR.out _ ha hb).mono ?_
   rintro e w1 ⟨rfl, rfl⟩
   go_wp2_with fail
   refine (HD.out _).mono ?_
   rintro e w2 ⟨rfl, hb2⟩
   have B2 := hideR hb2
   clear hb2
   go_wp2
   go_ret2
   exact ⟨rfl, B2.out⟩
  ·unfold negB at hneg
   go_enter Tryz.func161, Tryz.ntmps161
   go_wp2_with fail
   refine (M3.out _ hd1 hd2).mono ?_
   rintro e w1 ⟨rfl, rfl⟩
   go_wp2_with fail
   refine (M1.out _ hx1 hx2).mono ?_
   rintro e w1 ⟨rfl, rfl⟩
   go_wp2_with fail
   refine (M2.out _ hn1 hn2).mono ?_
   rintro e w1 ⟨rfl, rfl⟩
   go_wp2_with fail
   refine (PR.out _ ha hb).mono ?_
   rintro e w1 ⟨rfl, rfl⟩
   go_wp2_with fail
   refine (HD.out _).mono ?_
   rintro e w2 ⟨rfl, hb2⟩
   have B2 := hideR hb2
   clear hb2
   go_wp2
   go_ret2
   exact ⟨rfl, B2.out⟩
 have e := hin (by omega)
 rw [e]
 clear e hbig hin
 by_cases h3 : bound < q + n
 ·rw [show min (q + n) bound = bound by omega, show decide (q + n ≤ bound) = false by simp; omega]
  cases hneg : negB x num den
  ·unfold negB at hneg
   go_enter Tryz.func161, Tryz.ntmps161
   go_wp2_with fail
   refine (M3.out _ hd1 hd2).mono ?_
   rintro e w1 ⟨rfl, rfl⟩
   go_wp2_with fail
   refine (M1.out _ hx1 hx2).mono ?_
   rintro e w1 ⟨rfl, rfl⟩
   go_wp2_with fail
   refine (M2.out _ hn1 hn2).mono ?_
   rintro e w1 ⟨rfl, rfl⟩
   go_wp2_with fail
   refine (PR.out _ ha hb).mono ?_
   rintro e w1 ⟨rfl, rfl⟩
   go_wp2_with fail
   refine (HD.out _).mono ?_
   rintro e w2 ⟨rfl, hb2⟩
   have B2 := hideR hb2
   clear hb2
   go_wp2_with fail
   refine (NE.out _).mono ?_
   rintro e w3 ⟨rfl, hb3⟩
   have B3 := hideR (B2.out.trans (hb3.mono B2.out.size))
   clear hb3
   go_wp2
   go_ret2
   exact ⟨rfl, B3.out⟩
  ·unfold negB at hneg
   go_enter Tryz.func161, Tryz.ntmps161
   go_wp2_with fail
   refine (M3.out _ hd1 hd2).mono ?_
   rintro e w1 ⟨rfl, rfl⟩
   go_wp2_with fail
   refine (M1.out _ hx1 hx2).mono ?_
   rintro e w1 ⟨rfl, rfl⟩
   go_wp2_with fail
   refine (M2.out _ hn1 hn2).mono ?_
   rintro e w1 ⟨rfl, rfl⟩
   go_wp2_with fail
   refine (PR.out _ ha hb).mono ?_
   rintro e w1 ⟨rfl, rfl⟩
   go_wp2_with fail
   refine (HD.out _).mono ?_
   rintro e w2 ⟨rfl, hb2⟩
   have B2 := hideR hb2
   clear hb2
   go_wp2_with fail
   refine (NE.out _).mono ?_
   rintro e w3 ⟨rfl, hb3⟩
   have B3 := hideR (B2.out.trans (hb3.mono B2.out.size))
   clear hb3
   go_wp2
   go_ret2
   exact ⟨rfl, B3.out⟩
 ·rw [show min (q + n) bound = q + n by omega, show decide (q + n ≤ bound) = true by simp; omega]
  cases hneg : negB x num den
  ·unfold negB at hneg
   go_enter Tryz.func161, Tryz.ntmps161
   go_wp2_with fail
   refine (M3.out _ hd1 hd2).mono ?_
   rintro e w1 ⟨rfl, rfl⟩
   go_wp2_with fail
   refine (M1.out _ hx1 hx2).mono ?_
   rintro e w1 ⟨rfl, rfl⟩
   go_wp2_with fail
   refine (M2.out _ hn1 hn2).mono ?_
   rintro e w1 ⟨rfl, rfl⟩
   go_wp2_with fail
   refine (PR.out _ ha hb).mono ?_
   rintro e w1 ⟨rfl, rfl⟩
   go_wp2_with fail
   refine (HD.out _).mono ?_
   rintro e w2 ⟨rfl, hb2⟩
   have B2 := hideR hb2
   clear hb2
   go_wp2_with fail
   refine (NE.out _).mono ?_
   rintro e w3 ⟨rfl, hb3⟩
   have B3 := hideR (B2.out.trans (hb3.mono B2.out.size))
   clear hb3
   go_wp2
   go_ret2
   exact ⟨by simp, B3.out⟩
  ·unfold negB at hneg
   go_enter Tryz.func161, Tryz.ntmps161
   go_wp2_with fail
   refine (M3.out _ hd1 hd2).mono ?_
   rintro e w1 ⟨rfl, rfl⟩
   go_wp2_with fail
   refine (M1.out _ hx1 hx2).mono ?_
   rintro e w1 ⟨rfl, rfl⟩
   go_wp2_with fail
   refine (M2.out _ hn1 hn2).mono ?_
   rintro e w1 ⟨rfl, rfl⟩
   go_wp2_with fail
   refine (PR.out _ ha hb).mono ?_
   rintro e w1 ⟨rfl, rfl⟩
   go_wp2_with fail
   refine (HD.out _).mono ?_
   rintro e w2 ⟨rfl, hb2⟩
   have B2 := hideR hb2
   clear hb2
   go_wp2_with fail
   refine (NE.out _).mono ?_
   rintro e w3 ⟨rfl, hb3⟩
   have B3 := hideR (B2.out.trans (hb3.mono B2.out.size))
   clear hb3
   go_wp2
   go_ret2
   exact ⟨by simp, B3.out⟩
end Go.Proofs.YtojoehdmjkgnnaaGreat.Shr
