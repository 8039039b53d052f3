import Derived.Test.YtlohbaoigfaneaaGreatBigC
import Derived.Test.YtlohbaoigfaneaaGreatProg
import Derived.WalkKit
import Derived.WalkSpells
import Derived.WalkLawsBesides
import Derived.Laws.MathBits
import Derived.Below
import Derived.Outline
import Derived.Deep.QuietTactic
import Derived.BigQuiet
import Derived.WalkSmall
import Derived.Deep.RegionHeld3
import Derived.Deep.DeepCutAuto
import Derived.ProofKit
import Derived.OpenShut
import Derived.ShutString
import Derived.ChangeOld
namespace Go.Proofs.YtlohbaoigfaneaaGreat.Shr
open Go.RowKit
set_option linter.unusedVariables false
set_option linter.unusedSimpArgs false
theorem mul_digits {a b : Nat} (ha : a < 16777216) (hb : b < 16777216) : a * b ≤ 281474943156225 := by
 have := Nat.mul_le_mul (show a ≤ 16777215 by omega) (show b ≤ 16777215 by omega)
 simpa using this
theorem times_next {xs ys zs : List Nat} {i k c da db z n : Nat} (hx : BigN.Digits xs) (hy : BigN.Digits ys) (hl : zs.length = n) (hd : BigN.Digits zs) (hn : i + k < n) (hc : c < 16777216)
 (ha : da = xs.getD i 0) (hb : db = ys.getD k 0) (hz : z = zs.getD (i + k) 0) (hv : BigN.val zs + 16777216 ^ (i + k) * c = BigN.val (xs.take i) * BigN.val ys + 16777216 ^ i * da * BigN.val (ys.take k)) :
 (zs.set (i + k) ((c + z + da * db) % 16777216)).length = n ∧ BigN.Digits (zs.set (i + k) ((c + z + da * db) % 16777216)) ∧ (c + z + da * db) / 16777216 < 16777216 ∧
  BigN.val (zs.set (i + k) ((c + z + da * db) % 16777216)) + 16777216 ^ (i + (k + 1)) * ((c + z + da * db) / 16777216) = BigN.val (xs.take i) * BigN.val ys + 16777216 ^ i * da * BigN.val (ys.take (k + 1)) := by
 have h1 : da < 16777216 := by rw [ha]; exact hx.getD i
 have h2 : db < 16777216 := by rw [hb]; exact hy.getD k
 have h3 : z < 16777216 := by rw [hz]; exact hd.getD _
 have h4 := mul_digits h1 h2
 refine ⟨by simp [hl], hd.set _ (Nat.mod_lt _ (by decide)), by omega, ?_⟩
 have h5 := BigN.times_step zs (i + k) c (da * db) (by omega)
 rw [← hz, Nat.add_assoc i k 1] at h5
 rw [h5, hv, BigN.val_take_succ' ys k, ← hb, Nat.mul_add, Nat.pow_add]
 have h6 : 16777216 ^ i * 16777216 ^ k * (da * db) = 16777216 ^ i * da * (16777216 ^ k * db) := by
  simp only [Nat.mul_assoc, Nat.mul_left_comm, Nat.mul_comm]
 omega
theorem times_room {xs ys : List Nat} {i k c da v : Nat} (hx : BigN.Digits xs) (hy : BigN.Digits ys) (hi : i < xs.length) (hc : 0 < c) (ha : da = xs.getD i 0)
 (hv : v + 16777216 ^ (i + k) * c = BigN.val (xs.take i) * BigN.val ys + 16777216 ^ i * da * BigN.val (ys.take k)) : k < ys.length + 1 := by
 refine BigN.carry_room xs ys hx hy i k c v hi hc ?_
 rw [hv, BigN.val_take_succ xs i hi, ← ha, Nat.add_mul]
 have := Nat.mul_le_mul_left (16777216 ^ i * da) (BigN.val_take_le ys k)
 omega
theorem times_row {xs ys : List Nat} {i k da v : Nat} (hi : i < xs.length) (ha : da = xs.getD i 0) (hk : ¬ k < ys.length)
 (hv : v + 16777216 ^ (i + k) * 0 = BigN.val (xs.take i) * BigN.val ys + 16777216 ^ i * da * BigN.val (ys.take k)) : v = BigN.val (xs.take (i + 1)) * BigN.val ys := by
 rw [BigN.take_all ys k (by omega)] at hv
 rw [BigN.val_take_succ xs i hi, ← ha, Nat.add_mul]
 omega
abbrev outV (w : World) (n : Nat) : Value := .slice (some ⟨w.heap.size, 0, none⟩) n n
def RowAt (w wr : World) (n : Nat) (zs : List Nat) : Prop := zs.length = n ∧ BigN.Digits zs ∧ wr.ownsRow w.heap.size 2 1 (outV w n) n (zs.map numC) ∧ Below w.heap.size w wr
theorem RowAt.drewN {w wr : World} {n : Nat} {zs : List Nat} (h : RowAt w wr n zs) (q : Nat) : RowAt w (wr.drewN q) n zs := ⟨h.1, h.2.1, h.2.2.1, below_drewN h.2.2.2 q⟩
theorem RowAt.cell {w wr : World} {n : Nat} {zs : List Nat} (h : RowAt w wr n zs) {j : Nat} (hj : j < n) : wr.cell? ⟨w.heap.size, j, none⟩ = some (numC (zs.getD j 0)) := by
 rw [h.2.2.1.cellAt j (by omega)]
 have : j < zs.length := by rw [h.1]; exact hj
 simp [List.getElem?_map, List.getD, this]
theorem RowAt.free {w wr : World} {n : Nat} {zs : List Nat} (h : RowAt w wr n zs) (j : Nat) : wr.frozen? ⟨w.heap.size, j, none⟩ = false := h.2.2.1.frozenAt j
theorem RowAt.store {w wr : World} {n : Nat} {zs : List Nat} (h : RowAt w wr n zs) {j d : Nat} (hd : d < 16777216) : RowAt w (wr.setCell ⟨w.heap.size, j, none⟩ (numC d)) n (zs.set j d) := by
 refine ⟨by simp [h.1], h.2.1.set j hd, ?_, h.2.2.2.setCell (Nat.le_refl _) _⟩
 rw [List.map_set]
 exact (h.2.2.1.stored j (numC d)).1
set_option maxHeartbeats 2000000 in
theorem times_num (va vb : Value) (xs ys : List Nat) (w : World) (na : IsNum w va xs) (nb : IsNum w vb ys) (hx : BigN.Digits xs) (hy : BigN.Digits ys) (lx : xs.length ≤ 1000) (ly : ys.length ≤ 1000) :
 Calls Tryz.prog 102 #[va, vb] w fun e w' => ∃ v, e = .returned v ∧ IsBig w' v (BigN.val xs * BigN.val ys) ∧ Below w.heap.size w w' := by
 obtain ⟨i0, hi, hz0, hz1, hz2⟩ := info_parts info2
 obtain ⟨ga, ca, rfl, la, ma, wa, cella⟩ := na
 obtain ⟨gb, cb, rfl, lb, mb, wb, cellb⟩ := nb
 have CA := hideB cella
 have CB := hideB cellb
 have HX := hideB hx
 have HY := hideB hy
 clear cella cellb hx hy ma mb
 obtain ⟨n, hn⟩ : ∃ n, n = xs.length + ys.length + 1 := ⟨_, rfl⟩
 have hn1 : xs.length + ys.length + 1 ≤ n := by omega
 have hn2 : n ≤ xs.length + ys.length + 1 := by omega
 clear hn
 go_enter Tryz.func102, Tryz.ntmps102
 go_wp2_with (at_make; refine wpList_make_full _ rfl _ _ 27 rfl w.heap.size 2 i0 (.int .i64 0) 1 Tryz.underlying27 hi hz0 hz1 _ _ _ _ n rfl rfl (by omega) (by omega) (by rw [hz2]; omega) (by unfold maxLen; omega) (Nat.le_refl _) ?_)
 intro w0 hown0 hgrow0
 have hrow : RowAt w w0 n (List.replicate n 0) := by
  refine ⟨by simp, BigN.Digits.zeros n, ?_, (Below.refl _ _).grown hgrow0 (Nat.le_refl _) (fun r hr => by cases hr)⟩
  have e : (madeCells #[Value.int .i64 0] n).toList = (List.replicate n 0).map numC := (toList_madeCells_one (.int .i64 0) n).trans (by simp [numC])
  rw [← e]
  exact hown0
 have HROW := hideB hrow
 clear hrow hown0 hgrow0
 go_wp2_with fail
 go_loopw [6, 7, 8] (fun s6 _ _ wr => ∃ i : Nat, i ≤ xs.length ∧ s6 = .int .i64 (i : Int) ∧ ∃ zs, Hid (RowAt w wr n zs ∧ BigN.val zs = BigN.val (xs.take i) * BigN.val ys)) (fun s6 _ _ _ => xs.length - (intOf s6).toNat)
 case atStart => exact ⟨0, Nat.zero_le _, rfl, _, hideB ⟨HROW.out, by simp [BigN.val, BigN.val_zeros]⟩⟩
 case round =>
  obtain ⟨i, hi', rfl, zs, HZ⟩ := hrel
  clear HROW
  by_cases hlt : i < xs.length
  ·obtain ⟨wo, rfl⟩ : ∃ wo : World, wo = wr := ⟨_, rfl⟩
   obtain ⟨da, hda⟩ : ∃ da, da = xs.getD i 0 := ⟨_, rfl⟩
   have HDA := hideB hda
   have da1 : da < 16777216 := by rw [hda]; exact HX.out.getD i
   clear hda
   go_wp2_with fail
   go_loopw [7, 8] (fun s7 s8 wq => ∃ c k : Nat, k ≤ ys.length + 1 ∧ c < 16777216 ∧ s7 = .int .i64 (c : Int) ∧ s8 = .int .i64 (k : Int) ∧ ∃ zs', Hid (RowAt w wq n zs' ∧ BigN.val zs' + 16777216 ^ (i + k) * c = BigN.val (xs.take i) * BigN.val ys + 16777216 ^ i * da * BigN.val (ys.take k))) (fun _ s8 _ => ys.length + 2 - (intOf s8).toNat)
   case atStart => exact ⟨0, 0, by omega, by omega, rfl, rfl, zs, hideB ⟨HZ.out.1, by rw [HZ.out.2]; simp [BigN.val]⟩⟩
   case round =>
    obtain ⟨c, k, hk, hc, rfl, rfl, zs', HQ⟩ := hrel
    by_cases hky : k < ys.length
    ·obtain ⟨db, hdb, hcb⟩ : ∃ d, d = ys.getD k 0 ∧ wr.cell? ⟨gb, k, none⟩ = some (.int .i64 (d : Int)) := ⟨_, rfl, (HQ.out.1.2.2.2.cell (p := ⟨gb, k, none⟩) wb).trans (CB.out k hky)⟩
     have hca : wr.cell? ⟨ga, i, none⟩ = some (.int .i64 (da : Int)) := (HQ.out.1.2.2.2.cell (p := ⟨ga, i, none⟩) wa).trans ((CA.out i hlt).trans (by rw [← HDA.out]))
     obtain ⟨z, hz, hcz⟩ : ∃ d, d = zs'.getD (i + k) 0 ∧ wr.cell? ⟨w.heap.size, i + k, none⟩ = some (.int .i64 (d : Int)) := ⟨_, rfl, HQ.out.1.cell (by omega)⟩
     have hfz := HQ.out.1.free (i + k)
     have hz1 : z < 16777216 := by rw [hz]; exact HQ.out.1.2.1.getD _
     have db1 : db < 16777216 := by rw [hdb]; exact HY.out.getD k
     have hpr : (da : Int) * (db : Int) ≤ 281474943156225 := by have := mul_digits da1 db1; omega
     have hpr0 : (0 : Int) ≤ (da : Int) * (db : Int) := by have := Int.natCast_nonneg (da * db); simpa using this
     have HN := hideB (times_next HX.out HY.out HQ.out.1.1 HQ.out.1.2.1 (by omega) hc HDA.out hdb hz HQ.out.2)
     clear hdb hz
     go_wp2
     go_quiet (fail)
     go_wp2
     go_roundw
     case rel =>
      have hr := (HQ.out.1.drewN nq).store (j := i + k) (d := (c + z + da * db) % 16777216) (Nat.mod_lt _ (by decide))
      exact ⟨(c + z + da * db) / 16777216, k + 1, by omega, HN.out.2.2.1, by simp, by simp, _, hideB ⟨by simpa [numC] using hr, HN.out.2.2.2⟩⟩
     case measure => simp [intOf]; omega
    ·by_cases hcp : 0 < c
     ·have hkr := times_room HX.out HY.out hlt hcp HDA.out HQ.out.2
      obtain ⟨z, hz, hcz⟩ : ∃ d, d = zs'.getD (i + k) 0 ∧ wr.cell? ⟨w.heap.size, i + k, none⟩ = some (.int .i64 (d : Int)) := ⟨_, rfl, HQ.out.1.cell (by omega)⟩
      have hfz := HQ.out.1.free (i + k)
      have hz1 : z < 16777216 := by rw [hz]; exact HQ.out.1.2.1.getD _
      have HN := hideB (times_next HX.out HY.out HQ.out.1.1 HQ.out.1.2.1 (by omega) hc HDA.out (BigN.getD_ge' ys k (by omega)).symm hz HQ.out.2)
      clear hz
      go_wp2
      go_roundw
      case rel =>
       have hr := HQ.out.1.store (j := i + k) (d := (c + z + da * 0) % 16777216) (Nat.mod_lt _ (by decide))
       exact ⟨(c + z + da * 0) / 16777216, k + 1, by omega, HN.out.2.2.1, by simp, by simp, _, hideB ⟨by simpa [numC] using hr, HN.out.2.2.2⟩⟩
      case measure => simp [intOf]; omega
     ·obtain rfl : c = 0 := by omega
      have HE := hideB (times_row hlt HDA.out hky HQ.out.2)
      go_wp2
      go_roundw
      case rel => exact ⟨i + 1, by omega, by simp, zs', hideB ⟨HQ.out.1, HE.out⟩⟩
      case measure => simp [intOf]; omega
  ·obtain rfl : i = xs.length := by omega
   have hrow := HZ.out.1
   have hv : BigN.val zs = BigN.val xs * BigN.val ys := by rw [HZ.out.2, List.take_length]
   have hlen := hrow.1
   have hsz : w.heap.size < wr.heap.size := by
    rcases hrow.2.2.1.2 with ⟨h, _⟩ | ⟨g, cap, cur, h, _, hg, _⟩
    ·simp at h
    ·simp at h; have := (Array.getElem?_eq_some_iff.1 hg).1; omega
   have HT := hideB (trim_any w.heap.size n zs wr (by omega) (by unfold maxLen; omega) hsz (fun j hj => hrow.cell (by omega)) hrow.2.1)
   rw [hlen] at HT
   have HB := hideB hrow.2.2.2
   have HV := hideB hv
   clear hrow hv hlen
   go_wp2_with (go_at_call 123; refine HT.out.mono ?_; rintro e w' ⟨v, rfl, hb, rfl⟩)
   go_ret
   exact ⟨_, rfl, by rw [← HV.out]; assumption, HB.out⟩
def lid : Nat := 16777216 ^ 40
theorem IsBig.len {w : World} {v : Value} {N : Nat} (h : IsBig w v N) (hN : N < lid) : ∃ xs, IsNum w v xs ∧ BigN.Digits xs ∧ BigN.Trim xs ∧ BigN.val xs = N ∧ xs.length ≤ 1000 := by
 obtain ⟨xs, h1, h2, h3, h4⟩ := h
 exact ⟨xs, h1, h2, h3, h4, by have := BigN.len_le_of_val xs h3 40 (by rw [h4]; exact hN); omega⟩
theorem times_any (va vb : Value) (a b : Nat) (w : World) (na : IsBig w va a) (nb : IsBig w vb b) (ha : a < lid) (hb : b < lid) :
 Calls Tryz.prog 102 #[va, vb] w fun e w' => ∃ v, e = .returned v ∧ IsBig w' v (a * b) ∧ Below w.heap.size w w' := by
 obtain ⟨xs, h1, h2, h3, rfl, h5⟩ := na.len ha
 obtain ⟨ys, k1, k2, k3, rfl, k5⟩ := nb.len hb
 exact times_num va vb xs ys w h1 k1 h2 k2 h5 k5
theorem sum_any (va vb : Value) (a b : Nat) (w : World) (na : IsBig w va a) (nb : IsBig w vb b) (ha : a < lid) (hb : b < lid) :
 Calls Tryz.prog 103 #[va, vb] w fun e w' => ∃ v, e = .returned v ∧ IsBig w' v (a + b) ∧ Below w.heap.size w w' := by
 obtain ⟨xs, h1, h2, h3, rfl, h5⟩ := na.len ha
 obtain ⟨ys, k1, k2, k3, rfl, k5⟩ := nb.len hb
 exact sum_num va vb xs ys w h1 k1 h2 k2 h3 k3 h5 k5
theorem most_any (va vb : Value) (a b : Nat) (w : World) (na : IsBig w va a) (nb : IsBig w vb b) (ha : a < lid) (hb : b < lid) :
 Calls Tryz.prog 124 #[va, vb] w fun e w' => e = .returned (.bool (decide (a ≤ b))) ∧ Below w.heap.size w w' := by
 obtain ⟨xs, h1, h2, h3, rfl, h5⟩ := na.len ha
 obtain ⟨ys, k1, k2, k3, rfl, k5⟩ := nb.len hb
 exact most_num va vb xs ys w h1 k1 h2 k2 h3 k3 h5 k5
theorem lid_small {x : Nat} (h : x < 18446744073709551616) : x < lid := by
 have : (18446744073709551616 : Nat) ≤ 16777216 ^ 40 := by decide +kernel
 unfold lid; omega
theorem lid_d {x : Nat} (h : x < 16777216 ^ 30) : x < lid := Nat.lt_of_lt_of_le h (Nat.pow_le_pow_right (by decide) (by decide))
theorem lid_mul {x d : Nat} (h : x < 18446744073709551616) (hd : d < 16777216 ^ 30) : x * d < lid := by
 have h1 : x * d ≤ 18446744073709551616 * 16777216 ^ 30 := Nat.mul_le_mul (Nat.le_of_lt h) (Nat.le_of_lt hd)
 have h2 : (18446744073709551616 : Nat) * 16777216 ^ 30 < 16777216 ^ 40 := by decide +kernel
 unfold lid; omega
theorem mid_facts {low most : Nat} (h : low < most) (hm : most < 18446744073709551616) : low + (most - low + 1) / 2 ≤ most ∧ low < low + (most - low + 1) / 2 ∧ low + (most - low + 1) / 2 < 18446744073709551616 := by omega
set_option maxHeartbeats 2000000 in
theorem part_any (vn vd : Value) (n d most : Nat) (w : World) (nn : IsBig w vn n) (nd : IsBig w vd d) (hn : n < lid) (hd : d < 16777216 ^ 30) (hm : most < 18446744073709551615) :
 Calls Tryz.prog 104 #[vn, vd, .int .u64 (most : Int)] w fun e w' => e = .returned (.int .u64 ((BigN.part n d most : Nat) : Int)) ∧ Below w.heap.size w w' := by
 have NN := hideB nn
 have ND := hideB nd
 have HN := hideB hn
 have HD := hideB hd
 obtain ⟨R, hR⟩ : ∃ R, R = BigN.part n d most := ⟨_, rfl⟩
 have hRm : R ≤ most := by rw [hR]; exact BigN.part_le n d most
 have HR := hideB (fun mid (h : mid ≤ most) => BigN.part_iff n d most mid h)
 rw [← hR] at HR
 rw [← hR]
 clear nn nd hn hd hR
 go_enter Tryz.func104, Tryz.ntmps104
 go_wp2_with fail
 go_loopw [2, 7, 8] (fun s2 s7 _ wr => Hid (Below w.heap.size w wr) ∧ ∃ hi lo : Nat, lo ≤ R ∧ R ≤ hi ∧ hi ≤ most ∧ s2 = .int .u64 (hi : Int) ∧ s7 = .int .u64 (lo : Int)) (fun s2 s7 _ _ => (intOf s2 - intOf s7).toNat)
 case atStart => exact ⟨hideB (Below.refl _ _), most, 0, Nat.zero_le _, hRm, Nat.le_refl _, rfl, rfl⟩
 case round =>
  obtain ⟨HW, hi, lo, h1, h2, h3, rfl, rfl⟩ := hrel
  by_cases hlt : lo < hi
  ·obtain ⟨mid, hmid⟩ : ∃ mid, mid = lo + (hi - lo + 1) / 2 := ⟨_, rfl⟩
   have hmf := mid_facts hlt (show hi < 18446744073709551616 by omega)
   rw [← hmid] at hmf
   obtain ⟨m1, m2, m3⟩ := hmf
   have HM : Hid ((lo : Int) + ((hi : Int) - (lo : Int) + 1) / 2 = (mid : Int)) := by show _ = _; omega
   clear hmid
   go_wp2_with fail
   rw [HM.out]
   refine (big_any mid _ m3).mono ?_
   rintro e w1 ⟨v1, rfl, hv1, hb1⟩
   have HB1 := hideB (HW.out.trans (hb1.mono HW.out.size))
   have HV1 := hideB hv1
   clear hv1 hb1
   go_wp2_with fail
   refine (times_any v1 vd mid d _ HV1.out (ND.out.kept HB1.out) (lid_small m3) (lid_d HD.out)).mono ?_
   rintro e w2 ⟨v2, rfl, hv2, hb2⟩
   have HB2 := hideB (HB1.out.trans (hb2.mono HB1.out.size))
   have HV2 := hideB hv2
   clear hv2 hb2
   go_wp2_with fail
   refine (most_any v2 vn (mid * d) n _ HV2.out (NN.out.kept HB2.out) (lid_mul m3 HD.out) HN.out).mono ?_
   rintro e w3 ⟨rfl, hb3⟩
   have HB3 := hideB (HB2.out.trans (hb3.mono HB2.out.size))
   clear hb3
   have hiff := HR.out mid (by omega)
   by_cases hle : mid * d ≤ n
   ·have hmr : mid ≤ R := hiff.1 hle
    rw [show decide (mid * d ≤ n) = true by simp [hle]]
    clear hiff hle
    go_wp2
    go_roundw
    case rel => exact ⟨HB3, hi, mid, hmr, h2, h3, rfl, rfl⟩
    case measure => simp [intOf]; omega
   ·have hmr : R < mid := by
     by_cases hh : mid ≤ R
     ·exact absurd (hiff.2 hh) hle
     ·omega
    rw [show decide (mid * d ≤ n) = false by simp [hle]]
    have HM1 : Hid ((mid : Int) - 1 = ((mid - 1 : Nat) : Int)) := by show _ = _; omega
    clear hiff hle
    go_wp2
    go_roundw
    case rel => exact ⟨HB3, mid - 1, lo, h1, by omega, by omega, by rw [HM1.out], rfl⟩
    case measure => rw [HM1.out]; simp [intOf]; omega
  ·obtain rfl : lo = R := by omega
   go_wp2
   go_ret
   exact ⟨rfl, HW.out⟩
theorem half_mul {a b : Nat} (ha : a < 4294967296) (hb : b < 4294967296) : a * b ≤ 18446744065119617025 := by
 have := Nat.mul_le_mul (show a ≤ 4294967295 by omega) (show b ≤ 4294967295 by omega)
 simpa using this
theorem prod_halves (x1 x0 y1 y0 : Nat) (h1 : x1 < 4294967296) (h2 : x0 < 4294967296) (h3 : y1 < 4294967296) (h4 : y0 < 4294967296) :
 x1 * y1 + (x1 * y0 + x0 * y0 / 4294967296) / 4294967296 + (x0 * y1 + (x1 * y0 + x0 * y0 / 4294967296) % 4294967296) / 4294967296 = (x1 * 4294967296 + x0) * (y1 * 4294967296 + y0) / 18446744073709551616 := by
 have e : (x1 * 4294967296 + x0) * (y1 * 4294967296 + y0) = x1 * y1 * 18446744073709551616 + (x1 * y0 + x0 * y1) * 4294967296 + x0 * y0 := by
  have a1 : (x1 * 4294967296 + x0) * (y1 * 4294967296 + y0) = x1 * 4294967296 * (y1 * 4294967296) + x1 * 4294967296 * y0 + (x0 * (y1 * 4294967296) + x0 * y0) := by
   rw [Nat.add_mul, Nat.mul_add, Nat.mul_add]
  have a2 : x1 * 4294967296 * (y1 * 4294967296) = x1 * y1 * 18446744073709551616 := by
   rw [Nat.mul_assoc, ← Nat.mul_assoc 4294967296, Nat.mul_comm 4294967296 y1, Nat.mul_assoc y1, ← Nat.mul_assoc]
  have a3 : x1 * 4294967296 * y0 = x1 * y0 * 4294967296 := by rw [Nat.mul_assoc, Nat.mul_comm 4294967296, ← Nat.mul_assoc]
  have a4 : x0 * (y1 * 4294967296) = x0 * y1 * 4294967296 := by rw [Nat.mul_assoc]
  rw [a1, a2, a3, a4]
  omega
 rw [e]
 have b1 := half_mul h1 h3
 have b2 := half_mul h1 h4
 have b3 := half_mul h2 h3
 have b4 := half_mul h2 h4
 generalize x1 * y1 = A at *
 generalize x1 * y0 = B at *
 generalize x0 * y1 = C at *
 generalize x0 * y0 = D at *
 omega
theorem prod_hi (x y : Nat) (hx : x < 18446744073709551616) (hy : y < 18446744073709551616) :
 IntKind.u64.wrap (IntKind.u64.wrap (IntKind.u64.wrap ((x : Int) / 4294967296 * ((y : Int) / 4294967296)) +
  IntKind.u64.wrap (IntKind.u64.wrap ((x : Int) / 4294967296 * bits BinOp.and IntKind.u64 (y : Int) 4294967295) + IntKind.u64.wrap (bits BinOp.and IntKind.u64 (x : Int) 4294967295 * bits BinOp.and IntKind.u64 (y : Int) 4294967295) / 4294967296) / 4294967296) +
  IntKind.u64.wrap (IntKind.u64.wrap (bits BinOp.and IntKind.u64 (x : Int) 4294967295 * ((y : Int) / 4294967296)) +
   bits BinOp.and IntKind.u64 (IntKind.u64.wrap (IntKind.u64.wrap ((x : Int) / 4294967296 * bits BinOp.and IntKind.u64 (y : Int) 4294967295) + IntKind.u64.wrap (bits BinOp.and IntKind.u64 (x : Int) 4294967295 * bits BinOp.and IntKind.u64 (y : Int) 4294967295) / 4294967296)) 4294967295) / 4294967296)
  = ((x * y / 18446744073709551616 : Nat) : Int) := by
 have hp := prod_halves (x / 4294967296) (x % 4294967296) (y / 4294967296) (y % 4294967296) (by omega) (by omega) (by omega) (by omega)
 rw [show x / 4294967296 * 4294967296 + x % 4294967296 = x by omega, show y / 4294967296 * 4294967296 + y % 4294967296 = y by omega] at hp
 rw [and_low32 (x : Int) (by omega) (by omega), and_low32 (y : Int) (by omega) (by omega)]
 have e1 : (x : Int) / 4294967296 = ((x / 4294967296 : Nat) : Int) := by omega
 have e2 : (x : Int) % 4294967296 = ((x % 4294967296 : Nat) : Int) := by omega
 have e3 : (y : Int) / 4294967296 = ((y / 4294967296 : Nat) : Int) := by omega
 have e4 : (y : Int) % 4294967296 = ((y % 4294967296 : Nat) : Int) := by omega
 rw [e1, e2, e3, e4, ← hp]
 have g1 : x / 4294967296 < 4294967296 := by omega
 have g2 : x % 4294967296 < 4294967296 := by omega
 have g3 : y / 4294967296 < 4294967296 := by omega
 have g4 : y % 4294967296 < 4294967296 := by omega
 clear hp e1 e2 e3 e4
 generalize x / 4294967296 = x1 at *
 generalize x % 4294967296 = x0 at *
 generalize y / 4294967296 = y1 at *
 generalize y % 4294967296 = y0 at *
 have b1 := half_mul g1 g3
 have b2 := half_mul g1 g4
 have b3 := half_mul g2 g3
 have b4 := half_mul g2 g4
 simp only [← Int.natCast_mul]
 generalize x1 * y1 = A at *
 generalize x1 * y0 = B at *
 generalize x0 * y1 = C at *
 generalize x0 * y0 = D at *
 rw [and_low32 _ (by rw [IntKind.wrap_u64]; omega) (by rw [IntKind.wrap_u64]; omega)]
 simp only [IntKind.wrap_u64]
 omega
theorem prod_lo (x y : Nat) : IntKind.u64.wrap ((x : Int) * (y : Int)) = ((x * y % 18446744073709551616 : Nat) : Int) := by
 rw [IntKind.wrap_u64]; simp
theorem ret2u {a b c d : Int} (h1 : a = c) (h2 : b = d) : Ending.returned (.tuple #[.int .u64 a, .int .u64 b]) = Ending.returned (.tuple #[.int .u64 c, .int .u64 d]) := by rw [h1, h2]
set_option maxHeartbeats 1000000 in
theorem product_any (x y : Nat) (w : World) (hx : x < 18446744073709551616) (hy : y < 18446744073709551616) :
 Calls Tryz.prog 163 #[.int .u64 (x : Int), .int .u64 (y : Int)] w fun e w' => e = .returned (.tuple #[.int .u64 ((x * y / 18446744073709551616 : Nat) : Int), .int .u64 ((x * y % 18446744073709551616 : Nat) : Int)]) ∧ w' = w := by
 have H1 : Hid _ := prod_hi x y hx hy
 have H2 : Hid _ := prod_lo x y
 go_enter Tryz.func163, Tryz.ntmps163
 go_wp2
 go_ret2
 exact ⟨ret2u H1.out H2.out, rfl⟩
theorem hideW {p : Prop} (h : p) : Hid p := h
abbrev cU (d : Nat) : Value := .int .u64 (d : Int)
abbrev wideV (a b c d : Nat) : Value := .agg #[cU a, cU b, cU c, cU d]
def Arr (wr : World) (n a b c d : Nat) : Prop := wr.ownsRow 0 269 1 (.slice (some ⟨n, 0, none⟩) 4 4) 4 [cU a, cU b, cU c, cU d]
theorem Arr.cells {wr : World} {n a b c d : Nat} (h : Arr wr n a b c d) : wr.cell? ⟨n, 0, none⟩ = some (cU a) ∧ wr.cell? ⟨n, 1, none⟩ = some (cU b) ∧ wr.cell? ⟨n, 2, none⟩ = some (cU c) ∧ wr.cell? ⟨n, 3, none⟩ = some (cU d) :=
 ⟨World.ownsRow.cellAt h 0 (by omega), World.ownsRow.cellAt h 1 (by omega), World.ownsRow.cellAt h 2 (by omega), World.ownsRow.cellAt h 3 (by omega)⟩
theorem Arr.free {wr : World} {n a b c d : Nat} (h : Arr wr n a b c d) (j : Nat) : wr.frozen? ⟨n, j, none⟩ = false := World.ownsRow.frozenAt h j
theorem Arr.set0 {wr : World} {n a b c d : Nat} (h : Arr wr n a b c d) (x : Nat) : Arr (wr.setCell ⟨n, 0, none⟩ (cU x)) n x b c d := (World.ownsRow.stored h 0 (cU x)).1
theorem Arr.set1 {wr : World} {n a b c d : Nat} (h : Arr wr n a b c d) (x : Nat) : Arr (wr.setCell ⟨n, 1, none⟩ (cU x)) n a x c d := (World.ownsRow.stored h 1 (cU x)).1
theorem Arr.set2 {wr : World} {n a b c d : Nat} (h : Arr wr n a b c d) (x : Nat) : Arr (wr.setCell ⟨n, 2, none⟩ (cU x)) n a b x d := (World.ownsRow.stored h 2 (cU x)).1
theorem Arr.set3 {wr : World} {n a b c d : Nat} (h : Arr wr n a b c d) (x : Nat) : Arr (wr.setCell ⟨n, 3, none⟩ (cU x)) n a b c x := (World.ownsRow.stored h 3 (cU x)).1
theorem Arr.other {wr : World} {n n' a b c d : Nat} (h : Arr wr n a b c d) {a' b' c' d' : Nat} (h' : Arr wr n' a' b' c' d') (hne : n ≠ n') (j : Nat) (u : Value) : Arr (wr.setCell ⟨n', j, none⟩ u) n a b c d :=
 World.ownsRow.kept h (World.ownsRow.stored h' j u).2 (Or.inr (by simp [Value.ownBlock]; exact hne))
theorem Arr.alloc {wr : World} {n a b c d : Nat} (h : Arr wr n a b c d) (o : Obj) : Arr (wr.alloc o) n a b c d := World.ownsRow.alloc h o
theorem arr_new (w : World) (a b c d : Nat) : Arr (w.alloc (.cells #[cU a, cU b, cU c, cU d] 269)) w.heap.size a b c d := World.ownsRow_lit w #[cU a, cU b, cU c, cU d] 4 (Nat.zero_le _) (by decide) rfl
theorem four_below {B : Nat} {T w' : World} {g : Nat} (h : Below B T w') (hg : B ≤ g) (v0 v1 v2 v3 : Value) :
 Below B T ((((w'.setCell ⟨g, 0, none⟩ v0).setCell ⟨g, 1, none⟩ v1).setCell ⟨g, 2, none⟩ v2).setCell ⟨g, 3, none⟩ v3) :=
 (((h.setCell hg v0).setCell hg v1).setCell hg v2).setCell hg v3
theorem lt_of_cellW {w : World} {b o : Nat} {v : Value} (h : w.cell? ⟨b, o, none⟩ = some v) : b < w.heap.size := by
 by_cases hb : b < w.heap.size
 ·exact hb
 ·exfalso
  rw [World.cell?] at h
  simp [Array.getElem?_eq_none (show w.heap.size ≤ b by omega)] at h
theorem word_step {x m c : Nat} (hx : x < 18446744073709551616) (hm : m < 18446744073709551616) (hc : c < 18446744073709551616) : x * m + c < 18446744073709551616 * 18446744073709551616 := by
 have := Nat.mul_le_mul (show x ≤ 18446744073709551615 by omega) (show m ≤ 18446744073709551615 by omega)
 have e : (18446744073709551615 : Nat) * 18446744073709551615 = 340282366920938463426481119284349108225 := by decide
 have e' : (18446744073709551616 : Nat) * 18446744073709551616 = 340282366920938463463374607431768211456 := by decide
 omega
theorem round_words {x m c : Nat} (hx : x < 18446744073709551616) (hm : m < 18446744073709551616) (hc : c < 18446744073709551616) :
 ∃ lo hi r, lo = x * m % 18446744073709551616 ∧ hi = x * m / 18446744073709551616 ∧ r = (x * m + c) % 18446744073709551616 ∧ IntKind.u64.wrap ((lo : Int) + (c : Int)) = (r : Int) ∧ lo < 18446744073709551616 ∧ hi ≤ 18446744073709551614 ∧ r < 18446744073709551616 ∧
  ((lo ≤ r ∧ hi = (x * m + c) / 18446744073709551616) ∨ (r < lo ∧ hi + 1 = (x * m + c) / 18446744073709551616)) := by
 have h := word_step hx hm hc
 have h0 := Nat.mul_le_mul (show x ≤ 18446744073709551615 by omega) (show m ≤ 18446744073709551615 by omega)
 have e : (18446744073709551615 : Nat) * 18446744073709551615 = 340282366920938463426481119284349108225 := by decide
 generalize x * m = p at *
 refine ⟨_, _, _, rfl, rfl, rfl, ?_, by omega, by omega, by omega, ?_⟩
 ·rw [IntKind.wrap_u64]; omega
 ·omega
def carry1 (a m : Nat) : Nat := a * m / 18446744073709551616
def carry2 (a b m : Nat) : Nat := (b * m + carry1 a m) / 18446744073709551616
def carry3 (a b c m : Nat) : Nat := (c * m + carry2 a b m) / 18446744073709551616
def out0 (a m : Nat) : Nat := a * m % 18446744073709551616
def out1 (a b m : Nat) : Nat := (b * m + carry1 a m) % 18446744073709551616
def out2 (a b c m : Nat) : Nat := (c * m + carry2 a b m) % 18446744073709551616
def out3 (a b c d m : Nat) : Nat := (d * m + carry3 a b c m) % 18446744073709551616
def wideN (a b c d : Nat) : Nat := a + 18446744073709551616 * (b + 18446744073709551616 * (c + 18446744073709551616 * d))
theorem wide_mul (a b c d m : Nat) (h : wideN a b c d * m < 18446744073709551616 ^ 4) : wideN (out0 a m) (out1 a b m) (out2 a b c m) (out3 a b c d m) = wideN a b c d * m := by
 have e : (18446744073709551616 : Nat) ^ 4 = 115792089237316195423570985008687907853269984665640564039457584007913129639936 := by decide
 rw [e] at h
 have e2 : wideN a b c d * m = a * m + 18446744073709551616 * (b * m + 18446744073709551616 * (c * m + 18446744073709551616 * (d * m))) := by
  unfold wideN
  simp only [Nat.add_mul, Nat.mul_assoc]
 rw [e2] at h ⊢
 unfold wideN out0 out1 out2 out3 carry3 carry2 carry1
 generalize a * m = A at *
 generalize b * m = B at *
 generalize c * m = C at *
 generalize d * m = E at *
 omega
theorem carry_lt {x m c : Nat} (hx : x < 18446744073709551616) (hm : m < 18446744073709551616) (hc : c < 18446744073709551616) : (x * m + c) / 18446744073709551616 < 18446744073709551616 := by
 have := word_step hx hm hc
 generalize x * m = p at *
 omega
theorem carry1_lt {a m : Nat} (ha : a < 18446744073709551616) (hm : m < 18446744073709551616) : carry1 a m < 18446744073709551616 := carry_lt (c := 0) ha hm (by decide)
theorem carry2_lt {a b m : Nat} (ha : a < 18446744073709551616) (hb : b < 18446744073709551616) (hm : m < 18446744073709551616) : carry2 a b m < 18446744073709551616 := carry_lt hb hm (carry1_lt ha hm)
theorem carry3_lt {a b c m : Nat} (ha : a < 18446744073709551616) (hb : b < 18446744073709551616) (hc : c < 18446744073709551616) (hm : m < 18446744073709551616) : carry3 a b c m < 18446744073709551616 := carry_lt hc hm (carry2_lt ha hb hm)
def TimesAt (a b c d m : Nat) (w wr : World) (s5 s9 : Value) : Prop :=
 Below w.heap.size w wr ∧ Arr wr (w.heap.size + 1) 0 0 0 0 ∧
 ((s9 = .int .i64 0 ∧ s5 = cU 0 ∧ Arr wr w.heap.size a b c d) ∨
  (s9 = .int .i64 1 ∧ s5 = cU (carry1 a m) ∧ Arr wr w.heap.size (out0 a m) b c d) ∨
  (s9 = .int .i64 2 ∧ s5 = cU (carry2 a b m) ∧ Arr wr w.heap.size (out0 a m) (out1 a b m) c d) ∨
  (s9 = .int .i64 3 ∧ s5 = cU (carry3 a b c m) ∧ Arr wr w.heap.size (out0 a m) (out1 a b m) (out2 a b c m) d) ∨
  (s9 = .int .i64 4 ∧ Arr wr w.heap.size (out0 a m) (out1 a b m) (out2 a b c m) (out3 a b c d m)))
set_option maxHeartbeats 2000000 in
theorem wideTimes_any (a b c d m : Nat) (w : World) (ha : a < 18446744073709551616) (hb : b < 18446744073709551616) (hc : c < 18446744073709551616) (hd : d < 18446744073709551616) (hm : m < 18446744073709551616) :
 Calls Tryz.prog 158 #[wideV a b c d, cU m] w fun e w' => e = .returned (wideV (out0 a m) (out1 a b m) (out2 a b c m) (out3 a b c d m)) ∧ Below w.heap.size w w' := by
 have hat : TimesAt a b c d m w ((w.alloc (.cells #[cU a, cU b, cU c, cU d] 269)).alloc (.cells #[cU 0, cU 0, cU 0, cU 0] 269)) (cU 0) (.int .i64 0) := by
  refine ⟨((Below.refl _ _).alloc (Nat.le_refl _) _).alloc (by simp) _, ?_, .inl ⟨rfl, rfl, (arr_new w a b c d).alloc _⟩⟩
  have := arr_new (w.alloc (.cells #[cU a, cU b, cU c, cU d] 269)) 0 0 0 0
  simpa using this
 have HAT := hideW hat
 clear hat
 go_enter Tryz.func158, Tryz.ntmps158
 go_wp2_with fail
 go_loopw [5, 6, 7, 8, 9] (fun s5 _ _ _ s9 wr => TimesAt a b c d m w wr s5 s9) (fun _ _ _ _ s9 _ => 4 - (intOf s9).toNat)
 case atStart => exact HAT.out
 case round =>
  obtain ⟨hbel, hres, h | h | h | h | h⟩ := hrel
  ·obtain ⟨rfl, rfl, harr⟩ := h
   obtain ⟨q0, q1, q2, q3⟩ := harr.cells
   have qf := harr.free
   have HARR := hideW harr
   have HRES := hideW hres
   have HBEL := hideW hbel
   clear harr hres hbel
   have C := hideW (product_any a m wr ha hm)
   obtain ⟨lo, e1⟩ : ∃ lo, lo = a * m % 18446744073709551616 := ⟨_, rfl⟩
   obtain ⟨hi, e2⟩ : ∃ hi, hi = a * m / 18446744073709551616 := ⟨_, rfl⟩
   rw [← e1, ← e2] at C
   have l1 : lo < 18446744073709551616 := by omega
   have E1 := hideW e1
   have E2 := hideW e2
   clear e1 e2
   go_wp2_with (go_at_call 163; refine C.out.mono ?_; rintro e w' ⟨rfl, rfl⟩)
   go_roundw
   case rel =>
    have e1 : out0 a m = lo := E1.out.symm
    have e2 : carry1 a m = hi := E2.out.symm
    refine ⟨HBEL.out.setCell (Nat.le_refl _) _, HRES.out.other HARR.out (by omega) _ _, .inr (.inl ⟨rfl, by rw [e2], ?_⟩)⟩
    rw [e1]
    exact HARR.out.set0 lo
   case measure => simp [intOf]
  ·obtain ⟨rfl, rfl, harr⟩ := h
   obtain ⟨q0, q1, q2, q3⟩ := harr.cells
   have qf := harr.free
   have HARR := hideW harr
   have HRES := hideW hres
   have HBEL := hideW hbel
   clear harr hres hbel
   have hcl := carry1_lt ha hm
   obtain ⟨cy, hcy⟩ : ∃ cy, cy = carry1 a m := ⟨_, rfl⟩
   rw [← hcy] at hcl ⊢
   obtain ⟨lo, hi, r, e1, e2, e3, hw, l1, l2, l3, hcase⟩ := round_words hb hm hcl
   have C := hideW (product_any b m wr hb hm)
   rw [← e1, ← e2] at C
   have E3 : Hid (out1 a b m = r) := by rw [e3, hcy]; rfl
   have E4 : Hid ((lo ≤ r ∧ hi = (b * m + carry1 a m) / 18446744073709551616) ∨ (r < lo ∧ hi + 1 = (b * m + carry1 a m) / 18446744073709551616)) := by rw [← hcy]; exact hcase
   clear e1 e2 e3 hcy hcase
   rcases Nat.lt_or_ge r lo with g1 | g1
   ·go_wp2_with (go_at_call 163; refine C.out.mono ?_; rintro e w' ⟨rfl, rfl⟩)
    go_roundw
    case rel =>
     have ee : (b * m + carry1 a m) / 18446744073709551616 = hi + 1 := by rcases E4.out with h | h <;> omega
     have e3 := E3.out
     refine ⟨HBEL.out.setCell (Nat.le_refl _) _, HRES.out.other HARR.out (by omega) _ _, .inr (.inr (.inl ⟨rfl, by show _ = cU ((b * m + carry1 a m) / 18446744073709551616); rw [ee]; simp [cU], ?_⟩))⟩
     rw [e3]
     exact HARR.out.set1 r
    case measure => simp [intOf]
   ·go_wp2_with (go_at_call 163; refine C.out.mono ?_; rintro e w' ⟨rfl, rfl⟩)
    go_roundw
    case rel =>
     have ee : (b * m + carry1 a m) / 18446744073709551616 = hi := by rcases E4.out with h | h <;> omega
     have e3 := E3.out
     refine ⟨HBEL.out.setCell (Nat.le_refl _) _, HRES.out.other HARR.out (by omega) _ _, .inr (.inr (.inl ⟨rfl, by show _ = cU ((b * m + carry1 a m) / 18446744073709551616); rw [ee], ?_⟩))⟩
     rw [e3]
     exact HARR.out.set1 r
    case measure => simp [intOf]
  ·obtain ⟨rfl, rfl, harr⟩ := h
   obtain ⟨q0, q1, q2, q3⟩ := harr.cells
   have qf := harr.free
   have HARR := hideW harr
   have HRES := hideW hres
   have HBEL := hideW hbel
   clear harr hres hbel
   have hcl := carry2_lt ha hb hm
   obtain ⟨cy, hcy⟩ : ∃ cy, cy = carry2 a b m := ⟨_, rfl⟩
   rw [← hcy] at hcl ⊢
   obtain ⟨lo, hi, r, e1, e2, e3, hw, l1, l2, l3, hcase⟩ := round_words hc hm hcl
   have C := hideW (product_any c m wr hc hm)
   rw [← e1, ← e2] at C
   have E3 : Hid (out2 a b c m = r) := by rw [e3, hcy]; rfl
   have E4 : Hid ((lo ≤ r ∧ hi = (c * m + carry2 a b m) / 18446744073709551616) ∨ (r < lo ∧ hi + 1 = (c * m + carry2 a b m) / 18446744073709551616)) := by rw [← hcy]; exact hcase
   clear e1 e2 e3 hcy hcase
   rcases Nat.lt_or_ge r lo with g1 | g1
   ·go_wp2_with (go_at_call 163; refine C.out.mono ?_; rintro e w' ⟨rfl, rfl⟩)
    go_roundw
    case rel =>
     have ee : (c * m + carry2 a b m) / 18446744073709551616 = hi + 1 := by rcases E4.out with h | h <;> omega
     have e3 := E3.out
     refine ⟨HBEL.out.setCell (Nat.le_refl _) _, HRES.out.other HARR.out (by omega) _ _, .inr (.inr (.inr (.inl ⟨rfl, by show _ = cU ((c * m + carry2 a b m) / 18446744073709551616); rw [ee]; simp [cU], ?_⟩)))⟩
     rw [e3]
     exact HARR.out.set2 r
    case measure => simp [intOf]
   ·go_wp2_with (go_at_call 163; refine C.out.mono ?_; rintro e w' ⟨rfl, rfl⟩)
    go_roundw
    case rel =>
     have ee : (c * m + carry2 a b m) / 18446744073709551616 = hi := by rcases E4.out with h | h <;> omega
     have e3 := E3.out
     refine ⟨HBEL.out.setCell (Nat.le_refl _) _, HRES.out.other HARR.out (by omega) _ _, .inr (.inr (.inr (.inl ⟨rfl, by show _ = cU ((c * m + carry2 a b m) / 18446744073709551616); rw [ee], ?_⟩)))⟩
     rw [e3]
     exact HARR.out.set2 r
    case measure => simp [intOf]
  ·obtain ⟨rfl, rfl, harr⟩ := h
   obtain ⟨q0, q1, q2, q3⟩ := harr.cells
   have qf := harr.free
   have HARR := hideW harr
   have HRES := hideW hres
   have HBEL := hideW hbel
   clear harr hres hbel
   have hcl := carry3_lt ha hb hc hm
   obtain ⟨cy, hcy⟩ : ∃ cy, cy = carry3 a b c m := ⟨_, rfl⟩
   rw [← hcy] at hcl ⊢
   obtain ⟨lo, hi, r, e1, e2, e3, hw, l1, l2, l3, hcase⟩ := round_words hd hm hcl
   have C := hideW (product_any d m wr hd hm)
   rw [← e1, ← e2] at C
   have E3 : Hid (out3 a b c d m = r) := by rw [e3, hcy]; rfl
   have E4 : Hid ((lo ≤ r ∧ hi = (d * m + carry3 a b c m) / 18446744073709551616) ∨ (r < lo ∧ hi + 1 = (d * m + carry3 a b c m) / 18446744073709551616)) := by rw [← hcy]; exact hcase
   clear e1 e2 e3 hcy hcase
   rcases Nat.lt_or_ge r lo with g1 | g1
   ·go_wp2_with (go_at_call 163; refine C.out.mono ?_; rintro e w' ⟨rfl, rfl⟩)
    go_roundw
    case rel =>
     have ee : (d * m + carry3 a b c m) / 18446744073709551616 = hi + 1 := by rcases E4.out with h | h <;> omega
     have e3 := E3.out
     refine ⟨HBEL.out.setCell (Nat.le_refl _) _, HRES.out.other HARR.out (by omega) _ _, .inr (.inr (.inr (.inr ⟨rfl, ?_⟩)))⟩
     rw [e3]
     exact HARR.out.set3 r
    case measure => simp [intOf]
   ·go_wp2_with (go_at_call 163; refine C.out.mono ?_; rintro e w' ⟨rfl, rfl⟩)
    go_roundw
    case rel =>
     have ee : (d * m + carry3 a b c m) / 18446744073709551616 = hi := by rcases E4.out with h | h <;> omega
     have e3 := E3.out
     refine ⟨HBEL.out.setCell (Nat.le_refl _) _, HRES.out.other HARR.out (by omega) _ _, .inr (.inr (.inr (.inr ⟨rfl, ?_⟩)))⟩
     rw [e3]
     exact HARR.out.set3 r
    case measure => simp [intOf]
  ·obtain ⟨rfl, harr⟩ := h
   obtain ⟨q0, q1, q2, q3⟩ := harr.cells
   obtain ⟨r0, r1, r2, r3⟩ := hres.cells
   have rf := hres.free
   have hz := lt_of_cellW r0
   have HBEL := hideW hbel
   clear harr hres hbel HAT
   go_wp2
   exact bodyPost_ret (v := wideV (out0 a m) (out1 a b m) (out2 a b c m) (out3 a b c d m)) (by simp [results, Tryz.results158, go_sem, r0, r1, r2, r3]) rfl ⟨rfl, four_below HBEL.out (Nat.le_succ _) _ _ _ _⟩
theorem balW {w w' : World} (h : Below w.heap.size w w') (o : Obj) : Below w.heap.size w (w'.alloc o) := h.alloc h.size o
theorem wide_le (a b c d a' b' c' d' : Nat) (ha : a < 18446744073709551616) (hb : b < 18446744073709551616) (hc : c < 18446744073709551616) (ha' : a' < 18446744073709551616) (hb' : b' < 18446744073709551616) (hc' : c' < 18446744073709551616) :
 decide (wideN a b c d ≤ wideN a' b' c' d') = (if d ≠ d' then decide (d < d') else if c ≠ c' then decide (c < c') else if b ≠ b' then decide (b < b') else if a ≠ a' then decide (a < a') else true) := by
 unfold wideN
 split
 ·exact decide_eq_decide.2 (by omega)
 ·split
  ·exact decide_eq_decide.2 (by omega)
  ·split
   ·exact decide_eq_decide.2 (by omega)
   ·split
    ·exact decide_eq_decide.2 (by omega)
    ·simp; omega
set_option maxHeartbeats 4000000 in
theorem atMost_any (a b c d a' b' c' d' : Nat) (w : World) (ha : a < 18446744073709551616) (hb : b < 18446744073709551616) (hc : c < 18446744073709551616) (ha' : a' < 18446744073709551616) (hb' : b' < 18446744073709551616) (hc' : c' < 18446744073709551616) :
 Calls Tryz.prog 159 #[wideV a b c d, wideV a' b' c' d'] w fun e w' => e = .returned (.bool (decide (wideN a b c d ≤ wideN a' b' c' d'))) ∧ Below w.heap.size w w' := by
 rw [wide_le a b c d a' b' c' d' ha hb hc ha' hb' hc']
 have hn : ∀ x y : Nat, x = y → ((x : Int) != (y : Int)) = false := by intro x y h; simp [h]
 have hy : ∀ x y : Nat, x ≠ y → ((x : Int) != (y : Int)) = true := by intro x y h; simp; omega
 have Hn := hideW hn
 have Hy := hideW hy
 clear hn hy
 by_cases hdd : d = d'
 ·have nd := Hn.out d d' hdd
  rw [if_neg (by simp [hdd])]
  by_cases hcc : c = c'
  ·have nc := Hn.out c c' hcc
   rw [if_neg (by simp [hcc])]
   by_cases hbb : b = b'
   ·have nb := Hn.out b b' hbb
    rw [if_neg (by simp [hbb])]
    by_cases haa : a = a'
    ·have na := Hn.out a a' haa
     rw [if_neg (by simp [haa])]
     clear hdd hcc hbb haa
     go_enter Tryz.func159, Tryz.ntmps159
     go_wp2_with fail
     refine wp_loop_rounds 5 ?_
     rw [rounds_succ]
     go_wp2
     go_quiet (fail)
     go_wp2
     rw [rounds_succ]
     go_wp2
     go_quiet (fail)
     go_wp2
     rw [rounds_succ]
     go_wp2
     go_quiet (fail)
     go_wp2
     rw [rounds_succ]
     go_wp2
     go_quiet (fail)
     go_wp2
     rw [rounds_succ]
     go_wp2
     go_ret
     exact ⟨rfl, by repeat (first | exact Below.refl _ _ | apply below_drewN | apply balW)⟩
    ·have na := Hy.out a a' haa
     rw [if_pos haa]
     clear hdd hcc hbb haa
     go_enter Tryz.func159, Tryz.ntmps159
     go_wp2_with fail
     refine wp_loop_rounds 5 ?_
     rw [rounds_succ]
     go_wp2
     go_quiet (fail)
     go_wp2
     rw [rounds_succ]
     go_wp2
     go_quiet (fail)
     go_wp2
     rw [rounds_succ]
     go_wp2
     go_quiet (fail)
     go_wp2
     rw [rounds_succ]
     go_wp2
     go_quiet (fail)
     go_wp2
     go_quiet (fail)
     go_wp2
     go_ret
     exact ⟨rfl, by repeat (first | exact Below.refl _ _ | apply below_drewN | apply balW)⟩
   ·have nb := Hy.out b b' hbb
    rw [if_pos hbb]
    clear hdd hcc hbb
    go_enter Tryz.func159, Tryz.ntmps159
    go_wp2_with fail
    refine wp_loop_rounds 5 ?_
    rw [rounds_succ]
    go_wp2
    go_quiet (fail)
    go_wp2
    rw [rounds_succ]
    go_wp2
    go_quiet (fail)
    go_wp2
    rw [rounds_succ]
    go_wp2
    go_quiet (fail)
    go_wp2
    go_quiet (fail)
    go_wp2
    go_ret
    exact ⟨rfl, by repeat (first | exact Below.refl _ _ | apply below_drewN | apply balW)⟩
  ·have nc := Hy.out c c' hcc
   rw [if_pos hcc]
   clear hdd hcc
   go_enter Tryz.func159, Tryz.ntmps159
   go_wp2_with fail
   refine wp_loop_rounds 5 ?_
   rw [rounds_succ]
   go_wp2
   go_quiet (fail)
   go_wp2
   rw [rounds_succ]
   go_wp2
   go_quiet (fail)
   go_wp2
   go_quiet (fail)
   go_wp2
   go_ret
   exact ⟨rfl, by repeat (first | exact Below.refl _ _ | apply below_drewN | apply balW)⟩
 ·have nd := Hy.out d d' hdd
  rw [if_pos hdd]
  clear hdd
  go_enter Tryz.func159, Tryz.ntmps159
  go_wp2_with fail
  refine wp_loop_rounds 5 ?_
  rw [rounds_succ]
  go_wp2
  go_quiet (fail)
  go_wp2
  go_quiet (fail)
  go_wp2
  go_ret
  exact ⟨rfl, by repeat (first | exact Below.refl _ _ | apply below_drewN | apply balW)⟩
theorem Arr.below {w w' : World} {B n a b c d : Nat} (h : Arr w n a b c d) (hb : Below B w w') (hn : n < B) : Arr w' n a b c d := by
 obtain ⟨h1, h2⟩ := h
 refine ⟨h1, ?_⟩
 rcases h2 with h2 | ⟨g, cap, cur, e, x1, x2, rest⟩
 ·exact .inl h2
 ·refine .inr ⟨g, cap, cur, e, x1, ?_, rest⟩
  have : g = n := by simp at e; exact e.1.symm
  rw [hb.block g (by omega)]
  exact x2
def IsWide (v : Value) (N : Nat) : Prop := ∃ a b c d : Nat, v = wideV a b c d ∧ a < 18446744073709551616 ∧ b < 18446744073709551616 ∧ c < 18446744073709551616 ∧ d < 18446744073709551616 ∧ wideN a b c d = N
theorem timesW_any (v : Value) (N m : Nat) (w : World) (hv : IsWide v N) (hm : m < 18446744073709551616) (hN : N * m < 18446744073709551616 ^ 4) :
 Calls Tryz.prog 158 #[v, cU m] w fun e w' => ∃ v', e = .returned v' ∧ IsWide v' (N * m) ∧ Below w.heap.size w w' := by
 obtain ⟨a, b, c, d, rfl, ha, hb, hc, hd, rfl⟩ := hv
 refine (wideTimes_any a b c d m w ha hb hc hd hm).mono ?_
 rintro e w' ⟨rfl, hbel⟩
 exact ⟨_, rfl, ⟨_, _, _, _, rfl, Nat.mod_lt _ (by decide), Nat.mod_lt _ (by decide), Nat.mod_lt _ (by decide), Nat.mod_lt _ (by decide), wide_mul a b c d m hN⟩, hbel⟩
theorem atMostW_any (v v' : Value) (N M : Nat) (w : World) (hv : IsWide v N) (hv' : IsWide v' M) :
 Calls Tryz.prog 159 #[v, v'] w fun e w' => e = .returned (.bool (decide (N ≤ M))) ∧ Below w.heap.size w w' := by
 obtain ⟨a, b, c, d, rfl, ha, hb, hc, hd, rfl⟩ := hv
 obtain ⟨a', b', c', d', rfl, ha', hb', hc', hd', rfl⟩ := hv'
 exact atMost_any a b c d a' b' c' d' w ha hb hc ha' hb' hc'
theorem sq_lt {x : Nat} (hx : x < 9223372036854775808) : x * x ≤ 85070591730234615865843651857942052864 ∧ x * x * x ≤ 784637716923335095479473677900958302012794430558004314112 := by
 have h1 := Nat.mul_le_mul (Nat.le_of_lt hx) (Nat.le_of_lt hx)
 have h2 := Nat.mul_le_mul h1 (Nat.le_of_lt hx)
 have e1 : (9223372036854775808 : Nat) * 9223372036854775808 = 85070591730234615865843651857942052864 := by decide
 have e2 : (85070591730234615865843651857942052864 : Nat) * 9223372036854775808 = 784637716923335095479473677900958302012794430558004314112 := by decide
 omega
theorem pow4 : (18446744073709551616 : Nat) ^ 4 = 115792089237316195423570985008687907853269984665640564039457584007913129639936 := by decide
set_option maxHeartbeats 1000000 in
theorem cube_any (x : Nat) (w : World) (hx : x < 9223372036854775808) : Calls Tryz.prog 157 #[.int .i64 (x : Int)] w fun e w' => ∃ v, e = .returned v ∧ IsWide v (x * x * x) ∧ Below w.heap.size w w' := by
 have hs := sq_lt hx
 have p1 : x * x < 18446744073709551616 ^ 4 := by rw [pow4]; omega
 have p2 : x * x * x < 18446744073709551616 ^ 4 := by rw [pow4]; omega
 have P1 := hideW p1
 have P2 := hideW p2
 clear hs p1 p2
 go_enter Tryz.func157, Tryz.ntmps157
 go_wp2_with fail
 refine (timesW_any _ x x _ ⟨x, 0, 0, 0, rfl, by omega, by decide, by decide, by decide, by simp [wideN]⟩ (by omega) P1.out).mono ?_
 rintro e w1 ⟨v1, rfl, hv1, hb1⟩
 have HV1 := hideW hv1
 have HB1 := hideW hb1
 clear hv1 hb1
 go_wp2_with fail
 refine (timesW_any v1 (x * x) x _ HV1.out (by omega) P2.out).mono ?_
 rintro e w2 ⟨v2, rfl, ⟨a, b, c, d, rfl, hw⟩, hb2⟩
 have hbb := HB1.out.trans (hb2.mono HB1.out.size)
 have hz : w.heap.size < w2.heap.size := by have := hbb.size; simp at this; omega
 have harr := (arr_new w 0 0 0 0).below hbb (by simp)
 obtain ⟨r0, r1, r2, r3⟩ := harr.cells
 have rf := harr.free
 have HW := hideW hw
 have HB := hideW (((Below.refl w.heap.size w).alloc (Nat.le_refl _) _).trans (hbb.mono (by simp)))
 clear hw hb2 hbb harr
 go_wp2
 exact bodyPost_ret (v := wideV a b c d) (by simp [results, Tryz.results157, go_sem, r0, r1, r2, r3]) rfl ⟨_, rfl, ⟨a, b, c, d, rfl, HW.out⟩, four_below HB.out (Nat.le_refl _) _ _ _ _⟩
def badN (s c : Nat) : Nat := BigN.part (s * s * s * 200 + c * c * c) (c * c * c * 2) 10000
theorem bad_iff (s c bad : Nat) (hc : 0 < c) (h0 : 0 < bad) (h1 : bad ≤ 10000) : c * c * c * (2 * bad - 1) ≤ s * s * s * 200 ↔ bad ≤ badN s c := by
 unfold badN
 rw [← BigN.part_iff _ _ _ _ h1]
 have e1 : bad * (c * c * c * 2) = c * c * c * (2 * bad - 1) + c * c * c := by
  rw [Nat.mul_comm bad, Nat.mul_assoc (c * c * c) 2 bad]
  have : 2 * bad = (2 * bad - 1) + 1 := by omega
  rw [this, Nat.mul_add]
  simp
 rw [e1]
 omega
theorem keepA {n : Nat} {W w1 : World} {a b c d a' b' c' d' : Value}
 (h : W.cell? ⟨n, 0, none⟩ = some a ∧ W.cell? ⟨n, 1, none⟩ = some b ∧ W.cell? ⟨n, 2, none⟩ = some c ∧ W.cell? ⟨n, 3, none⟩ = some d ∧ W.cell? ⟨n + 1, 0, none⟩ = some a' ∧ W.cell? ⟨n + 1, 1, none⟩ = some b' ∧ W.cell? ⟨n + 1, 2, none⟩ = some c' ∧ W.cell? ⟨n + 1, 3, none⟩ = some d')
 (hb : Below W.heap.size W w1) :
 w1.cell? ⟨n, 0, none⟩ = some a ∧ w1.cell? ⟨n, 1, none⟩ = some b ∧ w1.cell? ⟨n, 2, none⟩ = some c ∧ w1.cell? ⟨n, 3, none⟩ = some d ∧ w1.cell? ⟨n + 1, 0, none⟩ = some a' ∧ w1.cell? ⟨n + 1, 1, none⟩ = some b' ∧ w1.cell? ⟨n + 1, 2, none⟩ = some c' ∧ w1.cell? ⟨n + 1, 3, none⟩ = some d' := by
 obtain ⟨h0, h1, h2, h3, h4, h5, h6, h7⟩ := h
 have z0 := lt_of_cellW h0
 have z1 := lt_of_cellW h4
 have hc : ∀ b o, b < W.heap.size → w1.cell? ⟨b, o, none⟩ = W.cell? ⟨b, o, none⟩ := fun b o h => hb.cell (p := ⟨b, o, none⟩) h
 exact ⟨(hc _ _ z0).trans h0, (hc _ _ z0).trans h1, (hc _ _ z0).trans h2, (hc _ _ z0).trans h3, (hc _ _ z1).trans h4, (hc _ _ z1).trans h5, (hc _ _ z1).trans h6, (hc _ _ z1).trans h7⟩
set_option maxHeartbeats 4000000 in
theorem implBad_main (s c : Nat) (w : World) (hs : s < 9223372036854775808) (hc : c < 9223372036854775808) (hs0 : 0 < s) (hc0 : 0 < c) :
 Calls Tryz.prog 146 #[.int .i64 (s : Int), .int .i64 (c : Int)] w fun e w' => e = .returned (.int .i64 ((badN s c : Nat) : Int)) ∧ Below w.heap.size w w' := by
 have P1 : Hid (s * s * s * 200 < 18446744073709551616 ^ 4) := by
  show _ < _
  have := sq_lt hs
  rw [pow4]; omega
 have P2 : Hid (∀ k, k < 20000 → c * c * c * k < 18446744073709551616 ^ 4) := by
  intro k hk
  have := sq_lt hc
  have h2 := Nat.mul_le_mul this.2 (Nat.le_of_lt hk)
  have e : (784637716923335095479473677900958302012794430558004314112 : Nat) * 20000 < 18446744073709551616 ^ 4 := by decide
  omega
 have P3 : Hid (∀ bad, 0 < bad → bad ≤ 10000 → (c * c * c * (2 * bad - 1) ≤ s * s * s * 200 ↔ bad ≤ badN s c)) := fun bad h0 h1 => bad_iff s c bad hc0 h0 h1
 have P4 : badN s c ≤ 10000 := BigN.part_le _ _ _
 obtain ⟨R, hR⟩ : ∃ R, R = badN s c := ⟨_, rfl⟩
 rw [← hR] at P3 P4 ⊢
 clear hR
 go_enter Tryz.func146, Tryz.ntmps146
 go_wp2_with fail
 refine (cube_any s _ hs).mono ?_
 rintro e w1 ⟨v1, rfl, hv1, hb1⟩
 have HV1 := hideW hv1
 have HB1 := hideW hb1
 clear hv1 hb1
 go_wp2_with fail
 refine (timesW_any v1 (s * s * s) 200 _ HV1.out (by decide) P1.out).mono ?_
 rintro e w2 ⟨v2, rfl, ⟨a, b, c1, d, rfl, hw⟩, hb2⟩
 have HW := hideW hw
 have HB2 := hideW (HB1.out.trans (hb2.mono HB1.out.size))
 clear hw hb2
 go_wp2_with fail
 refine (cube_any c _ hc).mono ?_
 rintro e w3 ⟨v3, rfl, ⟨a', b', c1', d', rfl, hw'⟩, hb3⟩
 have HW' := hideW hw'
 have HB3 := hideW (HB2.out.trans (hb3.mono HB2.out.size))
 clear hw' hb3
 have hz0 : w.heap.size ≤ w3.heap.size := HB3.out.size
 have arr1 : Arr ((w3.alloc (.cells #[.int .u64 (a : Int), .int .u64 (b : Int), .int .u64 (c1 : Int), .int .u64 (d : Int)] 269)).alloc (.cells #[.int .u64 (a' : Int), .int .u64 (b' : Int), .int .u64 (c1' : Int), .int .u64 (d' : Int)] 269)) w3.heap.size a b c1 d := (arr_new w3 a b c1 d).alloc _
 have arr2 : Arr ((w3.alloc (.cells #[.int .u64 (a : Int), .int .u64 (b : Int), .int .u64 (c1 : Int), .int .u64 (d : Int)] 269)).alloc (.cells #[.int .u64 (a' : Int), .int .u64 (b' : Int), .int .u64 (c1' : Int), .int .u64 (d' : Int)] 269)) (w3.heap.size + 1) a' b' c1' d' := by
  have := arr_new (w3.alloc (.cells #[.int .u64 (a : Int), .int .u64 (b : Int), .int .u64 (c1 : Int), .int .u64 (d : Int)] 269)) a' b' c1' d'
  simpa using this
 have arr3 : Below w.heap.size w ((w3.alloc (.cells #[.int .u64 (a : Int), .int .u64 (b : Int), .int .u64 (c1 : Int), .int .u64 (d : Int)] 269)).alloc (.cells #[.int .u64 (a' : Int), .int .u64 (b' : Int), .int .u64 (c1' : Int), .int .u64 (d' : Int)] 269)) := (HB3.out.alloc hz0 _).alloc (by simp; omega) _
 have HA := hideW (And.intro arr1 (And.intro arr2 arr3))
 clear arr1 arr2 arr3
 go_wp2_with fail
 go_loopw [7, 8, 9] (fun s7 s8 _ wr => Hid (Arr wr w3.heap.size a b c1 d ∧ Arr wr (w3.heap.size + 1) a' b' c1' d' ∧ Below w.heap.size w wr) ∧ ∃ lo hi : Nat, lo ≤ R ∧ R ≤ hi ∧ hi ≤ 10000 ∧ s7 = .int .i64 (lo : Int) ∧ s8 = .int .i64 (hi : Int)) (fun s7 s8 _ _ => (intOf s8 - intOf s7).toNat)
 case atStart => exact ⟨HA, 0, 10000, Nat.zero_le _, P4, Nat.le_refl _, rfl, rfl⟩
 case round =>
  obtain ⟨HI, lo, hi, h1, h2, h3, rfl, rfl⟩ := hrel
  by_cases hlt : lo < hi
  ·obtain ⟨mid, hmid⟩ : ∃ mid, mid = (lo + hi + 1) / 2 := ⟨_, rfl⟩
   have m1 : mid ≤ hi := by omega
   have m2 : lo < mid := by omega
   have HM : Hid (((lo : Int) + (hi : Int) + 1) / 2 = (mid : Int)) := by show _ = _; omega
   have HK : Hid (IntKind.u64.wrap (IntKind.i64.wrap (IntKind.i64.wrap (2 * (((lo : Int) + (hi : Int) + 1) / 2)) - 1)) = ((2 * mid - 1 : Nat) : Int)) := by
    show _ = _
    rw [HM.out, IntWalk.i64_in (2 * (mid : Int)) (by omega), IntWalk.i64_in (2 * (mid : Int) - 1) (by omega), IntWalk.u64_in _ (by omega)]
    omega
   clear hmid
   obtain ⟨q0, q1, q2, q3⟩ := HI.out.1.cells
   obtain ⟨t0, t1, t2, t3⟩ := HI.out.2.1.cells
   have l1 := lt_of_cellW q0
   have l2 := lt_of_cellW t0
   go_upto_region 9 with fail
   go_cut [34] (fun s34 wc => s34 = .bool (decide (mid ≤ R)) ∧ Hid (Below wr.heap.size wr wc))
   case first =>
    go_region_held3 (fun w' => w'.cell? ⟨w3.heap.size, 0, none⟩ = some (.int .u64 (a : Int)) ∧ w'.cell? ⟨w3.heap.size, 1, none⟩ = some (.int .u64 (b : Int)) ∧ w'.cell? ⟨w3.heap.size, 2, none⟩ = some (.int .u64 (c1 : Int)) ∧ w'.cell? ⟨w3.heap.size, 3, none⟩ = some (.int .u64 (d : Int)) ∧ w'.cell? ⟨w3.heap.size + 1, 0, none⟩ = some (.int .u64 (a' : Int)) ∧ w'.cell? ⟨w3.heap.size + 1, 1, none⟩ = some (.int .u64 (b' : Int)) ∧ w'.cell? ⟨w3.heap.size + 1, 2, none⟩ = some (.int .u64 (c1' : Int)) ∧ w'.cell? ⟨w3.heap.size + 1, 3, none⟩ = some (.int .u64 (d' : Int)))
     (first | exact ⟨q0, q1, q2, q3, t0, t1, t2, t3⟩ | (apply keepA; rotate_left; (focus assumption); (focus assumption)))
     (first
      | (go_at_call 158; rw [HK.out]; refine (timesW_any _ (c * c * c) (2 * mid - 1) _ ⟨a', b', c1', d', rfl, HW'.out⟩ (by omega) (P2.out _ (by omega))).mono ?_; rintro e w' ⟨v5, rfl, hv5, hb5⟩)
      | (go_at_call 159; refine (atMostW_any _ _ (c * c * c * (2 * mid - 1)) (s * s * s * 200) _ (by assumption) ⟨a, b, c1, d, rfl, HW.out⟩).mono ?_; rintro e w' ⟨rfl, hb6⟩))
    all_goals
     go_wp2_with fail
     go_meet
     case rel =>
      have hiff := P3.out mid (by omega) (by omega)
      exact ⟨by congr 1; exact decide_eq_decide.2 hiff, hideW ((((Below.refl wr.heap.size wr).drew).trans hb5).trans (hb6.mono hb5.size))⟩
   case rest =>
    obtain ⟨rfl, HC⟩ := hcut
    have hi1 := HI.out.1.below HC.out l1
    have hi2 := HI.out.2.1.below HC.out l2
    have hi3 := HI.out.2.2.trans (HC.out.mono HI.out.2.2.size)
    have HI' := hideW (And.intro hi1 (And.intro hi2 hi3))
    clear hi1 hi2 hi3 q0 q1 q2 q3 t0 t1 t2 t3
    by_cases hle : mid ≤ R
    ·rw [show decide (mid ≤ R) = true by simp [hle]]
     rw [HM.out]
     go_wp2
     go_roundw
     case rel => exact ⟨HI', mid, hi, hle, h2, h3, rfl, rfl⟩
     case measure => simp [intOf]; omega
    ·rw [show decide (mid ≤ R) = false by simp [hle]]
     rw [HM.out]
     have HM1 : Hid ((mid : Int) - 1 = ((mid - 1 : Nat) : Int)) := by show _ = _; omega
     go_wp2
     go_roundw
     case rel => exact ⟨HI', lo, mid - 1, h1, by omega, by omega, rfl, by rw [HM1.out]⟩
     case measure => rw [HM1.out]; simp [intOf]; omega
  ·obtain rfl : lo = R := by omega
   go_wp2
   go_ret
   exact ⟨rfl, HI.out.2.2⟩
def badV (s c : Int) : Int := if s ≤ 0 then 0 else if c ≤ 0 then 10000 else ((badN s.toNat c.toNat : Nat) : Int)
theorem implBad_any (s c : Int) (w : World) (hs : s ≤ 9223372036854775807) (hc : c ≤ 9223372036854775807) :
 Calls Tryz.prog 146 #[.int .i64 s, .int .i64 c] w fun e w' => e = .returned (.int .i64 (badV s c)) ∧ Below w.heap.size w w' := by
 by_cases h1 : s ≤ 0
 ·rw [show badV s c = 0 by simp [badV, h1]]
  go_enter Tryz.func146, Tryz.ntmps146
  go_wp2
  go_ret
  exact ⟨rfl, Below.refl _ _⟩
 ·by_cases h2 : c ≤ 0
  ·rw [show badV s c = 10000 by simp [badV, h1, h2]]
   go_enter Tryz.func146, Tryz.ntmps146
   go_wp2
   go_ret
   exact ⟨rfl, Below.refl _ _⟩
  ·obtain ⟨s, rfl⟩ := Int.eq_ofNat_of_zero_le (show 0 ≤ s by omega)
   obtain ⟨c, rfl⟩ := Int.eq_ofNat_of_zero_le (show 0 ≤ c by omega)
   rw [show badV (s : Int) (c : Int) = ((badN s c : Nat) : Int) by simp only [badV, h1, h2, if_false, Int.toNat_natCast]]
   exact implBad_main s c w (by omega) (by omega) (by omega) (by omega)
end Go.Proofs.YtlohbaoigfaneaaGreat.Shr
namespace Go.Proofs.YtlohbaoigfaneaaGreat.Shr
open Go.ChangeShapes Go.WideShapes Go.ChangeAt Go.RowKit
set_option linter.unusedVariables false
set_option linter.unusedSimpArgs false
theorem lid_cube {x : Nat} (hx : x < 9223372036854775808) : x * x < lid ∧ x * x * x < lid ∧ x * x * x * 200 < lid ∧ x * x * x * 2 < 16777216 ^ 30 := by
 have := sq_lt hx
 have e : (784637716923335095479473677900958302012794430558004314112 : Nat) * 200 < 16777216 ^ 40 := by decide +kernel
 have e' : (784637716923335095479473677900958302012794430558004314112 : Nat) * 200 < 16777216 ^ 30 := by decide +kernel
 unfold lid
 omega
theorem lid_both {x y : Nat} (hx : x < 9223372036854775808) (hy : y < 9223372036854775808) : x * x * x * 200 + y * y * y < lid := by
 have h1 := sq_lt hx
 have h2 := sq_lt hy
 have e : (784637716923335095479473677900958302012794430558004314112 : Nat) * 201 < 16777216 ^ 40 := by decide +kernel
 unfold lid
 omega
theorem badN_top {s c : Nat} (hc : 0 < c) (h : c ≤ s / 5) : badN s c = 10000 := by
 have h5 : 5 * c ≤ s := by omega
 have h1 : 5 * c * (5 * c) * (5 * c) ≤ s * s * s := Nat.mul_le_mul (Nat.mul_le_mul h5 h5) h5
 have e : 5 * c * (5 * c) * (5 * c) = 125 * (c * c * c) := by
  simp only [Nat.mul_assoc, Nat.mul_left_comm, Nat.mul_comm]
 have h2 := (BigN.part_iff (s * s * s * 200 + c * c * c) (c * c * c * 2) 10000 10000 (Nat.le_refl _)).1 (by omega)
 have h3 := BigN.part_le (s * s * s * 200 + c * c * c) (c * c * c * 2) 10000
 unfold badN
 omega
set_option maxHeartbeats 2000000 in
theorem specBad_main (s c : Nat) (w : World) (hs : s < 9223372036854775808) (hc : c < 9223372036854775808) (hs0 : 0 < s) (hc0 : 0 < c) (hno : ¬ c ≤ s / 5) :
 Calls Tryz.prog 59 #[.int .i64 (s : Int), .int .i64 (c : Int)] w fun e w' => e = .returned (.int .i64 ((badN s c : Nat) : Int)) ∧ Below w.heap.size w w' := by
 have LS := hideB (lid_cube hs)
 have LC := hideB (lid_cube hc)
 have LB := hideB (lid_both hs hc)
 have P4 := BigN.part_le (s * s * s * 200 + c * c * c) (c * c * c * 2) 10000
 go_enter Tryz.func59, Tryz.ntmps59
 go_wp2_with fail
 refine (big_any s _ (by omega)).mono ?_
 rintro e w1 ⟨v1, rfl, hv1, hb1⟩
 have H1 := hideB hb1
 have V1 := hideB hv1
 clear hv1 hb1
 go_wp2_with fail
 refine (big_any c _ (by omega)).mono ?_
 rintro e w2 ⟨v2, rfl, hv2, hb2⟩
 have H2 := hideB (H1.out.trans (hb2.mono H1.out.size))
 have S2 := hideB (V1.out.kept hb2)
 have V2 := hideB hv2
 clear hv2 hb2 V1
 go_wp2_with fail
 refine (times_any v1 v1 s s _ S2.out S2.out (lid_small (by omega)) (lid_small (by omega))).mono ?_
 rintro e w3 ⟨v3, rfl, hv3, hb3⟩
 have H3 := hideB (H2.out.trans (hb3.mono H2.out.size))
 have S3 := hideB (S2.out.kept hb3)
 have C3 := hideB (V2.out.kept hb3)
 have V3 := hideB hv3
 clear hv3 hb3 S2 V2
 go_wp2_with fail
 refine (times_any v3 v1 (s * s) (s) _ V3.out S3.out LS.out.1 (lid_small (by omega))).mono ?_
 rintro e w4 ⟨v4, rfl, hv4, hb4⟩
 have H4 := hideB (H3.out.trans (hb4.mono H3.out.size))
 have C4 := hideB (C3.out.kept hb4)
 have V4 := hideB hv4
 clear hv4 hb4 C3
 go_wp2_with fail
 refine (times_any v2 v2 c c _ C4.out C4.out (lid_small (by omega)) (lid_small (by omega))).mono ?_
 rintro e w5 ⟨v5, rfl, hv5, hb5⟩
 have H5 := hideB (H4.out.trans (hb5.mono H4.out.size))
 have C5 := hideB (C4.out.kept hb5)
 have S5 := hideB (V4.out.kept hb5)
 have V5 := hideB hv5
 clear hv5 hb5 C4 V4
 go_wp2_with fail
 refine (times_any v5 v2 (c * c) (c) _ V5.out C5.out LC.out.1 (lid_small (by omega))).mono ?_
 rintro e w6 ⟨v6, rfl, hv6, hb6⟩
 have H6 := hideB (H5.out.trans (hb6.mono H5.out.size))
 have S6 := hideB (S5.out.kept hb6)
 have V6 := hideB hv6
 clear hv6 hb6 S5
 go_wp2_with fail
 refine (big_any 200 _ (by decide)).mono ?_
 rintro e w7 ⟨v7, rfl, hv7, hb7⟩
 have H7 := hideB (H6.out.trans (hb7.mono H6.out.size))
 have S7 := hideB (S6.out.kept hb7)
 have C7 := hideB (V6.out.kept hb7)
 have V7 := hideB hv7
 clear hv7 hb7 S6 V6
 go_wp2_with fail
 refine (times_any v4 v7 (s * s * s) (200) _ S7.out V7.out LS.out.2.1 (lid_small (by decide))).mono ?_
 rintro e w8 ⟨v8, rfl, hv8, hb8⟩
 have H8 := hideB (H7.out.trans (hb8.mono H7.out.size))
 have C8 := hideB (C7.out.kept hb8)
 have V8 := hideB hv8
 clear hv8 hb8 C7
 go_wp2_with fail
 refine (sum_any v8 v6 (s * s * s * 200) (c * c * c) _ V8.out C8.out LS.out.2.2.1 LC.out.2.1).mono ?_
 rintro e w9 ⟨v9, rfl, hv9, hb9⟩
 have H9 := hideB (H8.out.trans (hb9.mono H8.out.size))
 have C9 := hideB (C8.out.kept hb9)
 have V9 := hideB hv9
 clear hv9 hb9 C8
 go_wp2_with fail
 refine (big_any 2 _ (by decide)).mono ?_
 rintro e w10 ⟨v10, rfl, hv10, hb10⟩
 have H10 := hideB (H9.out.trans (hb10.mono H9.out.size))
 have C10 := hideB (C9.out.kept hb10)
 have M10 := hideB (V9.out.kept hb10)
 have V10 := hideB hv10
 clear hv10 hb10 C9 V9
 go_wp2_with fail
 refine (times_any v6 v10 (c * c * c) (2) _ C10.out V10.out LC.out.2.1 (lid_small (by decide))).mono ?_
 rintro e w11 ⟨v11, rfl, hv11, hb11⟩
 have H11 := hideB (H10.out.trans (hb11.mono H10.out.size))
 have M11 := hideB (M10.out.kept hb11)
 have V11 := hideB hv11
 clear hv11 hb11 M10
 go_wp2_with fail
 refine (part_any v9 v11 (s * s * s * 200 + c * c * c) (c * c * c * 2) 10000 _ M11.out V11.out LB.out LC.out.2.2.2 (by decide)).mono ?_
 rintro e w12 ⟨rfl, hb12⟩
 go_wp2
 go_ret
 exact ⟨rfl, H11.out.trans (hb12.mono H11.out.size)⟩
theorem specBad_any (s c : Int) (w : World) (hs : s ≤ 9223372036854775807) (hc : c ≤ 9223372036854775807) :
 Calls Tryz.prog 59 #[.int .i64 s, .int .i64 c] w fun e w' => e = .returned (.int .i64 (badV s c)) ∧ Below w.heap.size w w' := by
 by_cases h1 : s ≤ 0
 ·rw [show badV s c = 0 by simp [badV, h1]]
  go_enter Tryz.func59, Tryz.ntmps59
  go_wp2
  go_ret
  exact ⟨rfl, Below.refl _ _⟩
 ·by_cases h2 : c ≤ 0
  ·rw [show badV s c = 10000 by simp [badV, h1, h2]]
   go_enter Tryz.func59, Tryz.ntmps59
   go_wp2
   go_ret
   exact ⟨rfl, Below.refl _ _⟩
  ·obtain ⟨s, rfl⟩ := Int.eq_ofNat_of_zero_le (show 0 ≤ s by omega)
   obtain ⟨c, rfl⟩ := Int.eq_ofNat_of_zero_le (show 0 ≤ c by omega)
   have e : badV (s : Int) (c : Int) = ((badN s c : Nat) : Int) := by simp only [badV, h1, h2, if_false, Int.toNat_natCast]
   by_cases h3 : c ≤ s / 5
   ·rw [e, badN_top (by omega) h3]
    have h4 : (c : Int) ≤ (s : Int) / 5 := by omega
    clear e
    go_enter Tryz.func59, Tryz.ntmps59
    go_wp2
    go_ret
    exact ⟨rfl, Below.refl _ _⟩
   ·rw [e]
    exact specBad_main s c w (by omega) (by omega) (by omega) (by omega) h3
end Go.Proofs.YtlohbaoigfaneaaGreat.Shr
