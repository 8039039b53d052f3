/-
  The walks of the specification's long numbers: l1Times.
-/
import Derived.Test.YtgfphgbemfmkfaaBigC
namespace Go.Proofs.Ytgfphgbemfmkfaa
open Go.RowKit
set_option linter.unusedVariables false
set_option linter.unusedSimpArgs false

theorem mul_digits {a b : Nat} (ha : a < 16777216) (hb : b < 16777216) : a * b ≤ 281474943156225 := by
  have := Nat.mul_le_mul (show a ≤ 16777215 by omega) (show b ≤ 16777215 by omega)
  simpa using this

theorem times_next {xs ys zs : List Nat} {i k c da db z n : Nat} (hx : BigN.Digits xs) (hy : BigN.Digits ys) (hl : zs.length = n) (hd : BigN.Digits zs) (hn : i + k < n) (hc : c < 16777216)
    (ha : da = xs.getD i 0) (hb : db = ys.getD k 0) (hz : z = zs.getD (i + k) 0) (hv : BigN.val zs + 16777216 ^ (i + k) * c = BigN.val (xs.take i) * BigN.val ys + 16777216 ^ i * da * BigN.val (ys.take k)) :
    (zs.set (i + k) ((c + z + da * db) % 16777216)).length = n ∧ BigN.Digits (zs.set (i + k) ((c + z + da * db) % 16777216)) ∧ (c + z + da * db) / 16777216 < 16777216 ∧
      BigN.val (zs.set (i + k) ((c + z + da * db) % 16777216)) + 16777216 ^ (i + (k + 1)) * ((c + z + da * db) / 16777216) = BigN.val (xs.take i) * BigN.val ys + 16777216 ^ i * da * BigN.val (ys.take (k + 1)) := by
  have h1 : da < 16777216 := by rw [ha]; exact hx.getD i
  have h2 : db < 16777216 := by rw [hb]; exact hy.getD k
  have h3 : z < 16777216 := by rw [hz]; exact hd.getD _
  have h4 := mul_digits h1 h2
  refine ⟨by simp [hl], hd.set _ (Nat.mod_lt _ (by decide)), by omega, ?_⟩
  have h5 := BigN.times_step zs (i + k) c (da * db) (by omega)
  rw [← hz, Nat.add_assoc i k 1] at h5
  rw [h5, hv, BigN.val_take_succ' ys k, ← hb, Nat.mul_add, Nat.pow_add]
  have h6 : 16777216 ^ i * 16777216 ^ k * (da * db) = 16777216 ^ i * da * (16777216 ^ k * db) := by
    simp only [Nat.mul_assoc, Nat.mul_left_comm, Nat.mul_comm]
  omega

theorem times_room {xs ys : List Nat} {i k c da v : Nat} (hx : BigN.Digits xs) (hy : BigN.Digits ys) (hi : i < xs.length) (hc : 0 < c) (ha : da = xs.getD i 0)
    (hv : v + 16777216 ^ (i + k) * c = BigN.val (xs.take i) * BigN.val ys + 16777216 ^ i * da * BigN.val (ys.take k)) : k < ys.length + 1 := by
  refine BigN.carry_room xs ys hx hy i k c v hi hc ?_
  rw [hv, BigN.val_take_succ xs i hi, ← ha, Nat.add_mul]
  have := Nat.mul_le_mul_left (16777216 ^ i * da) (BigN.val_take_le ys k)
  omega

theorem times_row {xs ys : List Nat} {i k da v : Nat} (hi : i < xs.length) (ha : da = xs.getD i 0) (hk : ¬ k < ys.length)
    (hv : v + 16777216 ^ (i + k) * 0 = BigN.val (xs.take i) * BigN.val ys + 16777216 ^ i * da * BigN.val (ys.take k)) : v = BigN.val (xs.take (i + 1)) * BigN.val ys := by
  rw [BigN.take_all ys k (by omega)] at hv
  rw [BigN.val_take_succ xs i hi, ← ha, Nat.add_mul]
  omega

/-- The row that l1Times fills. -/
abbrev outV (w : World) (n : Nat) : Value := .slice (some ⟨w.heap.size, 0, none⟩) n n

def RowAt (w wr : World) (n : Nat) (zs : List Nat) : Prop := zs.length = n ∧ BigN.Digits zs ∧ wr.ownsRow w.heap.size 2 1 (outV w n) n (zs.map numC) ∧ Below w.heap.size w wr

theorem RowAt.drewN {w wr : World} {n : Nat} {zs : List Nat} (h : RowAt w wr n zs) (q : Nat) : RowAt w (wr.drewN q) n zs := ⟨h.1, h.2.1, h.2.2.1, below_drewN h.2.2.2 q⟩

theorem RowAt.cell {w wr : World} {n : Nat} {zs : List Nat} (h : RowAt w wr n zs) {j : Nat} (hj : j < n) : wr.cell? ⟨w.heap.size, j, none⟩ = some (numC (zs.getD j 0)) := by
  rw [h.2.2.1.cellAt j (by omega)]
  have : j < zs.length := by rw [h.1]; exact hj
  simp [List.getElem?_map, List.getD, this]
theorem RowAt.free {w wr : World} {n : Nat} {zs : List Nat} (h : RowAt w wr n zs) (j : Nat) : wr.frozen? ⟨w.heap.size, j, none⟩ = false := h.2.2.1.frozenAt j
theorem RowAt.store {w wr : World} {n : Nat} {zs : List Nat} (h : RowAt w wr n zs) {j d : Nat} (hd : d < 16777216) : RowAt w (wr.setCell ⟨w.heap.size, j, none⟩ (numC d)) n (zs.set j d) := by
  refine ⟨by simp [h.1], h.2.1.set j hd, ?_, h.2.2.2.setCell (Nat.le_refl _) _⟩
  rw [List.map_set]
  exact (h.2.2.1.stored j (numC d)).1

set_option maxHeartbeats 2000000 in
theorem times_num (va vb : Value) (xs ys : List Nat) (w : World) (na : IsNum w va xs) (nb : IsNum w vb ys) (hx : BigN.Digits xs) (hy : BigN.Digits ys) (lx : xs.length ≤ 1000) (ly : ys.length ≤ 1000) :
    Calls Try.prog 46 #[va, vb] w fun e w' => ∃ v, e = .returned v ∧ IsBig w' v (BigN.val xs * BigN.val ys) ∧ Below w.heap.size w w' := by
  obtain ⟨i0, hi, hz0, hz1, hz2⟩ := info_parts info2
  obtain ⟨ga, ca, rfl, la, ma, wa, cella⟩ := na
  obtain ⟨gb, cb, rfl, lb, mb, wb, cellb⟩ := nb
  have CA := hideB cella
  have CB := hideB cellb
  have HX := hideB hx
  have HY := hideB hy
  clear cella cellb hx hy ma mb
  obtain ⟨n, hn⟩ : ∃ n, n = xs.length + ys.length + 1 := ⟨_, rfl⟩
  have hn1 : xs.length + ys.length + 1 ≤ n := by omega
  have hn2 : n ≤ xs.length + ys.length + 1 := by omega
  clear hn
  go_enter Try.func46, Try.ntmps46
  go_wp2_with (at_make; refine wpList_make_full _ rfl _ _ 27 rfl w.heap.size 2 i0 (.int .i64 0) 1 Try.underlying27 hi hz0 hz1 _ _ _ _ n rfl rfl (by omega) (by omega) (by rw [hz2]; omega) (by unfold maxLen; omega) (Nat.le_refl _) ?_)
  intro w0 hown0 hgrow0
  have hrow : RowAt w w0 n (List.replicate n 0) := by
    refine ⟨by simp, BigN.Digits.zeros n, ?_, (Below.refl _ _).grown hgrow0 (Nat.le_refl _) (fun r hr => by cases hr)⟩
    have e : (madeCells #[Value.int .i64 0] n).toList = (List.replicate n 0).map numC := (toList_madeCells_one (.int .i64 0) n).trans (by simp [numC])
    rw [← e]
    exact hown0
  have HROW := hideB hrow
  clear hrow hown0 hgrow0
  go_wp2_with fail
  go_loopw [6, 7, 8] (fun s6 _ _ wr => ∃ i : Nat, i ≤ xs.length ∧ s6 = .int .i64 (i : Int) ∧ ∃ zs, Hid (RowAt w wr n zs ∧ BigN.val zs = BigN.val (xs.take i) * BigN.val ys)) (fun s6 _ _ _ => xs.length - (intOf s6).toNat)
  case atStart => exact ⟨0, Nat.zero_le _, rfl, _, hideB ⟨HROW.out, by simp [BigN.val, BigN.val_zeros]⟩⟩
  case round =>
    obtain ⟨i, hi', rfl, zs, HZ⟩ := hrel
    clear HROW
    by_cases hlt : i < xs.length
    · obtain ⟨wo, rfl⟩ : ∃ wo : World, wo = wr := ⟨_, rfl⟩
      obtain ⟨da, hda⟩ : ∃ da, da = xs.getD i 0 := ⟨_, rfl⟩
      have HDA := hideB hda
      have da1 : da < 16777216 := by rw [hda]; exact HX.out.getD i
      clear hda
      go_wp2_with fail
      go_loopw [7, 8] (fun s7 s8 wq => ∃ c k : Nat, k ≤ ys.length + 1 ∧ c < 16777216 ∧ s7 = .int .i64 (c : Int) ∧ s8 = .int .i64 (k : Int) ∧ ∃ zs', Hid (RowAt w wq n zs' ∧ BigN.val zs' + 16777216 ^ (i + k) * c = BigN.val (xs.take i) * BigN.val ys + 16777216 ^ i * da * BigN.val (ys.take k))) (fun _ s8 _ => ys.length + 2 - (intOf s8).toNat)
      case atStart => exact ⟨0, 0, by omega, by omega, rfl, rfl, zs, hideB ⟨HZ.out.1, by rw [HZ.out.2]; simp [BigN.val]⟩⟩
      case round =>
        obtain ⟨c, k, hk, hc, rfl, rfl, zs', HQ⟩ := hrel
        by_cases hky : k < ys.length
        · obtain ⟨db, hdb, hcb⟩ : ∃ d, d = ys.getD k 0 ∧ wr.cell? ⟨gb, k, none⟩ = some (.int .i64 (d : Int)) := ⟨_, rfl, (HQ.out.1.2.2.2.cell (p := ⟨gb, k, none⟩) wb).trans (CB.out k hky)⟩
          have hca : wr.cell? ⟨ga, i, none⟩ = some (.int .i64 (da : Int)) := (HQ.out.1.2.2.2.cell (p := ⟨ga, i, none⟩) wa).trans ((CA.out i hlt).trans (by rw [← HDA.out]))
          obtain ⟨z, hz, hcz⟩ : ∃ d, d = zs'.getD (i + k) 0 ∧ wr.cell? ⟨w.heap.size, i + k, none⟩ = some (.int .i64 (d : Int)) := ⟨_, rfl, HQ.out.1.cell (by omega)⟩
          have hfz := HQ.out.1.free (i + k)
          have hz1 : z < 16777216 := by rw [hz]; exact HQ.out.1.2.1.getD _
          have db1 : db < 16777216 := by rw [hdb]; exact HY.out.getD k
          have hpr : (da : Int) * (db : Int) ≤ 281474943156225 := by have := mul_digits da1 db1; omega
          have hpr0 : (0 : Int) ≤ (da : Int) * (db : Int) := by have := Int.natCast_nonneg (da * db); simpa using this
          have HN := hideB (times_next HX.out HY.out HQ.out.1.1 HQ.out.1.2.1 (by omega) hc HDA.out hdb hz HQ.out.2)
          clear hdb hz
          go_wp2
          go_quiet (fail)
          go_wp2
          go_roundw
          case rel =>
            have hr := (HQ.out.1.drewN nq).store (j := i + k) (d := (c + z + da * db) % 16777216) (Nat.mod_lt _ (by decide))
            exact ⟨(c + z + da * db) / 16777216, k + 1, by omega, HN.out.2.2.1, by simp, by simp, _, hideB ⟨by simpa [numC] using hr, HN.out.2.2.2⟩⟩
          case measure => simp [intOf]; omega
        · by_cases hcp : 0 < c
          · have hkr := times_room HX.out HY.out hlt hcp HDA.out HQ.out.2
            obtain ⟨z, hz, hcz⟩ : ∃ d, d = zs'.getD (i + k) 0 ∧ wr.cell? ⟨w.heap.size, i + k, none⟩ = some (.int .i64 (d : Int)) := ⟨_, rfl, HQ.out.1.cell (by omega)⟩
            have hfz := HQ.out.1.free (i + k)
            have hz1 : z < 16777216 := by rw [hz]; exact HQ.out.1.2.1.getD _
            have HN := hideB (times_next HX.out HY.out HQ.out.1.1 HQ.out.1.2.1 (by omega) hc HDA.out (BigN.getD_ge' ys k (by omega)).symm hz HQ.out.2)
            clear hz
            go_wp2
            go_roundw
            case rel =>
              have hr := HQ.out.1.store (j := i + k) (d := (c + z + da * 0) % 16777216) (Nat.mod_lt _ (by decide))
              exact ⟨(c + z + da * 0) / 16777216, k + 1, by omega, HN.out.2.2.1, by simp, by simp, _, hideB ⟨by simpa [numC] using hr, HN.out.2.2.2⟩⟩
            case measure => simp [intOf]; omega
          · obtain rfl : c = 0 := by omega
            have HE := hideB (times_row hlt HDA.out hky HQ.out.2)
            go_wp2
            go_roundw
            case rel => exact ⟨i + 1, by omega, by simp, zs', hideB ⟨HQ.out.1, HE.out⟩⟩
            case measure => simp [intOf]; omega
    · obtain rfl : i = xs.length := by omega
      have hrow := HZ.out.1
      have hv : BigN.val zs = BigN.val xs * BigN.val ys := by rw [HZ.out.2, List.take_length]
      have hlen := hrow.1
      have hsz : w.heap.size < wr.heap.size := by
        rcases hrow.2.2.1.2 with ⟨h, _⟩ | ⟨g, cap, cur, h, _, hg, _⟩
        · simp at h
        · simp at h; have := (Array.getElem?_eq_some_iff.1 hg).1; omega
      have HT := hideB (trim_any w.heap.size n zs wr (by omega) (by unfold maxLen; omega) hsz (fun j hj => hrow.cell (by omega)) hrow.2.1)
      rw [hlen] at HT
      have HB := hideB hrow.2.2.2
      have HV := hideB hv
      clear hrow hv hlen
      go_wp2_with (go_at_call 56; refine HT.out.mono ?_; rintro e w' ⟨v, rfl, hb, rfl⟩)
      go_ret
      exact ⟨_, rfl, by rw [← HV.out]; assumption, HB.out⟩
end Go.Proofs.Ytgfphgbemfmkfaa
