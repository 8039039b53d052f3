/-
  The specification's PatternOk.
-/
import Derived.Test.YtejigikcpmhhoaaOki
namespace Go.Proofs.Ytejigikcpmhhoaa
open Go.RowKit
set_option linter.unusedVariables false
set_option linter.unusedSimpArgs false

theorem patB_short {s : ByteArray} {zs : List Int} (h : s.size = 0) : patB s zs = false := decide_eq_false fun hp => by
  obtain ⟨i, hi, _⟩ := hp.2.1.2
  omega
theorem patB_other {s : ByteArray} {zs : List Int} {k : Nat} (hk : k < s.size) (h1 : ¬ Low (byteAt s k)) (h2 : ¬ (byteAt s k = 46 ∧ (k = 0 ∨ k + 1 = s.size))) : patB s zs = false :=
  decide_eq_false fun hp => (hp.2.1.1 k hk).elim h1 h2
theorem patB_mark {s : ByteArray} {zs : List Int} {k : Nat} (hk : k < zs.length) (h : ¬ (0 ≤ zs.getD k 0 ∧ zs.getD k 0 ≤ 9)) : patB s zs = false :=
  decide_eq_false fun hp => h (hp.2.2.2 k hk)
theorem patB_end {s : ByteArray} {zs : List Int} {L : Nat} (h20 : s.size ≤ 20) (hn : zs.length = s.size + 1) (hall : ∀ i, i < s.size → Low (byteAt s i) ∨ (byteAt s i = 46 ∧ (i = 0 ∨ i + 1 = s.size)))
    (hL : 0 < L ↔ ∃ i, i < s.size ∧ Low (byteAt s i)) (hm : ∀ j, j < s.size + 1 → 0 ≤ zs.getD j 0 ∧ zs.getD j 0 ≤ 9) : patB s zs = decide (0 < L) :=
  decide_eq_decide.2 ⟨fun hp => hL.2 hp.2.1.2, fun h => ⟨h20, ⟨hall, hL.1 h⟩, hn, fun j hj => hm j (by omega)⟩⟩

set_option maxHeartbeats 4000000 in
theorem specPatternOk_any {v : Value} {s : ByteArray} {zs : List Int} {w : World} (h : Row w v zs) (hl : zs.length ≤ 1048576) (hs : s.size ≤ 9223372036854775807) :
    Calls Try.prog 16 #[.agg #[.string s, v]] w fun e w' => e = .returned (.bool (patB s zs)) ∧ Below w.heap.size w w' := by
  obtain ⟨ao, n, cap, rfl, hn, hr⟩ := h
  have HR : Hid (0 < n → ∃ b off, ao = some ⟨b, off, none⟩ ∧ b < w.heap.size ∧ ∀ i, i < n → w.cell? ⟨b, off + i, none⟩ = some (.int .i64 (zs.getD i 0))) := hr
  have HN := hideP hn
  have hnl : n ≤ 1048576 := by omega
  clear hn hl hr
  by_cases h1 : s.size = 0
  · have e1 : decide ((s.size : Int) < 1) = true := by simp; omega
    have HS := hideP h1
    clear h1
    go_enter Try.func16, Try.ntmps16
    go_wp2
    go_ret
    exact ⟨retB (patB_short HS.out).symm, below1 _ _⟩
  by_cases h20 : s.size ≤ 20
  rotate_left
  · have e1 : decide ((s.size : Int) < 1) = false := by simp; omega
    have e2 : decide (20 < (s.size : Int)) = true := by simp; omega
    have HS := hideP h20
    clear h1 h20
    go_enter Try.func16, Try.ntmps16
    go_wp2
    go_ret
    exact ⟨retB (patB_long HS.out).symm, below1 _ _⟩
  by_cases hle : n = s.size + 1
  rotate_left
  · have e1 : decide ((s.size : Int) < 1) = false := by simp; omega
    have e2 : decide (20 < (s.size : Int)) = false := by simp; omega
    have e3 : ((n : Int) != (s.size : Int) + 1) = true := by simp; omega
    have HS := hideP hle
    clear h1 hle
    go_enter Try.func16, Try.ntmps16
    go_wp2
    go_ret
    exact ⟨retB (patB_len (by rw [HN.out]; exact HS.out)).symm, below1 _ _⟩
  have e1 : decide ((s.size : Int) < 1) = false := by simp; omega
  have e2 : decide (20 < (s.size : Int)) = false := by simp; omega
  have e3 : ((n : Int) != (s.size : Int) + 1) = false := by simp; omega
  have HS := hideP hle
  have H1 := hideP h1
  clear h1 hle
  obtain ⟨W, hW⟩ : ∃ W, W = w.alloc (.cells #[.string s, .slice ao n cap] 26) := ⟨_, rfl⟩
  have HBW : Hid (Below w.heap.size w W) := hideP (by rw [hW]; exact below1 _ _)
  have w0 : W.cell? ⟨w.heap.size, 0, none⟩ = some (.string s) := by rw [hW]; simp [go_sem]
  have w1 : W.cell? ⟨w.heap.size, 1, none⟩ = some (.slice ao n cap) := by rw [hW]; simp [go_sem]
  have hwz : w.heap.size < W.heap.size := by rw [hW]; simp
  have HRW : Hid (0 < n → ∃ b off, ao = some ⟨b, off, none⟩ ∧ b < W.heap.size ∧ ∀ i, i < n → W.cell? ⟨b, off + i, none⟩ = some (.int .i64 (zs.getD i 0))) := hideP (fun h0 => by
    obtain ⟨b, off, h2, hb, hc⟩ := HR.out h0
    exact ⟨b, off, h2, by omega, fun i hi => (HBW.out.cell (p := ⟨b, off + i, none⟩) hb).trans (hc i hi)⟩)
  clear HR
  go_enter Try.func16, Try.ntmps16
  go_wp2
  rw [← hW]
  clear hW
  go_loop [4, 5] (fun l i => ∃ k L : Nat, k ≤ s.size ∧ L ≤ k ∧ i = .int .i64 k ∧ l = .int .i64 L ∧ Hid (∀ i, i < k → Low (byteAt s i) ∨ (byteAt s i = 46 ∧ (i = 0 ∨ i + 1 = s.size))) ∧ Hid (0 < L ↔ ∃ i, i < k ∧ Low (byteAt s i))) (fun _ i => s.size - (intOf i).toNat)
  case atStart => exact ⟨0, 0, by omega, by omega, rfl, rfl, hideP (fun i hi => by omega), hideP ⟨fun h => by omega, fun ⟨i, hi, _⟩ => by omega⟩⟩
  case round =>
    obtain ⟨k, L, hk, hLk, rfl, rfl, HA, HL⟩ := hrel
    by_cases hlt : k < s.size
    · have hki : (k : Int) < (s.size : Int) := by omega
      obtain ⟨c, hc⟩ : ∃ c : Nat, c = byteAt s k := ⟨_, rfl⟩
      have hc1 : c ≤ 255 := by rw [hc]; exact byteAt_le s k
      have hb : ((s[k]'hlt).toNat : Int) = (c : Int) := by rw [hc, byteAt_get s k hlt]
      have HC := hideP hc
      clear hc
      by_cases hlow : Low c
      · have c1 : Hid (∀ W, Calls Try.prog 36 #[.int .u8 (c : Int)] W fun e w' => e = .returned (.bool true) ∧ w' = W) := hideP (fun W => by have := low_any c W hc1; rw [show decide (Low c) = true by simp [hlow]] at this; exact this)
        have HLO := hideP hlow
        clear hlow
        go_wp2_with fail
        refine (c1.out _).mono ?_
        rintro e wx ⟨rfl, hw⟩
        have hw2 := hw.symm
        subst hw2
        go_wp2
        go_round
        case rel =>
          refine ⟨k + 1, L + 1, by omega, by omega, by go_num, by go_num, hideP (fun i hi => ?_), hideP ⟨fun _ => ⟨k, by omega, by rw [← HC.out]; exact HLO.out⟩, fun _ => by omega⟩⟩
          by_cases hik : i = k
          · subst hik; exact .inl (by rw [← HC.out]; exact HLO.out)
          · exact HA.out i (by omega)
        case measure => simp [intOf]; omega
      · have c1 : Hid (∀ W, Calls Try.prog 36 #[.int .u8 (c : Int)] W fun e w' => e = .returned (.bool false) ∧ w' = W) := hideP (fun W => by have := low_any c W hc1; rw [show decide (Low c) = false by simp [hlow]] at this; exact this)
        have HLO : Hid (¬ Low (byteAt s k)) := hideP (by rw [← HC.out]; exact hlow)
        clear hlow
        by_cases h46 : c = 46
        · have f1 : ((c : Int) != 46) = false := by simp; omega
          have H46 : Hid (byteAt s k = 46) := hideP (by rw [← HC.out]; exact h46)
          clear h46
          by_cases hk0 : k = 0
          · subst hk0
            go_wp2_with fail
            refine (c1.out _).mono ?_
            rintro e wx ⟨rfl, hw⟩
            have hw2 := hw.symm
            subst hw2
            go_wp2
            go_round
            case rel =>
              refine ⟨1, L, by omega, by omega, by go_num, rfl, hideP (fun i hi => ?_), hideP ⟨fun h => by omega, fun ⟨i, hi, hil⟩ => ?_⟩⟩
              · obtain rfl : i = 0 := by omega
                exact .inr ⟨H46.out, .inl rfl⟩
              · obtain rfl : i = 0 := by omega
                exact absurd hil HLO.out
            case measure => simp [intOf]; omega
          · have f2 : 0 < k := by omega
            by_cases hke : k + 1 = s.size
            · have f3 : decide ((k : Int) < (s.size : Int) - 1) = false := by simp; omega
              have HKE := hideP hke
              clear hke hk0
              go_wp2_with fail
              refine (c1.out _).mono ?_
              rintro e wx ⟨rfl, hw⟩
              have hw2 := hw.symm
              subst hw2
              go_wp2
              go_round
              case rel =>
                refine ⟨k + 1, L, by omega, by omega, by go_num, rfl, hideP (fun i hi => ?_), hideP ⟨fun h => ?_, fun ⟨i, hi, hil⟩ => ?_⟩⟩
                · by_cases hik : i = k
                  · subst hik; exact .inr ⟨H46.out, .inr HKE.out⟩
                  · exact HA.out i (by omega)
                · obtain ⟨i, hi, hil⟩ := HL.out.1 h
                  exact ⟨i, by omega, hil⟩
                · by_cases hik : i = k
                  · subst hik; exact absurd hil HLO.out
                  · exact HL.out.2 ⟨i, by omega, hil⟩
              case measure => simp [intOf]; omega
            · have f3 : decide ((k : Int) < (s.size : Int) - 1) = true := by simp; omega
              have HKE : Hid (¬ (byteAt s k = 46 ∧ (k = 0 ∨ k + 1 = s.size))) := hideP (fun h => h.2.elim hk0 hke)
              clear hke hk0
              go_wp2_with fail
              refine (c1.out _).mono ?_
              rintro e wx ⟨rfl, hw⟩
              have hw2 := hw.symm
              subst hw2
              go_wp2
              go_ret
              exact ⟨retB (patB_other hlt HLO.out HKE.out).symm, HBW⟩
        · have f1 : ((c : Int) != 46) = true := by simp; omega
          have H46 : Hid (¬ (byteAt s k = 46 ∧ (k = 0 ∨ k + 1 = s.size))) := hideP (fun h => h46 (by rw [HC.out]; exact h.1))
          clear h46
          go_wp2_with fail
          refine (c1.out _).mono ?_
          rintro e wx ⟨rfl, hw⟩
          have hw2 := hw.symm
          subst hw2
          go_wp2
          go_ret
          exact ⟨retB (patB_other hlt HLO.out H46.out).symm, HBW⟩
    · have hge : ¬ ((k : Int) < (s.size : Int)) := by omega
      obtain rfl : k = s.size := by omega
      go_wp2
      go_loop [6] (fun i => ∃ k : Nat, k ≤ s.size + 1 ∧ i = .int .i64 k ∧ Hid (∀ j, j < k → 0 ≤ zs.getD j 0 ∧ zs.getD j 0 ≤ 9)) (fun i => s.size + 1 - (intOf i).toNat)
      case atStart => exact ⟨0, by omega, rfl, hideP (fun j hj => by omega)⟩
      case round =>
        obtain ⟨k, hk, rfl, HJ⟩ := hrel
        by_cases hlt2 : k ≤ s.size
        · have hki : (k : Int) ≤ (s.size : Int) := by omega
          obtain ⟨b, off, rfl, hb, hc⟩ := HRW.out (by have := HS.out; omega)
          have hkn : k < n := by have := HS.out; omega
          obtain ⟨z, hz⟩ : ∃ z, z = zs.getD k 0 := ⟨_, rfl⟩
          have hcell : W.cell? ⟨b, off + k, none⟩ = some (.int .i64 z) := by rw [hz]; exact hc k hkn
          have hkni : (k : Int) < (n : Int) := by omega
          have HZ := hideP hz
          have hkl : k < zs.length := by have := HN.out; omega
          have HKL := hideP hkl
          clear hz hc hkl
          by_cases h0 : 0 ≤ z
          · by_cases h9 : z ≤ 9
            · have g1 : decide (z < 0) = false := by simp; omega
              have g2 : decide (9 < z) = false := by simp; omega
              have HB : Hid (0 ≤ z ∧ z ≤ 9) := hideP ⟨h0, h9⟩
              clear h0 h9
              go_wp2
              go_round
              case rel =>
                refine ⟨k + 1, by omega, by go_num, hideP (fun j hj => ?_)⟩
                by_cases hjk : j = k
                · subst hjk; rw [← HZ.out]; exact HB.out
                · exact HJ.out j (by omega)
              case measure => simp [intOf]; omega
            · have g1 : decide (z < 0) = false := by simp; omega
              have g2 : decide (9 < z) = true := by simp; omega
              have HB : Hid (¬ (0 ≤ z ∧ z ≤ 9)) := hideP (fun h => h9 h.2)
              clear h0 h9
              go_wp2
              go_ret
              exact ⟨retB (patB_mark HKL.out (by rw [← HZ.out]; exact HB.out)).symm, HBW⟩
          · have g1 : decide (z < 0) = true := by simp; omega
            have HB : Hid (¬ (0 ≤ z ∧ z ≤ 9)) := hideP (fun h => h0 h.1)
            clear h0
            go_wp2
            go_ret
            exact ⟨retB (patB_mark HKL.out (by rw [← HZ.out]; exact HB.out)).symm, HBW⟩
        · have hge2 : ¬ ((k : Int) ≤ (s.size : Int)) := by omega
          go_wp2
          go_ret
          exact ⟨retB (patB_end h20 (HN.out.trans HS.out) HA.out HL.out (fun j hj => HJ.out j (by omega))).symm, HBW⟩
end Go.Proofs.Ytejigikcpmhhoaa
