/-
  The specification's list without the group that it is, as a walk.
-/
import Derived.Test.YtbceblgnjicdcaaTai
namespace Go.Proofs.Ytbceblgnjicdcaa
open Go.RowKit
set_option linter.unusedVariables false
set_option linter.unusedSimpArgs false

set_option maxRecDepth 100000 in
set_option maxHeartbeats 4000000 in
theorem l4Strip_any {b off n cap : Nat} {ts : List Tk} {w : World} (ht : TOn 0 w (.slice (some ⟨b, off, none⟩) n cap) ts) (lt : n ≤ 1048576) (lc : cap ≤ 9223372036854775807) :
    Calls Try.prog 134 #[.slice (some ⟨b, off, none⟩) n cap] w fun e w' => ∃ v', e = .returned v' ∧ TOn 0 w' v' (strip ts) ∧ Below w.heap.size w w' := by
  have HT : Hid (TOn 0 w (.slice (some ⟨b, off, none⟩) n cap) ts) := ht
  obtain ⟨b2, off2, cap2, e, hcap, hlo, hb2, hc⟩ := ht
  simp at e
  obtain ⟨⟨rfl, rfl⟩, hnl, rfl⟩ := e
  have HN : Hid (n = ts.length) := hnl
  have HC : Hid (∀ j u, (flat ts)[j]? = some u → w.cell? ⟨b, off + j, none⟩ = some u) := hc
  rw [← hnl] at hcap
  clear hc hnl
  go_enter Try.func134, Try.ntmps134
  by_cases hn2 : n < 2
  · have h1 : (n : Int) < 2 := by omega
    have HE : Hid (strip ts = ts) := strip_short (by rw [← show n = _ from HN]; omega)
    go_wp2
    go_ret
    exact ⟨_, rfl, by rw [show strip ts = ts from HE]; exact HT, Below.refl _ _⟩
  · have h1 : ¬ (n : Int) < 2 := by omega
    have h0n : (0 : Int) < (n : Int) := by omega
    obtain ⟨t0, ht0⟩ : ∃ t, t = ts.getD 0 Tk.none := ⟨_, rfl⟩
    have f0 := (flat_get ts 0 (by rw [← show n = _ from HN]; omega)).1
    rw [← ht0] at f0
    have g0 := HC _ _ f0
    simp only [Nat.zero_mul, Nat.add_zero] at g0
    have HT0 : Hid (t0 = ts.getD 0 Tk.none) := ht0
    clear ht0 f0
    obtain ⟨c0, h0, s0⟩ := t0
    dsimp only at g0
    by_cases hc0 : c0 = 1
    · have H1 : Hid (2 ≤ ts.length ∧ (ts.getD 0 Tk.none).c = 1) := ⟨by rw [← show n = _ from HN]; omega, by rw [← show _ = ts.getD 0 Tk.none from HT0]; exact hc0⟩
      subst hc0
      go_wp2
      go_loopw [4, 5] (fun o i wr => ∃ (k : Nat) (x : Int), k ≤ n ∧ i = .int .i64 k ∧ o = .int .i64 x ∧ -(k : Int) ≤ x ∧ x ≤ k ∧ Below w.heap.size w wr ∧ Hid (x = dep (ts.take k) ∧ ∀ j, j < k → j + 1 < n → dep (ts.take (j + 1)) ≠ 0)) (fun _ i _ => n - (intOf i).toNat)
      case atStart => exact ⟨0, 0, by omega, rfl, rfl, by omega, by omega, Below.refl _ _, rfl, fun j hj => by omega⟩
      case round =>
        obtain ⟨k, x, hk, rfl, rfl, hx1, hx2, hbel, HX⟩ := hrel
        have HB : Hid (Below w.heap.size w wr) := hbel
        by_cases hkn : k < n
        · have hki : (k : Int) < (n : Int) := by omega
          obtain ⟨t, ht⟩ : ∃ t, t = ts.getD k Tk.none := ⟨_, rfl⟩
          have f := (flat_get ts k (by rw [← show n = _ from HN]; omega)).1
          rw [← ht] at f
          have g := (hbel.cell (p := ⟨b, off + k * 3, none⟩) hb2).trans (HC _ _ f)
          have hbw : b < wr.heap.size := Nat.lt_of_lt_of_le hb2 hbel.size
          have HD : Hid (dep (ts.take (k + 1)) = x + dl t) := by show _ = _; rw [dep_take (by rw [← show n = _ from HN]; omega), ← HX.1, ← ht]
          have HALL : Hid (∀ j, j < k → j + 1 < n → dep (ts.take (j + 1)) ≠ 0) := HX.2
          clear f ht hbel HX
          obtain ⟨c, h, s⟩ := t
          dsimp only at g
          by_cases e1 : c = 1
          · subst e1
            have HD2 : Hid (dep (ts.take (k + 1)) = x + 1) := by show _ = _; rw [show dep (ts.take (k + 1)) = _ from HD]; simp [dl]
            clear HD
            by_cases y0 : x + 1 = 0
            · by_cases k1 : (k : Int) < (n : Int) - 1
              · have HE : Hid (strip ts = ts) := strip_no (k := k) (by rw [← show n = _ from HN]; omega) (by rw [show dep (ts.take (k + 1)) = _ from HD2]; exact y0)
                go_wp2
                go_ret
                exact ⟨_, rfl, by rw [show strip ts = ts from HE]; exact TOn.below HT HB, HB⟩
              · have HN2 : Hid (∀ j, j < k + 1 → j + 1 < n → dep (ts.take (j + 1)) ≠ 0) := fun j hj hn => by
                  by_cases hjk : j < k
                  · exact HALL j hjk hn
                  · omega
                clear HALL
                go_wp2
                go_roundw
                case rel => exact ⟨k + 1, x + 1, by omega, by go_num, by go_num, by omega, by omega, HB, (show _ = _ from HD2).symm, HN2⟩
                case measure => simp [intOf]; omega
            · have y1 : (x + 1 == 0) = false := beq_eq_false_iff_ne.2 y0
              have HN2 : Hid (∀ j, j < k + 1 → j + 1 < n → dep (ts.take (j + 1)) ≠ 0) := fun j hj hn => by
                by_cases hjk : j < k
                · exact HALL j hjk hn
                · obtain rfl : j = k := by omega
                  rw [show dep (ts.take (j + 1)) = _ from HD2]; exact y0
              clear HALL
              go_wp2
              go_roundw
              case rel => exact ⟨k + 1, x + 1, by omega, by go_num, by go_num, by omega, by omega, HB, (show _ = _ from HD2).symm, HN2⟩
              case measure => simp [intOf]; omega
          · have e1' : (c == 1) = false := beq_eq_false_iff_ne.2 e1
            by_cases e2 : c = 2
            · subst e2
              have HD2 : Hid (dep (ts.take (k + 1)) = x - 1) := by show _ = _; rw [show dep (ts.take (k + 1)) = _ from HD]; simp [dl]; omega
              clear HD
              by_cases y0 : x - 1 = 0
              · by_cases k1 : (k : Int) < (n : Int) - 1
                · have HE : Hid (strip ts = ts) := strip_no (k := k) (by rw [← show n = _ from HN]; omega) (by rw [show dep (ts.take (k + 1)) = _ from HD2]; exact y0)
                  go_wp2
                  go_ret
                  exact ⟨_, rfl, by rw [show strip ts = ts from HE]; exact TOn.below HT HB, HB⟩
                · have HN2 : Hid (∀ j, j < k + 1 → j + 1 < n → dep (ts.take (j + 1)) ≠ 0) := fun j hj hn => by
                    by_cases hjk : j < k
                    · exact HALL j hjk hn
                    · omega
                  clear HALL
                  go_wp2
                  go_roundw
                  case rel => exact ⟨k + 1, x - 1, by omega, by go_num, by go_num, by omega, by omega, HB, (show _ = _ from HD2).symm, HN2⟩
                  case measure => simp [intOf]; omega
              · have y1 : (x - 1 == 0) = false := beq_eq_false_iff_ne.2 y0
                have HN2 : Hid (∀ j, j < k + 1 → j + 1 < n → dep (ts.take (j + 1)) ≠ 0) := fun j hj hn => by
                  by_cases hjk : j < k
                  · exact HALL j hjk hn
                  · obtain rfl : j = k := by omega
                    rw [show dep (ts.take (j + 1)) = _ from HD2]; exact y0
                clear HALL
                go_wp2
                go_roundw
                case rel => exact ⟨k + 1, x - 1, by omega, by go_num, by go_num, by omega, by omega, HB, (show _ = _ from HD2).symm, HN2⟩
                case measure => simp [intOf]; omega
            · have e2' : (c == 2) = false := beq_eq_false_iff_ne.2 e2
              have HD2 : Hid (dep (ts.take (k + 1)) = x) := by show _ = _; rw [show dep (ts.take (k + 1)) = _ from HD]; simp [dl, e1, e2]
              clear HD
              by_cases y0 : x = 0
              · by_cases k1 : (k : Int) < (n : Int) - 1
                · have HE : Hid (strip ts = ts) := strip_no (k := k) (by rw [← show n = _ from HN]; omega) (by rw [show dep (ts.take (k + 1)) = _ from HD2]; exact y0)
                  go_wp2
                  go_ret
                  exact ⟨_, rfl, by rw [show strip ts = ts from HE]; exact TOn.below HT HB, HB⟩
                · have HN2 : Hid (∀ j, j < k + 1 → j + 1 < n → dep (ts.take (j + 1)) ≠ 0) := fun j hj hn => by
                    by_cases hjk : j < k
                    · exact HALL j hjk hn
                    · omega
                  clear HALL
                  go_wp2
                  go_roundw
                  case rel => exact ⟨k + 1, x, by omega, by go_num, by go_num, by omega, by omega, HB, (show _ = _ from HD2).symm, HN2⟩
                  case measure => simp [intOf]; omega
              · have y1 : (x == 0) = false := beq_eq_false_iff_ne.2 y0
                have HN2 : Hid (∀ j, j < k + 1 → j + 1 < n → dep (ts.take (j + 1)) ≠ 0) := fun j hj hn => by
                  by_cases hjk : j < k
                  · exact HALL j hjk hn
                  · obtain rfl : j = k := by omega
                    rw [show dep (ts.take (j + 1)) = _ from HD2]; exact y0
                clear HALL
                go_wp2
                go_roundw
                case rel => exact ⟨k + 1, x, by omega, by go_num, by go_num, by omega, by omega, HB, (show _ = _ from HD2).symm, HN2⟩
                case measure => simp [intOf]; omega
        · have hki : ¬ (k : Int) < (n : Int) := by omega
          obtain rfl : k = n := by omega
          have HE : Hid (TOn 0 wr (.slice (some ⟨b, off + 3, none⟩) (k - 2) (cap - 1)) (strip ts)) := by
            show TOn _ _ _ _
            rw [strip_yes H1 (fun j hj => HX.2 j (by have := show k = _ from HN; omega) (by have := show k = _ from HN; omega))]
            have q := TOn.drop (TOn.take (TOn.below HT HB) (k := k - 1) (by omega)) (k := 1) (by omega)
            rw [← show k = _ from HN, show k - 2 = k - 1 - 1 by omega]
            exact q
          clear hbel HX
          go_wp2
          go_ret
          refine ⟨_, rfl, ?_, HB⟩
          rw [show k - 2 = k - 1 - 1 by omega] at HE
          exact HE
    · have e0 : (c0 == 1) = false := beq_eq_false_iff_ne.2 hc0
      have HE : Hid (strip ts = ts) := strip_short (by rw [← show _ = ts.getD 0 Tk.none from HT0]; intro hh; exact hc0 hh.2)
      go_wp2
      go_ret
      exact ⟨_, rfl, by rw [show strip ts = ts from HE]; exact HT, Below.refl _ _⟩
end Go.Proofs.Ytbceblgnjicdcaa
