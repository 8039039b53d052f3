/-
  The program's FillBody, as a walk.
-/
import Derived.Test.YtbceblgnjicdcaaCon
namespace Go.Proofs.Ytbceblgnjicdcaa
open Go.RowKit
set_option linter.unusedVariables false
set_option linter.unusedSimpArgs false

theorem fill_bound {args : List (List Tk)} {M : Nat} (hM : 1 ≤ M) (h : ∀ i, i < args.length → (args.getD i []).length ≤ M) : ∀ b : List Tk, (fill args b).length ≤ b.length * M
  | [] => by simp [fill]
  | t :: ts => by
    have h1 := fill_bound hM h ts
    have h2 : (part args t).length ≤ M := by
      unfold part
      split
      · rcases Nat.lt_or_ge (t.h - 1).toNat args.length with hl | hl
        · exact h _ hl
        · have : args.getD (t.h - 1).toNat [] = [] := by rw [List.getD_eq_getElem?_getD, List.getElem?_eq_none hl]; rfl
          rw [this]; simp
      · simpa using hM
    simp only [fill, List.length_append, List.length_cons, Nat.succ_mul]
    omega

set_option maxRecDepth 100000 in
set_option maxHeartbeats 4000000 in
theorem implFill_any {vp va : Value} {bb boff bn bcap : Nat} {p b : List Tk} {sl : Int} {args : List (List Tk)} {w : World} (hp : TRow w vp p) (hb : TOn 0 w (.slice (some ⟨bb, boff, none⟩) bn bcap) b) (ha : ARow 0 w va args) (lp : p.length ≤ 1048576) (lb : b.length ≤ 1048576) (la : args.length ≤ 1048576) (hs : ∀ i, i < args.length → (args.getD i []).length ≤ 1048576) (hz : ∀ i, i < (fill args b).length → ((fill args b).getD i Tk.none).s.size ≤ 281474976710656) :
    Calls Try.prog 39 #[macV vp sl (.slice (some ⟨bb, boff, none⟩) bn bcap), va] w fun e w' => ∃ v', e = .returned (.tuple #[v', .bool (okF p sl b args)]) ∧ (∃ n, w'.ownsRow w.heap.size 31 3 v' n (flat (resF p sl b args))) ∧ Below w.heap.size w w' := by
  obtain ⟨aa, an, acap, rfl, hal, har⟩ := ha
  rw [hal] at la
  have HP : Hid (TRow w vp p) := hp
  have HB : Hid (TOn 0 w (.slice (some ⟨bb, boff, none⟩) bn bcap) b) := hb
  have HA : Hid (0 < an → ∃ b off, aa = some ⟨b, off, none⟩ ∧ 0 ≤ b ∧ b < w.heap.size ∧ ∀ i, i < an → ∃ cs : List Value, cs.length = 1 ∧ TsS 0 w cs (args.getD i []) ∧ ∀ j, j < 1 → w.cell? ⟨b, off + i * 1 + j, none⟩ = cs[j]?) := har
  have HS : Hid (∀ i, i < args.length → (args.getD i []).length ≤ 1048576) := hs
  have HAL : Hid (args.length = an) := hal
  have HZ : Hid (∀ i, i < (fill args b).length → ((fill args b).getD i Tk.none).s.size ≤ 281474976710656) := hz
  obtain ⟨ans, hans⟩ : ∃ a, a = okF p sl b args := ⟨_, rfl⟩
  rw [← hans]
  have HANS : Hid (ans = okF p sl b args) := hans
  obtain ⟨R, hR⟩ : ∃ R, R = resF p sl b args := ⟨_, rfl⟩
  rw [← hR]
  have HRES : Hid (R = resF p sl b args) := hR
  clear hp hb har hs hal hans hR hz
  obtain ⟨W1, hW1⟩ : ∃ W, W = w.alloc (.cells #[vp, .int .i64 sl, .slice (some ⟨bb, boff, none⟩) bn bcap] 34) := ⟨_, rfl⟩
  have HW1 : Hid (Below w.heap.size w W1 ∧ W1.heap.size = w.heap.size + 1 ∧ W1.cell? ⟨w.heap.size, 0, none⟩ = some vp ∧ W1.cell? ⟨w.heap.size, 1, none⟩ = some (.int .i64 sl) ∧ W1.cell? ⟨w.heap.size, 2, none⟩ = some (.slice (some ⟨bb, boff, none⟩) bn bcap)) := by rw [hW1]; exact ⟨below1 w _, by simp, by simp, by simp, by simp⟩
  have HW : Hid (W1 = w.alloc (.cells #[vp, .int .i64 sl, .slice (some ⟨bb, boff, none⟩) bn bcap] 34)) := hW1
  have HMK : Hid (Calls Try.prog 49 #[macV vp sl (.slice (some ⟨bb, boff, none⟩) bn bcap)] W1 fun e w' => e = .returned (.bool (macB p sl b)) ∧ Below W1.heap.size W1 w') := macroOk_any (TRow.below HP HW1.1) (TRow.below (TOn.row HB) HW1.1) lp lb
  rw [show W1 = _ from HW] at HMK
  clear hW1
  obtain ⟨mb, hmb⟩ : ∃ m, m = macB p sl b := ⟨_, rfl⟩
  rw [← hmb] at HMK
  have HMB : Hid (mb = macB p sl b) := hmb
  clear hmb
  have DEAD : Hid (ans = false → R = []) := by
    intro h
    rw [show R = _ from HRES]
    unfold resF
    rw [← show ans = _ from HANS, h]
    rfl
  cases mb with
  | false =>
    have HD : Hid (ans = false) := by rw [show ans = _ from HANS]; exact okF_mac (show false = _ from HMB).symm
    go_enter Try.func39, Try.ntmps39
    go_wp2_with (go_at_call 49; refine Calls.mono HMK ?_; rintro e w1 ⟨rfl, hb1⟩; have HB1 : Hid (Below w.heap.size w w1) := by { rw [← show W1 = _ from HW] at hb1; exact HW1.1.trans (hb1.mono (by rw [HW1.2.1]; exact Nat.le_succ _)) })
    go_ret2
    refine ⟨.slice none 0 0, ?_, ⟨0, ?_⟩, HB1⟩
    · rw [show ans = _ from HD]; rfl
    · rw [show R = _ from DEAD HD]; exact World.ownsRow_nil _ _ _ _
  | true =>
    by_cases han : (an : Int) = sl
    · subst han
      have HOK : Hid (ans = (listsB args && decide ((fill args b).length ≤ 20000))) := by
        rw [show ans = _ from HANS]; exact okF_yes (show true = _ from HMB).symm (by rw [show args.length = an from HAL])
      have HSI : Hid (SlotsIn args.length b ∧ b.length ≤ 2000 ∧ args.length ≤ 9) := by
        have h := mac_slots (n := an) (show macB p an b = true from (show true = _ from HMB).symm) rfl
        rw [show args.length = an from HAL]; exact h
      go_enter Try.func39, Try.ntmps39
      go_wp2_with (go_at_call 49; refine Calls.mono HMK ?_; rintro e w1 ⟨rfl, hb1⟩; rw [← show W1 = _ from HW] at hb1; have m1 : w1.cell? ⟨w.heap.size, 1, none⟩ = some (.int .i64 (an : Int)) := (hb1.cell (p := ⟨w.heap.size, 1, none⟩) (by rw [HW1.2.1]; exact Nat.lt_succ_self _)).trans HW1.2.2.2.1; have HB1 : Hid (Below (w.heap.size + 1) W1 w1) := hb1.mono (by rw [HW1.2.1]; exact Nat.le_refl _); clear hb1)
      go_loopw [24] (fun i wr => ∃ k : Nat, k ≤ an ∧ i = .int .i64 k ∧ Hid ((args.take k).all (fun a => a.all (okT 0)) = true) ∧ Below (w.heap.size + 1) W1 wr) (fun i _ => an - (intOf i).toNat)
      case atStart => exact ⟨0, by omega, rfl, rfl, HB1⟩
      case round =>
        obtain ⟨k, hk, rfl, HALL, hbel⟩ := hrel
        have HB2 : Hid (Below (w.heap.size + 1) W1 wr) := hbel
        have HB0 : Hid (Below w.heap.size w wr) := HW1.1.trans (hbel.mono (Nat.le_succ _))
        clear hbel
        by_cases hkn : k < an
        · have hki : (k : Int) < (an : Int) := by omega
          obtain ⟨ab, aoff, rfl, _, hab, hcell⟩ := HA (by omega)
          obtain ⟨cs, hcs, ⟨u, rfl, hu⟩, hcj⟩ := hcell k hkn
          obtain ⟨ux, hux⟩ : ∃ ux, ux = args.getD k [] := ⟨_, rfl⟩
          have hul : ux.length ≤ 1048576 := by rw [hux]; exact HS k (by rw [show args.length = an from HAL]; exact hkn)
          rw [← hux] at hu
          have hsh := hu.shape
          obtain ⟨ub, uoff, m, ucap, rfl⟩ := hsh
          have hm : m = ux.length := by obtain ⟨b2, off2, cap2, e, _⟩ := hu; simp at e; exact e.2.1
          have ha0 : wr.cell? ⟨ab, aoff + k, none⟩ = some (.slice (some ⟨ub, uoff, none⟩) m ucap) := by have h := (Below.cell HB0 (p := ⟨ab, aoff + k * 1 + 0, none⟩) hab).trans (hcj 0 (by omega)); simpa using h
          have HTK : Hid (Calls Try.prog 76 #[.slice (some ⟨ub, uoff, none⟩) m ucap, .int .i64 (m : Int), .int .i64 0] wr fun e w' => e = .returned (.bool (ux.all (okT 0))) ∧ Below wr.heap.size wr w') := by
            have h := tokensOk_any (limit := (m : Int)) (most := 0) (TRow.below (TOn.row hu) HB0) hul
            rw [decide_eq_true (show (ux.length : Int) ≤ (m : Int) by omega), Bool.true_and] at h
            exact h
          have HUX : Hid (ux = args.getD k []) := hux
          clear hcell hcs hcj hux hu hm
          cases hall : ux.all (okT 0) with
          | false =>
            rw [hall] at HTK
            have HD : Hid (ans = false) := by
              rw [show ans = _ from HOK, lists_dead (k := k) (by rw [show args.length = an from HAL]; exact hkn) (by rw [← show ux = _ from HUX]; exact hall)]
              rfl
            go_wp2_with (go_at_call 76; refine Calls.mono HTK ?_; rintro e w2 ⟨rfl, hb1⟩; have HB5 : Hid (Below w.heap.size w w2) := below_more HB0 hb1 (Below.size HB0); clear hb1)
            go_ret2
            refine ⟨.slice none 0 0, ?_, ⟨0, ?_⟩, HB5⟩
            · rw [show ans = _ from HD]; rfl
            · rw [show R = _ from DEAD HD]; exact World.ownsRow_nil _ _ _ _
          | true =>
            rw [hall] at HTK
            have HN : Hid ((args.take (k + 1)).all (fun a => a.all (okT 0)) = true) := lists_on (by rw [show args.length = an from HAL]; exact hkn) HALL (by rw [← show ux = _ from HUX]; exact hall)
            go_wp2_with (go_at_call 76; refine Calls.mono HTK ?_; rintro e w2 ⟨rfl, hb1⟩; have HB5 : Hid (Below (w.heap.size + 1) W1 w2) := Below.trans HB2 (hb1.mono (by have := Below.size HB2; rw [HW1.2.1] at this; exact this)); clear hb1)
            go_roundw
            case rel => exact ⟨k + 1, by omega, by go_num, HN, HB5⟩
            case measure => simp [intOf]; omega
        · have hki : ¬ (k : Int) < (an : Int) := by omega
          obtain rfl : k = an := by omega
          have hall : listsB args = true := by
            have := show (args.take k).all (fun a => a.all (okT 0)) = true from HALL
            rwa [← show args.length = k from HAL, List.take_length] at this
          have HFIN : Hid (ans = decide ((fill args b).length ≤ 20000)) := by show ans = _; rw [show ans = _ from HOK, hall, Bool.true_and]
          have m2 := (Below.cell HB2 (p := ⟨w.heap.size, 2, none⟩) (Nat.lt_succ_self _)).trans HW1.2.2.2.2
          have HAR : Hid (ARow 0 wr (.slice aa k acap) args) := SRow.below tssStable ⟨aa, k, acap, rfl, HAL, HA⟩ HB0
          have HBR : Hid (TOn 0 wr (.slice (some ⟨bb, boff, none⟩) bn bcap) b) := TOn.below HB HB0
          clear hall
          go_wp2_with (go_at_call 77; refine (filled_any HBR HAR HSI.2.1 HSI.2.2 HSI.1).mono ?_; rintro e w2 ⟨v2, rs, rfl, hrs, hrl, hrf, hb1⟩; have hsh := hrs.shape; obtain ⟨ra, rcap, rfl⟩ := hsh; have HR2 : Hid (ARow 0 w2 (.slice ra rs.length rcap) rs ∧ rs.length ≤ 4001 ∧ rs.flatten = fill args b ∧ Below w.heap.size w w2) := ⟨hrs, hrl, hrf, below_more HB0 hb1 (Below.size HB0)⟩; clear hrs hrl hrf hb1)
          obtain ⟨rn, hrn⟩ : ∃ n, n = rs.length := ⟨_, rfl⟩
          rw [← hrn] at HR2
          rw [← hrn]
          have HRN : Hid (rn = rs.length) := hrn
          have hr4 : rn ≤ 4001 := HR2.2.1
          have hrow := HR2.1
          obtain ⟨_, _, _, e, hn0, hrr⟩ := hrow
          simp at e
          obtain ⟨rfl, rfl, rfl⟩ := e
          have HRR : Hid (0 < rn → ∃ b off, ra = some ⟨b, off, none⟩ ∧ 0 ≤ b ∧ b < w2.heap.size ∧ ∀ i, i < rn → ∃ cs : List Value, cs.length = 1 ∧ TsS 0 w2 cs (rs.getD i []) ∧ ∀ j, j < 1 → w2.cell? ⟨b, off + i * 1 + j, none⟩ = cs[j]?) := hrr
          clear hrn hrr hn0
          have HFB : Hid (rs.flatten.length ≤ 2000 * 1048576) := by
            rw [HR2.2.2.1]
            have h1 := fill_bound (M := 1048576) (by decide) HS b
            have h2 := Nat.mul_le_mul_right 1048576 HSI.2.1
            exact Nat.le_trans h1 h2
          go_loopw [8, 40] (fun sz i wq => ∃ q : Nat, q ≤ rn ∧ i = .int .i64 q ∧ sz = .int .i64 ((rs.take q).flatten.length : Int) ∧ wq = w2) (fun _ i _ => rn - (intOf i).toNat)
          case atStart => exact ⟨0, by omega, rfl, rfl, rfl⟩
          case round =>
            obtain ⟨q, hq, rfl, rfl, hww⟩ := hrel
            have hww' := hww.symm
            subst hww'
            clear hww
            obtain ⟨z, hz⟩ : ∃ z, z = (rs.take q).flatten.length := ⟨_, rfl⟩
            have HZZ : Hid (z = (rs.take q).flatten.length) := hz
            have hz4 : z ≤ 2000 * 1048576 := by rw [hz]; exact Nat.le_trans (flatten_le rs q) HFB
            rw [← hz]
            clear hz
            by_cases hqn : q < rn
            · have hqi : (q : Int) < (rn : Int) := by omega
              obtain ⟨ab, aoff, rfl, _, hab, hcell⟩ := HRR (by omega)
              obtain ⟨cs, hcs, ⟨u, rfl, hu⟩, hcj⟩ := hcell q hqn
              obtain ⟨ub, uoff, um, ucap, rfl⟩ := hu.shape
              have hum : um = (rs.getD q []).length := by obtain ⟨b2, off2, cap2, e, _⟩ := hu; simp at e; simpa [List.getD] using e.2.1
              have ha0 : w2.cell? ⟨ab, aoff + q, none⟩ = some (.slice (some ⟨ub, uoff, none⟩) um ucap) := by have h := hcj 0 (by omega); simpa using h
              have hst : z + um = (rs.take (q + 1)).flatten.length := by rw [flatten_take (by rw [← show rn = rs.length from HRN]; exact hqn), List.length_append, ← hum, ← show z = _ from HZZ]
              have HST : Hid (z + um = (rs.take (q + 1)).flatten.length) := hst
              have hz5 : z + um ≤ 2000 * 1048576 := by rw [hst]; exact Nat.le_trans (flatten_le rs (q + 1)) HFB
              clear hcell hcs hcj hu hum hst
              go_wp2
              go_roundw
              case rel => exact ⟨q + 1, by omega, by go_num, by rw [← show z + um = _ from HST]; go_num, by trivial⟩
              case measure => simp [intOf]; omega
            · have hqi : ¬ (q : Int) < (rn : Int) := by omega
              obtain rfl : q = rn := by omega
              have HZ2 : Hid (z = (fill args b).length) := by show z = _; rw [show z = _ from HZZ, show q = rs.length from HRN, List.take_length, HR2.2.2.1]
              by_cases hbig : z ≤ 20000
              · have hbi : ¬ (20000 : Int) < (z : Int) := by omega
                have HYES : Hid (ans = true ∧ R = rs.flatten ∧ rs.flatten.length ≤ 20000) := by
                  have h1 : ans = true := by rw [show ans = _ from HFIN]; exact decide_eq_true (by rw [← show z = _ from HZ2]; exact hbig)
                  refine ⟨h1, ?_, by rw [HR2.2.2.1, ← show z = _ from HZ2]; exact hbig⟩
                  rw [show R = _ from HRES]
                  unfold resF
                  rw [← show ans = _ from HANS, h1, if_pos rfl, HR2.2.2.1]
                have HZR : Hid (∀ i, i < rs.flatten.length → (rs.flatten.getD i Tk.none).s.size ≤ 281474976710656) := by rw [HR2.2.2.1]; exact HZ
                go_wp2_with (first
                  | (go_at_call 78; refine (concat_any HR2.1 (by rw [← show q = rs.length from HRN]; exact hr4) HYES.2.2).mono ?_; rintro e w3 ⟨v3, rfl, ⟨n3, ho3⟩, hb3⟩; have HO3 : Hid (TN w2.heap.size w3 v3 rs.flatten ∧ Below w.heap.size w w3) := ⟨own_n ho3, below_more HR2.2.2.2 hb3 (Below.size HR2.2.2.2)⟩; clear ho3 hb3)
                  | (go_at_call 72; refine (copyTokens_any HO3.1 (Nat.le_trans HYES.2.2 (by decide)) HZR).mono ?_; rintro e w4 ⟨v4, rfl, ho4, hb4⟩; have HO4 : Hid (w4.ownsRow w3.heap.size 31 3 v4 rs.flatten.length (flat rs.flatten) ∧ Below w.heap.size w w4) := ⟨ho4, below_more HO3.2 hb4 (Below.size HO3.2)⟩; clear ho4 hb4))
                go_ret2
                refine ⟨v4, ?_, ⟨rs.flatten.length, ?_⟩, HO4.2⟩
                · rw [HYES.1]; rfl
                · rw [HYES.2.1]; exact own_mono HO4.1 (Below.size HO3.2)
              · have hbi : (20000 : Int) < (z : Int) := by omega
                have HD : Hid (ans = false) := by rw [show ans = _ from HFIN]; exact decide_eq_false (by rw [← show z = _ from HZ2]; exact hbig)
                go_wp2
                go_ret2
                refine ⟨.slice none 0 0, ?_, ⟨0, ?_⟩, HR2.2.2.2⟩
                · rw [show ans = _ from HD]; rfl
                · rw [show R = _ from DEAD HD]; exact World.ownsRow_nil w2 _ _ _
    · have HD : Hid (ans = false) := by rw [show ans = _ from HANS]; exact okF_len (by rw [show args.length = an from HAL]; exact han)
      go_enter Try.func39, Try.ntmps39
      go_wp2_with (go_at_call 49; refine Calls.mono HMK ?_; rintro e w1 ⟨rfl, hb1⟩; rw [← show W1 = _ from HW] at hb1; have m1 : w1.cell? ⟨w.heap.size, 1, none⟩ = some (.int .i64 sl) := (hb1.cell (p := ⟨w.heap.size, 1, none⟩) (by rw [HW1.2.1]; exact Nat.lt_succ_self _)).trans HW1.2.2.2.1; have HB1 : Hid (Below w.heap.size w w1) := HW1.1.trans (hb1.mono (by rw [HW1.2.1]; exact Nat.le_succ _)); clear hb1)
      go_ret2
      refine ⟨.slice none 0 0, ?_, ⟨0, ?_⟩, HB1⟩
      · rw [show ans = _ from HD]; rfl
      · rw [show R = _ from DEAD HD]; exact World.ownsRow_nil _ _ _ _
end Go.Proofs.Ytbceblgnjicdcaa
