/-
  The specification's FillBody, as a walk.
-/
import Derived.Test.YtbceblgnjicdcaaFls
import Derived.Test.YtbceblgnjicdcaaOkI
namespace Go.Proofs.Ytbceblgnjicdcaa
open Go.RowKit
set_option linter.unusedVariables false
set_option linter.unusedSimpArgs false

theorem okT0 (t : Tk) : okT 0 t = (tokB t.c t.h t.s && decide (t.c ≠ 16)) := by
  unfold okT
  by_cases hc : t.c = 16
  · by_cases h0 : 0 < t.h
    · simp [hc, h0]
    · have : tokB t.c t.h t.s = false := by
        rw [hc]
        by_cases hs : t.s.toList.isEmpty = true
        · rw [tokB_slot hs]; simp; omega
        · exact tokB_full (by decide) (by simpa using hs)
      simp [this]
  · simp [hc]

/-- May the lists be put into the body? -/
def listsB (args : List (List Tk)) : Bool := args.all (fun a => a.all (okT 0))
def okF (p : List Tk) (sl : Int) (b : List Tk) (args : List (List Tk)) : Bool := macB p sl b && (decide ((args.length : Int) = sl) && (listsB args && decide ((fill args b).length ≤ 20000)))
def resF (p : List Tk) (sl : Int) (b : List Tk) (args : List (List Tk)) : List Tk := if okF p sl b args = true then fill args b else []

theorem mac_slots {p b : List Tk} {sl : Int} {n : Nat} (h : macB p sl b = true) (hn : (n : Int) = sl) : SlotsIn n b ∧ b.length ≤ 2000 ∧ n ≤ 9 := by
  unfold macB at h
  simp only [Bool.and_eq_true, decide_eq_true_eq] at h
  obtain ⟨⟨h0, h9⟩, _, h3⟩ := h
  unfold toksB at h3
  simp only [Bool.and_eq_true, decide_eq_true_eq] at h3
  refine ⟨fun i hi hc => ?_, by omega, by omega⟩
  have hm : b.getD i Tk.none ∈ b := by simp [List.getD, List.getElem?_eq_getElem hi]
  have hk := okT_some b 0 0 h3.2 _ hm
  unfold okT at hk
  simp only [Bool.and_eq_true, hc, decide_true, Bool.true_and, Bool.not_eq_true', decide_eq_false_iff_not, Int.not_lt] at hk
  obtain ⟨hk1, hk2⟩ := hk
  have : 1 ≤ (b.getD i Tk.none).h := by
    by_cases hs : (b.getD i Tk.none).s.toList.isEmpty = true
    · rw [tokB_slot hs, decide_eq_true_eq] at hk1; exact hk1.1
    · rw [tokB_full (by decide) (by simpa using hs)] at hk1; simp at hk1
  exact ⟨((b.getD i Tk.none).h - 1).toNat, by omega, by omega⟩

theorem okF_yes {p b : List Tk} {sl : Int} {args : List (List Tk)} (h : macB p sl b = true) (hl : (args.length : Int) = sl) : okF p sl b args = (listsB args && decide ((fill args b).length ≤ 20000)) := by
  unfold okF; rw [h, decide_eq_true hl]; rfl
theorem okF_mac {p b : List Tk} {sl : Int} {args : List (List Tk)} (h : macB p sl b = false) : okF p sl b args = false := by
  unfold okF; rw [h]; rfl
theorem okF_len {p b : List Tk} {sl : Int} {args : List (List Tk)} (hl : ¬ (args.length : Int) = sl) : okF p sl b args = false := by
  unfold okF; rw [decide_eq_false hl]; cases macB p sl b <;> rfl
theorem lists_dead {args : List (List Tk)} {k : Nat} (hk : k < args.length) (h : (args.getD k []).all (okT 0) = false) : listsB args = false := by
  unfold listsB
  have hm : args.getD k [] ∈ args := by simp [List.getD, List.getElem?_eq_getElem hk]
  cases hx : args.all (fun a => a.all (okT 0)) with
  | false => rfl
  | true => rw [List.all_eq_true.1 hx _ hm] at h; exact absurd h (by decide)
theorem lists_on {args : List (List Tk)} {k : Nat} (hk : k < args.length) (h0 : (args.take k).all (fun a => a.all (okT 0)) = true) (h : (args.getD k []).all (okT 0) = true) : (args.take (k + 1)).all (fun a => a.all (okT 0)) = true := by
  have e : args[k] = args.getD k [] := by simp [List.getD, List.getElem?_eq_getElem hk]
  rw [List.take_succ_eq_append_getElem hk, List.all_append, h0, e]
  simp only [List.all_cons, List.all_nil, Bool.and_true, Bool.true_and]
  exact h
theorem okT0_no {t : Tk} (h : tokB t.c t.h t.s = false ∨ t.c = 16) : okT 0 t = false := by
  rw [okT0]
  rcases h with h | h
  · rw [h]; rfl
  · simp [h]
theorem okT0_yes {t : Tk} (h : tokB t.c t.h t.s = true) (h2 : ¬ t.c = 16) : okT 0 t = true := by rw [okT0, h]; simp [h2]

set_option maxRecDepth 100000 in
set_option maxHeartbeats 4000000 in
theorem specFill_any {vp va : Value} {bb boff bn bcap : Nat} {p b : List Tk} {sl : Int} {args : List (List Tk)} {w : World} (hp : TRow w vp p) (hb : TOn 0 w (.slice (some ⟨bb, boff, none⟩) bn bcap) b) (ha : ARow 0 w va args) (lp : p.length ≤ 1048576) (lb : b.length ≤ 1048576) (la : args.length ≤ 1048576) (hs : ∀ i, i < args.length → (args.getD i []).length ≤ 1048576) :
    Calls Try.prog 37 #[macV vp sl (.slice (some ⟨bb, boff, none⟩) bn bcap), va] w fun e w' => ∃ v', e = .returned (.tuple #[v', .bool (okF p sl b args)]) ∧ (∃ n, w'.ownsRow w.heap.size 31 3 v' n (flat (resF p sl b args))) ∧ v' ≠ .slice none 0 0 ∧ Below w.heap.size w w' := by
  obtain ⟨aa, an, acap, rfl, hal, har⟩ := ha
  rw [hal] at la
  have HP : Hid (TRow w vp p) := hp
  have HB : Hid (TOn 0 w (.slice (some ⟨bb, boff, none⟩) bn bcap) b) := hb
  have HA : Hid (0 < an → ∃ b off, aa = some ⟨b, off, none⟩ ∧ 0 ≤ b ∧ b < w.heap.size ∧ ∀ i, i < an → ∃ cs : List Value, cs.length = 1 ∧ TsS 0 w cs (args.getD i []) ∧ ∀ j, j < 1 → w.cell? ⟨b, off + i * 1 + j, none⟩ = cs[j]?) := har
  have HS : Hid (∀ i, i < args.length → (args.getD i []).length ≤ 1048576) := hs
  have HAL : Hid (args.length = an) := hal
  obtain ⟨ans, hans⟩ : ∃ a, a = okF p sl b args := ⟨_, rfl⟩
  rw [← hans]
  have HANS : Hid (ans = okF p sl b args) := hans
  obtain ⟨R, hR⟩ : ∃ R, R = resF p sl b args := ⟨_, rfl⟩
  rw [← hR]
  have HRES : Hid (R = resF p sl b args) := hR
  clear hp hb har hs hal hans hR
  obtain ⟨W1, hW1⟩ : ∃ W, W = w.alloc (.cells #[vp, .int .i64 sl, .slice (some ⟨bb, boff, none⟩) bn bcap] 34) := ⟨_, rfl⟩
  have HW1 : Hid (Below w.heap.size w W1 ∧ W1.heap.size = w.heap.size + 1 ∧ W1.cell? ⟨w.heap.size, 0, none⟩ = some vp ∧ W1.cell? ⟨w.heap.size, 1, none⟩ = some (.int .i64 sl) ∧ W1.cell? ⟨w.heap.size, 2, none⟩ = some (.slice (some ⟨bb, boff, none⟩) bn bcap)) := by rw [hW1]; exact ⟨below1 w _, by simp, by simp, by simp, by simp⟩
  have HW : Hid (W1 = w.alloc (.cells #[vp, .int .i64 sl, .slice (some ⟨bb, boff, none⟩) bn bcap] 34)) := hW1
  have HMK : Hid (Calls Try.prog 46 #[macV vp sl (.slice (some ⟨bb, boff, none⟩) bn bcap)] W1 fun e w' => e = .returned (.bool (macB p sl b)) ∧ Below W1.heap.size W1 w') := specMacroOk_any (TRow.below HP HW1.1) (TRow.below (TOn.row HB) HW1.1) lp lb
  rw [show W1 = _ from HW] at HMK
  clear hW1
  obtain ⟨mb, hmb⟩ : ∃ m, m = macB p sl b := ⟨_, rfl⟩
  rw [← hmb] at HMK
  have HMB : Hid (mb = macB p sl b) := hmb
  clear hmb
  have DEAD : Hid (ans = false → R = []) := by
    intro h
    rw [show R = _ from HRES]
    unfold resF
    rw [← show ans = _ from HANS, h]
    rfl
  cases mb with
  | false =>
    have HD : Hid (ans = false) := by rw [show ans = _ from HANS]; exact okF_mac (show false = _ from HMB).symm
    go_enter Try.func37, Try.ntmps37
    go_wp2_with (go_at_call 46; refine Calls.mono HMK ?_; rintro e w1 ⟨rfl, hb1⟩; have HB1 : Hid (Below w.heap.size w w1) := by { rw [← show W1 = _ from HW] at hb1; exact HW1.1.trans (hb1.mono (by rw [HW1.2.1]; exact Nat.le_succ _)) })
    go_ret2
    refine ⟨.slice (some ⟨w1.heap.size, 0, none⟩) 0 0, ?_, ⟨0, ?_⟩, by simp, Below.alloc HB1 (Below.size HB1) _⟩
    · rw [show ans = _ from HD]; rfl
    · rw [show R = _ from DEAD HD]; exact World.ownsRow_made _ #[] 0 (Below.size HB1) (Nat.zero_le _) (by simp)
  | true =>
    by_cases han : (an : Int) = sl
    · subst han
      have HOK : Hid (ans = (listsB args && decide ((fill args b).length ≤ 20000))) := by
        rw [show ans = _ from HANS]; exact okF_yes (show true = _ from HMB).symm (by rw [show args.length = an from HAL])
      have HSI : Hid (SlotsIn args.length b ∧ b.length ≤ 2000 ∧ args.length ≤ 9) := by
        have h := mac_slots (n := an) (show macB p an b = true from (show true = _ from HMB).symm) rfl
        rw [show args.length = an from HAL]; exact h
      go_enter Try.func37, Try.ntmps37
      go_wp2_with (go_at_call 46; refine Calls.mono HMK ?_; rintro e w1 ⟨rfl, hb1⟩; rw [← show W1 = _ from HW] at hb1; have m1 : w1.cell? ⟨w.heap.size, 1, none⟩ = some (.int .i64 (an : Int)) := (hb1.cell (p := ⟨w.heap.size, 1, none⟩) (by rw [HW1.2.1]; exact Nat.lt_succ_self _)).trans HW1.2.2.2.1; have HB1 : Hid (Below (w.heap.size + 1) W1 w1) := hb1.mono (by rw [HW1.2.1]; exact Nat.le_refl _); clear hb1)
      go_loopw [6] (fun i wr => ∃ k : Nat, k ≤ an ∧ i = .int .i64 k ∧ Hid ((args.take k).all (fun a => a.all (okT 0)) = true) ∧ Below (w.heap.size + 1) W1 wr) (fun i _ => an - (intOf i).toNat)
      case atStart => exact ⟨0, by omega, rfl, rfl, HB1⟩
      case round =>
        obtain ⟨k, hk, rfl, HALL, hbel⟩ := hrel
        have HB2 : Hid (Below (w.heap.size + 1) W1 wr) := hbel
        have HB0 : Hid (Below w.heap.size w wr) := HW1.1.trans (hbel.mono (Nat.le_succ _))
        clear hbel
        by_cases hkn : k < an
        · have hki : (k : Int) < (an : Int) := by omega
          obtain ⟨ab, aoff, rfl, _, hab, hcell⟩ := HA (by omega)
          obtain ⟨cs, hcs, ⟨u, rfl, hu⟩, hcj⟩ := hcell k hkn
          obtain ⟨ux, hux⟩ : ∃ ux, ux = args.getD k [] := ⟨_, rfl⟩
          have hul : ux.length ≤ 1048576 := by rw [hux]; exact HS k (by rw [show args.length = an from HAL]; exact hkn)
          rw [← hux] at hu
          obtain ⟨ub, uoff, ucap, rfl, hucap, _, hub, huc⟩ := hu
          obtain ⟨m, hm⟩ : ∃ m, m = ux.length := ⟨_, rfl⟩
          rw [← hm] at hcj hul
          have HA0 : Hid (w.cell? ⟨ab, aoff + k, none⟩ = some (.slice (some ⟨ub, uoff, none⟩) m ucap)) := by have h := hcj 0 (by omega); show w.cell? ⟨ab, aoff + k, none⟩ = _; simpa using h
          have HU : Hid (∀ j u, (flat ux)[j]? = some u → w.cell? ⟨ub, uoff + j, none⟩ = some u) := huc
          have HM : Hid (m = ux.length) := hm
          have HUX : Hid (ux = args.getD k []) := hux
          clear hcell hcs hcj hux huc hm
          go_wp2
          go_loopw [7] (fun j wq => ∃ q : Nat, q ≤ m ∧ j = .int .i64 q ∧ Hid ((ux.take q).all (okT 0) = true) ∧ Below (w.heap.size + 1) W1 wq) (fun j _ => m - (intOf j).toNat)
          case atStart => exact ⟨0, by omega, rfl, rfl, HB2⟩
          case round =>
            obtain ⟨q, hq, rfl, HALLQ, hbelq⟩ := hrel
            have HB3 : Hid (Below (w.heap.size + 1) W1 wr) := hbelq
            have HB4 : Hid (Below w.heap.size w wr) := HW1.1.trans (hbelq.mono (Nat.le_succ _))
            clear hbelq
            have ha0 := (Below.cell HB4 (p := ⟨ab, aoff + k, none⟩) hab).trans HA0
            have haw : ab < wr.heap.size := Nat.lt_of_lt_of_le hab (Below.size HB4)
            have huw : ub < wr.heap.size := Nat.lt_of_lt_of_le hub (Below.size HB4)
            by_cases hqm : q < m
            · have hqi : (q : Int) < (m : Int) := by omega
              have hqu : q < ux.length := by rw [← show m = ux.length from HM]; exact hqm
              obtain ⟨t, ht⟩ : ∃ t, t = ux.getD q Tk.none := ⟨_, rfl⟩
              obtain ⟨f0, f1, f2⟩ := flat_get ux q hqu
              rw [← ht] at f0 f1 f2
              have g0 := (Below.cell HB4 (p := ⟨ub, uoff + q * 3, none⟩) hub).trans (HU _ _ f0)
              have g1 := (Below.cell HB4 (p := ⟨ub, uoff + q * 3 + 1, none⟩) hub).trans (HU _ _ f1)
              have g2 := (Below.cell HB4 (p := ⟨ub, uoff + q * 3 + 2, none⟩) hub).trans (HU _ _ f2)
              have DEADT : Hid (okT 0 t = false → ans = false) := by
                intro h
                rw [show ans = _ from HOK, lists_dead (k := k) (by rw [show args.length = an from HAL]; exact hkn) (by rw [← show ux = _ from HUX]; exact all_dead hqu (by rw [← ht]; exact h))]
                rfl
              have ONT : Hid (okT 0 t = true → (ux.take (q + 1)).all (okT 0) = true) := fun h => all_on hqu HALLQ (by rw [← ht]; exact h)
              clear f0 f1 f2 ht
              cases htb : tokB t.c t.h t.s with
              | false =>
                have HD : Hid (ans = false) := DEADT (okT0_no (.inl htb))
                obtain ⟨c, h, s⟩ := t
                dsimp only at g0 g1 g2 htb
                go_wp2_with (go_at_call 45; refine (specTokenOk_any _ _ _ _).mono ?_; rw [htb]; rintro e w2 ⟨rfl, hb1⟩; have HB5 : Hid (Below w.heap.size w w2) := below_more HB4 hb1 (Below.size HB4); clear hb1)
                go_ret2
                refine ⟨.slice (some ⟨w2.heap.size, 0, none⟩) 0 0, ?_, ⟨0, ?_⟩, by simp, Below.alloc HB5 (Below.size HB5) _⟩
                · rw [show ans = _ from HD]; rfl
                · rw [show R = _ from DEAD HD]; exact World.ownsRow_made _ #[] 0 (Below.size HB5) (Nat.zero_le _) (by simp)
              | true =>
                by_cases hc : t.c = 16
                · have HD : Hid (ans = false) := DEADT (okT0_no (.inr hc))
                  obtain ⟨c, h, s⟩ := t
                  dsimp only at g0 g1 g2 htb hc
                  subst hc
                  go_wp2_with (go_at_call 45; refine (specTokenOk_any _ _ _ _).mono ?_; rw [htb]; rintro e w2 ⟨rfl, hb1⟩; have ha2 := (hb1.cell (p := ⟨ab, aoff + k, none⟩) haw).trans ha0; have gg0 := (hb1.cell (p := ⟨ub, uoff + q * 3, none⟩) huw).trans g0; have HB5 : Hid (Below w.heap.size w w2) := below_more HB4 hb1 (Below.size HB4); clear hb1)
                  go_ret2
                  refine ⟨.slice (some ⟨w2.heap.size, 0, none⟩) 0 0, ?_, ⟨0, ?_⟩, by simp, Below.alloc HB5 (Below.size HB5) _⟩
                  · rw [show ans = _ from HD]; rfl
                  · rw [show R = _ from DEAD HD]; exact World.ownsRow_made _ #[] 0 (Below.size HB5) (Nat.zero_le _) (by simp)
                · have HN : Hid ((ux.take (q + 1)).all (okT 0) = true) := ONT (okT0_yes htb hc)
                  obtain ⟨c, h, s⟩ := t
                  dsimp only at g0 g1 g2 htb hc
                  have hcb : (c == 16) = false := beq_eq_false_iff_ne.2 hc
                  go_wp2_with (go_at_call 45; refine (specTokenOk_any _ _ _ _).mono ?_; rw [htb]; rintro e w2 ⟨rfl, hb1⟩; have ha2 := (hb1.cell (p := ⟨ab, aoff + k, none⟩) haw).trans ha0; have gg0 := (hb1.cell (p := ⟨ub, uoff + q * 3, none⟩) huw).trans g0; have HB5 : Hid (Below (w.heap.size + 1) W1 w2) := Below.trans HB3 (hb1.mono (by have := Below.size HB3; rw [HW1.2.1] at this; exact this)); clear hb1)
                  go_roundw
                  case rel => exact ⟨q + 1, by omega, by go_num, HN, HB5⟩
                  case measure => simp [intOf]; omega
            · have hqi : ¬ (q : Int) < (m : Int) := by omega
              obtain rfl : q = m := by omega
              have HN : Hid ((args.take (k + 1)).all (fun a => a.all (okT 0)) = true) := by
                refine lists_on (by rw [show args.length = an from HAL]; exact hkn) HALL ?_
                rw [← show ux = _ from HUX]
                have := show (ux.take q).all (okT 0) = true from HALLQ
                rwa [show q = ux.length from HM, List.take_length] at this
              go_wp2
              go_roundw
              case rel => exact ⟨k + 1, by omega, by go_num, HN, HB3⟩
              case measure => simp [intOf]; omega
        · have hki : ¬ (k : Int) < (an : Int) := by omega
          obtain rfl : k = an := by omega
          have hall : listsB args = true := by
            have := show (args.take k).all (fun a => a.all (okT 0)) = true from HALL
            rwa [← show args.length = k from HAL, List.take_length] at this
          have HFIN : Hid (ans = decide ((fill args b).length ≤ 20000) ∧ R = if (fill args b).length ≤ 20000 then fill args b else []) := by
            have h1 : ans = decide ((fill args b).length ≤ 20000) := by rw [show ans = _ from HOK, hall, Bool.true_and]
            refine ⟨h1, ?_⟩
            rw [show R = _ from HRES]
            unfold resF
            rw [← show ans = _ from HANS, h1]
            by_cases h : (fill args b).length ≤ 20000
            · rw [if_pos h, decide_eq_true h]; rfl
            · rw [if_neg h, decide_eq_false h]; rfl
          have m0 := (Below.cell HB2 (p := ⟨w.heap.size, 0, none⟩) (Nat.lt_succ_self _)).trans HW1.2.2.1
          have m1 := (Below.cell HB2 (p := ⟨w.heap.size, 1, none⟩) (Nat.lt_succ_self _)).trans HW1.2.2.2.1
          have m2 := (Below.cell HB2 (p := ⟨w.heap.size, 2, none⟩) (Nat.lt_succ_self _)).trans HW1.2.2.2.2
          have HAR : Hid (ARow 0 wr (.slice aa k acap) args) := SRow.below tssStable ⟨aa, k, acap, rfl, HAL, HA⟩ HB0
          have HBR : Hid (TOn 0 wr (.slice (some ⟨bb, boff, none⟩) bn bcap) b) := TOn.below HB HB0
          clear hall
          go_wp2_with (go_at_call 75; refine (l4Fill_any HBR HAR HSI.2.1 HSI.2.2 HS HSI.1).mono ?_; rintro e w2 ⟨v2, rfl, ho, hne, hb1⟩; rw [← HFIN.1, ← HFIN.2] at *; have HB5 : Hid (Below w.heap.size w w2) := below_more HB0 hb1 (Below.size HB0); clear hb1)
          go_ret2
          obtain ⟨n2, ho⟩ := ho
          exact ⟨v2, rfl, ⟨n2, own_mono ho (Below.size HB0)⟩, hne, HB5⟩
    · have HD : Hid (ans = false) := by rw [show ans = _ from HANS]; exact okF_len (by rw [show args.length = an from HAL]; exact han)
      go_enter Try.func37, Try.ntmps37
      go_wp2_with (go_at_call 46; refine Calls.mono HMK ?_; rintro e w1 ⟨rfl, hb1⟩; rw [← show W1 = _ from HW] at hb1; have m1 : w1.cell? ⟨w.heap.size, 1, none⟩ = some (.int .i64 sl) := (hb1.cell (p := ⟨w.heap.size, 1, none⟩) (by rw [HW1.2.1]; exact Nat.lt_succ_self _)).trans HW1.2.2.2.1; have HB1 : Hid (Below w.heap.size w w1) := HW1.1.trans (hb1.mono (by rw [HW1.2.1]; exact Nat.le_succ _)); clear hb1)
      go_ret2
      refine ⟨.slice (some ⟨w1.heap.size, 0, none⟩) 0 0, ?_, ⟨0, ?_⟩, by simp, Below.alloc HB1 (Below.size HB1) _⟩
      · rw [show ans = _ from HD]; rfl
      · rw [show R = _ from DEAD HD]; exact World.ownsRow_made _ #[] 0 (Below.size HB1) (Nat.zero_le _) (by simp)
end Go.Proofs.Ytbceblgnjicdcaa
