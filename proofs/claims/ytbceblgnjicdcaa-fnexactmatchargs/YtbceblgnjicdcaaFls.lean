/-
  The specification's filling of a body, as a walk.
-/
import Derived.Test.YtbceblgnjicdcaaCln
import Derived.Test.YtbceblgnjicdcaaOkS
namespace Go.Proofs.Ytbceblgnjicdcaa
open Go.RowKit
set_option linter.unusedVariables false
set_option linter.unusedSimpArgs false

/-- Lists of tokens that have addresses, as elements. -/
def TsS (lo : Nat) (w : World) (cs : List Value) (ts : List Tk) : Prop := ∃ v, cs = [v] ∧ TOn lo w v ts
theorem tssStable : Stable TsS where
  abv := by rintro lo w w' cs x ⟨v, rfl, h⟩ ha; exact ⟨v, rfl, h.abv ha⟩
  mono := by rintro lo lo' w cs x ⟨v, rfl, h⟩ hl; exact ⟨v, rfl, h.mono hl⟩
abbrev ARow (lo : Nat) (w : World) (v : Value) (xs : List (List Tk)) : Prop := SRow 1 TsS [] lo w v xs

theorem own_mono {base base' n : Nat} {w : World} {v : Value} {xs : List Value} (h : w.ownsRow base 31 3 v n xs) (hb : base' ≤ base) : w.ownsRow base' 31 3 v n xs := by
  obtain ⟨hl, h | ⟨g, cap, cur, rfl, hg, hr⟩⟩ := h
  · exact ⟨hl, .inl h⟩
  · exact ⟨hl, .inr ⟨g, cap, cur, rfl, Nat.le_trans hb hg, hr⟩⟩

/-- The slots of a body are those of the lists. -/
def SlotsIn (n : Nat) (b : List Tk) : Prop := ∀ i, i < b.length → (b.getD i Tk.none).c = 16 → ∃ x : Nat, x < n ∧ (b.getD i Tk.none).h = (x : Int) + 1

theorem fill_no {args : List (List Tk)} {b : List Tk} {k : Nat} (h : ¬ (fill args (b.take k)).length ≤ 20000) : ¬ (fill args b).length ≤ 20000 := by
  have := fill_le (args := args) b k
  omega

set_option maxRecDepth 100000 in
set_option maxHeartbeats 4000000 in
theorem l4Fill_any {vp va : Value} {bb boff bn bcap : Nat} {b : List Tk} {sl : Int} {args : List (List Tk)} {w : World} (hb : TOn 0 w (.slice (some ⟨bb, boff, none⟩) bn bcap) b) (ha : ARow 0 w va args) (lb : b.length ≤ 2000) (la : args.length ≤ 9) (hs : ∀ i, i < args.length → (args.getD i []).length ≤ 1048576) (hsl : SlotsIn args.length b) :
    Calls Try.prog 75 #[macV vp sl (.slice (some ⟨bb, boff, none⟩) bn bcap), va] w fun e w' => ∃ v', e = .returned (.tuple #[v', .bool (decide ((fill args b).length ≤ 20000))]) ∧ (∃ n, w'.ownsRow w.heap.size 31 3 v' n (flat (if (fill args b).length ≤ 20000 then fill args b else []))) ∧ v' ≠ .slice none 0 0 ∧ Below w.heap.size w w' := by
  obtain ⟨i0, hi, hz0, hz1, hz2⟩ := info_parts Try.info31
  obtain ⟨aa, an, acap, rfl, hal, har⟩ := ha
  have hb' := hb
  obtain ⟨b2, off2, cap2, e, hbcap, _, hbb, hbc⟩ := hb'
  simp at e
  obtain ⟨⟨rfl, rfl⟩, hbl, rfl⟩ := e
  rw [← hbl] at lb
  rw [hal] at la
  have HBC : Hid (∀ j u, (flat b)[j]? = some u → w.cell? ⟨bb, boff + j, none⟩ = some u) := hbc
  have HA : Hid (0 < an → ∃ b off, aa = some ⟨b, off, none⟩ ∧ 0 ≤ b ∧ b < w.heap.size ∧ ∀ i, i < an → ∃ cs : List Value, cs.length = 1 ∧ TsS 0 w cs (args.getD i []) ∧ ∀ j, j < 1 → w.cell? ⟨b, off + i * 1 + j, none⟩ = cs[j]?) := har
  have HS : Hid (∀ i, i < args.length → (args.getD i []).length ≤ 1048576) := hs
  have HSL : Hid (SlotsIn args.length b) := hsl
  have HBL : Hid (b.length = bn) := hbl.symm
  have HAL : Hid (args.length = an) := hal
  obtain ⟨ans, hans⟩ : ∃ a, a = decide ((fill args b).length ≤ 20000) := ⟨_, rfl⟩
  rw [← hans]
  have HANS : Hid (ans = decide ((fill args b).length ≤ 20000)) := hans
  obtain ⟨R, hR⟩ : ∃ R, R = (if (fill args b).length ≤ 20000 then fill args b else []) := ⟨_, rfl⟩
  rw [← hR]
  have HRES : Hid (R = (if (fill args b).length ≤ 20000 then fill args b else [])) := hR
  obtain ⟨W1, hW1⟩ : ∃ W, W = w.alloc (.cells #[vp, .int .i64 sl, .slice (some ⟨bb, boff, none⟩) bn bcap] 34) := ⟨_, rfl⟩
  have HW1 : Hid (Below w.heap.size w W1 ∧ W1.heap.size = w.heap.size + 1 ∧ W1.cell? ⟨w.heap.size, 2, none⟩ = some (.slice (some ⟨bb, boff, none⟩) bn bcap)) := by rw [hW1]; exact ⟨below1 w _, by simp, by simp⟩
  have HI : Hid (W1.alloc (.cells #[] 31) |>.ownsRow (w.heap.size + 1) 31 3 (.slice (some ⟨w.heap.size + 1, 0, none⟩) 0 0) 0 (flat (fill args (b.take 0)))) := by
    have h := World.ownsRow_made (base := w.heap.size + 1) (e := 31) (size := 3) W1 #[] 0 (by rw [HW1.2.1]; exact Nat.le_refl _) (Nat.zero_le _) (by simp)
    rw [HW1.2.1] at h
    exact h
  have HI2 : Hid (Below (w.heap.size + 1) W1 (W1.alloc (.cells #[] 31))) := (Below.refl _ _).alloc (by rw [HW1.2.1]; exact Nat.le_refl _) _
  have HW : Hid (W1 = w.alloc (.cells #[vp, .int .i64 sl, .slice (some ⟨bb, boff, none⟩) bn bcap] 34)) := hW1
  clear hb har hs hsl hbl hal hans hbc hW1 hR
  go_enter Try.func75, Try.ntmps75
  go_wp2_with fail
  go_loopw [6, 7] (fun o i wr => ∃ k : Nat, k ≤ bn ∧ i = .int .i64 k ∧ (∃ n, wr.ownsRow (w.heap.size + 1) 31 3 o n (flat (fill args (b.take k)))) ∧ o ≠ .slice none 0 0 ∧ (fill args (b.take k)).length ≤ 20000 ∧ Below (w.heap.size + 1) W1 wr) (fun _ i _ => bn - (intOf i).toNat)
  case atStart =>
    have h1 := show _ = _ from HW
    refine ⟨0, by omega, rfl, ⟨0, ?_⟩, by simp, by simp [fill], ?_⟩
    · rw [← h1]; exact HI
    · rw [← h1]; exact HI2
  case round =>
    obtain ⟨k, hk, rfl, ⟨nf, hown⟩, hne, hlen, hbel⟩ := hrel
    obtain ⟨F, hF⟩ : ∃ F, F = fill args (b.take k) := ⟨_, rfl⟩
    rw [← hF] at hown hlen
    have hnf : nf = F.length := by have := hown.1; rw [flat_len] at this; omega
    rw [← hnf] at hlen
    have hB0 : Below w.heap.size w wr := HW1.1.trans (hbel.mono (Nat.le_succ _))
    have hsz1 : w.heap.size < wr.heap.size := by have := hbel.size; rw [HW1.2.1] at this; omega
    have m2 : wr.cell? ⟨w.heap.size, 2, none⟩ = some (.slice (some ⟨bb, boff, none⟩) bn bcap) := (hbel.cell (p := ⟨w.heap.size, 2, none⟩) (Nat.lt_succ_self _)).trans HW1.2.2
    obtain ⟨ao, ocap, rfl, hsh⟩ := own_shape hown
    have HOWN : Hid (wr.ownsRow (w.heap.size + 1) 31 3 (.slice ao nf ocap) nf (flat F)) := hown
    have HBEL : Hid (Below (w.heap.size + 1) W1 wr) := hbel
    have HF : Hid (F = fill args (b.take k)) := hF
    have HNF : Hid (nf = F.length) := hnf
    have HNE : Hid (Value.slice ao nf ocap ≠ .slice none 0 0) := hne
    have HB0 : Hid (Below w.heap.size w wr) := hB0
    clear hown hbel hF hnf hsh hB0 hne
    by_cases hkn : k < bn
    · have hki : (k : Int) < (bn : Int) := by omega
      have hkb : k < b.length := by rw [show b.length = bn from HBL]; exact hkn
      obtain ⟨t, ht⟩ : ∃ t, t = b.getD k Tk.none := ⟨_, rfl⟩
      obtain ⟨f0, f1, f2⟩ := flat_get b k hkb
      rw [← ht] at f0 f1 f2
      have g0 := (Below.cell HB0 (p := ⟨bb, boff + k * 3, none⟩) hbb).trans (HBC _ _ f0)
      have g1 := (Below.cell HB0 (p := ⟨bb, boff + k * 3 + 1, none⟩) hbb).trans (HBC _ _ f1)
      have g2 := (Below.cell HB0 (p := ⟨bb, boff + k * 3 + 2, none⟩) hbb).trans (HBC _ _ f2)
      have hbw : bb < wr.heap.size := Nat.lt_of_lt_of_le hbb (Below.size HB0)
      have HST : Hid (fill args (b.take (k + 1)) = F ++ part args t) := by rw [show F = _ from HF, ht]; exact fill_take hkb
      have hsl := HSL k hkb
      rw [← ht] at hsl
      clear f0 f1 f2 ht
      by_cases hc : t.c = 16
      · obtain ⟨x, hxn, hxh⟩ := hsl hc
        rw [show args.length = an from HAL] at hxn
        obtain ⟨ab, aoff, rfl, _, hab, hcell⟩ := HA (by omega)
        obtain ⟨cs, hcs, ⟨u, rfl, hu⟩, hcj⟩ := hcell x hxn
        obtain ⟨ux, hux⟩ : ∃ ux, ux = args.getD x [] := ⟨_, rfl⟩
        have hul : ux.length ≤ 1048576 := by rw [hux]; exact HS x (by rw [show args.length = an from HAL]; exact hxn)
        rw [← hux] at hu
        have hpart : part args t = ux := by unfold part; rw [if_pos hc, hxh, hux]; simp
        rw [hpart] at HST
        obtain ⟨ub, uoff, ucap, rfl, hucap, _, hub, huc⟩ := hu
        obtain ⟨m, hm⟩ : ∃ m, m = ux.length := ⟨_, rfl⟩
        rw [← hm] at hcj hul
        have ha0 : wr.cell? ⟨ab, aoff + x, none⟩ = some (.slice (some ⟨ub, uoff, none⟩) m ucap) := by have h := (Below.cell HB0 (p := ⟨ab, aoff + x * 1 + 0, none⟩) hab).trans (hcj 0 (by omega)); simpa using h
        have haw : ab < wr.heap.size := Nat.lt_of_lt_of_le hab (Below.size HB0)
        have HU : Hid (∀ j u, (flat ux)[j]? = some u → wr.cell? ⟨ub, uoff + j, none⟩ = some u) := fun j u hj => (Below.cell HB0 (p := ⟨ub, uoff + j, none⟩) hub).trans (huc j u hj)
        have HM : Hid (m = ux.length) := hm
        obtain ⟨c, h, s⟩ := t
        dsimp only at g0 g1 g2 hc hxh
        subst hc hxh
        clear hcell hcs hcj hux huc hm hsl hpart
        have hxa : (x : Int) < (an : Int) := by omega
        have hx1 : (x : Int) + 1 - 1 = (x : Int) := by omega
        go_wp2_with (at_builtin; refine wpList_append_own _ rfl _ _ 32 rfl (w.heap.size + 1) 31 i0 _ 3 32 Try.underlying32 hi hz0 hz1 hz2 rfl (by decide) _ _ _ rfl (World.ownsRow.alloc HOWN _) ⟨ub, uoff, none⟩ m ucap (flat ux) rfl ?c1 ?c2 ?c3 ?c4 ?c5 ?c6 ?_)
        case c1 => rw [flat_len, ← show m = ux.length from HM]
        case c2 =>
          intro j u hj
          rw [Addr.add_lit]
          exact Lib.cell?_alloc_some _ (HU j u hj)
        case c3 => exact flat_one ux
        case c4 => unfold maxLen; omega
        case c5 => omega
        case c6 => simp; omega
        intro v' w2 hown' hgrow hnil'
        have hB2 : Below (w.heap.size + 1) W1 w2 := (Below.alloc HBEL (by omega) _).grown hgrow (by simp; omega) (fun r hr => (World.ownsRow.lt HOWN r hr).1)
        rw [← flat_app] at hown'
        obtain ⟨ao2, ocap2, rfl, _⟩ := own_shape hown'
        have HO2 : Hid (w2.ownsRow (w.heap.size + 1) 31 3 (.slice ao2 (nf + m) ocap2) (nf + m) (flat (fill args (b.take (k + 1)))) ∧ Below (w.heap.size + 1) W1 w2 ∧ Value.slice ao2 (nf + m) ocap2 ≠ .slice none 0 0) := by
          refine ⟨by rw [show fill args (b.take (k + 1)) = F ++ ux from HST]; exact hown', hB2, fun h => ?_⟩
          obtain ⟨h1, h2, h3⟩ := (hnil'.1 h).1; exact HNE (by rw [h1, h2, h3])
        have HLN : Hid (nf + m = (fill args (b.take (k + 1))).length) := by show nf + m = _; rw [show fill args (b.take (k + 1)) = F ++ ux from HST, List.length_append, ← show nf = F.length from HNF, ← show m = ux.length from HM]
        clear hown' hgrow hnil' hB2
        obtain ⟨q, hq⟩ : ∃ q, q = nf + m := ⟨_, rfl⟩
        rw [← hq] at HO2 HLN
        rw [← hq]
        have hq2 : q ≤ 9223372036854775807 := by omega
        clear hq
        by_cases hbig : q ≤ 20000
        · have hbi : ¬ (20000 : Int) < (q : Int) := by omega
          go_wp2
          go_roundw
          case rel => exact ⟨k + 1, by omega, by go_num, ⟨_, HO2.1⟩, HO2.2.2, by rw [← show q = _ from HLN]; exact hbig, HO2.2.1⟩
          case measure => simp [intOf]; omega
        · have hbi : (20000 : Int) < (q : Int) := by omega
          have HN : Hid (¬ (fill args b).length ≤ 20000) := fill_no (k := k + 1) (by rw [← show q = _ from HLN]; exact hbig)
          go_wp2
          go_ret2
          refine ⟨.slice (some ⟨w2.heap.size, 0, none⟩) 0 0, ?_, ⟨0, ?_⟩, by simp, ?_⟩
          · rw [show ans = _ from HANS, decide_eq_false HN]; rfl
          · rw [show R = _ from HRES, if_neg HN]; exact World.ownsRow_made _ #[] 0 (by have := Below.size HO2.2.1; rw [HW1.2.1] at this; omega) (Nat.zero_le _) (by simp)
          · exact (HW1.1.trans (HO2.2.1.mono (Nat.le_succ _))).alloc (by have := Below.size HO2.2.1; rw [HW1.2.1] at this; omega) _
      · have hpart : part args t = [t] := by unfold part; rw [if_neg hc]
        rw [hpart] at HST
        obtain ⟨c, h, s⟩ := t
        dsimp only at g0 g1 g2 hc
        have hcb : (c == 16) = false := beq_eq_false_iff_ne.2 hc
        clear hsl hpart
        go_wp2_with (at_builtin; refine wpList_append_own _ rfl _ _ 32 rfl (w.heap.size + 1) 31 i0 _ 3 32 Try.underlying32 hi hz0 hz1 hz2 rfl (by decide) _ _ _ rfl (World.ownsRow.alloc (World.ownsRow.alloc HOWN _) _) ⟨wr.heap.size + 1, 0, none⟩ 1 1 (flat [⟨c, h, s⟩]) rfl ?d1 ?d2 ?d3 ?d4 ?d5 ?d6 ?_)
        case d1 => rfl
        case d2 =>
          intro j u hj
          match j, hj with
          | 0, hj => simp [flat] at hj; subst hj; simp [Addr.add]
          | 1, hj => simp [flat] at hj; subst hj; simp [Addr.add]
          | 2, hj => simp [flat] at hj; subst hj; simp [Addr.add]
          | j + 3, hj => simp [flat] at hj
        case d3 => exact flat_one _
        case d4 => unfold maxLen; omega
        case d5 => omega
        case d6 => simp; omega
        intro v' w2 hown' hgrow hnil'
        have hB2 : Below (w.heap.size + 1) W1 w2 := (Below.alloc (Below.alloc HBEL (by omega) _) (by simp; omega) _).grown hgrow (by simp; omega) (fun r hr => (World.ownsRow.lt HOWN r hr).1)
        rw [← flat_app] at hown'
        obtain ⟨ao2, ocap2, rfl, _⟩ := own_shape hown'
        have HO2 : Hid (w2.ownsRow (w.heap.size + 1) 31 3 (.slice ao2 (nf + 1) ocap2) (nf + 1) (flat (fill args (b.take (k + 1)))) ∧ Below (w.heap.size + 1) W1 w2 ∧ Value.slice ao2 (nf + 1) ocap2 ≠ .slice none 0 0) := by
          refine ⟨by rw [show fill args (b.take (k + 1)) = F ++ [⟨c, h, s⟩] from HST]; exact hown', hB2, fun h => ?_⟩
          exact hnil' h
        have HLN : Hid (nf + 1 = (fill args (b.take (k + 1))).length) := by show nf + 1 = _; rw [show fill args (b.take (k + 1)) = F ++ [⟨c, h, s⟩] from HST, List.length_append, ← show nf = F.length from HNF]; rfl
        clear hown' hgrow hnil' hB2
        obtain ⟨q, hq⟩ : ∃ q, q = nf + 1 := ⟨_, rfl⟩
        rw [← hq] at HO2 HLN
        rw [← hq]
        have hq2 : q ≤ 9223372036854775807 := by omega
        clear hq
        by_cases hbig : q ≤ 20000
        · have hbi : ¬ (20000 : Int) < (q : Int) := by omega
          go_wp2
          go_roundw
          case rel => exact ⟨k + 1, by omega, by go_num, ⟨_, HO2.1⟩, HO2.2.2, by rw [← show q = _ from HLN]; exact hbig, HO2.2.1⟩
          case measure => simp [intOf]; omega
        · have hbi : (20000 : Int) < (q : Int) := by omega
          have HN : Hid (¬ (fill args b).length ≤ 20000) := fill_no (k := k + 1) (by rw [← show q = _ from HLN]; exact hbig)
          go_wp2
          go_ret2
          refine ⟨.slice (some ⟨w2.heap.size, 0, none⟩) 0 0, ?_, ⟨0, ?_⟩, by simp, ?_⟩
          · rw [show ans = _ from HANS, decide_eq_false HN]; rfl
          · rw [show R = _ from HRES, if_neg HN]; exact World.ownsRow_made _ #[] 0 (by have := Below.size HO2.2.1; rw [HW1.2.1] at this; omega) (Nat.zero_le _) (by simp)
          · exact (HW1.1.trans (HO2.2.1.mono (Nat.le_succ _))).alloc (by have := Below.size HO2.2.1; rw [HW1.2.1] at this; omega) _
    · have hki : ¬ (k : Int) < (bn : Int) := by omega
      obtain rfl : k = bn := by omega
      have hfull : fill args (b.take k) = fill args b := by rw [← show b.length = k from HBL, List.take_length]
      have hlen2 : (fill args b).length ≤ 20000 := by rw [← hfull, ← show F = _ from HF, ← show nf = F.length from HNF]; exact hlen
      have HP : Hid (ans = true ∧ wr.ownsRow w.heap.size 31 3 (.slice ao nf ocap) nf (flat (fill args b)) ∧ (fill args b).length ≤ 20000) := by
        refine ⟨by rw [show ans = _ from HANS]; simp [hlen2], ?_, hlen2⟩
        rw [← hfull, ← show F = _ from HF]
        exact own_mono HOWN (Nat.le_succ _)
      clear hfull hlen2
      go_wp2
      go_ret2
      refine ⟨_, ?_, ⟨nf, ?_⟩, HNE, HB0⟩
      · rw [HP.1]; rfl
      · rw [show R = _ from HRES, if_pos HP.2.2]; exact HP.2.1
end Go.Proofs.Ytbceblgnjicdcaa
