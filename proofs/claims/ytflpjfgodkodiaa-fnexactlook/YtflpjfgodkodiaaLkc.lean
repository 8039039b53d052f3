/-
  What a name means, copied: the program's and the specification's way.
-/
import Derived.Test.YtflpjfgodkodiaaLkS
import Derived.Test.YtflpjfgodkodiaaCln
import Derived.Test.YtflpjfgodkodiaaFls
namespace Go.Proofs.Ytflpjfgodkodiaa
open Go.RowKit
set_option linter.unusedVariables false
set_option linter.unusedSimpArgs false

theorem byte_three (x y : UInt8) : x < y ∨ y < x ∨ x = y := by
  rcases Nat.lt_trichotomy x.toNat y.toNat with h | h | h
  · exact .inl (UInt8.lt_iff_toNat_lt.2 h)
  · exact .inr (.inr (UInt8.toNat_inj.1 h))
  · exact .inr (.inl (UInt8.lt_iff_toNat_lt.2 h))
theorem byte_not {x y : UInt8} (h : x < y) : ¬ y < x := by
  rw [UInt8.lt_iff_toNat_lt] at h ⊢
  omega
theorem byte_irr (x : UInt8) : ¬ x < x := by
  rw [UInt8.lt_iff_toNat_lt]
  omega
theorem cmp_less : ∀ a b : List UInt8, (Lib.compareBytes a b < 0) ↔ (Op.bytesLess a b = true)
  | [], [] => by simp [Lib.compareBytes, Op.bytesLess]
  | [], y :: b => by simp [Lib.compareBytes, Op.bytesLess]
  | x :: a, [] => by simp [Lib.compareBytes, Op.bytesLess]
  | x :: a, y :: b => by
    have ih := cmp_less a b
    simp only [Lib.compareBytes, Op.bytesLess]
    rcases byte_three x y with h | h | rfl
    · simp [h]
    · have hne : (x == y) = false := beq_eq_false_iff_ne.2 (fun e => by rw [e] at h; exact byte_irr _ h)
      simp [h, byte_not h, hne]
    · simp [byte_irr x, ih]
theorem cmp_same : ∀ a b : List UInt8, (Lib.compareBytes a b = 0) ↔ a = b
  | [], [] => by simp [Lib.compareBytes]
  | [], y :: b => by simp [Lib.compareBytes]
  | x :: a, [] => by simp [Lib.compareBytes]
  | x :: a, y :: b => by
    have ih := cmp_same a b
    simp only [Lib.compareBytes]
    rcases byte_three x y with h | h | rfl
    · have hne : x ≠ y := fun e => by rw [e] at h; exact byte_irr _ h
      simp [h, hne]
    · have hne : x ≠ y := fun e => by rw [e] at h; exact byte_irr _ h
      simp [h, byte_not h, hne]
    · simp [byte_irr x, ih]
set_option maxRecDepth 100000 in
set_option maxHeartbeats 4000000 in
theorem lookCmp_any {x : Bd} {vp vb : Value} {nm : ByteArray} (w : World) : Calls Try.prog 59 #[bdV x vp vb, .string nm] w fun e w' => e = .returned (.int .i64 (Lib.compareBytes x.nm.data.toList nm.data.toList)) ∧ Below w.heap.size w w' := by
  go_enter Try.func59, Try.ntmps59
  go_wp2_with (go_at_call 60; refine (Try.strings_Compare _ _ _).mono ?_; rintro e w1 ⟨rfl, rfl⟩)
  go_ret
  exact ⟨rfl, below1 _ _⟩

set_option maxRecDepth 100000 in
set_option maxHeartbeats 4000000 in
theorem search_any {v : Value} {bs : List Bd} {nm : ByteArray} {w : World} (h : BRow 0 w v bs) (hn : bs.length ≤ 1048576) :
    Calls Try.prog 58 #[v, .string nm, .func (.func 59) #[] #[]] w fun e w' => e = .returned (.tuple #[.int .i64 (placeOf bs nm : Int), .bool (foundB bs nm)]) ∧ Below w.heap.size w w' := by
  obtain ⟨ao, n, cap, rfl, hl, hr⟩ := h
  rw [hl] at hn
  have HR : Hid (0 < n → ∃ b off, ao = some ⟨b, off, none⟩ ∧ 0 ≤ b ∧ b < w.heap.size ∧ ∀ i, i < n → ∃ cs : List Value, cs.length = 9 ∧ BdR 0 w cs (bs.getD i Bd.none) ∧ ∀ j, j < 9 → w.cell? ⟨b, off + i * 9 + j, none⟩ = cs[j]?) := hr
  have HL : Hid (bs.length = n) := hl
  obtain ⟨pl, hpl⟩ : ∃ x, x = placeOf bs nm := ⟨_, rfl⟩
  obtain ⟨fo, hfo⟩ : ∃ x, x = foundB bs nm := ⟨_, rfl⟩
  rw [← hpl, ← hfo]
  have HPL : Hid (pl = placeOf bs nm) := hpl
  have HFO : Hid (fo = foundB bs nm) := hfo
  clear hr hl hpl hfo
  go_enter Try.func58, Try.ntmps58
  go_wp2_with fail
  go_loopw [9, 10] (fun l h wr => ∃ low high : Nat, low ≤ high ∧ high ≤ n ∧ l = .int .i64 low ∧ h = .int .i64 high ∧ Hid (halve (lessAt bs nm) n low high = placeOf bs nm) ∧ Below w.heap.size w wr) (fun l h _ => (intOf h).toNat - (intOf l).toNat)
  case atStart => exact ⟨0, n, by omega, by omega, rfl, rfl, by show _ = _; unfold placeOf; rw [show bs.length = n from HL], Below.refl _ _⟩
  case round =>
    obtain ⟨low, high, hlh, hhn, rfl, rfl, HH, hbel⟩ := hrel
    have HB : Hid (Below w.heap.size w wr) := hbel
    clear hbel
    by_cases hlt : low < high
    · have hlti : (low : Int) < (high : Int) := by omega
      obtain ⟨b, off, rfl, _, hb, hc⟩ := HR (by omega)
      obtain ⟨mid, hmid⟩ : ∃ mid, mid = (low + high) / 2 := ⟨_, rfl⟩
      obtain ⟨cs, hcl, hRel, hcj⟩ := hc mid (by omega)
      obtain ⟨y, hy⟩ : ∃ y, y = bs.getD mid Bd.none := ⟨_, rfl⟩
      rw [← hy] at hRel
      obtain ⟨u2, z2, rfl, hp1, hp2⟩ := hRel
      obtain ⟨ynm, ⟨mk, mn, mt, mp, ms, mb⟩⟩ := y
      obtain ⟨pa, pn, pc, rfl⟩ := hp1.shape
      obtain ⟨qa, qn, qc, rfl⟩ := hp2.shape
      dsimp only at hcj
      have g0 : wr.cell? ⟨b, off + mid * 9, none⟩ = some (.string ynm) := (Below.cell HB (p := ⟨b, off + mid * 9, none⟩) hb).trans (hcj 0 (by omega))
      have g1 : wr.cell? ⟨b, off + mid * 9 + 1, none⟩ = some (.int .i64 mk) := (Below.cell HB (p := ⟨b, off + mid * 9 + 1, none⟩) hb).trans (hcj 1 (by omega))
      have g2 : wr.cell? ⟨b, off + mid * 9 + 2, none⟩ = some (.int .i64 mn) := (Below.cell HB (p := ⟨b, off + mid * 9 + 2, none⟩) hb).trans (hcj 2 (by omega))
      have g3 : wr.cell? ⟨b, off + mid * 9 + 3, none⟩ = some (.int .i64 mt.c) := (Below.cell HB (p := ⟨b, off + mid * 9 + 3, none⟩) hb).trans (hcj 3 (by omega))
      have g4 : wr.cell? ⟨b, off + mid * 9 + 4, none⟩ = some (.int .i64 mt.h) := (Below.cell HB (p := ⟨b, off + mid * 9 + 4, none⟩) hb).trans (hcj 4 (by omega))
      have g5 : wr.cell? ⟨b, off + mid * 9 + 5, none⟩ = some (.string mt.s) := (Below.cell HB (p := ⟨b, off + mid * 9 + 5, none⟩) hb).trans (hcj 5 (by omega))
      have g6 : wr.cell? ⟨b, off + mid * 9 + 6, none⟩ = some (.slice pa pn pc) := (Below.cell HB (p := ⟨b, off + mid * 9 + 6, none⟩) hb).trans (hcj 6 (by omega))
      have g7 : wr.cell? ⟨b, off + mid * 9 + 7, none⟩ = some (.int .i64 ms) := (Below.cell HB (p := ⟨b, off + mid * 9 + 7, none⟩) hb).trans (hcj 7 (by omega))
      have g8 : wr.cell? ⟨b, off + mid * 9 + 8, none⟩ = some (.slice qa qn qc) := (Below.cell HB (p := ⟨b, off + mid * 9 + 8, none⟩) hb).trans (hcj 8 (by omega))
      obtain ⟨C, hC⟩ : ∃ C, C = Lib.compareBytes ynm.data.toList nm.data.toList := ⟨_, rfl⟩
      have HCC : Hid (∀ w : World, Calls Try.prog 59 #[bdV ⟨ynm, ⟨mk, mn, mt, mp, ms, mb⟩⟩ (.slice pa pn pc) (.slice qa qn qc), .string nm] w fun e w' => e = .returned (.int .i64 C) ∧ Below w.heap.size w w') := fun w => by rw [hC]; exact lookCmp_any w
      have hless : (C < 0) ↔ lessAt bs nm mid = true := by
        unfold lessAt
        rw [← hy, hC, cmp_less, ByteArray.toList_eq, ByteArray.toList_eq]
      have hmi : ((low : Int) + (high : Int)) / 2 = (mid : Int) := by omega
      have hm1 : mid < high := by omega
      have hm2 : low ≤ mid := by omega
      have hmq : (mid : Int) < (n : Int) := by omega
      have HMID : Hid (mid = (low + high) / 2) := hmid
      clear hc hcj hcl hy hmid hC
      by_cases hneg : C < 0
      · have HN : Hid (halve (lessAt bs nm) n (mid + 1) high = placeOf bs nm) := by
          show _ = _
          rw [← show _ = placeOf bs nm from HH, halve_up (h := high) (l := low) (by omega) (by omega) (by rw [← show mid = (low + high) / 2 from HMID]; exact hless.1 hneg), ← show mid = (low + high) / 2 from HMID]
        clear hless
        go_wp2_with (go_at_call 59; refine Calls.mono (HCC _) ?_; rintro e w2 ⟨rfl, hb1⟩; have HB2 : Hid (Below w.heap.size w w2) := below_more HB hb1 (Below.size HB); clear hb1)
        go_roundw
        case rel => exact ⟨mid + 1, high, by omega, by omega, by go_num, rfl, HN, HB2⟩
        case measure => simp [intOf]; omega
      · have HN : Hid (halve (lessAt bs nm) n low mid = placeOf bs nm) := by
          show _ = _
          have hfalse : lessAt bs nm mid = false := by
            cases h : lessAt bs nm mid with
            | false => rfl
            | true => exact absurd (hless.2 h) hneg
          rw [← show _ = placeOf bs nm from HH, halve_down (h := high) (l := low) (by omega) (by omega) (by rw [← show mid = (low + high) / 2 from HMID]; exact hfalse), ← show mid = (low + high) / 2 from HMID]
        clear hless
        go_wp2_with (go_at_call 59; refine Calls.mono (HCC _) ?_; rintro e w2 ⟨rfl, hb1⟩; have HB2 : Hid (Below w.heap.size w w2) := below_more HB hb1 (Below.size HB); clear hb1)
        go_roundw
        case rel => exact ⟨low, mid, by omega, by omega, rfl, by go_num, HN, HB2⟩
        case measure => simp [intOf]; omega
    · have hlti : ¬ (low : Int) < (high : Int) := by omega
      obtain rfl : low = high := by omega
      have hpe : pl = low := by rw [show pl = _ from HPL, ← show _ = placeOf bs nm from HH, halve_end hlt]
      have HPE : Hid (pl = low) := hpe
      by_cases hln : low < n
      · have hlni : (low : Int) < (n : Int) := by omega
        obtain ⟨b, off, rfl, _, hb, hc⟩ := HR (by omega)
        obtain ⟨cs, hcl, hRel, hcj⟩ := hc low hln
        obtain ⟨y, hy⟩ : ∃ y, y = bs.getD low Bd.none := ⟨_, rfl⟩
        rw [← hy] at hRel
        obtain ⟨u2, z2, rfl, hp1, hp2⟩ := hRel
        obtain ⟨ynm, ⟨mk, mn, mt, mp, ms, mb⟩⟩ := y
        obtain ⟨pa, pn, pc, rfl⟩ := hp1.shape
        obtain ⟨qa, qn, qc, rfl⟩ := hp2.shape
        dsimp only at hcj
        have g0 : wr.cell? ⟨b, off + low * 9, none⟩ = some (.string ynm) := (Below.cell HB (p := ⟨b, off + low * 9, none⟩) hb).trans (hcj 0 (by omega))
        have g1 : wr.cell? ⟨b, off + low * 9 + 1, none⟩ = some (.int .i64 mk) := (Below.cell HB (p := ⟨b, off + low * 9 + 1, none⟩) hb).trans (hcj 1 (by omega))
        have g2 : wr.cell? ⟨b, off + low * 9 + 2, none⟩ = some (.int .i64 mn) := (Below.cell HB (p := ⟨b, off + low * 9 + 2, none⟩) hb).trans (hcj 2 (by omega))
        have g3 : wr.cell? ⟨b, off + low * 9 + 3, none⟩ = some (.int .i64 mt.c) := (Below.cell HB (p := ⟨b, off + low * 9 + 3, none⟩) hb).trans (hcj 3 (by omega))
        have g4 : wr.cell? ⟨b, off + low * 9 + 4, none⟩ = some (.int .i64 mt.h) := (Below.cell HB (p := ⟨b, off + low * 9 + 4, none⟩) hb).trans (hcj 4 (by omega))
        have g5 : wr.cell? ⟨b, off + low * 9 + 5, none⟩ = some (.string mt.s) := (Below.cell HB (p := ⟨b, off + low * 9 + 5, none⟩) hb).trans (hcj 5 (by omega))
        have g6 : wr.cell? ⟨b, off + low * 9 + 6, none⟩ = some (.slice pa pn pc) := (Below.cell HB (p := ⟨b, off + low * 9 + 6, none⟩) hb).trans (hcj 6 (by omega))
        have g7 : wr.cell? ⟨b, off + low * 9 + 7, none⟩ = some (.int .i64 ms) := (Below.cell HB (p := ⟨b, off + low * 9 + 7, none⟩) hb).trans (hcj 7 (by omega))
        have g8 : wr.cell? ⟨b, off + low * 9 + 8, none⟩ = some (.slice qa qn qc) := (Below.cell HB (p := ⟨b, off + low * 9 + 8, none⟩) hb).trans (hcj 8 (by omega))
        obtain ⟨C, hC⟩ : ∃ C, C = Lib.compareBytes ynm.data.toList nm.data.toList := ⟨_, rfl⟩
        have HCC : Hid (∀ w : World, Calls Try.prog 59 #[bdV ⟨ynm, ⟨mk, mn, mt, mp, ms, mb⟩⟩ (.slice pa pn pc) (.slice qa qn qc), .string nm] w fun e w' => e = .returned (.int .i64 C) ∧ Below w.heap.size w w') := fun w => by rw [hC]; exact lookCmp_any w
        have HFF : Hid (fo = (C == 0)) := by
          show fo = _
          rw [show fo = _ from HFO]
          unfold foundB
          rw [← show pl = _ from HPL, hpe, ← hy, show bs.length = n from HL, decide_eq_true hln, Bool.true_and, ByteArray.toList_eq, ByteArray.toList_eq, hC]
          cases h : (ynm.data.toList == nm.data.toList) with
          | true => rw [(cmp_same _ _).2 (by simpa using h)]; rfl
          | false =>
            have : Lib.compareBytes ynm.data.toList nm.data.toList ≠ 0 := fun e => by rw [(cmp_same _ _).1 e] at h; simp at h
            exact (beq_eq_false_iff_ne.2 this).symm
        clear hc hcj hcl hy hC hpe
        have hbw : b < wr.heap.size := Nat.lt_of_lt_of_le hb (Below.size HB)
        go_wp2_with fail
        refine Calls.mono (HCC _) ?_
        rintro e w2 ⟨rfl, hb1⟩
        have HB2 : Hid (Below w.heap.size w w2) := below_more HB hb1 (Below.size HB)
        clear hb1
        by_cases hC0 : C = 0
        · have HFT : Hid (fo = true) := by show fo = _; rw [show fo = _ from HFF, hC0]; rfl
          clear HFF
          subst hC0
          go_wp2
          go_ret2
          refine ⟨?_, HB2⟩
          rw [show pl = _ from HPE, show fo = _ from HFT]
          rfl
        · have hcb : (C == 0) = false := beq_eq_false_iff_ne.2 hC0
          have HFT : Hid (fo = false) := by show fo = _; rw [show fo = _ from HFF, hcb]
          clear HFF
          go_wp2
          go_ret2
          refine ⟨?_, HB2⟩
          rw [show pl = _ from HPE, show fo = _ from HFT]
          rfl
      · have hlni : ¬ (low : Int) < (n : Int) := by omega
        have HFF : Hid (fo = false) := by
          show fo = _
          rw [show fo = _ from HFO]
          unfold foundB
          rw [← show pl = _ from HPL, hpe, show bs.length = n from HL, decide_eq_false hln, Bool.false_and]
        clear hpe
        go_wp2
        go_ret2
        refine ⟨?_, HB⟩
        rw [show pl = _ from HPE, show fo = _ from HFF]
        rfl

end Go.Proofs.Ytflpjfgodkodiaa

namespace Go.Proofs.Ytflpjfgodkodiaa
open Go.RowKit
set_option linter.unusedVariables false
set_option linter.unusedSimpArgs false

theorem own_set {base n b o : Nat} {w : World} {v x : Value} {xs : List Value} (h : w.ownsRow base 31 3 v n xs) (hb : b < base) : (w.setCell ⟨b, o, none⟩ x).ownsRow base 31 3 v n xs := by
  obtain ⟨hl, h | ⟨g, cap, cur, rfl, hg, hbk, hr⟩⟩ := h
  · exact ⟨hl, .inl h⟩
  · exact ⟨hl, .inr ⟨g, cap, cur, rfl, hg, (heap_setCell_other w ⟨b, o, none⟩ g x (by show g ≠ b; omega)).trans hbk, hr⟩⟩

/-- Few and short: what is copied. -/
def SmStr (ts : List Tk) : Prop := ts.length ≤ 1048576 ∧ ∀ i, i < ts.length → (ts.getD i Tk.none).s.size ≤ 281474976710656

set_option maxRecDepth 100000 in
set_option maxHeartbeats 4000000 in
theorem copyMean_any {m : Mn} {vp vb : Value} {w : World} (hp : TN 0 w vp m.p) (hb : TN 0 w vb m.b) (sp : SmStr m.p) (sb : SmStr m.b) (st : m.t.s.size ≤ 281474976710656) :
    Calls Try.prog 61 #[mnV m vp vb] w fun e w' => ∃ vp' vb', e = .returned (mnV m vp' vb') ∧ (∃ n, w'.ownsRow w.heap.size 31 3 vp' n (flat m.p)) ∧ (∃ n mid, w'.ownsRow mid 31 3 vb' n (flat m.b) ∧ w.heap.size ≤ mid ∧ ∀ g, vp'.ownBlock = some g → g < mid) ∧ Below w.heap.size w w' := by
  obtain ⟨k, n, t, p, sl, b⟩ := m
  have HP : Hid (TN 0 w vp p) := hp
  have HB : Hid (TN 0 w vb b) := hb
  obtain ⟨ao, n1, cap, rfl, hx, hy⟩ := hp.row
  obtain ⟨ao2, n2, cap2, rfl, hx2, hy2⟩ := hb.row
  have HS : Hid (SmStr p ∧ SmStr b) := ⟨sp, sb⟩
  dsimp only at st
  clear hx hy hx2 hy2 hp hb sp sb
  go_enter Try.func61, Try.ntmps61
  go_wp2_with fail
  refine (stringsClone_any t.s _ st).mono ?_
  rintro e w1 ⟨rfl, hb1⟩
  have hy1 : w.heap.size + 1 < w1.heap.size := by have := hb1.size; simp at this; omega
  have hx1 : w.heap.size < w1.heap.size := by omega
  obtain ⟨hc1, hf1⟩ := bcell hb1
  have K1 : Hid (w1.heap[w.heap.size]? = some (.cells #[.int .i64 k, .int .i64 n, .int .i64 t.c, .int .i64 t.h, .string t.s, .slice ao n1 cap, .int .i64 sl, .slice ao2 n2 cap2] 36 (0, 0)) ∧ w1.heap[w.heap.size + 1]? = some (.cells #[.int .i64 0, .int .i64 0, .int .i64 0, .int .i64 0, .string ⟨#[]⟩, .slice none 0 0, .int .i64 0, .slice none 0 0] 36 (0, 0))) := by
    refine ⟨(hb1.block _ (by simp; omega)).trans ?_, (hb1.block _ (by simp)).trans ?_⟩
    · rw [(below1 _ _).block _ (by simp)]
      exact heap_alloc_new w _
    · have h := heap_alloc_new (w.alloc (.cells #[.int .i64 k, .int .i64 n, .int .i64 t.c, .int .i64 t.h, .string t.s, .slice ao n1 cap, .int .i64 sl, .slice ao2 n2 cap2] 36)) (.cells #[.int .i64 0, .int .i64 0, .int .i64 0, .int .i64 0, .string ⟨#[]⟩, .slice none 0 0, .int .i64 0, .slice none 0 0] 36)
      simpa using h
  have B1 : Hid (Below w.heap.size w w1) := below_more (below2 _ _ _) hb1 (by simp; omega)
  simp only [World.size_alloc] at hc1 hf1
  clear hb1
  go_wp2_with fail
  have BW1 : Below w.heap.size w (w1.setCell ⟨w.heap.size, 4, none⟩ (.string t.s)) := Below.setCell B1 (Nat.le_refl _) _
  refine (copyTokens_any (TN.below HP BW1) HS.1.1 HS.1.2).mono ?_
  rintro e w2 ⟨v2, rfl, ho2, hb2⟩
  obtain ⟨a2, c2, rfl, _⟩ := own_shape ho2
  obtain ⟨l2, hl2⟩ : ∃ l, l = p.length := ⟨_, rfl⟩
  rw [← hl2] at ho2
  rw [← hl2]
  clear hl2
  have hy2 : w.heap.size + 1 < w2.heap.size := by have := hb2.size; simp at this; omega
  have hx2 : w.heap.size < w2.heap.size := by omega
  obtain ⟨hc2, hf2⟩ := bcell hb2
  have K2 : Hid (w2.heap[w.heap.size]? = some (.cells #[.int .i64 k, .int .i64 n, .int .i64 t.c, .int .i64 t.h, .string t.s, .slice ao n1 cap, .int .i64 sl, .slice ao2 n2 cap2] 36 (0, 0)) ∧ w2.heap[w.heap.size + 1]? = some (.cells #[.int .i64 0, .int .i64 0, .int .i64 0, .int .i64 0, .string ⟨#[]⟩, .slice none 0 0, .int .i64 0, .slice none 0 0] 36 (0, 0))) := by
    refine ⟨(hb2.block _ (by simp; omega)).trans ((heap_setCell_same w1 _ 4 _ 36 _ K1.1).trans rfl), (hb2.block _ (by simp; omega)).trans ((heap_setCell_other w1 ⟨w.heap.size, 4, none⟩ _ _ (by show w.heap.size + 1 ≠ w.heap.size; omega)).trans K1.2)⟩
  have B2 : Hid (Below w.heap.size w w2) := below_more BW1 hb2 (Below.size BW1)
  simp only [World.size_setCell] at hc2 hf2
  have P2 : Hid (w2.ownsRow (w.heap.size + 1 + 1) 31 3 (.slice a2 l2 c2) l2 (flat p)) := own_mono ho2 (by simp; omega)
  clear hb2 ho2 BW1
  go_wp2_with fail
  have BW2 : Below w.heap.size w (w2.setCell ⟨w.heap.size, 5, none⟩ (.slice a2 l2 c2)) := Below.setCell B2 (Nat.le_refl _) _
  refine (copyTokens_any (TN.below HB BW2) HS.2.1 HS.2.2).mono ?_
  rintro e w3 ⟨v3, rfl, ho3, hb3⟩
  obtain ⟨a3, c3, rfl, _⟩ := own_shape ho3
  obtain ⟨l3, hl3⟩ : ∃ l, l = b.length := ⟨_, rfl⟩
  rw [← hl3] at ho3
  rw [← hl3]
  clear hl3
  have hy3 : w.heap.size + 1 < w3.heap.size := by have := hb3.size; simp at this; omega
  have hx3 : w.heap.size < w3.heap.size := by omega
  have K3 : Hid (w3.heap[w.heap.size]? = some (.cells #[.int .i64 k, .int .i64 n, .int .i64 t.c, .int .i64 t.h, .string t.s, .slice a2 l2 c2, .int .i64 sl, .slice ao2 n2 cap2] 36 (0, 0)) ∧ w3.heap[w.heap.size + 1]? = some (.cells #[.int .i64 0, .int .i64 0, .int .i64 0, .int .i64 0, .string ⟨#[]⟩, .slice none 0 0, .int .i64 0, .slice none 0 0] 36 (0, 0))) := by
    refine ⟨(hb3.block _ (by simp; omega)).trans ((heap_setCell_same w2 _ 5 _ 36 _ K2.1).trans rfl), (hb3.block _ (by simp; omega)).trans ((heap_setCell_other w2 ⟨w.heap.size, 5, none⟩ _ _ (by show w.heap.size + 1 ≠ w.heap.size; omega)).trans K2.2)⟩
  have B3 : Hid (Below w.heap.size w w3) := below_more BW2 hb3 (Below.size BW2)
  have P3 : Hid (w3.ownsRow (w.heap.size + 1 + 1) 31 3 (.slice a2 l2 c2) l2 (flat p) ∧ w3.ownsRow w2.heap.size 31 3 (.slice a3 l3 c3) l3 (flat b) ∧ ∀ g, (Value.slice a2 l2 c2).ownBlock = some g → g < w2.heap.size) := ⟨own_below (own_set P2 (by omega)) hb3, own_mono ho3 (by simp), fun g hg => (World.ownsRow.lt P2 g hg).2⟩
  clear hb3 ho3 BW2 P2 hc1 hc2 hf1 hf2
  have rr : ∀ j, w3.cell? ⟨w.heap.size, j, none⟩ = (#[.int .i64 k, .int .i64 n, .int .i64 t.c, .int .i64 t.h, .string t.s, .slice a2 l2 c2, .int .i64 sl, .slice ao2 n2 cap2] : Array Value)[j]? := fun j => cell_of_row w3 _ j _ 36 _ K3.1
  have zz : ∀ j, w3.cell? ⟨w.heap.size + 1, j, none⟩ = (#[.int .i64 0, .int .i64 0, .int .i64 0, .int .i64 0, .string ⟨#[]⟩, .slice none 0 0, .int .i64 0, .slice none 0 0] : Array Value)[j]? := fun j => cell_of_row w3 _ j _ 36 _ K3.2
  have r0 := rr 0
  have r1 := rr 1
  have r2 := rr 2
  have r3 := rr 3
  have r4 := rr 4
  have r5 := rr 5
  have r6 := rr 6
  have r7 := rr 7
  have z0 := zz 0
  have z1 := zz 1
  have z2 := zz 2
  have z3 := zz 3
  have z4 := zz 4
  have z5 := zz 5
  have z6 := zz 6
  have z7 := zz 7
  have f0 : ∀ j, w3.frozen? ⟨w.heap.size, j, none⟩ = false := fun j => frozen_of_row w3 _ j _ 36 K3.1
  have f1 : ∀ j, w3.frozen? ⟨w.heap.size + 1, j, none⟩ = false := fun j => frozen_of_row w3 _ j _ 36 K3.2
  simp at r0 r1 r2 r3 r4 r5 r6 r7 z0 z1 z2 z3 z4 z5 z6 z7
  clear rr zz K1 K2
  go_wp2
  refine bodyPost_ret (v := meanV k n t (.slice a2 l2 c2) sl (.slice a3 l3 c3)) (by simp [results, Try.results61, go_sem, z0, z1, z2, z3, z4, z5, z6, z7, hx3, hy3]) rfl ⟨.slice a2 l2 c2, .slice a3 l3 c3, rfl, ⟨l2, ?_⟩, ⟨l3, w2.heap.size, ?_, by omega, P3.2.2⟩, ?_⟩
  · exact own_mono (own_set (own_set (own_set (own_set (own_set (own_set (own_set (own_set (own_set P3.1 (by omega)) (by omega)) (by omega)) (by omega)) (by omega)) (by omega)) (by omega)) (by omega)) (by omega)) (by omega)
  · exact (own_set (own_set (own_set (own_set (own_set (own_set (own_set (own_set (own_set P3.2.1 (by omega)) (by omega)) (by omega)) (by omega)) (by omega)) (by omega)) (by omega)) (by omega)) (by omega))
  · exact (Below.setCell (Below.setCell (Below.setCell (Below.setCell (Below.setCell (Below.setCell (Below.setCell (Below.setCell (Below.setCell B3 (by first | (simp; done) | (simp; omega)) _) (by first | (simp; done) | (simp; omega)) _) (by first | (simp; done) | (simp; omega)) _) (by first | (simp; done) | (simp; omega)) _) (by first | (simp; done) | (simp; omega)) _) (by first | (simp; done) | (simp; omega)) _) (by first | (simp; done) | (simp; omega)) _) (by first | (simp; done) | (simp; omega)) _) (by first | (simp; done) | (simp; omega)) _)
end Go.Proofs.Ytflpjfgodkodiaa
