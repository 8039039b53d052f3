/-
  Tokens are copied into memory of one's own: slices.Clone, strings.Clone and copyTokens.
-/
import Derived.Test.YtbceblgnjicdcaaFil
import Derived.Test.YtbceblgnjicdcaaShf
import Derived.Lib.SliceRun
namespace Go.Proofs.Ytbceblgnjicdcaa
open Go.RowKit
set_option linter.unusedVariables false
set_option linter.unusedSimpArgs false

theorem stringsClone_any (s : ByteArray) (w : World) (hs : s.size ≤ 281474976710656) : Calls Try.prog 99 #[.string s] w fun e w' => e = .returned (.string s) ∧ Below w.heap.size w w' := by
  go_enter Try.func99, Try.ntmps99
  go_wp2_with (go_at_call 130; refine (Try.stringslite_Clone s _ hs).mono ?_; rintro e w1 ⟨rfl, hb⟩)
  go_ret
  exact ⟨rfl, ‹Below _ _ _›⟩

theorem eqNil (w : World) (a : Option Addr) (n c n' c' : Nat) : (binOp .eql 32 (.slice a n c) (.slice none n' c')).run Try.prog w = .ok (.bool a.isNone) w := Lib.run_eql_slice_nil w _ _ a n c n' c' Try.underlying32

set_option maxRecDepth 100000 in
set_option maxHeartbeats 2000000 in
theorem clone_any {lo : Nat} {v : Value} {ts : List Tk} {w : World} (h : TN lo w v ts) (hn : ts.length ≤ 1048576) :
    Calls Try.prog 113 #[v] w fun e w' => ∃ v', e = .returned v' ∧ w'.ownsRow w.heap.size 31 3 v' ts.length (flat ts) ∧ Below w.heap.size w w' := by
  obtain ⟨i0, hi, hz0, hz1, hz2⟩ := info_parts Try.info31
  have q32 := eqNil
  rcases h with ⟨rfl, rfl⟩ | ⟨b, off, cap, rfl, hcap, hlo, hb, hc⟩
  · go_enter Try.func113, Try.ntmps113
    go_wp2
    go_ret
    exact ⟨_, rfl, World.ownsRow_nil _ _ _ _, Below.refl _ _⟩
  · obtain ⟨n, hl⟩ : ∃ n, n = ts.length := ⟨_, rfl⟩
    rw [← hl] at hn hcap
    rw [← hl]
    have HC : Hid (∀ j u, (flat ts)[j]? = some u → w.cell? ⟨b, off + j, none⟩ = some u) := hc
    have HLEN : Hid (n = ts.length) := hl
    clear hc hl
    go_enter Try.func113, Try.ntmps113
    go_wp2_with (at_builtin; refine wpList_append_own _ rfl _ _ 32 rfl w.heap.size 31 i0 _ 3 32 Try.underlying32 hi hz0 hz1 hz2 rfl (by decide) _ _ _ rfl (World.ownsRow_made w #[] 0 (Nat.le_refl _) (Nat.zero_le _) (by simp)) ⟨b, off, none⟩ n cap (flat ts) rfl ?c1 ?c2 ?c3 ?c4 ?c5 ?c6 ?_)
    case c1 => rw [flat_len, ← show n = ts.length from HLEN]
    case c2 =>
      intro j u hj
      rw [Addr.add_lit]
      exact Lib.cell?_alloc_some _ (HC j u hj)
    case c3 => exact flat_one ts
    case c4 => unfold maxLen; omega
    case c5 => omega
    case c6 => simp
    intro v' w1 hown hgrow hnil
    have HO : Hid (w1.ownsRow w.heap.size 31 3 v' n (flat ts) ∧ Below w.heap.size w w1) := ⟨by simpa using hown, ((Below.refl _ w).alloc (Nat.le_refl _) _).grown hgrow (by simp) (by intro k hk; simp [Value.ownBlock] at hk; omega)⟩
    clear hown hgrow hnil
    go_wp2
    go_ret
    exact ⟨v', rfl, HO⟩

theorem own_shape {base n : Nat} {w : World} {v : Value} {xs : List Value} (h : w.ownsRow base 31 3 v n xs) : ∃ ao cap, v = .slice ao n cap ∧ (0 < n → ∃ g, ao = some ⟨g, 0, none⟩ ∧ base ≤ g ∧ g < w.heap.size) := by
  obtain ⟨hl, ⟨rfl, rfl⟩ | ⟨g, cap, cur, rfl, hg, hb, _⟩⟩ := h
  · exact ⟨_, _, rfl, fun h => absurd h (Nat.lt_irrefl 0)⟩
  · exact ⟨_, _, rfl, fun _ => ⟨g, rfl, hg, (Array.getElem?_eq_some_iff.1 hb).1⟩⟩
theorem own_cell {base g n cap : Nat} {w : World} {xs : List Value} (h : w.ownsRow base 31 3 (.slice (some ⟨g, 0, none⟩) n cap) n xs) {j : Nat} {x : Value} (hj : xs[j]? = some x) : w.cell? ⟨g, j, none⟩ = some x ∧ w.frozen? ⟨g, j, none⟩ = false := by
  obtain ⟨hl, h | ⟨g', cap', cur, e, hg, hb, hn, hm, hs, hx⟩⟩ := h
  · exact absurd h.1 (by simp)
  · simp at e
    obtain ⟨rfl, rfl⟩ := e
    refine ⟨?_, frozen_of_row w g j cur 31 hb⟩
    rw [cell_of_row w g _ cur 31 _ hb, ← Array.getElem?_toList]
    rw [← hx, List.getElem?_take] at hj
    split at hj
    · exact hj
    · simp at hj
theorem own_below {base n : Nat} {w w' : World} {v : Value} {xs : List Value} (h : w.ownsRow base 31 3 v n xs) (hb : Below w.heap.size w w') : w'.ownsRow base 31 3 v n xs := by
  obtain ⟨hl, h | ⟨g, cap, cur, rfl, hg, hbk, hr⟩⟩ := h
  · exact ⟨hl, .inl h⟩
  · exact ⟨hl, .inr ⟨g, cap, cur, rfl, hg, (hb.block g (Array.getElem?_eq_some_iff.1 hbk).1).trans hbk, hr⟩⟩

set_option maxRecDepth 100000 in
set_option maxHeartbeats 2000000 in
theorem copyTokens_any {lo : Nat} {v : Value} {ts : List Tk} {w : World} (h : TN lo w v ts) (hn : ts.length ≤ 1048576) (hs : ∀ i, i < ts.length → (ts.getD i Tk.none).s.size ≤ 281474976710656) :
    Calls Try.prog 72 #[v] w fun e w' => ∃ v', e = .returned v' ∧ w'.ownsRow w.heap.size 31 3 v' ts.length (flat ts) ∧ Below w.heap.size w w' := by
  obtain ⟨n, hl⟩ : ∃ n, n = ts.length := ⟨_, rfl⟩
  have HT : Hid (TN lo w v ts) := h
  have HLEN : Hid (n = ts.length) := hl
  have HS : Hid (∀ i, i < ts.length → (ts.getD i Tk.none).s.size ≤ 281474976710656) := hs
  have hrow := h.row
  obtain ⟨ao, n', cap, rfl, hn', hrr⟩ := hrow
  obtain rfl : n' = n := by omega
  rw [← hl] at hn
  rw [← hl]
  clear hs hl h hn' hrr
  go_enter Try.func72, Try.ntmps72
  go_wp2_with (go_at_call 113; refine (clone_any HT (by rw [← show n' = ts.length from HLEN]; exact hn)).mono ?_; rintro e w1 ⟨v1, rfl, hown, hb⟩; rw [← show n' = ts.length from HLEN] at hown; have hsh := own_shape hown; obtain ⟨a1, cap1, rfl, hg1⟩ := hsh; have HO : Hid (w1.ownsRow w.heap.size 31 3 (.slice a1 n' cap1) n' (flat ts) ∧ Below w.heap.size w w1) := ⟨hown, hb⟩; have HG : Hid (0 < n' → ∃ g, a1 = some ⟨g, 0, none⟩ ∧ w.heap.size ≤ g ∧ g < w1.heap.size) := hg1; clear hown hb hg1)
  go_loopw [10] (fun i wr => ∃ k : Nat, k ≤ n' ∧ i = .int .i64 k ∧ wr.ownsRow w.heap.size 31 3 (.slice a1 n' cap1) n' (flat ts) ∧ Below w.heap.size w wr) (fun i _ => n' - (intOf i).toNat)
  case atStart => exact ⟨0, by omega, rfl, HO.1, HO.2⟩
  case round =>
    obtain ⟨k, hk, rfl, hown, hbel⟩ := hrel
    by_cases hkn : k < n'
    · have hki : (k : Int) < (n' : Int) := by omega
      obtain ⟨g, rfl, hg0, hg1⟩ := HG (by omega)
      obtain ⟨t, ht⟩ : ∃ t, t = ts.getD k Tk.none := ⟨_, rfl⟩
      have hkt : k < ts.length := by rw [← show n' = ts.length from HLEN]; exact hkn
      have hts : t.s.size ≤ 281474976710656 := by rw [ht]; exact HS k hkt
      obtain ⟨f0, f1, f2⟩ := flat_get ts k hkt
      rw [← ht] at f0 f1 f2
      obtain ⟨c0, z0⟩ := own_cell hown f0
      obtain ⟨c1, z1⟩ := own_cell hown f1
      obtain ⟨c2, z2⟩ := own_cell hown f2
      have hgw : g < wr.heap.size := (World.ownsRow.lt hown g rfl).2
      have HO2 : Hid (wr.ownsRow w.heap.size 31 3 (.slice (some ⟨g, 0, none⟩) n' cap1) n' (flat ts) ∧ Below w.heap.size w wr) := ⟨hown, hbel⟩
      have HF : Hid ((flat ts)[k * 3 + 2]? = some (.string t.s)) := f2
      clear hown hbel ht f0 f1 f2 z0 z1 z2
      go_wp2_with (go_at_call 99; refine (stringsClone_any t.s _ hts).mono ?_; rintro e w2 ⟨rfl, hb2⟩; have hbx := below_more (below1 wr _) hb2 (by simp); have hown2 := own_below HO2.1 hbx; have hst := own_cell hown2 HF; obtain ⟨hs2, hfz⟩ := hst; have HO3 : Hid (w2.ownsRow w.heap.size 31 3 (.slice (some ⟨g, 0, none⟩) n' cap1) n' (flat ts) ∧ Below w.heap.size w w2) := ⟨hown2, below_more HO2.2 hbx (Below.size HO2.2)⟩; clear hown2 hb2 hbx)
      go_roundw
      case rel => exact ⟨k + 1, by omega, by go_num, own_put HO3.1 HF, HO3.2.setCell hg0 _⟩
      case measure => simp [intOf]; omega
    · have hki : ¬ (k : Int) < (n' : Int) := by omega
      obtain rfl : k = n' := by omega
      have HP : Hid (wr.ownsRow w.heap.size 31 3 (.slice a1 k cap1) k (flat ts) ∧ Below w.heap.size w wr) := ⟨hown, hbel⟩
      clear hown hbel
      go_wp2
      go_ret
      exact ⟨_, rfl, HP⟩
end Go.Proofs.Ytbceblgnjicdcaa
