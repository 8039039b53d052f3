/-
  The specification's list that a delimiter follows, as a walk.
-/
import Derived.Test.YtbceblgnjicdcaaStp
namespace Go.Proofs.Ytbceblgnjicdcaa
open Go.RowKit
set_option linter.unusedVariables false
set_option linter.unusedSimpArgs false

/-- The list up to a row, and what is left: with o groups open and xs taken. -/
def unt (row : List Tk) : Int → List Tk → List Tk → Int × List Tk × List Tk
  | _, xs, [] => (1, xs, [])
  | o, xs, t :: r => if o + dl t < 0 then (3, xs, r) else if o + dl t = 0 ∧ tailB (xs ++ [t]) row = true then (0, strip ((xs ++ [t]).take (xs.length + 1 - row.length)), r) else unt row (o + dl t) (xs ++ [t]) r
theorem unt_dead {row xs r : List Tk} {o : Int} {t : Tk} (h : o + dl t < 0) : unt row o xs (t :: r) = (3, xs, r) := by rw [unt, if_pos h]
theorem unt_end {row xs r : List Tk} {o : Int} {t : Tk} (h : o + dl t = 0) (ht : tailB (xs ++ [t]) row = true) : unt row o xs (t :: r) = (0, strip ((xs ++ [t]).take (xs.length + 1 - row.length)), r) := by rw [unt, if_neg (by omega), if_pos ⟨h, ht⟩]
theorem unt_on {row xs r : List Tk} {o p : Int} {t : Tk} (hp : o + dl t = p) (h0 : 0 ≤ p) (h : ¬ (p = 0 ∧ tailB (xs ++ [t]) row = true)) : unt row o xs (t :: r) = unt row p (xs ++ [t]) r := by rw [unt, if_neg (by omega), hp, if_neg h]

def UInv (w : World) (s : Nat) (row rest : List Tk) (o op : Value) (wr : World) : Prop :=
  ∃ (xs r : List Tk) (c k : Int) (n : Nat), op = .int .i64 k ∧ wr.ownsRow w.heap.size 31 3 o n (flat xs) ∧ o ≠ .slice none 0 0 ∧ St wr s r c ∧ Fr s w wr ∧ xs.length ≤ 20001 ∧ -30000 ≤ k ∧ k ≤ 30000 ∧
    ((c = 0 ∧ 0 ≤ k ∧ k ≤ xs.length ∧ rest.length = xs.length + r.length ∧ unt row 0 [] rest = unt row k xs r) ∨ (c ≠ 0 ∧ (unt row 0 [] rest).1 = c ∧ (unt row 0 [] rest).2.2 = r))
theorem own_cap {base n : Nat} {w : World} {g off cap : Nat} {xs : List Value} (h : w.ownsRow base 31 3 (.slice (some ⟨g, off, none⟩) n cap) n xs) : off = 0 ∧ cap ≤ 9223372036854775807 := by
  obtain ⟨hl, h | ⟨g', cap', cur, e, hg, hb, hn, hm, hr⟩⟩ := h
  · exact absurd h.1 (by simp)
  · simp at e
    obtain ⟨⟨rfl, rfl⟩, rfl⟩ := e
    exact ⟨rfl, by unfold maxLen at hm; exact hm⟩
theorem tailB_len {ts row : List Tk} (h : tailB ts row = true) : row.length ≤ ts.length := by unfold tailB at h; simp at h; exact h.1

theorem strip_len (ts : List Tk) : (strip ts).length ≤ ts.length := by
  unfold strip
  split
  · rw [List.length_drop, List.length_take]; omega
  · exact Nat.le_refl _

set_option maxRecDepth 100000 in
set_option maxHeartbeats 8000000 in
theorem l4Until_any {w : World} {s rb roff m rcap : Nat} {rest row : List Tk} (h : St w s rest 0) (hl : rest.length ≤ 20000) (hrow : TOn 0 w (.slice (some ⟨rb, roff, none⟩) m rcap) row) (hrb : rb < s) (hm : 0 < m) (lm : m ≤ 1048576) :
    Calls Try.prog 107 #[ptr s, .slice (some ⟨rb, roff, none⟩) m rcap] w fun e w' => ∃ v xs, e = .returned v ∧ TOn 0 w' v xs ∧ xs.length ≤ 20001 ∧ St w' s (unt row 0 [] rest).2.2 (unt row 0 [] rest).1 ∧ ((unt row 0 [] rest).1 = 0 → xs = (unt row 0 [] rest).2.1) ∧ Fr s w w' := by
  obtain ⟨i0, hi, hz0, hz1, hz2⟩ := info_parts Try.info31
  have hsz := St.lt h
  have H : Hid (St w s rest 0) := h
  have HROW : Hid (TOn 0 w (.slice (some ⟨rb, roff, none⟩) m rcap) row) := hrow
  have HRL : Hid (m = row.length) := by obtain ⟨_, _, _, e, _⟩ := hrow; simp at e; exact e.2.1
  clear h hrow
  go_enter Try.func107, Try.ntmps107
  go_wp2_with fail
  go_loopw [5, 6] (fun o op wr => Hid (UInv w s row rest o op wr)) (fun _ _ wr => stM wr s)
  case atStart =>
    exact ⟨[], rest, 0, 0, 0, rfl, World.ownsRow_made w #[] 0 (Nat.le_refl _) (Nat.zero_le _) (by simp), by simp, St.fr H (below1 _ _), Fr.below (below1 _ _) (by omega), by simp, by omega, by omega, .inl ⟨rfl, by omega, by simp, by simp, rfl⟩⟩
  case round =>
    obtain ⟨xs, r, c, k, nf, rfl, hown, hne, hst, hfr, hxl, hkl1, hkl2, hcase⟩ := hrel
    obtain ⟨ao, ocap, rfl, hsh⟩ := own_shape hown
    have hnf : nf = xs.length := by have := hown.1; rw [flat_len] at this; omega
    rw [← hnf] at hxl
    have HNF : Hid (nf = xs.length) := hnf
    have HOWN : Hid (wr.ownsRow w.heap.size 31 3 (.slice ao nf ocap) nf (flat xs)) := hown
    have HST : Hid (St wr s r c) := hst
    have HFR : Hid (Fr s w wr) := hfr
    have HNE : Hid (Value.slice ao nf ocap ≠ .slice none 0 0) := hne
    have hc3 := St.cell hst
    have hsr : s < wr.heap.size := St.lt hst
    have hwz : w.heap.size ≤ wr.heap.size := hfr.size
    clear hown hst hfr hne hsh
    rcases hcase with ⟨rfl, hk1, hk2, hlen, hg⟩ | ⟨hc0, hg1, hg2⟩
    · rw [← hnf] at hk2 hlen
      have HG : Hid (unt row 0 [] rest = unt row k xs r) := hg
      clear hg hnf
      have hrc : r = [] ∨ ∃ t r', r = t :: r' := by
        cases r with
        | nil => exact .inl rfl
        | cons t r' => exact .inr ⟨t, r', rfl⟩
      rcases hrc with rfl | ⟨t, r', rfl⟩
      · have HGN : Hid ((unt row 0 [] rest).1 = 1 ∧ (unt row 0 [] rest).2.2 = []) := by rw [show unt row 0 [] rest = _ from HG]; exact ⟨rfl, rfl⟩
        go_wp2_with fail
        refine (l4Take_any HST (by simp only [List.length_cons, List.length_nil]; omega)).mono ?_
        rintro e w2 ⟨rfl, hs2, hf2⟩
        have O2 : Hid (w2.ownsRow w.heap.size 31 3 (.slice ao nf ocap) nf (flat xs)) := own_fr HOWN hf2 hsz
        have F2 : Hid (Fr s w w2) := HFR.trans hf2
        have z2 : w.heap.size ≤ w2.heap.size := F2.size
        have S2 : Hid (St w2 s [] 1) := hs2
        clear hs2 hf2
        rw [show (tkT [] 0).v = tokV 0 0 ByteArray.empty from rfl]
        by_cases hb : nf < 20000
        · have hbi : ¬ (20000 : Int) ≤ (nf : Int) := by omega
          go_wp2_with (at_builtin; refine wpList_append_own _ rfl _ _ 32 rfl w.heap.size 31 i0 _ 3 32 Try.underlying32 hi hz0 hz1 hz2 rfl (by decide) _ _ _ rfl (World.ownsRow.alloc (World.ownsRow.alloc O2 _) _) ⟨w2.heap.size + 1, 0, none⟩ 1 1 (flat [⟨0, 0, ByteArray.empty⟩]) rfl ?d1 ?d2 ?d3 ?d4 ?d5 ?d6 ?_)
          case d1 => rfl
          case d2 =>
            intro j u hj
            match j, hj with
            | 0, hj => simp [flat] at hj; subst hj; simp [Addr.add]
            | 1, hj => simp [flat] at hj; subst hj; simp [Addr.add]
            | 2, hj => simp [flat] at hj; subst hj; simp [Addr.add]
            | j + 3, hj => simp [flat] at hj
          case d3 => exact flat_one _
          case d4 => unfold maxLen; omega
          case d5 => omega
          case d6 => simp; omega
          intro v' w4 hown' hgrow hnil'
          have hB4 : Below w.heap.size w2 w4 := Below.grown (((Below.refl _ _).alloc (by omega) _).alloc (by simp; omega) _) hgrow (by simp; omega) (fun r hr => (World.ownsRow.lt O2 r hr).1)
          rw [← flat_app] at hown'
          have hne4 : v' ≠ .slice none 0 0 := fun h => hnil' h
          have T4 := own_on hown' hne4
          obtain ⟨g4, off4, cap4, rfl, hcap4, hlo4, hg4, _⟩ := T4
          have hxl4 : (xs ++ [(⟨0, 0, ByteArray.empty⟩ : Tk)]).length = nf + 1 := by rw [List.length_append, ← show nf = xs.length from HNF]; rfl
          rw [hxl4] at hown' hcap4
          obtain ⟨rfl, hc4⟩ := own_cap hown'
          have F4 : Fr s w w4 := Fr.more F2 hB4 hsz
          have R4 : Hid (w4.ownsRow w.heap.size 31 3 (.slice (some ⟨g4, 0, none⟩) (nf + 1) cap4) (nf + 1) (flat (xs ++ [(⟨0, 0, ByteArray.empty⟩ : Tk)])) ∧ St w4 s [] 1 ∧ Fr s w w4 ∧ TOn 0 w4 (.slice (some ⟨g4, 0, none⟩) (nf + 1) cap4) (xs ++ [(⟨0, 0, ByteArray.empty⟩ : Tk)]) ∧ TRow w4 (.slice (some ⟨rb, roff, none⟩) m rcap) row) := ⟨hown', St.bel S2 (hB4.mono hsz), F4, by have q := own_on hown' (by simp); exact q.mono (Nat.zero_le _), (TOn.fr HROW hrb F4).row⟩
          rw [hxl4]
          have HX4 : Hid ((xs ++ [(⟨0, 0, ByteArray.empty⟩ : Tk)]).length = nf + 1) := hxl4
          have z4 : w.heap.size ≤ w4.heap.size := F4.size
          clear hown' hgrow hnil' hB4 hne4 hxl4 F4
          by_cases hk0 : k = 0
          · subst hk0
            go_wp2_with fail
            refine (l4Tail_any R4.2.2.2.1 R4.2.2.2.2 (by omega) hc4 (by rw [← HRL]; omega) (by rw [← HRL]; omega)).mono ?_
            rintro e w5 ⟨rfl, hb5⟩
            have B5 : Hid (Below w4.heap.size w4 w5) := hb5
            clear hb5
            by_cases htb : tailB (xs ++ [(⟨0, 0, ByteArray.empty⟩ : Tk)]) row = true
            · have hle : m ≤ nf + 1 := by have q := tailB_len htb; rw [show (xs ++ [(⟨0, 0, ByteArray.empty⟩ : Tk)]).length = nf + 1 from HX4, ← show m = _ from HRL] at q; exact q
              skip
              rw [htb]
              clear htb
              obtain ⟨d, hd⟩ : ∃ d, nf + 1 = m + d := ⟨nf + 1 - m, by omega⟩
              have HT5 : Hid (TOn 0 w5 (.slice (some ⟨g4, 0, none⟩) d cap4) ((xs ++ [(⟨0, 0, ByteArray.empty⟩ : Tk)]).take d)) := TOn.below (TOn.take R4.2.2.2.1 (by omega)) B5
              have hd2 : (nf : Int) + 1 - (m : Int) = (d : Int) := by omega
              have hd3 : (d : Int) ≤ (cap4 : Int) := by omega
              have hd4 : ¬ (d : Int) < 0 := by omega
              have HDD : Hid (nf + 1 - m = d) := by show _ = _; omega
              clear hd
              go_wp2_with fail
              refine (l4Strip_any HT5 (by omega) hc4).mono ?_
              rintro e w6 ⟨v6, rfl, t6, hb6⟩
              have Q6 : Hid (TOn 0 w6 v6 (strip ((xs ++ [(⟨0, 0, ByteArray.empty⟩ : Tk)]).take d)) ∧ St w6 s [] 1 ∧ Fr s w w6) := by
                have b6 : Below w4.heap.size w4 w6 := B5.trans (hb6.mono (Below.size B5))
                exact ⟨t6, St.fr R4.2.1 b6, Fr.more R4.2.2.1 (b6.mono z4) hsz⟩
              have hsl : (strip ((xs ++ [(⟨0, 0, ByteArray.empty⟩ : Tk)]).take d)).length ≤ 20001 := by have q := strip_len ((xs ++ [(⟨0, 0, ByteArray.empty⟩ : Tk)]).take d); have q2 := List.length_take_le' d (xs ++ [(⟨0, 0, ByteArray.empty⟩ : Tk)]); rw [show (xs ++ [(⟨0, 0, ByteArray.empty⟩ : Tk)]).length = nf + 1 from HX4] at q2; omega
              clear t6 hb6
              go_wp2
              go_ret
              refine ⟨v6, _, rfl, Q6.1, hsl, ?_, ?_, Q6.2.2⟩
              · rw [HGN.1, HGN.2]; exact Q6.2.1
              · rw [HGN.1]; intro hh; exact absurd hh (by decide)
            · have htf : tailB (xs ++ [(⟨0, 0, ByteArray.empty⟩ : Tk)]) row = false := by simpa using htb
              have R5 : Hid (w5.ownsRow w.heap.size 31 3 (.slice (some ⟨g4, 0, none⟩) (nf + 1) cap4) (nf + 1) (flat (xs ++ [(⟨0, 0, ByteArray.empty⟩ : Tk)])) ∧ St w5 s [] 1 ∧ Fr s w w5) := ⟨own_below R4.1 B5, St.fr R4.2.1 B5, Fr.more R4.2.2.1 (Below.mono B5 z4) hsz⟩
              skip
              rw [htf]
              clear htb htf
              go_wp2
              go_roundw
              case rel => exact ⟨xs ++ [(⟨0, 0, ByteArray.empty⟩ : Tk)], [], 1, 0, nf + 1, by go_num, R5.1, by simp, R5.2.1, R5.2.2, by rw [show (xs ++ [(⟨0, 0, ByteArray.empty⟩ : Tk)]).length = nf + 1 from HX4]; omega, by omega, by omega, .inr ⟨by decide, HGN.1, HGN.2⟩⟩
              case measure => rw [St.m R5.2.1, St.m HST]; simp
          · have hk1 : (k == 0) = false := beq_eq_false_iff_ne.2 hk0
            go_wp2
            go_roundw
            case rel => exact ⟨xs ++ [(⟨0, 0, ByteArray.empty⟩ : Tk)], [], 1, k, nf + 1, by go_num, R4.1, by simp, R4.2.1, R4.2.2.1, by rw [show (xs ++ [(⟨0, 0, ByteArray.empty⟩ : Tk)]).length = nf + 1 from HX4]; omega, by omega, by omega, .inr ⟨by decide, HGN.1, HGN.2⟩⟩
            case measure => rw [St.m R4.2.1, St.m HST]; simp
        · have hbi : (20000 : Int) ≤ (nf : Int) := by omega
          go_wp2_with fail
          refine (l4Err_st (St.fr S2 (below1 _ _)) 8).mono ?_
          rintro e w3 ⟨rfl, hs3, hf3⟩
          have S3 : Hid (St w3 s [] 1) := hs3
          have O3 : Hid (w3.ownsRow w.heap.size 31 3 (.slice ao nf ocap) nf (flat xs)) := own_fr (World.ownsRow.alloc O2 _) hf3 hsz
          have F3 : Hid (Fr s w w3) := (F2.trans (Fr.below (below1 _ _) (by omega))).trans hf3
          have z3 : w2.heap.size < w3.heap.size := by have := hf3.size; simp at this; omega
          have q3 : w3.heap[w2.heap.size]? = some (.cells #[.int .i64 0, .int .i64 0, .string ByteArray.empty] 31) := by rw [hf3.2.block _ (by omega) (by simp)]; exact Array.getElem?_push_size
          have c0 : w3.cell? ⟨w2.heap.size, 0, none⟩ = some (.int .i64 0) := by rw [cell_of_row w3 _ _ _ 31 _ q3]; rfl
          have c1 : w3.cell? ⟨w2.heap.size, 1, none⟩ = some (.int .i64 0) := by rw [cell_of_row w3 _ _ _ 31 _ q3]; rfl
          have c2 : w3.cell? ⟨w2.heap.size, 2, none⟩ = some (.string ByteArray.empty) := by rw [cell_of_row w3 _ _ _ 31 _ q3]; rfl
          clear hs3 hf3 q3
          go_wp2_with (at_builtin; refine wpList_append_own _ rfl _ _ 32 rfl w.heap.size 31 i0 _ 3 32 Try.underlying32 hi hz0 hz1 hz2 rfl (by decide) _ _ _ rfl (World.ownsRow.alloc O3 _) ⟨w3.heap.size, 0, none⟩ 1 1 (flat [⟨0, 0, ByteArray.empty⟩]) rfl ?d1 ?d2 ?d3 ?d4 ?d5 ?d6 ?_)
          case d1 => rfl
          case d2 =>
            intro j u hj
            match j, hj with
            | 0, hj => simp [flat] at hj; subst hj; simp [Addr.add]
            | 1, hj => simp [flat] at hj; subst hj; simp [Addr.add]
            | 2, hj => simp [flat] at hj; subst hj; simp [Addr.add]
            | j + 3, hj => simp [flat] at hj
          case d3 => exact flat_one _
          case d4 => unfold maxLen; omega
          case d5 => omega
          case d6 => simp; omega
          intro v' w4 hown' hgrow hnil'
          have hB4 : Below w.heap.size w3 w4 := Below.grown ((Below.refl _ _).alloc (by omega) _) hgrow (by simp; omega) (fun r hr => (World.ownsRow.lt O3 r hr).1)
          rw [← flat_app] at hown'
          have hne4 : v' ≠ .slice none 0 0 := fun h => hnil' h
          have T4 := own_on hown' hne4
          obtain ⟨g4, off4, cap4, rfl, hcap4, hlo4, hg4, _⟩ := T4
          have hxl4 : (xs ++ [(⟨0, 0, ByteArray.empty⟩ : Tk)]).length = nf + 1 := by rw [List.length_append, ← show nf = xs.length from HNF]; rfl
          rw [hxl4] at hown' hcap4
          obtain ⟨rfl, hc4⟩ := own_cap hown'
          have F4 : Fr s w w4 := Fr.more F3 hB4 hsz
          have R4 : Hid (w4.ownsRow w.heap.size 31 3 (.slice (some ⟨g4, 0, none⟩) (nf + 1) cap4) (nf + 1) (flat (xs ++ [(⟨0, 0, ByteArray.empty⟩ : Tk)])) ∧ St w4 s [] 1 ∧ Fr s w w4 ∧ TOn 0 w4 (.slice (some ⟨g4, 0, none⟩) (nf + 1) cap4) (xs ++ [(⟨0, 0, ByteArray.empty⟩ : Tk)]) ∧ TRow w4 (.slice (some ⟨rb, roff, none⟩) m rcap) row) := ⟨hown', St.bel S3 (hB4.mono hsz), F4, by have q := own_on hown' (by simp); exact q.mono (Nat.zero_le _), (TOn.fr HROW hrb F4).row⟩
          rw [hxl4]
          have HX4 : Hid ((xs ++ [(⟨0, 0, ByteArray.empty⟩ : Tk)]).length = nf + 1) := hxl4
          have z4 : w.heap.size ≤ w4.heap.size := F4.size
          clear hown' hgrow hnil' hB4 hne4 hxl4 F4
          by_cases hk0 : k = 0
          · subst hk0
            go_wp2_with fail
            refine (l4Tail_any R4.2.2.2.1 R4.2.2.2.2 (by omega) hc4 (by rw [← HRL]; omega) (by rw [← HRL]; omega)).mono ?_
            rintro e w5 ⟨rfl, hb5⟩
            have B5 : Hid (Below w4.heap.size w4 w5) := hb5
            clear hb5
            by_cases htb : tailB (xs ++ [(⟨0, 0, ByteArray.empty⟩ : Tk)]) row = true
            · have hle : m ≤ nf + 1 := by have q := tailB_len htb; rw [show (xs ++ [(⟨0, 0, ByteArray.empty⟩ : Tk)]).length = nf + 1 from HX4, ← show m = _ from HRL] at q; exact q
              skip
              rw [htb]
              clear htb
              obtain ⟨d, hd⟩ : ∃ d, nf + 1 = m + d := ⟨nf + 1 - m, by omega⟩
              have HT5 : Hid (TOn 0 w5 (.slice (some ⟨g4, 0, none⟩) d cap4) ((xs ++ [(⟨0, 0, ByteArray.empty⟩ : Tk)]).take d)) := TOn.below (TOn.take R4.2.2.2.1 (by omega)) B5
              have hd2 : (nf : Int) + 1 - (m : Int) = (d : Int) := by omega
              have hd3 : (d : Int) ≤ (cap4 : Int) := by omega
              have hd4 : ¬ (d : Int) < 0 := by omega
              have HDD : Hid (nf + 1 - m = d) := by show _ = _; omega
              clear hd
              go_wp2_with fail
              refine (l4Strip_any HT5 (by omega) hc4).mono ?_
              rintro e w6 ⟨v6, rfl, t6, hb6⟩
              have Q6 : Hid (TOn 0 w6 v6 (strip ((xs ++ [(⟨0, 0, ByteArray.empty⟩ : Tk)]).take d)) ∧ St w6 s [] 1 ∧ Fr s w w6) := by
                have b6 : Below w4.heap.size w4 w6 := B5.trans (hb6.mono (Below.size B5))
                exact ⟨t6, St.fr R4.2.1 b6, Fr.more R4.2.2.1 (b6.mono z4) hsz⟩
              have hsl : (strip ((xs ++ [(⟨0, 0, ByteArray.empty⟩ : Tk)]).take d)).length ≤ 20001 := by have q := strip_len ((xs ++ [(⟨0, 0, ByteArray.empty⟩ : Tk)]).take d); have q2 := List.length_take_le' d (xs ++ [(⟨0, 0, ByteArray.empty⟩ : Tk)]); rw [show (xs ++ [(⟨0, 0, ByteArray.empty⟩ : Tk)]).length = nf + 1 from HX4] at q2; omega
              clear t6 hb6
              go_wp2
              go_ret
              refine ⟨v6, _, rfl, Q6.1, hsl, ?_, ?_, Q6.2.2⟩
              · rw [HGN.1, HGN.2]; exact Q6.2.1
              · rw [HGN.1]; intro hh; exact absurd hh (by decide)
            · have htf : tailB (xs ++ [(⟨0, 0, ByteArray.empty⟩ : Tk)]) row = false := by simpa using htb
              have R5 : Hid (w5.ownsRow w.heap.size 31 3 (.slice (some ⟨g4, 0, none⟩) (nf + 1) cap4) (nf + 1) (flat (xs ++ [(⟨0, 0, ByteArray.empty⟩ : Tk)])) ∧ St w5 s [] 1 ∧ Fr s w w5) := ⟨own_below R4.1 B5, St.fr R4.2.1 B5, Fr.more R4.2.2.1 (Below.mono B5 z4) hsz⟩
              skip
              rw [htf]
              clear htb htf
              go_wp2
              go_roundw
              case rel => exact ⟨xs ++ [(⟨0, 0, ByteArray.empty⟩ : Tk)], [], 1, 0, nf + 1, by go_num, R5.1, by simp, R5.2.1, R5.2.2, by rw [show (xs ++ [(⟨0, 0, ByteArray.empty⟩ : Tk)]).length = nf + 1 from HX4]; omega, by omega, by omega, .inr ⟨by decide, HGN.1, HGN.2⟩⟩
              case measure => rw [St.m R5.2.1, St.m HST]; simp
          · have hk1 : (k == 0) = false := beq_eq_false_iff_ne.2 hk0
            go_wp2
            go_roundw
            case rel => exact ⟨xs ++ [(⟨0, 0, ByteArray.empty⟩ : Tk)], [], 1, k, nf + 1, by go_num, R4.1, by simp, R4.2.1, R4.2.2.1, by rw [show (xs ++ [(⟨0, 0, ByteArray.empty⟩ : Tk)]).length = nf + 1 from HX4]; omega, by omega, by omega, .inr ⟨by decide, HGN.1, HGN.2⟩⟩
            case measure => rw [St.m R4.2.1, St.m HST]; simp
      · simp only [List.length_cons] at hlen
        have hbi : ¬ (20000 : Int) ≤ (nf : Int) := by omega
        go_wp2_with fail
        refine (l4Take_any HST (by simp only [List.length_cons, List.length_nil]; omega)).mono ?_
        rintro e w2 ⟨rfl, hs2, hf2⟩
        have O2 : Hid (w2.ownsRow w.heap.size 31 3 (.slice ao nf ocap) nf (flat xs)) := own_fr HOWN hf2 hsz
        have F2 : Hid (Fr s w w2) := HFR.trans hf2
        have z2 : w.heap.size ≤ w2.heap.size := F2.size
        have h3 : tkC (t :: r') 0 = 0 := by simp [tkC]
        rw [h3] at hs2
        have S2 : Hid (St w2 s r' 0) := hs2
        clear h3 hs2 hf2
        obtain ⟨tc, th, ts⟩ := t
        rw [show (tkT (⟨tc, th, ts⟩ :: r') 0).v = tokV tc th ts from rfl]
        by_cases h1 : tc = 1
        · subst h1
          have hk0 : ¬ k + 1 = 0 := by omega
          have hk3 : (k + 1 == 0) = false := beq_eq_false_iff_ne.2 hk0
          go_wp2_with (at_builtin; refine wpList_append_own _ rfl _ _ 32 rfl w.heap.size 31 i0 _ 3 32 Try.underlying32 hi hz0 hz1 hz2 rfl (by decide) _ _ _ rfl (World.ownsRow.alloc (World.ownsRow.alloc O2 _) _) ⟨w2.heap.size + 1, 0, none⟩ 1 1 (flat [⟨1, th, ts⟩]) rfl ?d1 ?d2 ?d3 ?d4 ?d5 ?d6 ?_)
          case d1 => rfl
          case d2 =>
            intro j u hj
            match j, hj with
            | 0, hj => simp [flat] at hj; subst hj; simp [Addr.add]
            | 1, hj => simp [flat] at hj; subst hj; simp [Addr.add]
            | 2, hj => simp [flat] at hj; subst hj; simp [Addr.add]
            | j + 3, hj => simp [flat] at hj
          case d3 => exact flat_one _
          case d4 => unfold maxLen; omega
          case d5 => omega
          case d6 => simp; omega
          intro v' w4 hown' hgrow hnil'
          have hB4 : Below w.heap.size w2 w4 := Below.grown (((Below.refl _ _).alloc (by omega) _).alloc (by simp; omega) _) hgrow (by simp; omega) (fun r hr => (World.ownsRow.lt O2 r hr).1)
          rw [← flat_app] at hown'
          have hne4 : v' ≠ .slice none 0 0 := fun h => hnil' h
          have T4 := own_on hown' hne4
          obtain ⟨g4, off4, cap4, rfl, hcap4, hlo4, hg4, _⟩ := T4
          have hxl4 : (xs ++ [(⟨1, th, ts⟩ : Tk)]).length = nf + 1 := by rw [List.length_append, ← show nf = xs.length from HNF]; rfl
          rw [hxl4] at hown' hcap4
          obtain ⟨rfl, hc4⟩ := own_cap hown'
          have F4 : Fr s w w4 := Fr.more F2 hB4 hsz
          have R4 : Hid (w4.ownsRow w.heap.size 31 3 (.slice (some ⟨g4, 0, none⟩) (nf + 1) cap4) (nf + 1) (flat (xs ++ [(⟨1, th, ts⟩ : Tk)])) ∧ St w4 s r' 0 ∧ Fr s w w4 ∧ TOn 0 w4 (.slice (some ⟨g4, 0, none⟩) (nf + 1) cap4) (xs ++ [(⟨1, th, ts⟩ : Tk)]) ∧ TRow w4 (.slice (some ⟨rb, roff, none⟩) m rcap) row) := ⟨hown', St.bel S2 (hB4.mono hsz), F4, by have q := own_on hown' (by simp); exact q.mono (Nat.zero_le _), (TOn.fr HROW hrb F4).row⟩
          rw [hxl4]
          have HX4 : Hid ((xs ++ [(⟨1, th, ts⟩ : Tk)]).length = nf + 1) := hxl4
          have z4 : w.heap.size ≤ w4.heap.size := F4.size
          clear hown' hgrow hnil' hB4 hne4 hxl4 F4
          have HU : Hid (unt row 0 [] rest = unt row (k + 1) (xs ++ [(⟨1, th, ts⟩ : Tk)]) r') := by show _ = _; rw [show unt row 0 [] rest = _ from HG]; exact unt_on (by simp [dl]) (by omega) (fun hh => by have := hh.1; omega)
          go_wp2
          go_roundw
          case rel => exact ⟨xs ++ [(⟨1, th, ts⟩ : Tk)], r', 0, k + 1, nf + 1, by go_num, R4.1, by simp, R4.2.1, R4.2.2.1, by rw [show (xs ++ [(⟨1, th, ts⟩ : Tk)]).length = nf + 1 from HX4]; omega, by omega, by omega, .inl ⟨rfl, by omega, by rw [List.length_append, ← show nf = xs.length from HNF]; simp; omega, by rw [List.length_append, ← show nf = xs.length from HNF]; simp; omega, HU⟩⟩
          case measure => rw [St.m R4.2.1, St.m HST]; simp
        · have e1 : (tc == 1) = false := beq_eq_false_iff_ne.2 h1
          by_cases h2 : tc = 2
          · subst h2
            by_cases hk0 : k = 0
            · subst hk0
              have HGD : Hid ((unt row 0 [] rest).1 = 3 ∧ (unt row 0 [] rest).2.2 = r') := by rw [show unt row 0 [] rest = _ from HG, unt_dead (by simp [dl])]; exact ⟨rfl, rfl⟩
              go_wp2_with fail
              refine (l4Err_st (St.fr S2 (below1 _ _)) 3).mono ?_
              rintro e w3 ⟨rfl, hs3, hf3⟩
              have S3 : Hid (St w3 s r' 3) := hs3
              have O3 : Hid (w3.ownsRow w.heap.size 31 3 (.slice ao nf ocap) nf (flat xs)) := own_fr (World.ownsRow.alloc O2 _) hf3 hsz
              have F3 : Hid (Fr s w w3) := (F2.trans (Fr.below (below1 _ _) (by omega))).trans hf3
              have z3 : w2.heap.size < w3.heap.size := by have := hf3.size; simp at this; omega
              have q3 : w3.heap[w2.heap.size]? = some (.cells #[.int .i64 2, .int .i64 th, .string ts] 31) := by rw [hf3.2.block _ (by omega) (by simp)]; exact Array.getElem?_push_size
              have c0 : w3.cell? ⟨w2.heap.size, 0, none⟩ = some (.int .i64 2) := by rw [cell_of_row w3 _ _ _ 31 _ q3]; rfl
              have c1 : w3.cell? ⟨w2.heap.size, 1, none⟩ = some (.int .i64 th) := by rw [cell_of_row w3 _ _ _ 31 _ q3]; rfl
              have c2 : w3.cell? ⟨w2.heap.size, 2, none⟩ = some (.string ts) := by rw [cell_of_row w3 _ _ _ 31 _ q3]; rfl
              clear hs3 hf3 q3
              go_wp2_with (at_builtin; refine wpList_append_own _ rfl _ _ 32 rfl w.heap.size 31 i0 _ 3 32 Try.underlying32 hi hz0 hz1 hz2 rfl (by decide) _ _ _ rfl (World.ownsRow.alloc O3 _) ⟨w3.heap.size, 0, none⟩ 1 1 (flat [⟨2, th, ts⟩]) rfl ?d1 ?d2 ?d3 ?d4 ?d5 ?d6 ?_)
              case d1 => rfl
              case d2 =>
                intro j u hj
                match j, hj with
                | 0, hj => simp [flat] at hj; subst hj; simp [Addr.add]
                | 1, hj => simp [flat] at hj; subst hj; simp [Addr.add]
                | 2, hj => simp [flat] at hj; subst hj; simp [Addr.add]
                | j + 3, hj => simp [flat] at hj
              case d3 => exact flat_one _
              case d4 => unfold maxLen; omega
              case d5 => omega
              case d6 => simp; omega
              intro v' w4 hown' hgrow hnil'
              have hB4 : Below w.heap.size w3 w4 := Below.grown ((Below.refl _ _).alloc (by omega) _) hgrow (by simp; omega) (fun r hr => (World.ownsRow.lt O3 r hr).1)
              rw [← flat_app] at hown'
              have hne4 : v' ≠ .slice none 0 0 := fun h => hnil' h
              have T4 := own_on hown' hne4
              obtain ⟨g4, off4, cap4, rfl, hcap4, hlo4, hg4, _⟩ := T4
              have hxl4 : (xs ++ [(⟨2, th, ts⟩ : Tk)]).length = nf + 1 := by rw [List.length_append, ← show nf = xs.length from HNF]; rfl
              rw [hxl4] at hown' hcap4
              obtain ⟨rfl, hc4⟩ := own_cap hown'
              have F4 : Fr s w w4 := Fr.more F3 hB4 hsz
              have R4 : Hid (w4.ownsRow w.heap.size 31 3 (.slice (some ⟨g4, 0, none⟩) (nf + 1) cap4) (nf + 1) (flat (xs ++ [(⟨2, th, ts⟩ : Tk)])) ∧ St w4 s r' 3 ∧ Fr s w w4 ∧ TOn 0 w4 (.slice (some ⟨g4, 0, none⟩) (nf + 1) cap4) (xs ++ [(⟨2, th, ts⟩ : Tk)]) ∧ TRow w4 (.slice (some ⟨rb, roff, none⟩) m rcap) row) := ⟨hown', St.bel S3 (hB4.mono hsz), F4, by have q := own_on hown' (by simp); exact q.mono (Nat.zero_le _), (TOn.fr HROW hrb F4).row⟩
              rw [hxl4]
              have HX4 : Hid ((xs ++ [(⟨2, th, ts⟩ : Tk)]).length = nf + 1) := hxl4
              have z4 : w.heap.size ≤ w4.heap.size := F4.size
              clear hown' hgrow hnil' hB4 hne4 hxl4 F4
              go_wp2
              go_roundw
              case rel => exact ⟨xs ++ [(⟨2, th, ts⟩ : Tk)], r', 3, -1, nf + 1, by go_num, R4.1, by simp, R4.2.1, R4.2.2.1, by rw [show (xs ++ [(⟨2, th, ts⟩ : Tk)]).length = nf + 1 from HX4]; omega, by omega, by omega, .inr ⟨by decide, HGD.1, HGD.2⟩⟩
              case measure => rw [St.m R4.2.1, St.m HST]; simp; omega
            · by_cases hk4 : k = 1
              · subst hk4
                go_wp2_with (at_builtin; refine wpList_append_own _ rfl _ _ 32 rfl w.heap.size 31 i0 _ 3 32 Try.underlying32 hi hz0 hz1 hz2 rfl (by decide) _ _ _ rfl (World.ownsRow.alloc (World.ownsRow.alloc O2 _) _) ⟨w2.heap.size + 1, 0, none⟩ 1 1 (flat [⟨2, th, ts⟩]) rfl ?d1 ?d2 ?d3 ?d4 ?d5 ?d6 ?_)
                case d1 => rfl
                case d2 =>
                  intro j u hj
                  match j, hj with
                  | 0, hj => simp [flat] at hj; subst hj; simp [Addr.add]
                  | 1, hj => simp [flat] at hj; subst hj; simp [Addr.add]
                  | 2, hj => simp [flat] at hj; subst hj; simp [Addr.add]
                  | j + 3, hj => simp [flat] at hj
                case d3 => exact flat_one _
                case d4 => unfold maxLen; omega
                case d5 => omega
                case d6 => simp; omega
                intro v' w4 hown' hgrow hnil'
                have hB4 : Below w.heap.size w2 w4 := Below.grown (((Below.refl _ _).alloc (by omega) _).alloc (by simp; omega) _) hgrow (by simp; omega) (fun r hr => (World.ownsRow.lt O2 r hr).1)
                rw [← flat_app] at hown'
                have hne4 : v' ≠ .slice none 0 0 := fun h => hnil' h
                have T4 := own_on hown' hne4
                obtain ⟨g4, off4, cap4, rfl, hcap4, hlo4, hg4, _⟩ := T4
                have hxl4 : (xs ++ [(⟨2, th, ts⟩ : Tk)]).length = nf + 1 := by rw [List.length_append, ← show nf = xs.length from HNF]; rfl
                rw [hxl4] at hown' hcap4
                obtain ⟨rfl, hc4⟩ := own_cap hown'
                have F4 : Fr s w w4 := Fr.more F2 hB4 hsz
                have R4 : Hid (w4.ownsRow w.heap.size 31 3 (.slice (some ⟨g4, 0, none⟩) (nf + 1) cap4) (nf + 1) (flat (xs ++ [(⟨2, th, ts⟩ : Tk)])) ∧ St w4 s r' 0 ∧ Fr s w w4 ∧ TOn 0 w4 (.slice (some ⟨g4, 0, none⟩) (nf + 1) cap4) (xs ++ [(⟨2, th, ts⟩ : Tk)]) ∧ TRow w4 (.slice (some ⟨rb, roff, none⟩) m rcap) row) := ⟨hown', St.bel S2 (hB4.mono hsz), F4, by have q := own_on hown' (by simp); exact q.mono (Nat.zero_le _), (TOn.fr HROW hrb F4).row⟩
                rw [hxl4]
                have HX4 : Hid ((xs ++ [(⟨2, th, ts⟩ : Tk)]).length = nf + 1) := hxl4
                have z4 : w.heap.size ≤ w4.heap.size := F4.size
                clear hown' hgrow hnil' hB4 hne4 hxl4 F4
                go_wp2_with fail
                refine (l4Tail_any R4.2.2.2.1 R4.2.2.2.2 (by omega) hc4 (by rw [← HRL]; omega) (by rw [← HRL]; omega)).mono ?_
                rintro e w5 ⟨rfl, hb5⟩
                have B5 : Hid (Below w4.heap.size w4 w5) := hb5
                clear hb5
                by_cases htb : tailB (xs ++ [(⟨2, th, ts⟩ : Tk)]) row = true
                · have hle : m ≤ nf + 1 := by have q := tailB_len htb; rw [show (xs ++ [(⟨2, th, ts⟩ : Tk)]).length = nf + 1 from HX4, ← show m = _ from HRL] at q; exact q
                  have HU : Hid (unt row 0 [] rest = (0, strip ((xs ++ [(⟨2, th, ts⟩ : Tk)]).take (xs.length + 1 - row.length)), r')) := by show _ = _; rw [show unt row 0 [] rest = _ from HG]; exact unt_end (by simp [dl]) htb
                  rw [htb]
                  clear htb
                  obtain ⟨d, hd⟩ : ∃ d, nf + 1 = m + d := ⟨nf + 1 - m, by omega⟩
                  have HT5 : Hid (TOn 0 w5 (.slice (some ⟨g4, 0, none⟩) d cap4) ((xs ++ [(⟨2, th, ts⟩ : Tk)]).take d)) := TOn.below (TOn.take R4.2.2.2.1 (by omega)) B5
                  have hd2 : (nf : Int) + 1 - (m : Int) = (d : Int) := by omega
                  have hd3 : (d : Int) ≤ (cap4 : Int) := by omega
                  have hd4 : ¬ (d : Int) < 0 := by omega
                  have HDD : Hid (nf + 1 - m = d) := by show _ = _; omega
                  clear hd
                  go_wp2_with fail
                  refine (l4Strip_any HT5 (by omega) hc4).mono ?_
                  rintro e w6 ⟨v6, rfl, t6, hb6⟩
                  have Q6 : Hid (TOn 0 w6 v6 (strip ((xs ++ [(⟨2, th, ts⟩ : Tk)]).take d)) ∧ St w6 s r' 0 ∧ Fr s w w6) := by
                    have b6 : Below w4.heap.size w4 w6 := B5.trans (hb6.mono (Below.size B5))
                    exact ⟨t6, St.fr R4.2.1 b6, Fr.more R4.2.2.1 (b6.mono z4) hsz⟩
                  have hsl : (strip ((xs ++ [(⟨2, th, ts⟩ : Tk)]).take d)).length ≤ 20001 := by have q := strip_len ((xs ++ [(⟨2, th, ts⟩ : Tk)]).take d); have q2 := List.length_take_le' d (xs ++ [(⟨2, th, ts⟩ : Tk)]); rw [show (xs ++ [(⟨2, th, ts⟩ : Tk)]).length = nf + 1 from HX4] at q2; omega
                  clear t6 hb6
                  go_wp2
                  go_ret
                  refine ⟨v6, _, rfl, Q6.1, hsl, ?_, ?_, Q6.2.2⟩
                  · rw [show unt row 0 [] rest = _ from HU]; exact Q6.2.1
                  · rw [show unt row 0 [] rest = _ from HU]; intro _; show strip _ = strip _; rw [← show nf = xs.length from HNF, ← show m = _ from HRL, show nf + 1 - m = d from HDD]
                · have htf : tailB (xs ++ [(⟨2, th, ts⟩ : Tk)]) row = false := by simpa using htb
                  have R5 : Hid (w5.ownsRow w.heap.size 31 3 (.slice (some ⟨g4, 0, none⟩) (nf + 1) cap4) (nf + 1) (flat (xs ++ [(⟨2, th, ts⟩ : Tk)])) ∧ St w5 s r' 0 ∧ Fr s w w5) := ⟨own_below R4.1 B5, St.fr R4.2.1 B5, Fr.more R4.2.2.1 (Below.mono B5 z4) hsz⟩
                  have HU : Hid (unt row 0 [] rest = unt row 0 (xs ++ [(⟨2, th, ts⟩ : Tk)]) r') := by show _ = _; rw [show unt row 0 [] rest = _ from HG]; exact unt_on (by simp [dl]) (by omega) (fun hh => by rw [htf] at hh; exact absurd hh.2 (by simp))
                  rw [htf]
                  clear htb htf
                  go_wp2
                  go_roundw
                  case rel => exact ⟨xs ++ [(⟨2, th, ts⟩ : Tk)], r', 0, 0, nf + 1, by go_num, R5.1, by simp, R5.2.1, R5.2.2, by rw [show (xs ++ [(⟨2, th, ts⟩ : Tk)]).length = nf + 1 from HX4]; omega, by omega, by omega, .inl ⟨rfl, by omega, by rw [List.length_append, ← show nf = xs.length from HNF]; simp; omega, by rw [List.length_append, ← show nf = xs.length from HNF]; simp; omega, HU⟩⟩
                  case measure => rw [St.m R5.2.1, St.m HST]; simp
              · have hk5 : ¬ k - 1 < 0 := by omega
                have hk6 : ¬ k - 1 = 0 := by omega
                have hk7 : (k - 1 == 0) = false := beq_eq_false_iff_ne.2 hk6
                go_wp2_with (at_builtin; refine wpList_append_own _ rfl _ _ 32 rfl w.heap.size 31 i0 _ 3 32 Try.underlying32 hi hz0 hz1 hz2 rfl (by decide) _ _ _ rfl (World.ownsRow.alloc (World.ownsRow.alloc O2 _) _) ⟨w2.heap.size + 1, 0, none⟩ 1 1 (flat [⟨2, th, ts⟩]) rfl ?d1 ?d2 ?d3 ?d4 ?d5 ?d6 ?_)
                case d1 => rfl
                case d2 =>
                  intro j u hj
                  match j, hj with
                  | 0, hj => simp [flat] at hj; subst hj; simp [Addr.add]
                  | 1, hj => simp [flat] at hj; subst hj; simp [Addr.add]
                  | 2, hj => simp [flat] at hj; subst hj; simp [Addr.add]
                  | j + 3, hj => simp [flat] at hj
                case d3 => exact flat_one _
                case d4 => unfold maxLen; omega
                case d5 => omega
                case d6 => simp; omega
                intro v' w4 hown' hgrow hnil'
                have hB4 : Below w.heap.size w2 w4 := Below.grown (((Below.refl _ _).alloc (by omega) _).alloc (by simp; omega) _) hgrow (by simp; omega) (fun r hr => (World.ownsRow.lt O2 r hr).1)
                rw [← flat_app] at hown'
                have hne4 : v' ≠ .slice none 0 0 := fun h => hnil' h
                have T4 := own_on hown' hne4
                obtain ⟨g4, off4, cap4, rfl, hcap4, hlo4, hg4, _⟩ := T4
                have hxl4 : (xs ++ [(⟨2, th, ts⟩ : Tk)]).length = nf + 1 := by rw [List.length_append, ← show nf = xs.length from HNF]; rfl
                rw [hxl4] at hown' hcap4
                obtain ⟨rfl, hc4⟩ := own_cap hown'
                have F4 : Fr s w w4 := Fr.more F2 hB4 hsz
                have R4 : Hid (w4.ownsRow w.heap.size 31 3 (.slice (some ⟨g4, 0, none⟩) (nf + 1) cap4) (nf + 1) (flat (xs ++ [(⟨2, th, ts⟩ : Tk)])) ∧ St w4 s r' 0 ∧ Fr s w w4 ∧ TOn 0 w4 (.slice (some ⟨g4, 0, none⟩) (nf + 1) cap4) (xs ++ [(⟨2, th, ts⟩ : Tk)]) ∧ TRow w4 (.slice (some ⟨rb, roff, none⟩) m rcap) row) := ⟨hown', St.bel S2 (hB4.mono hsz), F4, by have q := own_on hown' (by simp); exact q.mono (Nat.zero_le _), (TOn.fr HROW hrb F4).row⟩
                rw [hxl4]
                have HX4 : Hid ((xs ++ [(⟨2, th, ts⟩ : Tk)]).length = nf + 1) := hxl4
                have z4 : w.heap.size ≤ w4.heap.size := F4.size
                clear hown' hgrow hnil' hB4 hne4 hxl4 F4
                have HU : Hid (unt row 0 [] rest = unt row (k - 1) (xs ++ [(⟨2, th, ts⟩ : Tk)]) r') := by show _ = _; rw [show unt row 0 [] rest = _ from HG]; exact unt_on (by simp [dl]; omega) (by omega) (fun hh => by have := hh.1; omega)
                go_wp2
                go_roundw
                case rel => exact ⟨xs ++ [(⟨2, th, ts⟩ : Tk)], r', 0, k - 1, nf + 1, by go_num, R4.1, by simp, R4.2.1, R4.2.2.1, by rw [show (xs ++ [(⟨2, th, ts⟩ : Tk)]).length = nf + 1 from HX4]; omega, by omega, by omega, .inl ⟨rfl, by omega, by rw [List.length_append, ← show nf = xs.length from HNF]; simp; omega, by rw [List.length_append, ← show nf = xs.length from HNF]; simp; omega, HU⟩⟩
                case measure => rw [St.m R4.2.1, St.m HST]; simp
          · have e2 : (tc == 2) = false := beq_eq_false_iff_ne.2 h2
            by_cases hk0 : k = 0
            · subst hk0
              go_wp2_with (at_builtin; refine wpList_append_own _ rfl _ _ 32 rfl w.heap.size 31 i0 _ 3 32 Try.underlying32 hi hz0 hz1 hz2 rfl (by decide) _ _ _ rfl (World.ownsRow.alloc (World.ownsRow.alloc O2 _) _) ⟨w2.heap.size + 1, 0, none⟩ 1 1 (flat [⟨tc, th, ts⟩]) rfl ?d1 ?d2 ?d3 ?d4 ?d5 ?d6 ?_)
              case d1 => rfl
              case d2 =>
                intro j u hj
                match j, hj with
                | 0, hj => simp [flat] at hj; subst hj; simp [Addr.add]
                | 1, hj => simp [flat] at hj; subst hj; simp [Addr.add]
                | 2, hj => simp [flat] at hj; subst hj; simp [Addr.add]
                | j + 3, hj => simp [flat] at hj
              case d3 => exact flat_one _
              case d4 => unfold maxLen; omega
              case d5 => omega
              case d6 => simp; omega
              intro v' w4 hown' hgrow hnil'
              have hB4 : Below w.heap.size w2 w4 := Below.grown (((Below.refl _ _).alloc (by omega) _).alloc (by simp; omega) _) hgrow (by simp; omega) (fun r hr => (World.ownsRow.lt O2 r hr).1)
              rw [← flat_app] at hown'
              have hne4 : v' ≠ .slice none 0 0 := fun h => hnil' h
              have T4 := own_on hown' hne4
              obtain ⟨g4, off4, cap4, rfl, hcap4, hlo4, hg4, _⟩ := T4
              have hxl4 : (xs ++ [(⟨tc, th, ts⟩ : Tk)]).length = nf + 1 := by rw [List.length_append, ← show nf = xs.length from HNF]; rfl
              rw [hxl4] at hown' hcap4
              obtain ⟨rfl, hc4⟩ := own_cap hown'
              have F4 : Fr s w w4 := Fr.more F2 hB4 hsz
              have R4 : Hid (w4.ownsRow w.heap.size 31 3 (.slice (some ⟨g4, 0, none⟩) (nf + 1) cap4) (nf + 1) (flat (xs ++ [(⟨tc, th, ts⟩ : Tk)])) ∧ St w4 s r' 0 ∧ Fr s w w4 ∧ TOn 0 w4 (.slice (some ⟨g4, 0, none⟩) (nf + 1) cap4) (xs ++ [(⟨tc, th, ts⟩ : Tk)]) ∧ TRow w4 (.slice (some ⟨rb, roff, none⟩) m rcap) row) := ⟨hown', St.bel S2 (hB4.mono hsz), F4, by have q := own_on hown' (by simp); exact q.mono (Nat.zero_le _), (TOn.fr HROW hrb F4).row⟩
              rw [hxl4]
              have HX4 : Hid ((xs ++ [(⟨tc, th, ts⟩ : Tk)]).length = nf + 1) := hxl4
              have z4 : w.heap.size ≤ w4.heap.size := F4.size
              clear hown' hgrow hnil' hB4 hne4 hxl4 F4
              go_wp2_with fail
              refine (l4Tail_any R4.2.2.2.1 R4.2.2.2.2 (by omega) hc4 (by rw [← HRL]; omega) (by rw [← HRL]; omega)).mono ?_
              rintro e w5 ⟨rfl, hb5⟩
              have B5 : Hid (Below w4.heap.size w4 w5) := hb5
              clear hb5
              by_cases htb : tailB (xs ++ [(⟨tc, th, ts⟩ : Tk)]) row = true
              · have hle : m ≤ nf + 1 := by have q := tailB_len htb; rw [show (xs ++ [(⟨tc, th, ts⟩ : Tk)]).length = nf + 1 from HX4, ← show m = _ from HRL] at q; exact q
                have HU : Hid (unt row 0 [] rest = (0, strip ((xs ++ [(⟨tc, th, ts⟩ : Tk)]).take (xs.length + 1 - row.length)), r')) := by show _ = _; rw [show unt row 0 [] rest = _ from HG]; exact unt_end (by simp [dl, h1, h2]) htb
                rw [htb]
                clear htb
                obtain ⟨d, hd⟩ : ∃ d, nf + 1 = m + d := ⟨nf + 1 - m, by omega⟩
                have HT5 : Hid (TOn 0 w5 (.slice (some ⟨g4, 0, none⟩) d cap4) ((xs ++ [(⟨tc, th, ts⟩ : Tk)]).take d)) := TOn.below (TOn.take R4.2.2.2.1 (by omega)) B5
                have hd2 : (nf : Int) + 1 - (m : Int) = (d : Int) := by omega
                have hd3 : (d : Int) ≤ (cap4 : Int) := by omega
                have hd4 : ¬ (d : Int) < 0 := by omega
                have HDD : Hid (nf + 1 - m = d) := by show _ = _; omega
                clear hd
                go_wp2_with fail
                refine (l4Strip_any HT5 (by omega) hc4).mono ?_
                rintro e w6 ⟨v6, rfl, t6, hb6⟩
                have Q6 : Hid (TOn 0 w6 v6 (strip ((xs ++ [(⟨tc, th, ts⟩ : Tk)]).take d)) ∧ St w6 s r' 0 ∧ Fr s w w6) := by
                  have b6 : Below w4.heap.size w4 w6 := B5.trans (hb6.mono (Below.size B5))
                  exact ⟨t6, St.fr R4.2.1 b6, Fr.more R4.2.2.1 (b6.mono z4) hsz⟩
                have hsl : (strip ((xs ++ [(⟨tc, th, ts⟩ : Tk)]).take d)).length ≤ 20001 := by have q := strip_len ((xs ++ [(⟨tc, th, ts⟩ : Tk)]).take d); have q2 := List.length_take_le' d (xs ++ [(⟨tc, th, ts⟩ : Tk)]); rw [show (xs ++ [(⟨tc, th, ts⟩ : Tk)]).length = nf + 1 from HX4] at q2; omega
                clear t6 hb6
                go_wp2
                go_ret
                refine ⟨v6, _, rfl, Q6.1, hsl, ?_, ?_, Q6.2.2⟩
                · rw [show unt row 0 [] rest = _ from HU]; exact Q6.2.1
                · rw [show unt row 0 [] rest = _ from HU]; intro _; show strip _ = strip _; rw [← show nf = xs.length from HNF, ← show m = _ from HRL, show nf + 1 - m = d from HDD]
              · have htf : tailB (xs ++ [(⟨tc, th, ts⟩ : Tk)]) row = false := by simpa using htb
                have R5 : Hid (w5.ownsRow w.heap.size 31 3 (.slice (some ⟨g4, 0, none⟩) (nf + 1) cap4) (nf + 1) (flat (xs ++ [(⟨tc, th, ts⟩ : Tk)])) ∧ St w5 s r' 0 ∧ Fr s w w5) := ⟨own_below R4.1 B5, St.fr R4.2.1 B5, Fr.more R4.2.2.1 (Below.mono B5 z4) hsz⟩
                have HU : Hid (unt row 0 [] rest = unt row 0 (xs ++ [(⟨tc, th, ts⟩ : Tk)]) r') := by show _ = _; rw [show unt row 0 [] rest = _ from HG]; exact unt_on (by simp [dl, h1, h2]) (by omega) (fun hh => by rw [htf] at hh; exact absurd hh.2 (by simp))
                rw [htf]
                clear htb htf
                go_wp2
                go_roundw
                case rel => exact ⟨xs ++ [(⟨tc, th, ts⟩ : Tk)], r', 0, 0, nf + 1, by go_num, R5.1, by simp, R5.2.1, R5.2.2, by rw [show (xs ++ [(⟨tc, th, ts⟩ : Tk)]).length = nf + 1 from HX4]; omega, by omega, by omega, .inl ⟨rfl, by omega, by rw [List.length_append, ← show nf = xs.length from HNF]; simp; omega, by rw [List.length_append, ← show nf = xs.length from HNF]; simp; omega, HU⟩⟩
                case measure => rw [St.m R5.2.1, St.m HST]; simp
            · have hk3 : (k == 0) = false := beq_eq_false_iff_ne.2 hk0
              go_wp2_with (at_builtin; refine wpList_append_own _ rfl _ _ 32 rfl w.heap.size 31 i0 _ 3 32 Try.underlying32 hi hz0 hz1 hz2 rfl (by decide) _ _ _ rfl (World.ownsRow.alloc (World.ownsRow.alloc O2 _) _) ⟨w2.heap.size + 1, 0, none⟩ 1 1 (flat [⟨tc, th, ts⟩]) rfl ?d1 ?d2 ?d3 ?d4 ?d5 ?d6 ?_)
              case d1 => rfl
              case d2 =>
                intro j u hj
                match j, hj with
                | 0, hj => simp [flat] at hj; subst hj; simp [Addr.add]
                | 1, hj => simp [flat] at hj; subst hj; simp [Addr.add]
                | 2, hj => simp [flat] at hj; subst hj; simp [Addr.add]
                | j + 3, hj => simp [flat] at hj
              case d3 => exact flat_one _
              case d4 => unfold maxLen; omega
              case d5 => omega
              case d6 => simp; omega
              intro v' w4 hown' hgrow hnil'
              have hB4 : Below w.heap.size w2 w4 := Below.grown (((Below.refl _ _).alloc (by omega) _).alloc (by simp; omega) _) hgrow (by simp; omega) (fun r hr => (World.ownsRow.lt O2 r hr).1)
              rw [← flat_app] at hown'
              have hne4 : v' ≠ .slice none 0 0 := fun h => hnil' h
              have T4 := own_on hown' hne4
              obtain ⟨g4, off4, cap4, rfl, hcap4, hlo4, hg4, _⟩ := T4
              have hxl4 : (xs ++ [(⟨tc, th, ts⟩ : Tk)]).length = nf + 1 := by rw [List.length_append, ← show nf = xs.length from HNF]; rfl
              rw [hxl4] at hown' hcap4
              obtain ⟨rfl, hc4⟩ := own_cap hown'
              have F4 : Fr s w w4 := Fr.more F2 hB4 hsz
              have R4 : Hid (w4.ownsRow w.heap.size 31 3 (.slice (some ⟨g4, 0, none⟩) (nf + 1) cap4) (nf + 1) (flat (xs ++ [(⟨tc, th, ts⟩ : Tk)])) ∧ St w4 s r' 0 ∧ Fr s w w4 ∧ TOn 0 w4 (.slice (some ⟨g4, 0, none⟩) (nf + 1) cap4) (xs ++ [(⟨tc, th, ts⟩ : Tk)]) ∧ TRow w4 (.slice (some ⟨rb, roff, none⟩) m rcap) row) := ⟨hown', St.bel S2 (hB4.mono hsz), F4, by have q := own_on hown' (by simp); exact q.mono (Nat.zero_le _), (TOn.fr HROW hrb F4).row⟩
              rw [hxl4]
              have HX4 : Hid ((xs ++ [(⟨tc, th, ts⟩ : Tk)]).length = nf + 1) := hxl4
              have z4 : w.heap.size ≤ w4.heap.size := F4.size
              clear hown' hgrow hnil' hB4 hne4 hxl4 F4
              have HU : Hid (unt row 0 [] rest = unt row (k) (xs ++ [(⟨tc, th, ts⟩ : Tk)]) r') := by show _ = _; rw [show unt row 0 [] rest = _ from HG]; exact unt_on (by simp [dl, h1, h2]) (by omega) (fun hh => by have := hh.1; omega)
              go_wp2
              go_roundw
              case rel => exact ⟨xs ++ [(⟨tc, th, ts⟩ : Tk)], r', 0, k, nf + 1, by go_num, R4.1, by simp, R4.2.1, R4.2.2.1, by rw [show (xs ++ [(⟨tc, th, ts⟩ : Tk)]).length = nf + 1 from HX4]; omega, by omega, by omega, .inl ⟨rfl, by omega, by rw [List.length_append, ← show nf = xs.length from HNF]; simp; omega, by rw [List.length_append, ← show nf = xs.length from HNF]; simp; omega, HU⟩⟩
              case measure => rw [St.m R4.2.1, St.m HST]; simp
    · have HGD : Hid ((unt row 0 [] rest).1 = c ∧ (unt row 0 [] rest).2.2 = r) := ⟨hg1, hg2⟩
      have hcb : (c == 0) = false := beq_eq_false_iff_ne.2 hc0
      have hxl2 : xs.length ≤ 20001 := by omega
      clear hg1 hg2
      go_wp2
      go_ret
      refine ⟨_, xs, rfl, (own_on HOWN HNE).mono (Nat.zero_le _), hxl2, ?_, ?_, HFR⟩
      · rw [HGD.1, HGD.2]; exact HST
      · rw [HGD.1]; intro hh; exact absurd hh hc0
end Go.Proofs.Ytbceblgnjicdcaa
