/-
  Rows of tokens joined into one: slices.Grow and slices.Concat.
-/
import Derived.Test.YtbceblgnjicdcaaRws
import Derived.Lib.AppendZerosOnto
namespace Go.Proofs.Ytbceblgnjicdcaa
open Go.RowKit
set_option linter.unusedVariables false
set_option linter.unusedSimpArgs false

theorem made_one (n : Nat) : ∀ u ∈ (madeCells (Value.cells (.agg #[.int .i64 0, .int .i64 0, .string ByteArray.empty])) (n * 3)).toList, u.oneCell' = true := by
  intro u hu
  simp only [madeCells, Array.toList_map, List.mem_map] at hu
  obtain ⟨k, _, rfl⟩ := hu
  show ((#[Value.int .i64 0, .int .i64 0, .string ByteArray.empty] : Array Value)[k % 3]!).oneCell' = true
  have h3 : k % 3 = 0 ∨ k % 3 = 1 ∨ k % 3 = 2 := by omega
  rcases h3 with h | h | h <;> rw [h] <;> rfl

theorem own_cells {base g n cap : Nat} {w : World} {xs : List Value} (h : w.ownsRow base 31 3 (.slice (some ⟨g, 0, none⟩) n cap) n xs) : ∀ j u, xs[j]? = some u → w.cell? (Addr.add ⟨g, 0, none⟩ j) = some u := by
  intro j u hj
  rw [Addr.add_lit, Nat.zero_add]
  exact (own_cell h hj).1
theorem own_none {base n : Nat} {w : World} {ao : Option Addr} {cap : Nat} {xs : List Value} (h : w.ownsRow base 31 3 (.slice ao n cap) n xs) : w.ownsRow base 31 3 (.slice ao 0 cap) 0 [] := by
  obtain ⟨hl, ⟨e, h0⟩ | ⟨g, cap', cur, e, hg, hb, hn, hm, hs, hx⟩⟩ := h
  · simp at e
    obtain ⟨rfl, rfl, rfl⟩ := e
    exact ⟨rfl, .inl ⟨rfl, rfl⟩⟩
  · simp at e
    obtain ⟨rfl, rfl⟩ := e
    exact ⟨rfl, .inr ⟨g, cap, cur, rfl, hg, hb, Nat.zero_le _, hm, hs, by simp⟩⟩

set_option maxRecDepth 100000 in
set_option maxHeartbeats 4000000 in
theorem grow_any (n : Nat) (hn : n ≤ 20000) (w : World) : Calls Try.prog 114 #[.slice none 0 0, .int .i64 (n : Int)] w fun e w' => ∃ v', e = .returned v' ∧ w'.ownsRow w.heap.size 31 3 v' 0 [] ∧ Below w.heap.size w w' := by
  obtain ⟨i0, hi, hz0, hz1, hz2⟩ := info_parts Try.info31
  have hneg : ¬ (n : Int) < 0 := by omega
  by_cases h0 : n = 0
  · subst h0
    go_enter Try.func114, Try.ntmps114
    go_wp2
    go_ret
    exact ⟨_, rfl, World.ownsRow_nil _ _ _ _, Below.refl _ _⟩
  · have hpos : (0 : Int) < (n : Int) := by omega
    obtain ⟨G, hG⟩ : ∃ G, G = grownCap w n 0 31 := ⟨_, rfl⟩
    obtain ⟨C, hC⟩ : ∃ C, C = (([] : List Value).toArray ++ Builtin.zeroCells (Value.cells (.agg #[.int .i64 0, .int .i64 0, .string ByteArray.empty])) n ++ Builtin.zeroCells (Value.cells (.agg #[.int .i64 0, .int .i64 0, .string ByteArray.empty])) (G - n)) := ⟨_, rfl⟩
    have hrz : ∀ ty, (Builtin.append_ #[32, 3] ty #[.slice none 0 0, .int .i64 (n : Int)]).run Try.prog w = .ok (.slice (some ⟨w.heap.size, 0, none⟩) n G) (w.drew.alloc (.cells C 31)) := fun ty => by
      have h := Lib.run_append_grow_zeros w 32 3 ty 31 i0 _ .i64 .i64 Try.underlying32 Try.underlying3 hi hz0 none 0 0 [] (run_firstCells_none w.drew i0.size 0 0 0) n (by omega) (by rw [hz1]; decide) (by omega) (by omega) (by rw [hz2]; omega) (by rw [hz2]; exact growslice_fits (by omega) (by omega))
      rw [Nat.zero_add, ← hG, ← hC] at h
      exact h
    have hGn : n ≤ G := by rw [hG]; exact grownCap_ge w _ _ _
    have hG63 : G ≤ maxLen := by rw [hG]; exact grownCap_le_maxLen w n 0 31 (by unfold maxLen; omega)
    have hCs : C.size = G * 3 := by rw [hC]; simp [Builtin.zeroCells, Value.cells]; omega
    have HF : Hid (G ≤ maxLen ∧ C.size = G * 3) := ⟨hG63, hCs⟩
    have hG2 : G ≤ 9223372036854775807 := by unfold maxLen at hG63; omega
    clear hG hC hCs hG63
    go_enter Try.func114, Try.ntmps114
    go_wp2_with (at_builtin; refine Lib.wpList_append_run _ rfl _ _ _ _ rfl _ _ rfl rfl _ _ (hrz _) ?_)
    go_ret
    refine ⟨_, rfl, ?_, ?_⟩
    · exact World.ownsRow_made w.drew C G (Nat.le_refl _) HF.1 HF.2
    · exact ((Below.refl _ w).drew).alloc (Nat.le_refl _) _

theorem flatten_take {rs : List (List Tk)} {k : Nat} (h : k < rs.length) : (rs.take (k + 1)).flatten = (rs.take k).flatten ++ rs.getD k [] := by
  rw [List.take_succ_eq_append_getElem h, List.flatten_append]
  simp [List.getD, List.getElem?_eq_getElem h]
theorem flatten_le (rs : List (List Tk)) (k : Nat) : (rs.take k).flatten.length ≤ rs.flatten.length := by
  conv => rhs; rw [← List.take_append_drop k rs, List.flatten_append, List.length_append]
  omega

set_option maxRecDepth 100000 in
set_option maxHeartbeats 4000000 in
theorem concat_any {va : Value} {rs : List (List Tk)} {w : World} (ha : ARow 0 w va rs) (la : rs.length ≤ 4001) (hf : rs.flatten.length ≤ 20000) :
    Calls Try.prog 78 #[va] w fun e w' => ∃ v', e = .returned v' ∧ (∃ n, w'.ownsRow w.heap.size 31 3 v' n (flat rs.flatten)) ∧ Below w.heap.size w w' := by
  obtain ⟨i0, hi, hz0, hz1, hz2⟩ := info_parts Try.info31
  obtain ⟨aa, an, acap, rfl, hal, har⟩ := ha
  have HA : Hid (0 < an → ∃ b off, aa = some ⟨b, off, none⟩ ∧ 0 ≤ b ∧ b < w.heap.size ∧ ∀ i, i < an → ∃ cs : List Value, cs.length = 1 ∧ TsS 0 w cs (rs.getD i []) ∧ ∀ j, j < 1 → w.cell? ⟨b, off + i * 1 + j, none⟩ = cs[j]?) := har
  have HAL : Hid (rs.length = an) := hal
  have HF : Hid (rs.flatten.length ≤ 20000) := hf
  rw [hal] at la
  clear har hal hf
  go_enter Try.func78, Try.ntmps78
  go_wp2_with fail
  go_loopw [3, 11] (fun sz i wr => ∃ k : Nat, k ≤ an ∧ i = .int .i64 k ∧ sz = .int .i64 ((rs.take k).flatten.length : Int) ∧ wr = w) (fun _ i _ => an - (intOf i).toNat)
  case atStart => exact ⟨0, by omega, rfl, rfl, rfl⟩
  case round =>
    obtain ⟨k, hk, rfl, rfl, hww⟩ := hrel
    have hww' := hww.symm
    subst hww'
    clear hww
    obtain ⟨z, hz⟩ : ∃ z, z = (rs.take k).flatten.length := ⟨_, rfl⟩
    have HZ : Hid (z = (rs.take k).flatten.length) := hz
    have hz4 : z ≤ 20000 := by rw [hz]; exact Nat.le_trans (flatten_le rs k) HF
    rw [← hz]
    clear hz
    by_cases hkn : k < an
    · have hki : (k : Int) < (an : Int) := by omega
      obtain ⟨ab, aoff, rfl, _, hab, hcell⟩ := HA (by omega)
      obtain ⟨cs, hcs, ⟨u, rfl, hu⟩, hcj⟩ := hcell k hkn
      obtain ⟨ub, uoff, um, ucap, rfl⟩ := hu.shape
      have hum : um = (rs.getD k []).length := by obtain ⟨b2, off2, cap2, e, _⟩ := hu; simp at e; simpa [List.getD] using e.2.1
      have ha0 : w.cell? ⟨ab, aoff + k, none⟩ = some (.slice (some ⟨ub, uoff, none⟩) um ucap) := by have h := hcj 0 (by omega); simpa using h
      have hst : z + um = (rs.take (k + 1)).flatten.length := by rw [flatten_take (by rw [show rs.length = an from HAL]; exact hkn), List.length_append, ← hum, ← show z = _ from HZ]
      have HST : Hid (z + um = (rs.take (k + 1)).flatten.length) := hst
      have hz5 : z + um ≤ 20000 := by rw [hst]; exact Nat.le_trans (flatten_le rs (k + 1)) HF
      have hneg : ¬ (z : Int) + (um : Int) < 0 := by omega
      clear hcell hcs hcj hu hum hst
      go_wp2
      go_roundw
      case rel => exact ⟨k + 1, by omega, by go_num, by rw [← show z + um = _ from HST]; go_num, by trivial⟩
      case measure => simp [intOf]; omega
    · have hki : ¬ (k : Int) < (an : Int) := by omega
      obtain rfl : k = an := by omega
      have HZ2 : Hid (z = rs.flatten.length) := by show z = _; rw [show z = _ from HZ, ← show rs.length = k from HAL, List.take_length]
      go_wp2_with (go_at_call 114; refine (grow_any z hz4 _).mono ?_; rintro e w1 ⟨v1, rfl, ho1, hb1⟩; have hsh := own_shape ho1; obtain ⟨na, ncap, rfl, _⟩ := hsh; have HO1 : Hid (w1.ownsRow w.heap.size 31 3 (.slice na 0 ncap) 0 [] ∧ Below w.heap.size w w1) := ⟨ho1, hb1⟩; clear ho1 hb1)
      go_loopw [6, 27] (fun nv i wr => ∃ q : Nat, q ≤ k ∧ i = .int .i64 q ∧ (∃ n, wr.ownsRow w.heap.size 31 3 nv n (flat (rs.take q).flatten)) ∧ Below w.heap.size w wr) (fun _ i _ => k - (intOf i).toNat)
      case atStart => exact ⟨0, by omega, rfl, ⟨0, HO1.1⟩, HO1.2⟩
      case round =>
        obtain ⟨q, hq, rfl, ⟨n, hown⟩, hbel⟩ := hrel
        obtain ⟨na2, ncap2, rfl, _⟩ := own_shape hown
        have HOWN : Hid (wr.ownsRow w.heap.size 31 3 (.slice na2 n ncap2) n (flat (rs.take q).flatten)) := hown
        have HBEL : Hid (Below w.heap.size w wr) := hbel
        have hnl : n ≤ 20000 := by
          have := hown.1
          rw [flat_len] at this
          have h2 := Nat.le_trans (flatten_le rs q) HF
          omega
        clear hown hbel
        by_cases hqk : q < k
        · have hqi : (q : Int) < (k : Int) := by omega
          obtain ⟨ab, aoff, rfl, _, hab, hcell⟩ := HA (by omega)
          obtain ⟨cs, hcs, ⟨u, rfl, hu⟩, hcj⟩ := hcell q hqk
          obtain ⟨ux, hux⟩ : ∃ ux, ux = rs.getD q [] := ⟨_, rfl⟩
          rw [← hux] at hu
          obtain ⟨ub, uoff, ucap, rfl, hucap, _, hub, huc⟩ := hu
          obtain ⟨m, hm⟩ : ∃ m, m = ux.length := ⟨_, rfl⟩
          rw [← hm] at hcj
          have hst : (rs.take (q + 1)).flatten = (rs.take q).flatten ++ ux := by rw [hux]; exact flatten_take (by rw [show rs.length = k from HAL]; exact hqk)
          have hm2 : m ≤ 20000 := by
            have h2 := Nat.le_trans (flatten_le rs (q + 1)) HF
            rw [hst, List.length_append] at h2
            omega
          have ha0 : wr.cell? ⟨ab, aoff + q, none⟩ = some (.slice (some ⟨ub, uoff, none⟩) m ucap) := by have h := (Below.cell HBEL (p := ⟨ab, aoff + q * 1 + 0, none⟩) hab).trans (hcj 0 (by omega)); simpa using h
          have HU : Hid (∀ j u, (flat ux)[j]? = some u → wr.cell? ⟨ub, uoff + j, none⟩ = some u) := fun j u hj => (Below.cell HBEL (p := ⟨ub, uoff + j, none⟩) hub).trans (huc j u hj)
          have HM : Hid (m = ux.length) := hm
          have HST : Hid ((rs.take (q + 1)).flatten = (rs.take q).flatten ++ ux) := hst
          clear hcell hcs hcj hux huc hm hst
          go_wp2_with (at_builtin; refine wpList_append_own _ rfl _ _ 32 rfl w.heap.size 31 i0 _ 3 32 Try.underlying32 hi hz0 hz1 hz2 rfl (by decide) _ _ _ rfl HOWN ⟨ub, uoff, none⟩ m ucap (flat ux) rfl ?c1 ?c2 ?c3 ?c4 ?c5 ?c6 ?_)
          case c1 => rw [flat_len, ← show m = ux.length from HM]
          case c2 =>
            intro j u hj
            rw [Addr.add_lit]
            exact HU j u hj
          case c3 => exact flat_one ux
          case c4 => unfold maxLen; omega
          case c5 => omega
          case c6 => exact Below.size HBEL
          intro v' w2 hown' hgrow hnil'
          have HB2 : Hid (Below w.heap.size w w2) := Below.grown HBEL hgrow (Below.size HBEL) (fun r hr => (World.ownsRow.lt HOWN r hr).1)
          rw [← flat_app, ← show (rs.take (q + 1)).flatten = _ from HST] at hown'
          obtain ⟨na3, ncap3, rfl, _⟩ := own_shape hown'
          have HO2 : Hid (w2.ownsRow w.heap.size 31 3 (.slice na3 (n + m) ncap3) (n + m) (flat (rs.take (q + 1)).flatten)) := hown'
          clear hown' hgrow hnil'
          go_wp2
          go_roundw
          case rel => exact ⟨q + 1, by omega, by go_num, ⟨_, HO2⟩, HB2⟩
          case measure => simp [intOf]; omega
        · have hqi : ¬ (q : Int) < (k : Int) := by omega
          obtain rfl : q = k := by omega
          have HFIN : Hid (wr.ownsRow w.heap.size 31 3 (.slice na2 n ncap2) n (flat rs.flatten)) := by
            have := show wr.ownsRow w.heap.size 31 3 (.slice na2 n ncap2) n (flat (rs.take q).flatten) from HOWN
            rwa [← show rs.length = q from HAL, List.take_length] at this
          go_wp2
          go_ret
          exact ⟨_, rfl, ⟨n, HFIN⟩, HBEL⟩
end Go.Proofs.Ytbceblgnjicdcaa
