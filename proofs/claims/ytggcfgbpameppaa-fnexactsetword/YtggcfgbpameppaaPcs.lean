/-
  Pieces compared, marked, and held against their marks.
-/
import Derived.Test.YtggcfgbpameppaaWss
import Derived.Deep.RegionWith
namespace Go.Proofs.Ytggcfgbpameppaa
open Go.RowKit Go.Maps
set_option linter.unusedVariables false
set_option linter.unusedSimpArgs false

/-- Pieces in a row of their own. -/
def PG (base : Nat) (W : World) (V : Value) (L : List (Int × Int)) : Prop := W.ownsRow base 81 2 V L.length (f2 L)
theorem PG.below {base : Nat} {W W' : World} {V : Value} {L : List (Int × Int)} (h : PG base W V L) (hb : Below W.heap.size W W') : PG base W' V L := own_below h hb
theorem PG.cell {base n : Nat} {W W' : World} {ao : Option Addr} {cap k : Nat} {L : List (Int × Int)} (h : PG base W (.slice ao n cap) L) (hb : Below W.heap.size W W') (hn : L.length = n) (hk : k < n) :
    ∃ g, ao = some ⟨g, 0, none⟩ ∧ g < W'.heap.size ∧ W'.cell? ⟨g, k * 2, none⟩ = some (.int .i64 (L.getD k (0, 0)).1) ∧ W'.cell? ⟨g, k * 2 + 1, none⟩ = some (.int .i64 (L.getD k (0, 0)).2) := by
  unfold PG at h
  rw [hn] at h
  rcases h.2 with ⟨_, h0⟩ | ⟨g, cap', cur, he, _, hg, _⟩
  · omega
  · simp only [Value.slice.injEq] at he
    obtain ⟨rfl, _, rfl⟩ := he
    have hgl := (Array.getElem?_eq_some_iff.1 hg).1
    obtain ⟨e0, e1⟩ := f2_get (ts := L) (k := k) (by omega)
    refine ⟨g, rfl, Nat.lt_of_lt_of_le hgl hb.size, ?_, ?_⟩
    · rw [hb.cell (p := ⟨g, k * 2, none⟩) hgl, World.ownsRow.cellAt h (k * 2) (by omega)]; exact e0
    · rw [hb.cell (p := ⟨g, k * 2 + 1, none⟩) hgl, World.ownsRow.cellAt h (k * 2 + 1) (by omega)]; exact e1

theorem eqPiece_same (a b : Int) (w : World) : Calls Try.prog 43 #[.agg #[.int .i64 a, .int .i64 b], .agg #[.int .i64 a, .int .i64 b]] w fun r w' => r = .returned (.bool true) ∧ Below w.heap.size w w' := by
  go_enter Try.func43, Try.ntmps43
  go_wp2
  go_ret
  exact ⟨rfl, below2 _ _ _⟩

set_option maxRecDepth 20000 in
set_option maxHeartbeats 4000000 in
theorem eqPieceS_same {v1 v2 : Value} {b1 b2 : Nat} {L : List (Int × Int)} {w : World} (h1 : PG b1 w v1 L) (h2 : PG b2 w v2 L) (hs : L.length ≤ 1048576) :
    Calls Try.prog 18 #[v1, v2] w fun e w' => e = .returned (.bool true) ∧ Below w.heap.size w w' := by
  have HR1 := hideP h1
  have HR2 := hideP h2
  obtain ⟨ao1, cap1, rfl⟩ := ownG_shape h1
  obtain ⟨ao2, cap2, rfl⟩ := ownG_shape h2
  obtain ⟨n, hn⟩ : ∃ n, n = L.length := ⟨_, rfl⟩
  rw [← hn] at HR1 HR2
  rw [← hn]
  have HN := hideP hn
  have hsz : n ≤ 1048576 := by rw [hn]; exact hs
  clear h1 h2 hs hn
  go_enter Try.func18, Try.ntmps18
  go_wp2
  go_loopw [5] (fun i wr => ∃ k : Nat, k ≤ n ∧ i = .int .i64 k ∧ Hid (Below w.heap.size w wr)) (fun i _ => n - (intOf i).toNat)
  case atStart => exact ⟨0, by omega, rfl, hideP (Below.refl _ _)⟩
  case round =>
    obtain ⟨k, hk, rfl, HB⟩ := hrel
    by_cases hkn : k < n
    · have hki : (k : Int) < (n : Int) := by omega
      obtain ⟨b, rfl, hb, g0, g1⟩ := HR1.out.cell HB.out HN.out.symm hkn
      obtain ⟨b', rfl, hb', f0, f1⟩ := HR2.out.cell HB.out HN.out.symm hkn
      obtain ⟨t, ht⟩ : ∃ t, t = L.getD k (0, 0) := ⟨_, rfl⟩
      rw [← ht] at g0 g1 f0 f1
      clear ht
      obtain ⟨ta, tb⟩ := t
      dsimp only at g0 g1 f0 f1
      have BD : Hid (Below w.heap.size w wr.drew) := hideP HB.out.drew
      go_wp2_with fail
      go_region_with (go_at_call 43; refine (eqPiece_same _ _ _).mono ?_; rintro e w2 ⟨rfl, hb1⟩; have B2 := hideP (below_more BD.out hb1 BD.out.size); clear hb1)
      all_goals
        go_wp2
        go_roundw
        case rel => exact ⟨k + 1, by omega, by go_num, B2⟩
        case measure => simp [intOf]; omega
    · have hki : ¬ (k : Int) < (n : Int) := by omega
      go_wp2
      go_ret
      exact ⟨rfl, HB.out⟩

/-- What is marked from k on. -/
def upv (k : Int) (m : Nat) : List Value := (List.range m).map (fun t : Nat => Value.int .i64 (k + (t : Int)))
theorem upv_len (k : Int) (m : Nat) : (upv k m).length = m := by simp [upv]
theorem upv_at {k : Int} {m t : Nat} (h : t < m) : (upv k m)[t]? = some (.int .i64 (k + (t : Int))) := by simp [upv, h]

set_option maxRecDepth 20000 in
set_option maxHeartbeats 4000000 in
theorem markPieceG_any {base g n cap : Nat} {zs : List Value} {w : World} (h : w.ownsRow base 81 2 (.slice (some ⟨g, 0, none⟩) n cap) n zs) (hn : n ≤ 1048576) :
    Calls Try.prog 22 #[.slice (some ⟨g, 0, none⟩) n cap, .int .i64 1] w fun e' w' => e' = .returned (.int .i64 (1 + 2 * (n : Int))) ∧ w'.ownsRow base 81 2 (.slice (some ⟨g, 0, none⟩) n cap) n (upv 1 (n * 2)) ∧ Below g w w' ∧ (∀ b, b ≠ g → w'.heap[b]? = w.heap[b]?) := by
  have HO := hideP h
  have HZ : Hid (zs.length = n * 2) := hideP h.1
  clear h
  go_enter Try.func22, Try.ntmps22
  go_wp2
  go_loopw [1, 5] (fun s i wr => ∃ (j : Nat) (q : Int) (ys : List Value), j ≤ n ∧ i = .int .i64 (j : Int) ∧ s = .int .i64 q ∧ q = 1 + 2 * (j : Int) ∧ Hid (ys.length = n * 2 ∧ (∀ t, t < j * 2 → ys[t]? = some (.int .i64 (1 + (t : Int)))) ∧
      wr.ownsRow base 81 2 (.slice (some ⟨g, 0, none⟩) n cap) n ys ∧ Below g w wr ∧ (∀ b, b ≠ g → wr.heap[b]? = w.heap[b]?)))
    (fun _ i _ => n - (intOf i).toNat)
  case atStart => exact ⟨0, 1, zs, by omega, rfl, rfl, by omega, hideP ⟨HZ.out, fun t ht => by omega, HO.out, Below.refl _ _, fun b _ => rfl⟩⟩
  case round =>
    obtain ⟨j, q, ys, hj, rfl, rfl, hq, HI⟩ := hrel
    clear HO HZ
    by_cases hjn : j < n
    · have hji : (j : Int) < (n : Int) := by omega
      have hyl := HI.out.1
      have hown := HI.out.2.2.1
      have hfz : ∀ t, wr.frozen? ⟨g, t, none⟩ = false := fun t => World.ownsRow.frozenAt hown t
      have hc0 : wr.cell? ⟨g, j * 2, none⟩ = some (ys.getD (j * 2) (.bool false)) := by
        rw [World.ownsRow.cellAt hown (j * 2) (by omega), List.getD_eq_getElem?_getD, List.getElem?_eq_getElem (show j * 2 < ys.length by omega)]; rfl
      have hc1 : wr.cell? ⟨g, j * 2 + 1, none⟩ = some (ys.getD (j * 2 + 1) (.bool false)) := by
        rw [World.ownsRow.cellAt hown (j * 2 + 1) (by omega), List.getD_eq_getElem?_getD, List.getElem?_eq_getElem (show j * 2 + 1 < ys.length by omega)]; rfl
      have hgl : g < wr.heap.size := (World.ownsRow.lt hown g rfl).2
      have hqs : 0 ≤ q ∧ q ≤ 16777216 := by omega
      have HQ := hideP hq
      clear hown hyl hq
      go_wp2
      go_roundw
      case rel =>
        have hown := HI.out.2.2.1
        have hyl := HI.out.1
        have hyv := HI.out.2.1
        have hq := HQ.out
        refine ⟨j + 1, _, (ys.set (j * 2) (.int .i64 q)).set (j * 2 + 1) (.int .i64 (q + 1)), by omega, by go_num, rfl, by omega, hideP ⟨by simp [hyl], fun t ht => ?_, ?_, ?_, ?_⟩⟩
        · rw [List.getElem?_set, List.getElem?_set]
          by_cases h1 : j * 2 + 1 = t
          · rw [if_pos h1, if_pos (by simp; omega)]
            exact congrArg some (congrArg _ (by omega))
          · rw [if_neg h1]
            by_cases h2 : j * 2 = t
            · rw [if_pos h2, if_pos (by omega)]
              exact congrArg some (congrArg _ (by omega))
            · rw [if_neg h2]
              exact hyv t (by omega)
        · exact (World.ownsRow.stored ((World.ownsRow.stored hown (j * 2) (.int .i64 q)).1) (j * 2 + 1) (.int .i64 (q + 1))).1
        · exact (HI.out.2.2.2.1.setCell (Nat.le_refl _) _).setCell (Nat.le_refl _) _
        · exact fun b hb => (Below.heap_setCell _ _ _ _ hb).trans ((Below.heap_setCell _ _ _ _ hb).trans (HI.out.2.2.2.2 b hb))
      case measure => simp [intOf]; omega
    · have hji : ¬ (j : Int) < (n : Int) := by omega
      obtain rfl : j = n := by omega
      subst hq
      have hys : ys = upv 1 (j * 2) := by
        apply List.ext_getElem?
        intro t
        by_cases ht : t < j * 2
        · rw [HI.out.2.1 t ht, upv_at ht]
        · rw [List.getElem?_eq_none (by rw [HI.out.1]; omega), List.getElem?_eq_none (by rw [upv_len]; omega)]
      subst hys
      go_wp2
      go_ret
      exact ⟨rfl, HI.out.2.2.1, HI.out.2.2.2.1, HI.out.2.2.2.2⟩
theorem markPieceN_any {ao : Option Addr} {cap : Nat} (w : World) (k : Int) : Calls Try.prog 22 #[.slice ao 0 cap, .int .i64 k] w fun e w' => e = .returned (.int .i64 k) ∧ w' = w := by
  go_enter Try.func22, Try.ntmps22
  go_wp2
  refine wp_loop_rounds 1 ?_
  rw [rounds_succ]
  go_wp2
  go_ret
  exact ⟨rfl, rfl⟩
theorem markPieceS_any {base n : Nat} {V : Value} {zs : List Value} {w : World} (h : w.ownsRow base 81 2 V n zs) (hn : n ≤ 1048576) :
    Calls Try.prog 22 #[V, .int .i64 1] w fun e' w' => e' = .returned (.int .i64 (1 + 2 * (n : Int))) ∧ w'.ownsRow base 81 2 V n (upv 1 (n * 2)) ∧ Below base w w' ∧ (∀ b, V.ownBlock ≠ some b → w'.heap[b]? = w.heap[b]?) := by
  have h' := h
  obtain ⟨h0, ⟨rfl, rfl⟩ | ⟨g, cap, cur, rfl, hg, hb, hr⟩⟩ := h
  · refine (markPieceN_any w 1).mono ?_
    rintro e w' ⟨rfl, rfl⟩
    exact ⟨by simp, ⟨upv_len _ _, .inl ⟨rfl, rfl⟩⟩, Below.refl _ _, fun b _ => rfl⟩
  · refine (markPieceG_any h' hn).mono ?_
    rintro e w' ⟨rfl, h1, h2, h3⟩
    exact ⟨rfl, h1, h2.mono hg, fun b hb => h3 b (fun e => hb (by rw [e]; rfl))⟩

set_option maxRecDepth 20000 in
set_option maxHeartbeats 4000000 in
theorem heldPieceS_any {base n : Nat} {V : Value} {w : World} (h : w.ownsRow base 81 2 V n (upv 1 (n * 2))) (hn : n ≤ 1048576) :
    Calls Try.prog 23 #[V, .int .i64 1] w fun e' w' => e' = .returned (.int .i64 (1 + 2 * (n : Int))) ∧ w' = w := by
  have HO := hideP h
  obtain ⟨ao, cap, rfl⟩ := ownG_shape h
  clear h
  go_enter Try.func23, Try.ntmps23
  go_wp2
  go_loop [1, 5] (fun s i => ∃ (j : Nat) (q : Int), j ≤ n ∧ i = .int .i64 (j : Int) ∧ s = .int .i64 q ∧ q = 1 + 2 * (j : Int)) (fun _ i => n - (intOf i).toNat)
  case atStart => exact ⟨0, 1, by omega, rfl, rfl, by omega⟩
  case round =>
    obtain ⟨j, q, hj, rfl, rfl, hq⟩ := hrel
    by_cases hjn : j < n
    · have hji : (j : Int) < (n : Int) := by omega
      obtain ⟨g, rfl⟩ : ∃ g, ao = some ⟨g, 0, none⟩ := by
        rcases HO.out.2 with ⟨_, h0⟩ | ⟨g, cap', cur, he, _, hg, _⟩
        · omega
        · simp only [Value.slice.injEq] at he
          exact ⟨g, he.1⟩
      have hgl : g < w.heap.size := (World.ownsRow.lt HO.out g rfl).2
      have hc0 : w.cell? ⟨g, j * 2, none⟩ = some (.int .i64 q) := by
        rw [World.ownsRow.cellAt HO.out (j * 2) (by omega), upv_at (by omega)]
        exact congrArg some (congrArg _ (by omega))
      have hc1 : w.cell? ⟨g, j * 2 + 1, none⟩ = some (.int .i64 (q + 1)) := by
        rw [World.ownsRow.cellAt HO.out (j * 2 + 1) (by omega), upv_at (by omega)]
        exact congrArg some (congrArg _ (by omega))
      have hqs : 0 ≤ q ∧ q ≤ 16777216 := by omega
      have HQ := hideP hq
      clear hq
      go_wp2
      go_round
      case rel => exact ⟨j + 1, _, by omega, by go_num, rfl, by have := HQ.out; omega⟩
      case measure => simp [intOf]; omega
    · have hji : ¬ (j : Int) < (n : Int) := by omega
      obtain rfl : j = n := by omega
      subst hq
      go_wp2
      go_ret
      exact ⟨rfl, rfl⟩
end Go.Proofs.Ytggcfgbpameppaa
