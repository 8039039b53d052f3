/-
  Rows of rows of nodes: how they read, and that two of them are compared.
-/
import Derived.Test.YtjagagbelpihbaaOw
import Derived.Test.YtjagagbelpihbaaNdq
import Derived.Test.YtjagagbelpihbaaSpl
import Derived.Deep.RegionWith
namespace Go.Proofs.Ytjagagbelpihbaa
open Go.RowKit
set_option linter.unusedVariables false
set_option linter.unusedSimpArgs false

/-- In world w the slice v reads as n rows of nodes, f of each place. -/
def RR (w : World) (v : Value) (n : Nat) (f : Nat → List Nd) : Prop :=
  ∃ ao cap, v = .slice ao n cap ∧ (0 < n → ∃ b off, ao = some ⟨b, off, none⟩ ∧ b < w.heap.size ∧ ∀ i, i < n → ∃ u, w.cell? ⟨b, off + i, none⟩ = some u ∧ NRow 0 w u (f i))
theorem RR.below {w w' : World} {v : Value} {n : Nat} {f : Nat → List Nd} (h : RR w v n f) (hb : Below w.heap.size w w') : RR w' v n f := by
  obtain ⟨ao, cap, rfl, hc⟩ := h
  refine ⟨ao, cap, rfl, fun hp => ?_⟩
  obtain ⟨b, off, rfl, hlt, hcell⟩ := hc hp
  refine ⟨b, off, rfl, Nat.lt_of_lt_of_le hlt hb.size, fun i hi => ?_⟩
  obtain ⟨u, hu, hr⟩ := hcell i hi
  exact ⟨u, (hb.cell (p := ⟨b, off + i, none⟩) hlt).trans hu, SRow.below ndStable hr hb⟩

/-- Rows of nodes that are owned, each its own block. -/
structure Lsts (base : Nat) (w : World) (vs : List Value) (f : Nat → List Nd) : Prop where
  own : ∀ (i : Nat) (u : Value), vs[i]? = some u → w.ownsRow base 60 15 u (f i).length (flatN (f i))
  apart : ∀ (i j : Nat) (u t : Value), i ≠ j → vs[i]? = some u → vs[j]? = some t → ∀ b, u.ownBlock = some b → t.ownBlock ≠ some b

theorem own25_cell {base g n cap : Nat} {w : World} {xs : List Value} (h : w.ownsRow base 25 1 (.slice (some ⟨g, 0, none⟩) n cap) n xs) {j : Nat} {x : Value} (hj : xs[j]? = some x) : w.cell? ⟨g, j, none⟩ = some x ∧ w.frozen? ⟨g, j, none⟩ = false := by
  obtain ⟨hl, ⟨h, _⟩ | ⟨g', cap', cur, e, _, hb, hn, hm, hs, hx⟩⟩ := h
  · simp at h
  · simp only [Value.slice.injEq, Option.some.injEq, Addr.mk.injEq, and_true, true_and] at e
    obtain ⟨rfl, rfl⟩ := e
    refine ⟨?_, frozen_of_row w g j cur 25 hb⟩
    rw [cell_of_row w g _ cur 25 _ hb, ← Array.getElem?_toList]
    rw [← hx, List.getElem?_take] at hj
    split at hj
    · exact hj
    · simp at hj
theorem own25_shape {base n : Nat} {w : World} {v : Value} {xs : List Value} (h : w.ownsRow base 25 1 v n xs) : ∃ ao cap, v = .slice ao n cap ∧ (0 < n → ∃ g, ao = some ⟨g, 0, none⟩ ∧ base ≤ g ∧ g < w.heap.size) := by
  obtain ⟨hl, ⟨rfl, rfl⟩ | ⟨g, cap, cur, rfl, hg, hb, _⟩⟩ := h
  · exact ⟨_, _, rfl, fun h => absurd h (Nat.lt_irrefl _)⟩
  · exact ⟨_, _, rfl, fun _ => ⟨g, rfl, hg, (Array.getElem?_eq_some_iff.1 hb).1⟩⟩
theorem own25_len {base n : Nat} {w : World} {v : Value} {xs : List Value} (h : w.ownsRow base 25 1 v n xs) : xs.length = n := by
  have := h.1
  omega
theorem Lsts.rr {base n : Nat} {w : World} {v : Value} {vs : List Value} {f : Nat → List Nd} (h : w.ownsRow base 25 1 v n vs) (hl : Lsts base w vs f) : RR w v n f := by
  have hlen := own25_len h
  obtain ⟨ao, cap, rfl, hg⟩ := own25_shape h
  refine ⟨ao, cap, rfl, fun hp => ?_⟩
  obtain ⟨g, rfl, hb, hlt⟩ := hg hp
  refine ⟨g, 0, rfl, hlt, fun i hi => ?_⟩
  have hu : vs[i]? = some (vs[i]'(by omega)) := List.getElem?_eq_getElem (by omega)
  refine ⟨_, by rw [Nat.zero_add]; exact (own25_cell h hu).1, ?_⟩
  have h1 := own_NRow (hl.own i _ hu) rfl
  exact SRow.mono ndStable h1 (Nat.zero_le _)
/-- The row of rows lies in a block of another type than the rows. -/
theorem other_block {base base' n m : Nat} {w : World} {v u : Value} {xs ys : List Value} (h : w.ownsRow base 25 1 v n xs) (k : w.ownsRow base' 60 15 u m ys) : ∀ b, v.ownBlock = some b → u.ownBlock ≠ some b := by
  intro b hb hu
  obtain ⟨_, ⟨rfl, _⟩ | ⟨g, cap, cur, rfl, _, hg, _⟩⟩ := h
  · simp [Value.ownBlock] at hb
  · obtain ⟨_, ⟨rfl, _⟩ | ⟨g', cap', cur', rfl, _, hg', _⟩⟩ := k
    · simp [Value.ownBlock] at hu
    · simp [Value.ownBlock] at hb hu
      subst hb hu
      rw [hg] at hg'
      simp at hg'

set_option maxHeartbeats 4000000 in
theorem eqNodeSS_same {v1 v2 : Value} {n : Nat} {f : Nat → List Nd} {w : World} (h1 : RR w v1 n f) (h2 : RR w v2 n f) (hn : n ≤ 1048576) (hs : ∀ i, i < n → (f i).length ≤ 1048576) :
    Calls Try.prog 15 #[v1, v2] w fun e w' => e = .returned (.bool true) ∧ Below w.heap.size w w' := by
  obtain ⟨ao1, cap1, rfl, hr1⟩ := h1
  obtain ⟨ao2, cap2, rfl, hr2⟩ := h2
  have HS := hideP hs
  have HR1 := hideP hr1
  have HR2 := hideP hr2
  clear hr1 hr2 hs
  go_enter Try.func15, Try.ntmps15
  go_wp2
  go_loopw [5] (fun i wr => ∃ k : Nat, k ≤ n ∧ i = .int .i64 k ∧ Below w.heap.size w wr) (fun i _ => n - (intOf i).toNat)
  case atStart => exact ⟨0, by omega, rfl, Below.refl _ _⟩
  case round =>
    obtain ⟨k, hk, rfl, hbel⟩ := hrel
    by_cases hkn : k < n
    · have hki : (k : Int) < (n : Int) := by omega
      obtain ⟨b, off, rfl, hb, hc⟩ := HR1.out (by omega)
      obtain ⟨b', off', rfl, hb', hc'⟩ := HR2.out (by omega)
      have hfk := HS.out k hkn
      obtain ⟨u1, hu1, hin1⟩ := hc k hkn
      obtain ⟨u2, hu2, hin2⟩ := hc' k hkn
      obtain ⟨t, ht⟩ : ∃ t, t = f k := ⟨_, rfl⟩
      rw [← ht] at hin1 hin2 hfk
      obtain ⟨m, hm⟩ : ∃ m, m = t.length := ⟨_, rfl⟩
      obtain ⟨a1, c1, rfl⟩ := hin1.shape
      obtain ⟨a2, c2, rfl⟩ := hin2.shape
      rw [← hm] at hin1 hin2 hu1 hu2
      have g0 : wr.cell? ⟨b, off + k, none⟩ = some (.slice a1 m c1) := (hbel.cell (p := ⟨b, off + k, none⟩) hb).trans hu1
      have f0 : wr.cell? ⟨b', off' + k, none⟩ = some (.slice a2 m c2) := (hbel.cell (p := ⟨b', off' + k, none⟩) hb').trans hu2
      have BD : Below w.heap.size w wr.drew := Below.drew hbel
      have HB := hideP hbel
      have HX : Hid (t.length ≤ 1048576 ∧ NRow 0 wr.drew (.slice a1 m c1) t ∧ NRow 0 wr.drew (.slice a2 m c2) t) := ⟨hfk, SRow.below ndStable hin1 BD, SRow.below ndStable hin2 BD⟩
      clear hc hc' hbel ht hfk BD hin1 hin2 hu1 hu2 hm
      go_wp2
      go_region_with (go_at_call 12; refine (eqNodeS_same HX.2.1 HX.2.2 HX.1).mono ?_; rintro e w2 ⟨rfl, hb1⟩)
      all_goals
        have hb2 : Below w.heap.size w w2 := Below.trans (Below.drew HB.out) (‹Below _ _ w2›.mono HB.out.size)
        go_wp2
        go_roundw
        case rel => exact ⟨k + 1, by omega, by go_num, hb2⟩
        case measure => simp [intOf]; omega
    · have hki : ¬ (k : Int) < (n : Int) := by omega
      have HB := hideP hbel
      clear hbel
      go_wp2
      go_ret
      exact ⟨rfl, HB.out⟩
end Go.Proofs.Ytjagagbelpihbaa
