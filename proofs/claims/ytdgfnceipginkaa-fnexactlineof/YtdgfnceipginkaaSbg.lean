/-
  Rows of rows, and where a page begins: the specification.
-/
import Derived.Test.YtdgfnceipginkaaBtw
import Derived.Test.YtdgfnceipginkaaSps
namespace Go.Proofs.Ytdgfnceipginkaa
open Go.RowKit
set_option linter.unusedVariables false
set_option linter.unusedSimpArgs false

def gapN (g0 g1 g2 g3 g4 : Int) : Nd := ⟨3, 0, 0, 0, 0, 0, 0, 0, g0, g1, g2, g3, g4, ⟨#[]⟩, 0⟩
theorem gap_any (g0 g1 g2 g3 g4 : Int) (w : World) : Calls Try.prog 39 #[.agg #[.int .i64 g0, .int .i64 g1, .int .i64 g2, .int .i64 g3, .int .i64 g4, .int .i64 0]] w fun e w' => e = .returned (ndV (gapN g0 g1 g2 g3 g4)) ∧ Below w.heap.size w w' :=
  (thg_3 0 0 0 0 0 0 0 g0 g1 g2 g3 g4 0 ⟨#[]⟩).cn w

/-- Rows of nodes, each in memory of its own. -/
structure Rws (lo : Nat) (w : World) (v : Value) (L : List (List Nd)) : Prop where
  is : ∃ ao cap, v = .slice ao L.length cap ∧ (0 < L.length → ∃ b off, ao = some ⟨b, off, none⟩ ∧ lo ≤ b ∧ b < w.heap.size ∧ ∀ i, i < L.length → ∃ u, w.cell? ⟨b, off + i, none⟩ = some u ∧ w.ownsRow lo 48 15 u (L.getD i []).length (flatN (L.getD i [])))
theorem Rws.abv {lo : Nat} {w w' : World} {v : Value} {L : List (List Nd)} (h : Rws lo w v L) (ha : Abv lo w w') : Rws lo w' v L := by
  obtain ⟨ao, cap, rfl, hc⟩ := h.is
  refine ⟨ao, cap, rfl, fun hp => ?_⟩
  obtain ⟨b, off, rfl, hlo, hlt, hcell⟩ := hc hp
  refine ⟨b, off, rfl, hlo, Nat.lt_of_lt_of_le hlt ha.size, fun i hi => ?_⟩
  obtain ⟨u, h1, h2⟩ := hcell i hi
  refine ⟨u, (World.cell?_of_block (w := w) (a := ⟨b, off + i, none⟩) (ha.block b hlo hlt)).trans h1, ?_⟩
  obtain ⟨h0, h | ⟨g, cap', cur, e, hg, hb, hr⟩⟩ := h2
  · exact ⟨h0, .inl h⟩
  · exact ⟨h0, .inr ⟨g, cap', cur, e, hg, (ha.block g hg (Array.getElem?_eq_some_iff.1 hb).1).trans hb, hr⟩⟩
theorem Rws.mono {lo lo' : Nat} {w : World} {v : Value} {L : List (List Nd)} (h : Rws lo w v L) (hl : lo' ≤ lo) : Rws lo' w v L := by
  obtain ⟨ao, cap, rfl, hc⟩ := h.is
  refine ⟨ao, cap, rfl, fun hp => ?_⟩
  obtain ⟨b, off, rfl, hlo, hlt, hcell⟩ := hc hp
  refine ⟨b, off, rfl, Nat.le_trans hl hlo, hlt, fun i hi => ?_⟩
  obtain ⟨u, h1, h2⟩ := hcell i hi
  exact ⟨u, h1, ownG_mono h2 hl⟩
/-- The items of a stack in memory. -/
structure HR (lo : Nat) (w : World) (v : Value) (xs : List Nd) : Prop where
  hd : Heads lo w v (its xs)
  rs : Rws lo w v (itemsOf xs)
theorem HR.abv {lo : Nat} {w w' : World} {v : Value} {xs : List Nd} (h : HR lo w v xs) (ha : Abv lo w w') : HR lo w' v xs := ⟨h.hd.abv ha, h.rs.abv ha⟩
theorem HR.mono {lo lo' : Nat} {w : World} {v : Value} {xs : List Nd} (h : HR lo w v xs) (hl : lo' ≤ lo) : HR lo' w v xs := ⟨h.hd.mono hl, h.rs.mono hl⟩

theorem begI_range (ys : List It) (a b : Nat) (h : a ≤ b) : a ≤ begI ys a b ∧ begI ys a b ≤ b := by
  obtain ⟨n, hn⟩ : ∃ n, n = b - a := ⟨_, rfl⟩
  induction n generalizing a with
  | zero =>
    obtain rfl : a = b := by omega
    rw [begI_end]
    omega
  | succ n ih =>
    rw [begI_step ys a b (by omega)]
    split
    · have := ih (a + 1) (by omega) (by omega)
      omega
    · omega

end Go.Proofs.Ytdgfnceipginkaa
