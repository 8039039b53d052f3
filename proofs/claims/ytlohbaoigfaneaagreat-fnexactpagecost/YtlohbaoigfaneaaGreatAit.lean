import Derived.Test.YtlohbaoigfaneaaGreatItx
import Derived.LoopIn
import Derived.LoopNIn
import Derived.Maps.AppendAt
import Derived.OwnWalkIn
import Derived.RangeFuncBound
import Derived.RangeFuncCalls
import Derived.RangeFuncLeaves
import Derived.RangeFuncNested
import Derived.Shelf.Abstract
import Derived.Shelf.RegionOpen
import Derived.TacticsInMore
import Derived.WalkKit
import Derived.Test.YtlohbaoigfaneaaGreatTns
import Derived.Test.YtlohbaoigfaneaaGreatGlue
namespace Go.Proofs.YtlohbaoigfaneaaGreat
open Go.RowKit Go.Shelf
set_option linter.unusedVariables false
set_option linter.unusedSimpArgs false
structure AllOk3 (xs : List Nd) : Prop where
 len : xs.length ≤ 20003
 kids : ∀ i, i < xs.length → 0 ≤ (xs.getD i Nd.none).kids ∧ (i : Int) + 1 + (xs.getD i Nd.none).kids ≤ xs.length
 text : ∀ i, i < xs.length → (xs.getD i Nd.none).tx.size ≤ 1000
theorem AllOk3.weak {xs : List Nd} (h : AllOk3 xs) : ∀ i, i < xs.length → 0 ≤ (xs.getD i Nd.none).kids ∧ (xs.getD i Nd.none).kids ≤ 20003 := fun i hi => by
 have h1 := h.kids i hi
 have h2 := h.len
 omega
end Go.Proofs.YtlohbaoigfaneaaGreat
namespace Go.Proofs.YtlohbaoigfaneaaGreat
open Go.RowKit
set_option linter.unusedVariables false
set_option linter.unusedSimpArgs false
structure ParB (w : World) (PB : Nat) (z5 : Sy) (nodes items sums turns : Value) : Prop where
 blk : ∃ cs, w.heap[PB]? = some (.cells cs 89 (0, 0)) ∧ cs.size = 27
 c5 : w.cell? ⟨PB, 5, none⟩ = some (.int .i64 z5.hy)
 c23 : w.cell? ⟨PB, 23, none⟩ = some nodes
 c24 : w.cell? ⟨PB, 24, none⟩ = some items
 c25 : w.cell? ⟨PB, 25, none⟩ = some sums
 c26 : w.cell? ⟨PB, 26, none⟩ = some turns
 sty : ∀ o, o < 23 → w.cell? ⟨PB, o, none⟩ = (syL z5)[o]?
theorem ParB.par {w : World} {PB : Nat} {z5 : Sy} {a i b t : Value} (h : ParB w PB z5 a i b t) : ParA w PB ⟨z5, a, b⟩ i t := ⟨h.blk, h.c5, h.c24, h.c26, h.c23, h.c25, h.sty⟩
theorem ParB.keep {w w' : World} {PB : Nat} {z5 : Sy} {a i b t : Value} (h : ParB w PB z5 a i b t) (hb : w'.heap[PB]? = w.heap[PB]?) : ParB w' PB z5 a i b t := by
 obtain ⟨⟨cs, h1, h2⟩, c5, c23, c24, c25, c26, sty⟩ := h
 exact ⟨⟨cs, hb.trans h1, h2⟩, (World.cell?_of_block (a := ⟨PB, 5, none⟩) hb).trans c5, (World.cell?_of_block (a := ⟨PB, 23, none⟩) hb).trans c23, (World.cell?_of_block (a := ⟨PB, 24, none⟩) hb).trans c24, (World.cell?_of_block (a := ⟨PB, 25, none⟩) hb).trans c25, (World.cell?_of_block (a := ⟨PB, 26, none⟩) hb).trans c26, fun o ho => (World.cell?_of_block (a := ⟨PB, o, none⟩) hb).trans (sty o ho)⟩
theorem ParB.put {w : World} {PB o : Nat} {z5 : Sy} {a i b t t' : Value} (h : ParB w PB z5 a i b t) (ho : o < 27) : ∃ cur : Array Value, (w.setCell ⟨PB, o, none⟩ t').heap[PB]? = some (.cells cur 89 (0, 0)) ∧ cur.size = 27 ∧ (∀ p, p ≠ o → (w.setCell ⟨PB, o, none⟩ t').cell? ⟨PB, p, none⟩ = w.cell? ⟨PB, p, none⟩) ∧ (w.setCell ⟨PB, o, none⟩ t').cell? ⟨PB, o, none⟩ = some t' := by
 obtain ⟨⟨cs, h1, h2⟩, _⟩ := h
 obtain ⟨cur, q1, q2, q3, q4⟩ := putC_block [t'] o w cs h1 (by simp; omega)
 have q1' : (w.setCell ⟨PB, o, none⟩ t').heap[PB]? = some (.cells cur 89 (0, 0)) := q1
 refine ⟨cur, q1', q2.trans h2, fun p hp => ?_, ?_⟩
 ·rw [cell_of_row _ _ _ _ _ _ q1', cell_of_row _ _ _ _ _ _ h1, q3 p (by simp; omega)]
 ·rw [cell_of_row _ _ _ _ _ _ q1']
  exact q4 0 (by simp)
theorem ParB.items {w : World} {PB : Nat} {z5 : Sy} {a i b t t' : Value} (h : ParB w PB z5 a i b t) : ParB (w.setCell ⟨PB, 24, none⟩ t') PB z5 a t' b t := by
 obtain ⟨cur, q1, q2, q3, q4⟩ := h.put (o := 24) (t' := t') (by omega)
 exact ⟨⟨cur, q1, q2⟩, (q3 5 (by omega)).trans h.c5, (q3 23 (by omega)).trans h.c23, q4, (q3 25 (by omega)).trans h.c25, (q3 26 (by omega)).trans h.c26, fun p hp => (q3 p (by omega)).trans (h.sty p hp)⟩
theorem ParB.sums {w : World} {PB : Nat} {z5 : Sy} {a i b t t' : Value} (h : ParB w PB z5 a i b t) : ParB (w.setCell ⟨PB, 25, none⟩ t') PB z5 a i t' t := by
 obtain ⟨cur, q1, q2, q3, q4⟩ := h.put (o := 25) (t' := t') (by omega)
 exact ⟨⟨cur, q1, q2⟩, (q3 5 (by omega)).trans h.c5, (q3 23 (by omega)).trans h.c23, (q3 24 (by omega)).trans h.c24, q4, (q3 26 (by omega)).trans h.c26, fun p hp => (q3 p (by omega)).trans (h.sty p hp)⟩
theorem ParB.lt {w : World} {PB : Nat} {z5 : Sy} {a i b t : Value} (h : ParB w PB z5 a i b t) : PB < w.heap.size := h.par.lt
theorem ParB.free {w : World} {PB : Nat} {z5 : Sy} {a i b t : Value} (h : ParB w PB z5 a i b t) (o : Nat) : w.frozen? ⟨PB, o, none⟩ = false := h.par.free o
end Go.Proofs.YtlohbaoigfaneaaGreat
