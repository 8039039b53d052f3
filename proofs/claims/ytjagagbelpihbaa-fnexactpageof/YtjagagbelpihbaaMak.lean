/-
  A row of piles is made.
-/
import Derived.RangeFuncNested
import Derived.RangeFuncBound
import Derived.RangeFuncCalls
import Derived.RangeFuncLeaves
import Derived.Shelf.Abstract
import Derived.Shelf.RegionOpen
import Derived.WalkKit
import Derived.OwnWalkIn
import Derived.TacticsInMore
import Derived.LoopNIn
import Derived.LoopIn
import Derived.Maps.AppendAt
import Derived.Test.YtjagagbelpihbaaItb
import Derived.Test.YtjagagbelpihbaaPil
import Derived.OwnWalk
import Derived.Laws.OwnMore
namespace Go.Proofs.Ytjagagbelpihbaa
open Go.RowKit Go.Shelf
set_option linter.unusedVariables false
set_option linter.unusedSimpArgs false

/-- The marks that loops over functions have left, in a frame. -/
def marksOf (rs : List Nat) : List Deferred := rs.map (fun r => { target := .collected r, args := #[] })
/-- They are there, each empty, each its own. -/
def Marks (rs : List Nat) (w : World) : Prop := rs.Nodup ∧ ∀ r ∈ rs, w.heap[r]? = some (.deferred (some []))
theorem Marks.below {rs : List Nat} {w w' : World} (h : Marks rs w) (hb : Below w.heap.size w w') : Marks rs w' := ⟨h.1, fun r hr => (hb.block r (Array.getElem?_eq_some_iff.1 (h.2 r hr)).1).trans (h.2 r hr)⟩
/-- All but these blocks stays. -/
def Cells (rs : List Nat) (w w' : World) : Prop := w'.os = w.os ∧ w'.tape = w.tape ∧ w'.output = w.output ∧ w'.heap.size = w.heap.size ∧ ∀ q : Nat, q ∉ rs → w'.heap[q]? = w.heap[q]?
theorem leaves_marks {F : Fence} {n : Nat} {P : Program} {fn : Func} {tmps : Array Value} {R : Ending → World → Prop} : ∀ (rs : List Nat) (w : World), Marks rs w →
    (∀ w', Cells rs w w' → LeavesIn F n P fn tmps R [] .returning w') → LeavesInM F n P fn tmps R (marksOf rs) .returning w
  | [], w, _, h => h w ⟨rfl, rfl, rfl, rfl, fun _ _ => rfl⟩
  | r :: rs, w, hm, h => by
    refine ⟨by simp, .inl ⟨r, _, rfl, run_takeDeferred (hm.2 r (by simp)), ?_⟩⟩
    have hnd := List.nodup_cons.1 hm.1
    have hother : ∀ q, q ≠ r → (w.putObj r (.deferred none)).heap[q]? = w.heap[q]? := fun q hq => by
      simp only [World.putObj]
      exact Array.getElem?_setIfInBounds_ne (Ne.symm hq)
    refine leaves_marks rs _ ⟨hnd.2, fun q hq => ?_⟩ (fun w' hc => h w' ?_)
    · rw [hother q (fun e => hnd.1 (e ▸ hq))]
      exact hm.2 q (by simp [hq])
    · refine ⟨hc.1, hc.2.1, hc.2.2.1, ?_, fun q hq => ?_⟩
      · rw [hc.2.2.2.1]
        first | rfl | simp [World.putObj]
      · have h1 : q ≠ r ∧ q ∉ rs := by simpa using hq
        rw [hc.2.2.2.2 q h1.2, hother q h1.1]
end Go.Proofs.Ytjagagbelpihbaa

namespace Go.Proofs.Ytjagagbelpihbaa
open Go.RowKit
set_option linter.unusedVariables false
set_option linter.unusedSimpArgs false

theorem wp_make_at {P : Program} {w : World} {o : Oper} {a : Act} {K : Act → World → Prop} {Q : Exit → Act → World → Prop} (l c : Operand) (t : TypeId) (hop : o.op = Op.makeSlice t l c)
    (base : Nat) (e : TypeId) (i : TypeInfo) (z : Value) (size : Nat) (h1 : P.underlying t = some (.slice e)) (h2 : P.info? e = some i) (h3 : i.zero = some z) (h4 : i.size = size)
    (kl kc : IntKind) (L C : Int) (n : Nat) (hl : a.eval l = .int kl L) (hc : a.eval c = .int kc C) (hL : L = (n : Int)) (hC : C = (n : Int)) (b2 : i.bytes * n ≤ 281474976710656) (b3 : n ≤ maxLen) (b4 : base ≤ w.heap.size)
    (hK : ∀ w', w'.ownsRow base e size (.slice (some ⟨w.heap.size, 0, none⟩) n n) n (madeCells z.cells (n * size)).toList → w.grownBy w' none → K (a.put o.dst (.slice (some ⟨w.heap.size, 0, none⟩) n n)) w') : o.wp P a w K Q := by
  obtain ⟨w', hrun, r1, r2⟩ := run_make_full (P := P) w base t e i z size h1 h2 h3 h4 kl kc n b2 b3 b4
  subst hL
  subst hC
  unfold Oper.wp
  simp [execOp, hop, hl, hc, hrun, Result.andThen]
  exact hK w' r1 r2
theorem made_piles (m : Nat) : (madeCells (Value.cells (.agg #[.int .i64 0, .int .i64 0, .int .i64 0, .int .i64 0, .int .i64 0, .int .i64 0, .int .i64 0, .int .i64 0, .int .i64 0, .int .i64 0])) m).toList = (List.replicate m (0 : Int)).map (Value.int .i64) := by
  apply List.ext_getElem
  · simp [madeCells]
  · intro i h1 h2
    simp only [madeCells, Value.cells, Array.toList_map, Array.toList_range, List.getElem_map, List.getElem_range, List.getElem_replicate]
    have : i % 10 < 10 := Nat.mod_lt _ (by omega)
    obtain ⟨r, hr⟩ : ∃ r, r = i % 10 := ⟨_, rfl⟩
    show (#[.int .i64 0, .int .i64 0, .int .i64 0, .int .i64 0, .int .i64 0, .int .i64 0, .int .i64 0, .int .i64 0, .int .i64 0, .int .i64 0] : Array Value)[i % 10]! = _
    rw [← hr]
    rw [← hr] at this
    match r, this with
    | 0, _ | 1, _ | 2, _ | 3, _ | 4, _ | 5, _ | 6, _ | 7, _ | 8, _ | 9, _ => rfl
theorem made_owned {w : World} {base D n : Nat} (h : w.ownsRow base 147 10 (.slice (some ⟨D, 0, none⟩) n n) n (madeCells (Value.cells (.agg #[.int .i64 0, .int .i64 0, .int .i64 0, .int .i64 0, .int .i64 0, .int .i64 0, .int .i64 0, .int .i64 0, .int .i64 0, .int .i64 0])) (n * 10)).toList) : Ints w D 147 (n * 10) := by
  rw [made_piles] at h
  obtain ⟨hl, ⟨h, _⟩ | ⟨g, cap, cur, e, _, hb, hn, hm, hs, hx⟩⟩ := h
  · simp at h
  · simp only [Value.slice.injEq, Option.some.injEq, Addr.mk.injEq, and_true, true_and] at e
    obtain ⟨rfl, rfl⟩ := e
    refine ⟨List.replicate (n * 10) 0, by simp, ?_⟩
    have e2 : cur.toList = (List.replicate (n * 10) (0 : Int)).map (Value.int .i64) := by
      rw [← hx, List.take_of_length_le (by rw [Array.length_toList, hs]; exact Nat.le_refl _)]
    have e3 : cur = ((List.replicate (n * 10) (0 : Int)).map (Value.int .i64)).toArray := by
      rw [← e2]
    rw [hb, e3]
theorem Try.info147i : (Try.prog.info? 147).map (fun i => (i.zero, i.size, i.bytes)) = some (some (.agg #[.int .i64 0, .int .i64 0, .int .i64 0, .int .i64 0, .int .i64 0, .int .i64 0, .int .i64 0, .int .i64 0, .int .i64 0, .int .i64 0]), 10, 80) := by kernel_rfl
end Go.Proofs.Ytjagagbelpihbaa
