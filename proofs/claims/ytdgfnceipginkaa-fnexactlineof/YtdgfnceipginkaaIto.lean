/-
  The items of a list: the program.
-/
import Derived.Test.YtdgfnceipginkaaSst
import Derived.Test.YtdgfnceipginkaaTks
import Derived.RangeFuncNested
import Derived.RangeFuncBound
import Derived.RangeFuncCalls
import Derived.RangeFuncLeaves
import Derived.Shelf.Abstract
import Derived.Shelf.RegionOpen
import Derived.WalkKit
import Derived.OwnWalkIn
import Derived.TacticsInMore
import Derived.LoopNIn
import Derived.LoopIn
import Derived.Maps.AppendAt
import Derived.Test.YtdgfnceipginkaaIts
import Derived.Test.YtdgfnceipginkaaLok
namespace Go.Proofs.Ytdgfnceipginkaa
open Go.RowKit
set_option linter.unusedVariables false
set_option linter.unusedSimpArgs false

/-- What is asked of the usual end alone. -/
def onlyN (Q : Exit → Act → World → Prop) : Exit → Act → World → Prop := fun e a w => match e with
  | .normal => Q .normal a w
  | _ => False
theorem wp_onlyN {P : Program} {c : Code} {Q : Exit → Act → World → Prop} {a : Act} {w : World} (h : c.wp P (onlyN Q) a w) : c.wp P Q a w :=
  wp_mono h (fun e a' w' hq => by
    cases e with
    | normal => exact hq
    | exit id => exact hq.elim
    | goto l => exact hq.elim
    | ret => exact hq.elim
    | panic ch => exact hq.elim
    | outgrown => exact hq.elim)
theorem wp_appNd {w : World} {o : Oper} {a : Act} {K : Act → World → Prop} {Q : Exit → Act → World → Prop} (s x : Operand) (ho : o.op = .call { callee := .builtin .append, args := #[s, x], argTypes := #[28, 28] })
    (base : Nat) (v : Value) (n : Nat) (xs : List Nd) (hs : a.eval s = v) (hown : w.ownsRow base 48 15 v n (flatN xs)) (b : Nat) (y : Nd) (hx : a.eval x = .slice (some ⟨b, 0, none⟩) 1 1) (hb : w.heap[b]? = some (.cells y.cells.toArray 48 (0, 0))) (hn : n ≤ 100000) (hbase : base ≤ w.heap.size)
    (h : ∀ v' w', w'.ownsRow base 48 15 v' (n + 1) (flatN (xs ++ [y])) → w.grownBy w' v.ownBlock → (v'.ownBlock = v.ownBlock ∨ v'.ownBlock = some w.heap.size) → K (a.put o.dst v') w') : o.wp Try.prog a w K Q := by
  obtain ⟨i0, hi, hz0, hz1, hz2⟩ := info_parts Try.info57c
  obtain ⟨v', w', hr, h2, h3, h4, h5⟩ := run_append_own_at (P := Try.prog) w base 28 o.type 48 i0 _ 15 _ Try.underlying28 hi hz0 hz1 hz2 rfl (by decide) v n _ hown ⟨b, 0, none⟩ 1 1 y.cells rfl (fun j u hj => by
      have h9 : w.cell? ⟨b, j, none⟩ = some u := by
        rw [cell_of_row w b j _ 48 _ hb]
        simpa using hj
      unfold Addr.add
      split
      · rename_i e2; have e3 : j = 0 := by simpa using e2
        subst e3; exact h9
      · simpa using h9) (by simp [Nd.cells, Value.oneCell']) (by unfold maxLen; omega) (by omega) hbase
  unfold Oper.wp execOp
  simp only [ho, resolve, invoke, builtin, Sem.run_bind, Sem.run_pure, Result.andThen_ok, List.map_toArray, List.map_cons, List.map_nil, hs, hx, hr]
  refine h v' w' ?_ h3 h5
  have e : flatN (xs ++ [y]) = flatN xs ++ y.cells := by
    have : ∀ (a b : List Nd), flatN (a ++ b) = flatN a ++ flatN b := fun a b => by
      induction a with
      | nil => rfl
      | cons x a ih => simp only [List.cons_append, flatN, ih, List.append_assoc]
    rw [this]
    simp [flatN]
  rw [e]
  exact h2
end Go.Proofs.Ytdgfnceipginkaa
namespace Go.Proofs.Ytdgfnceipginkaa
open Go.RowKit Go.Shelf
set_option linter.unusedVariables false
set_option linter.unusedSimpArgs false
attribute [local go_sem] Oper.semAt_some


end Go.Proofs.Ytdgfnceipginkaa
