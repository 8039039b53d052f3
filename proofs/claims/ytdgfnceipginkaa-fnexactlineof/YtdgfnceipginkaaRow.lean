/-
  A struct of many cells, loaded or stored whole, in a walk.
-/
import Derived.Test.YtdgfnceipginkaaSpd
import Derived.Test.YtdgfnceipginkaaRowg
import Derived.Laws.Rows
import Derived.Laws.Tables
import Derived.Laws.CopyOwn
namespace Go.Proofs.Ytdgfnceipginkaa
open Go.RowKit
set_option linter.unusedVariables false
set_option linter.unusedSimpArgs false

theorem head_cells {w : World} {u : Value} {x : Nd} {rest : List Nd} {lo : Nat} (h : NRow lo w u (x :: rest)) : ∃ b off n cap, u = .slice (some ⟨b, off, none⟩) n cap ∧ 0 < n ∧ b < w.heap.size ∧ ∀ j, j < 15 → w.cell? ⟨b, off + j, none⟩ = x.cells[j]? := by
  obtain ⟨ao, n, cap, rfl, hl, hr⟩ := h
  have hn : 0 < n := by rw [← hl]; simp
  obtain ⟨b, off, rfl, _, hb, hc⟩ := hr hn
  have hc2 := row_cells (fun i hi => hc i (by rw [← hl]; exact hi))
  refine ⟨b, off, n, cap, rfl, hn, hb, fun j hj => ?_⟩
  have h1 := flatN_get (x :: rest) 0 (by simp) j hj
  have e : (x :: rest).getD 0 Nd.none = x := rfl
  rw [e] at h1
  rw [List.getElem?_eq_getElem (show j < x.cells.length from hj)] at h1 ⊢
  have h2 := hc2 _ _ h1
  rw [show off + j = off + (0 * 15 + j) by omega]
  exact h2
/-- Rows of nodes, of which each begins with its item. -/
structure Heads (lo : Nat) (w : World) (v : Value) (ys : List It) : Prop where
  is : ∃ ao cap, v = .slice ao ys.length cap ∧ (0 < ys.length → ∃ b off, ao = some ⟨b, off, none⟩ ∧ lo ≤ b ∧ b < w.heap.size ∧ ∀ i, i < ys.length → ∃ u rest, w.cell? ⟨b, off + i, none⟩ = some u ∧ NRow lo w u ((ys.getD i It.none).1 :: rest))
theorem Heads.abv {lo : Nat} {w w' : World} {v : Value} {ys : List It} (h : Heads lo w v ys) (ha : Abv lo w w') : Heads lo w' v ys := by
  obtain ⟨ao, cap, rfl, hc⟩ := h.is
  refine ⟨ao, cap, rfl, fun hp => ?_⟩
  obtain ⟨b, off, rfl, hlo, hlt, hcell⟩ := hc hp
  refine ⟨b, off, rfl, hlo, Nat.lt_of_lt_of_le hlt ha.size, fun i hi => ?_⟩
  obtain ⟨u, rest, h1, h2⟩ := hcell i hi
  exact ⟨u, rest, (World.cell?_of_block (w := w) (a := ⟨b, off + i, none⟩) (ha.block b hlo hlt)).trans h1, SRow.abv ndStable h2 ha⟩


theorem wpList_load_row {P : Program} {w : World} {ops : Array Oper} {rest : List Oper} {o : Oper} {a : Act} {Q : Exit → Act → World → Prop} (hgd : o.guard = none) (t : TypeId) (p : Operand) (ho : o.op = Op.load t p) (g : Nat) (hp : a.eval p = .pointer (some ⟨g, 0, none⟩))
    (cs : Array Value) (ty : TypeId) (fr : Nat × Nat) (hg : w.heap[g]? = some (.cells cs ty fr)) (d : TypeDesc) (hu : P.underlying t = some d) (hd : (match d with | .struct _ | .array _ _ => true | _ => false) = true) (hi : (P.info? t).map (·.size) = some cs.size)
    (h : wpList P ops Q rest (a.put o.dst (.agg cs)) w) : wpList P ops Q (o :: rest) a w := by
  refine wpList_plain hgd fun K hK => ?_
  have hr := run_loadVar_row (P := P) w g ty t cs fr d hg hu hd hi
  unfold Oper.wp execOp
  simp only [ho, hp, Instr.loadAt, Instr.sureAddr, Sem.run_bind, Sem.run_pure, Result.andThen_ok, hr]
  exact hK _ _ h
theorem wpList_store_row {P : Program} {w : World} {ops : Array Oper} {rest : List Oper} {o : Oper} {a : Act} {Q : Exit → Act → World → Prop} (hgd : o.guard = none) (t : TypeId) (p v : Operand) (ho : o.op = Op.store t p v) (g : Nat) (hp : a.eval p = .pointer (some ⟨g, 0, none⟩))
    (old cells : Array Value) (hv : a.eval v = .agg cells) (ty : TypeId) (hg : w.heap[g]? = some (.cells old ty (0, 0))) (hi : (P.info? t).map (·.size) = some cells.size) (hs : old.size = cells.size) (h1 : cells.all (·.oneCell') = true)
    (h : wpList P ops Q rest (a.put o.dst undef) (w.setRow g cells)) : wpList P ops Q (o :: rest) a w := by
  refine wpList_plain hgd fun K hK => ?_
  have hr := run_storeVar_row (P := P) w g ty t old cells hg hi hs h1
  unfold Oper.wp execOp
  simp only [ho, hp, hv, Instr.storeAt, Instr.sureAddr, Sem.run_bind, Sem.run_pure, Result.andThen_ok, hr]
  exact hK _ _ h
end Go.Proofs.Ytdgfnceipginkaa
