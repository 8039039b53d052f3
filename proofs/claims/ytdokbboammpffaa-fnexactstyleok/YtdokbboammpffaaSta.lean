/-
  Styles: the law's own walk, the copy and both sides given.
-/
import Derived.Test.YtdokbboammpffaaSty
namespace Go.Proofs.Ytdokbboammpffaa
open Go.RowKit
set_option linter.unusedVariables false
set_option linter.unusedSimpArgs false

theorem wpList_box_row {P : Program} {w : World} {ops : Array Oper} {rest : List Oper} {o : Oper} {a : Act} {Q : Exit → Act → World → Prop} (hgd : o.guard = none) (t : TypeId) (x : Operand) (ho : o.op = Op.box t x) (cs : Array Value) (hx : a.eval x = .agg cs)
    (h : wpList P ops Q rest (a.put o.dst (.pointer (some ⟨w.heap.size, 0, none⟩))) (w.alloc (.cells cs t))) : wpList P ops Q (o :: rest) a w := by
  refine wpList_plain hgd fun K hK => ?_
  unfold Oper.wp execOp
  simp only [ho, hx, Sem.run_bind, Instr.box, newVar, newRow, run_newObj_alloc, Sem.run_pure, Result.andThen_ok]
  exact hK _ _ h
theorem wpList_assign_v {P : Program} {w : World} {ops : Array Oper} {rest : List Oper} {o : Oper} {a : Act} {Q : Exit → Act → World → Prop} (hgd : o.guard = none) (x : Operand) (ho : o.op = Op.assign x) (v : Value) (hx : a.eval x = v)
    (h : wpList P ops Q rest (a.put o.dst v) w) : wpList P ops Q (o :: rest) a w := by
  refine wpList_plain hgd fun K hK => ?_
  unfold Oper.wp execOp
  simp only [ho, hx, Sem.run_bind, Sem.run_pure, Result.andThen_ok]
  exact hK _ _ h
theorem wpList_call_v {P : Program} {w : World} {ops : Array Oper} {rest : List Oper} {o : Oper} {a : Act} {Q : Exit → Act → World → Prop} (hgd : o.guard = none) (f : FuncId) (args : Array Value) (hrun : (execOp a.eval o).run P w = .ok (.enter f args) w)
    (v : Value) (R : World → Prop) (hc : Calls P f args w fun e w'' => e = .returned v ∧ R w'') (h : ∀ w', R w' → wpList P ops Q rest (a.put o.dst v) w') : wpList P ops Q (o :: rest) a w := by
  refine wpList_plain hgd fun K hK => ?_
  unfold Oper.wp
  rw [hrun, Oper.upon_enter]
  refine hc.mono fun e w'' hh => ?_
  obtain ⟨rfl, hR⟩ := hh
  exact hK _ _ (h _ hR)

theorem wpList_frame {P : Program} {ops : Array Oper} {l : List Oper} {a a' : Act} {w : World} {Q : Exit → Act → World → Prop} (ha : a = a') (h : wpList P ops Q l a' w) : wpList P ops Q l a w := ha ▸ h

theorem lawInfo : (Try.prog.info? 25).map (·.size) = some 23 := by kernel_rfl

set_option maxHeartbeats 4000000 in
theorem lawStyle_of (v : Value) (cs : Array Value) (sb : Bool) (w : World) (hv : v = .agg cs) (hcs : cs.size = 23)
    (CT : Hid (∀ W, Calls Try.prog 6 #[v] W fun r w' => r = .returned v ∧ Below W.heap.size W w'))
    (CS : Hid (∀ W, Calls Try.prog 5 #[v] W fun e w' => e = .returned (.bool sb) ∧ Below W.heap.size W w'))
    (CI : Hid (∀ W, Calls Try.prog 7 #[v] W fun e w' => e = .returned (.bool sb) ∧ Below W.heap.size W w')) :
    Calls Try.prog 3 #[v] w fun e w' => e = .returned (.bool true) ∧ Below w.heap.size w w' := by
  subst hv
  go_enter Try.func3, Try.ntmps3
  refine wp_seq (wp_region_lit ?_)
  refine wpList_box_row rfl 25 _ rfl cs rfl ?_
  refine wpList_assign_v rfl _ rfl (.bool false) rfl ?_
  refine wpList_nil ?_
  simp only [Exit.then]
  refine wp_seq (wp_region_lit ?_)
  refine wpList_load_row rfl 25 _ rfl w.heap.size rfl cs 25 (0, 0) (heap_alloc_new _ _) _ Try.underlying25 rfl (lawInfo.trans (by rw [hcs])) ?_
  refine wpList_call_v rfl 6 #[.agg cs] (by simp [execOp, go_sem]) (.agg cs) _ (CT.out _) ?_
  intro w1 hb1
  refine wpList_call_v rfl 5 #[.agg cs] (by simp [execOp, go_sem]) (.bool sb) _ (CS.out _) ?_
  intro w2 hb2
  refine wpList_assign_v rfl _ rfl (.bool sb) rfl ?_
  refine wpList_frame (a' := ⟨#[.agg cs, .pointer (some ⟨w.heap.size, 0, none⟩), .bool false, .bool sb, undef, .agg cs, .agg cs, .bool sb, undef, undef, undef, undef, undef, undef], []⟩) rfl ?_
  refine wpList_nil ?_
  simp only [Exit.then]
  have B2 : Below w.heap.size w w2 := below_more (below_more (below1 _ _) hb1 (by simp)) hb2 (by have := hb1.size; simp at this; omega)
  have q2 : w2.heap[w.heap.size]? = some (.cells cs 25 (0, 0)) := (hb2.block _ (by have := hb1.size; simp at this; omega)).trans ((hb1.block _ (by simp)).trans (heap_alloc_new _ _))
  clear hb1 hb2
  refine wp_seq (wp_region_lit ?_)
  refine wpList_load_row rfl 25 _ rfl w.heap.size rfl cs 25 (0, 0) q2 _ Try.underlying25 rfl (lawInfo.trans (by rw [hcs])) ?_
  refine wpList_call_v rfl 6 #[.agg cs] (by simp [execOp, go_sem]) (.agg cs) _ (CT.out _) ?_
  intro w3 hb3
  refine wpList_call_v rfl 7 #[.agg cs] (by simp [execOp, go_sem]) (.bool sb) _ (CI.out _) ?_
  intro w4 hb4
  refine wpList_assign_v rfl _ rfl (.bool sb) rfl ?_
  refine wpList_frame (a' := ⟨#[.agg cs, .pointer (some ⟨w.heap.size, 0, none⟩), .bool false, .bool sb, .bool sb, .agg cs, .agg cs, .bool sb, .agg cs, .agg cs, .bool sb, undef, undef, undef], []⟩) rfl ?_
  refine wpList_nil ?_
  simp only [Exit.then]
  have B4 : Hid (Below w.heap.size w w4) := hideP (below_more (below_more B2 hb3 B2.size) hb4 (Nat.le_trans B2.size hb3.size))
  clear hb3 hb4 q2 B2 CT CS CI hcs
  cases sb
  · go_wp2
    go_ret
    exact ⟨rfl, B4.out⟩
  · go_wp2
    go_ret
    exact ⟨rfl, B4.out⟩
end Go.Proofs.Ytdokbboammpffaa
