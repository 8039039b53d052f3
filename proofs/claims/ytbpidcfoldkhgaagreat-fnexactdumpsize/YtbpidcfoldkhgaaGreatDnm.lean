import Derived.Test.YtbpidcfoldkhgaaGreatDnf
namespace Go.Proofs.YtbpidcfoldkhgaaGreat
open Go.RowKit
set_option linter.unusedVariables false
set_option linter.unusedSimpArgs false
theorem conv_mark (W : World) {B : Nat} {cs : Array Value} (h : W.heap[B]? = some (.cells cs 5 (0, 0))) (m c : Nat) : (convert 26 26 (.slice (some ⟨B, 0, none⟩) m c)).run Tryz.prog W = .ok (.slice (some ⟨B, 0, none⟩) m c) (W.freeze ⟨B, cs.size, none⟩ 1) := by
 have hsh : W.shape? B = some (5, cs.size) := by simp [World.shape?, h]
 simp [convert, run_underlying Tryz.underlying26, run_underlying Tryz.underlying5, markStringish, hsh, Result.andThen]
theorem freeze_size (W : World) (a : Addr) : (W.freeze a 1).heap.size = W.heap.size := by
 unfold World.freeze
 rw [if_neg (by decide)]
 simp
theorem freeze_other (W : World) (a : Addr) {k : Nat} (h : k ≠ a.block) : (W.freeze a 1).heap[k]? = W.heap[k]? := by
 unfold World.freeze
 rw [if_neg (by decide)]
 simp [Array.getElem?_modify, Ne.symm h]
theorem freeze_cell (W : World) (a p : Addr) : (W.freeze a 1).cell? p = W.cell? p := by
 by_cases h : p.block = a.block
 ·unfold World.cell? World.freeze
  rw [if_neg (by decide)]
  simp only [Array.getElem?_modify]
  rw [if_pos h.symm]
  cases e : W.heap[p.block]? with
  | none => simp
  | some o =>
   cases o <;> simp
 ·exact World.cell?_of_block (freeze_other W a h)
theorem below_freeze (W : World) (a : Addr) : Below a.block W (W.freeze a 1) := ⟨by unfold World.freeze; rw [if_neg (by decide)], by unfold World.freeze; rw [if_neg (by decide)], by unfold World.freeze; rw [if_neg (by decide)], by rw [freeze_size]; exact Nat.le_refl _, fun k hk => freeze_other W a (by omega)⟩
theorem wpList_first {ops : Array Oper} {rest : List Oper} {o : Oper} {a : Act} {w : World} {Q : Exit → Act → World → Prop} {base g n B : Nat} {zs : List Int} {x : Int} (hgd : o.guard = none) (s y : Operand) (ho : o.op = .call { callee := .builtin .append, args := #[s, y], argTypes := #[26, 26] }) (hs : a.eval s = .slice (some ⟨g, 0, none⟩) n n) (hy : a.eval y = .slice (some ⟨B, 0, none⟩) 1 1)
 (hn : zs.length = n) (hc : ∀ j, j < n → w.cell? ⟨g, j, none⟩ = some (.int .u8 (zs.getD j 0))) (hx : w.cell? ⟨B, 0, none⟩ = some (.int .u8 x)) (hb : base ≤ w.heap.size) (hl : n + 1 ≤ 70368744177664) (hK : ∀ v' w', BO base w' v' (zs ++ [x]) → Below w.heap.size w w' → wpList Tryz.prog ops Q rest (a.put o.dst v') w') : wpList Tryz.prog ops Q (o :: rest) a w := by
 obtain ⟨i0, hi0, hz0, hz1, hz2⟩ := info_parts Tryz.info5
 have hr := run_append_grow (P := Tryz.prog) w 26 o.type 5 i0 (.int .u8 0) Tryz.underlying26 hi0 hz0 ⟨g, 0, none⟩ n n (zs.map (Value.int .u8)) (by rw [hz1]; simp [hn]) (fun j u hj => by
  rw [List.getElem?_map] at hj
  cases e : zs[j]? with
  | none => rw [e] at hj; cases hj
  | some z =>
   rw [e] at hj
   have hz : u = .int .u8 z := by simpa using hj.symm
   have hjl : j < zs.length := (List.getElem?_eq_some_iff.1 e).1
   rw [add_new, hc j (by omega), List.getD_eq_getElem?_getD, e, hz]
   rfl) ⟨B, 0, none⟩ 1 1 [.int .u8 x] (by rw [hz1]; rfl) (fun j u hj => by
  match j, hj with
  | 0, hj =>
   simp at hj
   subst hj
   exact hx) (by omega) (by omega) (growslice_fits (by omega) (by rw [hz2]; omega))
 have hsz : (zs.map (Value.int .u8) ++ [Value.int .u8 x]).length = n + 1 := by simp [hn]
 refine wpList_plain hgd fun K hK2 => ?_
 unfold Oper.wp execOp
 simp only [ho, resolve, invoke, builtin, Sem.run_bind, Sem.run_pure, Result.andThen_ok, List.map_toArray, List.map_cons, List.map_nil, hs, hy, hr]
 refine hK2 _ _ (hK _ _ ?_ ?_)
 ·have hge := grownCap_ge w (n + 1) n 5
  have hcm : grownCap w (n + 1) n 5 ≤ maxLen := grownCap_le_maxLen w (n + 1) n 5 (by unfold maxLen; omega)
  unfold BO
  rw [show (zs ++ [x]).length = n + 1 by simp [hn]]
  refine ⟨by simp [hn], .inr ⟨w.heap.size, _, _, rfl, hb, heap_alloc_new w.drew _, hge, hcm, ?_, ?_⟩⟩
  ·simp only [Array.size_append, List.size_toArray, size_zeroCells, hsz]
   have h1 : (zs.map (Value.int .u8)).length = n := by simp [hn]
   have h2 : (Value.cells (.int .u8 0)).size = 1 := rfl
   rw [h1, h2]
   simp only [List.length_singleton, Nat.mul_one]
   omega
  ·simp only [Array.toList_append, List.map_append, List.map_cons, List.map_nil, Nat.mul_one]
   rw [← hsz]
   exact List.take_left
 ·exact ⟨rfl, rfl, rfl, by simp, fun k hk => heap_alloc_old w.drew _ hk⟩
end Go.Proofs.YtbpidcfoldkhgaaGreat
