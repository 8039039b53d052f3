import Derived.Test.YtlohbaoigfaneaaGreatLmp
import Derived.Test.YtlohbaoigfaneaaGreatLtm
import Derived.Test.YtlohbaoigfaneaaGreatSln
import Derived.Test.YtlohbaoigfaneaaGreatDpu
import Derived.Test.YtlohbaoigfaneaaGreatIdq
import Derived.Test.YtlohbaoigfaneaaGreatMak
import Derived.Test.YtlohbaoigfaneaaGreatBdt
import Derived.Test.YtlohbaoigfaneaaGreatTrn
namespace Go.Proofs.YtlohbaoigfaneaaGreat
open Go.RowKit
set_option linter.unusedVariables false
set_option linter.unusedSimpArgs false
theorem IntsL.row {w : World} {P : Nat} {zs : List Int} (h : IntsL w P 2 zs) (hl : zs.length = 4) : Row w (.slice (some ⟨P, 0, none⟩) 4 4) zs :=
 ⟨_, 4, 4, rfl, hl, fun _ => ⟨P, 0, rfl, h.lt, fun i hi => by rw [Nat.zero_add]; exact h.cell i (by omega)⟩⟩
theorem build_104 (x : Int) (P M : Nat) (W : World) : (Instr.build 104 #[(0, .agg #[.int .i64 x, .slice (some ⟨P, 0, none⟩) 4 4, .slice (some ⟨M, 0, none⟩) 4 4])]).run Tryz.prog W = .ok (.agg #[.int .i64 x, .slice (some ⟨P, 0, none⟩) 4 4, .slice (some ⟨M, 0, none⟩) 4 4, .int .i64 0, .bool false, .int .i64 0]) W := by kernel_rfl
theorem build_104op {e : Act} {oi : Oper} {p : Operand} {x : Int} {P M : Nat} (ho : oi.op = Op.build 104 #[(0, p)]) (hp : e.eval p = .agg #[.int .i64 x, .slice (some ⟨P, 0, none⟩) 4 4, .slice (some ⟨M, 0, none⟩) 4 4]) (W : World) : (execOp e.eval oi).run Tryz.prog W = .ok (.value (.agg #[.int .i64 x, .slice (some ⟨P, 0, none⟩) 4 4, .slice (some ⟨M, 0, none⟩) 4 4, .int .i64 0, .bool false, .int .i64 0])) W := by
 unfold execOp
 simp only [ho, List.map_toArray, List.map_cons, List.map_nil, hp, Sem.run_bind, build_104, Result.andThen_ok, Sem.run_pure]
set_option maxRecDepth 20000 in
set_option maxHeartbeats 8000000 in
theorem l10New_any (w : World) : Calls Tryz.prog 84 #[] w fun e w' => (∃ P M, e = .returned (.agg #[.int .i64 0, .slice (some ⟨P, 0, none⟩) 4 4, .slice (some ⟨M, 0, none⟩) 4 4, .int .i64 0, .bool false, .int .i64 0]) ∧ IntsL w' P 2 [0, 0, 0, 0] ∧ IntsL w' M 2 [0, 0, 0, 0] ∧ P ≠ M ∧ w.heap.size ≤ P ∧ w.heap.size ≤ M) ∧ Below w.heap.size w w' := by
 obtain ⟨i0, hi0, hz0, hz1, hz2⟩ := info_parts info2q
 go_enter Tryz.func84, Tryz.ntmps84
 go_upto_region 1 with fail
 obtain ⟨R, hR⟩ : ∃ g, g = w.heap.size := ⟨_, rfl⟩
 obtain ⟨V, hV⟩ : ∃ X, X = w.alloc (.cells #[.int .i64 0, .slice none 0 0, .slice none 0 0, .int .i64 0, .bool false, .int .i64 0] 104) := ⟨_, rfl⟩
 have HR0 : Hid (V.heap[R]? = some (.cells #[.int .i64 0, .slice none 0 0, .slice none 0 0, .int .i64 0, .bool false, .int .i64 0] 104 (0, 0))) := hideP (by rw [hV, hR]; exact heap_alloc_new _ _)
 have BV : Hid (Below w.heap.size w V) := hideP (by rw [hV]; exact below1 _ _)
 have hRV : R < V.heap.size := (Array.getElem?_eq_some_iff.1 HR0.out).1
 have hwR : w.heap.size ≤ R := by omega
 rw [← hV, ← hR]
 clear hV hR
 obtain ⟨LO, hLO⟩ : ∃ L, L = V.heap.size := ⟨_, rfl⟩
 have hRL : R < LO := by omega
 have hLV : LO ≤ V.heap.size := by omega
 have HLO := hideP hLO
 clear hLO
 refine wp_region_held_drew (S := fun _ => True) (by kernel_rfl) trivial (fun _ => ?_)
 obtain ⟨v0, hv0⟩ : ∃ X, X = V.drew := ⟨_, rfl⟩
 have b0 : Below LO V v0 := by rw [hv0, HLO.out]; exact Below.drew (Below.refl _ _)
 rw [← hv0]
 clear hv0
 refine wpAnyH_ready (rs := [0, 1]) (by kernel_rfl) (by simp) ?_
 refine AllReadyH.cons rfl (fun K hK => ?_) (AllReadyH.cons rfl (fun K hK => ?_) AllReadyH.nil)
 ·rw [if_pos (by first | rfl | go_simp)]
  refine wp_make_at _ _ 27 rfl LO 2 i0 (.int .i64 0) 1 Tryz.underlying27 hi0 hz0 hz1 .i64 .i64 4 4 4 rfl rfl rfl rfl (by rw [show i0.bytes = 8 from hz2]; omega) (by unfold maxLen; omega) (by have := b0.size; omega) ?_
  intro v1 ho hg
  obtain ⟨P, hP⟩ : ∃ X, X = v0.heap.size := ⟨_, rfl⟩
  rw [← hP] at ho ⊢
  have HP := hideP hP
  clear hP
  have c1 : Below v0.heap.size v0 v1 := Below.grown (Below.refl _ _) hg (Nat.le_refl _) (by simp)
  have b1 : Below LO V v1 := below_more b0 c1 (by have := b0.size; omega)
  have IP1 : IntsL v1 P 2 [0, 0, 0, 0] := made4 ho
  have lP : P < v1.heap.size := IP1.lt
  clear ho hg
  refine hK.out _ _ trivial (fun _ => ?_)
  try simp only [Act.put, List.getElem_toArray, List.getElem_cons_zero, List.getElem_cons_succ, List.setIfInBounds_toArray, List.set_cons_zero, List.set_cons_succ]
  clear hK K
  refine rdS (i := 1) rfl (fun K hK => ?_)
  refine wp_make_at _ _ 27 rfl LO 2 i0 (.int .i64 0) 1 Tryz.underlying27 hi0 hz0 hz1 .i64 .i64 4 4 4 rfl rfl rfl rfl (by rw [show i0.bytes = 8 from hz2]; omega) (by unfold maxLen; omega) (by have := b1.size; omega) ?_
  intro v2 ho hg
  obtain ⟨M, hM⟩ : ∃ X, X = v1.heap.size := ⟨_, rfl⟩
  rw [← hM] at ho ⊢
  have HM := hideP hM
  clear hM
  have c2 : Below v1.heap.size v1 v2 := Below.grown (Below.refl _ _) hg (Nat.le_refl _) (by simp)
  have b2 : Below LO V v2 := below_more b1 c2 (by have := b1.size; omega)
  have IM2 : IntsL v2 M 2 [0, 0, 0, 0] := made4 ho
  have IP2 := IP1.below c2
  have lM : M < v2.heap.size := IM2.lt
  clear ho hg
  refine hK.out _ _ trivial (fun _ => ?_)
  try simp only [Act.put, List.getElem_toArray, List.getElem_cons_zero, List.getElem_cons_succ, List.setIfInBounds_toArray, List.set_cons_zero, List.set_cons_succ]
  clear hK K
  refine tkS (i := 2) (v := .agg #[.int .i64 0, .slice (some ⟨P, 0, none⟩) 4 4, .slice (some ⟨M, 0, none⟩) 4 4]) rfl trivial ?_
  try simp only [Act.put, List.getElem_toArray, List.getElem_cons_zero, List.getElem_cons_succ, List.setIfInBounds_toArray, List.set_cons_zero, List.set_cons_succ]
  refine tkS (i := 3) (v := .agg #[.int .i64 0, .slice (some ⟨P, 0, none⟩) 4 4, .slice (some ⟨M, 0, none⟩) 4 4, .int .i64 0, .bool false, .int .i64 0]) rfl trivial ?_ (hr := fun wx hx => build_104op (p := .tmp 3) rfl rfl wx)
  try simp only [Act.put, List.getElem_toArray, List.getElem_cons_zero, List.getElem_cons_succ, List.setIfInBounds_toArray, List.set_cons_zero, List.set_cons_succ]
  have z1 : LO ≤ P ∧ LO ≤ M := by have := HP.out; have := HM.out; have := b0.size; have := b1.size; omega
  have n3 : P ≠ M := by have := HP.out; have := HM.out; have := c1.size; have := c2.size; omega
  have z3 : v2.heap[R]? = some (.cells #[.int .i64 0, .slice none 0 0, .slice none 0 0, .int .i64 0, .bool false, .int .i64 0] 104 (0, 0)) := (b2.block R hRL).trans HR0.out
  have q0 := cell_of_row v2 R 0 _ 104 _ z3
  have q1 := cell_of_row v2 R 1 _ 104 _ z3
  have q2 := cell_of_row v2 R 2 _ 104 _ z3
  have q3 := cell_of_row v2 R 3 _ 104 _ z3
  have q4 := cell_of_row v2 R 4 _ 104 _ z3
  have q5 := cell_of_row v2 R 5 _ 104 _ z3
  have fz : ∀ j, v2.frozen? ⟨R, j, none⟩ = false := fun j => frozen_of_row _ _ j _ 104 z3
  refine rdS (i := 4) rfl (fun K hK => ?_)
  go_simp
  obtain ⟨X, hX⟩ : ∃ X, X = (((((v2.setCell ⟨R, 0, none⟩ (.int .i64 0)).setCell ⟨R, 1, none⟩ (.slice (some ⟨P, 0, none⟩) 4 4)).setCell ⟨R, 2, none⟩ (.slice (some ⟨M, 0, none⟩) 4 4)).setCell ⟨R, 3, none⟩ (.int .i64 0)).setCell ⟨R, 4, none⟩ (.bool false)).setCell ⟨R, 5, none⟩ (.int .i64 0) := ⟨_, rfl⟩
  rw [← hX]
  have FX : Fr R v2 X := by rw [hX]; exact ((((((Fr.refl R v2).set 0 _).set 1 _).set 2 _).set 3 _).set 4 _).set 5 _
  have RX : X.heap[R]? = some (.cells #[.int .i64 0, .slice (some ⟨P, 0, none⟩) 4 4, .slice (some ⟨M, 0, none⟩) 4 4, .int .i64 0, .bool false, .int .i64 0] 104 (0, 0)) := by rw [hX]; exact heap_setCell_same _ _ 5 _ 104 _ (heap_setCell_same _ _ 4 _ 104 _ (heap_setCell_same _ _ 3 _ 104 _ (heap_setCell_same _ _ 2 _ 104 _ (heap_setCell_same _ _ 1 _ 104 _ (heap_setCell_same _ _ 0 _ 104 _ z3)))))
  have bw := BV.out.trans (b2.mono (by omega))
  have BX : Below w.heap.size w X := ⟨FX.1.trans bw.os, FX.2.1.trans bw.tape, FX.2.2.1.trans bw.output, Nat.le_trans bw.size FX.2.2.2.1, fun k hk => (FX.2.2.2.2 k (Nat.lt_of_lt_of_le hk bw.size) (by omega)).trans (bw.block k hk)⟩
  clear hX q0 q1 q2 q3 q4 q5 fz
  refine hK.out _ _ trivial (fun _ => ?_)
  try simp only [Act.put, List.getElem_toArray, List.getElem_cons_zero, List.getElem_cons_succ, List.setIfInBounds_toArray, List.set_cons_zero, List.set_cons_succ]
  clear hK K
  refine wpAnyH_done (by kernel_rfl) ?_ _
  go_wp2
  exact bodyPost_ret (v := .agg #[.int .i64 0, .slice (some ⟨P, 0, none⟩) 4 4, .slice (some ⟨M, 0, none⟩) 4 4, .int .i64 0, .bool false, .int .i64 0]) (results_cell_row rfl _ _ R 104 _ (0, 0) _ rfl RX Tryz.underlying104 rfl (by kernel_rfl)) rfl ⟨⟨P, M, rfl, (FX.2.2.2.2 P IP2.lt (by omega)).trans IP2, (FX.2.2.2.2 M IM2.lt (by omega)).trans IM2, n3, by omega, by omega⟩, BX⟩
 ·rw [if_pos (by first | rfl | go_simp)]
  refine wp_make_at _ _ 27 rfl LO 2 i0 (.int .i64 0) 1 Tryz.underlying27 hi0 hz0 hz1 .i64 .i64 4 4 4 rfl rfl rfl rfl (by rw [show i0.bytes = 8 from hz2]; omega) (by unfold maxLen; omega) (by have := b0.size; omega) ?_
  intro v1 ho hg
  obtain ⟨M, hM⟩ : ∃ X, X = v0.heap.size := ⟨_, rfl⟩
  rw [← hM] at ho ⊢
  have HM := hideP hM
  clear hM
  have c1 : Below v0.heap.size v0 v1 := Below.grown (Below.refl _ _) hg (Nat.le_refl _) (by simp)
  have b1 : Below LO V v1 := below_more b0 c1 (by have := b0.size; omega)
  have IM1 : IntsL v1 M 2 [0, 0, 0, 0] := made4 ho
  have lM : M < v1.heap.size := IM1.lt
  clear ho hg
  refine hK.out _ _ trivial (fun _ => ?_)
  try simp only [Act.put, List.getElem_toArray, List.getElem_cons_zero, List.getElem_cons_succ, List.setIfInBounds_toArray, List.set_cons_zero, List.set_cons_succ]
  clear hK K
  refine rdS (i := 0) rfl (fun K hK => ?_)
  refine wp_make_at _ _ 27 rfl LO 2 i0 (.int .i64 0) 1 Tryz.underlying27 hi0 hz0 hz1 .i64 .i64 4 4 4 rfl rfl rfl rfl (by rw [show i0.bytes = 8 from hz2]; omega) (by unfold maxLen; omega) (by have := b1.size; omega) ?_
  intro v2 ho hg
  obtain ⟨P, hP⟩ : ∃ X, X = v1.heap.size := ⟨_, rfl⟩
  rw [← hP] at ho ⊢
  have HP := hideP hP
  clear hP
  have c2 : Below v1.heap.size v1 v2 := Below.grown (Below.refl _ _) hg (Nat.le_refl _) (by simp)
  have b2 : Below LO V v2 := below_more b1 c2 (by have := b1.size; omega)
  have IP2 : IntsL v2 P 2 [0, 0, 0, 0] := made4 ho
  have IM2 := IM1.below c2
  have lP : P < v2.heap.size := IP2.lt
  clear ho hg
  refine hK.out _ _ trivial (fun _ => ?_)
  try simp only [Act.put, List.getElem_toArray, List.getElem_cons_zero, List.getElem_cons_succ, List.setIfInBounds_toArray, List.set_cons_zero, List.set_cons_succ]
  clear hK K
  refine tkS (i := 2) (v := .agg #[.int .i64 0, .slice (some ⟨P, 0, none⟩) 4 4, .slice (some ⟨M, 0, none⟩) 4 4]) rfl trivial ?_
  try simp only [Act.put, List.getElem_toArray, List.getElem_cons_zero, List.getElem_cons_succ, List.setIfInBounds_toArray, List.set_cons_zero, List.set_cons_succ]
  refine tkS (i := 3) (v := .agg #[.int .i64 0, .slice (some ⟨P, 0, none⟩) 4 4, .slice (some ⟨M, 0, none⟩) 4 4, .int .i64 0, .bool false, .int .i64 0]) rfl trivial ?_ (hr := fun wx hx => build_104op (p := .tmp 3) rfl rfl wx)
  try simp only [Act.put, List.getElem_toArray, List.getElem_cons_zero, List.getElem_cons_succ, List.setIfInBounds_toArray, List.set_cons_zero, List.set_cons_succ]
  have z1 : LO ≤ P ∧ LO ≤ M := by have := HP.out; have := HM.out; have := b0.size; have := b1.size; omega
  have n3 : P ≠ M := by have := HP.out; have := HM.out; have := c1.size; have := c2.size; omega
  have z3 : v2.heap[R]? = some (.cells #[.int .i64 0, .slice none 0 0, .slice none 0 0, .int .i64 0, .bool false, .int .i64 0] 104 (0, 0)) := (b2.block R hRL).trans HR0.out
  have q0 := cell_of_row v2 R 0 _ 104 _ z3
  have q1 := cell_of_row v2 R 1 _ 104 _ z3
  have q2 := cell_of_row v2 R 2 _ 104 _ z3
  have q3 := cell_of_row v2 R 3 _ 104 _ z3
  have q4 := cell_of_row v2 R 4 _ 104 _ z3
  have q5 := cell_of_row v2 R 5 _ 104 _ z3
  have fz : ∀ j, v2.frozen? ⟨R, j, none⟩ = false := fun j => frozen_of_row _ _ j _ 104 z3
  refine rdS (i := 4) rfl (fun K hK => ?_)
  go_simp
  obtain ⟨X, hX⟩ : ∃ X, X = (((((v2.setCell ⟨R, 0, none⟩ (.int .i64 0)).setCell ⟨R, 1, none⟩ (.slice (some ⟨P, 0, none⟩) 4 4)).setCell ⟨R, 2, none⟩ (.slice (some ⟨M, 0, none⟩) 4 4)).setCell ⟨R, 3, none⟩ (.int .i64 0)).setCell ⟨R, 4, none⟩ (.bool false)).setCell ⟨R, 5, none⟩ (.int .i64 0) := ⟨_, rfl⟩
  rw [← hX]
  have FX : Fr R v2 X := by rw [hX]; exact ((((((Fr.refl R v2).set 0 _).set 1 _).set 2 _).set 3 _).set 4 _).set 5 _
  have RX : X.heap[R]? = some (.cells #[.int .i64 0, .slice (some ⟨P, 0, none⟩) 4 4, .slice (some ⟨M, 0, none⟩) 4 4, .int .i64 0, .bool false, .int .i64 0] 104 (0, 0)) := by rw [hX]; exact heap_setCell_same _ _ 5 _ 104 _ (heap_setCell_same _ _ 4 _ 104 _ (heap_setCell_same _ _ 3 _ 104 _ (heap_setCell_same _ _ 2 _ 104 _ (heap_setCell_same _ _ 1 _ 104 _ (heap_setCell_same _ _ 0 _ 104 _ z3)))))
  have bw := BV.out.trans (b2.mono (by omega))
  have BX : Below w.heap.size w X := ⟨FX.1.trans bw.os, FX.2.1.trans bw.tape, FX.2.2.1.trans bw.output, Nat.le_trans bw.size FX.2.2.2.1, fun k hk => (FX.2.2.2.2 k (Nat.lt_of_lt_of_le hk bw.size) (by omega)).trans (bw.block k hk)⟩
  clear hX q0 q1 q2 q3 q4 q5 fz
  refine hK.out _ _ trivial (fun _ => ?_)
  try simp only [Act.put, List.getElem_toArray, List.getElem_cons_zero, List.getElem_cons_succ, List.setIfInBounds_toArray, List.set_cons_zero, List.set_cons_succ]
  clear hK K
  refine wpAnyH_done (by kernel_rfl) ?_ _
  go_wp2
  exact bodyPost_ret (v := .agg #[.int .i64 0, .slice (some ⟨P, 0, none⟩) 4 4, .slice (some ⟨M, 0, none⟩) 4 4, .int .i64 0, .bool false, .int .i64 0]) (results_cell_row rfl _ _ R 104 _ (0, 0) _ rfl RX Tryz.underlying104 rfl (by kernel_rfl)) rfl ⟨⟨P, M, rfl, (FX.2.2.2.2 P IP2.lt (by omega)).trans IP2, (FX.2.2.2.2 M IM2.lt (by omega)).trans IM2, n3, by omega, by omega⟩, BX⟩
def ppI (ys : List It) (i : Nat) : Int := if i = ys.length then -10000 else brkC ys i
set_option maxRecDepth 20000 in
set_option maxHeartbeats 4000000 in
theorem l10Price_any {w : World} {v : Value} {ys : List It} {N lo : Nat} (i : Nat) (h : Heads lo w v ys) (hl : ys.length = N) (hi : i ≤ N) (hN : N ≤ 20001) :
 Calls Tryz.prog 42 #[v, .int .i64 (i : Int)] w fun e w' => e = .returned (.int .i64 (ppI ys i)) ∧ w' = w := by
 by_cases hiN : i = N
 ·obtain ⟨ao, cap, rfl, _⟩ := h.is
  have HE : Hid (ppI ys i = -10000) := hideP (by unfold ppI; rw [if_pos (by omega)])
  subst hiN
  rw [HE.out, hl]
  clear hl h HE
  go_enter Tryz.func42, Tryz.ntmps42
  go_wp2
  go_ret
  exact ⟨rfl, rfl⟩
 ·obtain ⟨b, off, cap, b2, off2, n2, cap2, rfl, hb, hc, hn2, hb2, hr⟩ := heads_at h hl (show i < N by omega)
  have hii : (i : Int) < (N : Int) := by omega
  have hn2i : (0 : Int) < (n2 : Int) := by omega
  have hine : ((i : Int) == (N : Int)) = false := by simp; omega
  have hine2 : ¬ (i : Int) = (N : Int) := by omega
  have hine3 : (i == N) = false := by simp; omega
  obtain ⟨x, hx⟩ : ∃ x, x = (ys.getD i It.none).1 := ⟨_, rfl⟩
  rw [← hx] at hr
  have HE : Hid (ppI ys i = if x.k = 4 then x.nn else 0) := hideP (by unfold ppI brkC; rw [if_neg (by omega), hx])
  rw [HE.out]
  clear HE hx h hl
  obtain ⟨k, wd, ht, dp, sh, fo, ch, nn, gs, gp, gpo, gm, gmo, tx, kids⟩ := x
  have q0 : w.cell? ⟨b2, off2, none⟩ = some (.int .i64 k) := hr 0 _ rfl
  have q7 : w.cell? ⟨b2, off2 + 7, none⟩ = some (.int .i64 nn) := hr 7 _ rfl
  clear hr
  simp only
  by_cases h4 : k = 4
  ·subst h4
   rw [if_pos rfl]
   go_enter Tryz.func42, Tryz.ntmps42
   go_wp2
   go_ret
   exact ⟨rfl, rfl⟩
  ·have h4b : (k == 4) = false := by simpa using h4
   rw [if_neg h4]
   go_enter Tryz.func42, Tryz.ntmps42
   go_wp2
   go_ret
   exact ⟨rfl, rfl⟩
def deepI (S : Sh) (la : Int) : Int := if S.dp < la then S.dp else la
def badP (S : Sh) (zs : List Int) (la : Int) : Int := Shr.badT (S.ht - wrap64 (wrap64 (zs.getD 0 0 + la) - deepI S la)) (Shr.pl4 zs) (Shr.mi4 zs)
def costP (S : Sh) (bad nt p : Int) : Int := if bad = 1000000 ∨ S.nt < nt then 1000000000 else if p ≤ -10000 then p else if bad < 10000 then wrap64 (bad + p) else 100000
set_option maxRecDepth 20000 in
set_option maxHeartbeats 8000000 in
theorem l10Cost_any {w : World} {P M : Nat} {zs : List Int} (S : Sh) (la nt p : Int) (so : Bool) (hP : IntsL w P 2 (Shr.pl4 zs)) (hM : IntsL w M 2 (Shr.mi4 zs)) (hS : 0 ≤ S.ht ∧ S.ht ≤ 1073741823)
 (hw : -4611686018427387904 ≤ wrap64 (wrap64 (zs.getD 0 0 + la) - deepI S la) ∧ wrap64 (wrap64 (zs.getD 0 0 + la) - deepI S la) ≤ 4611686018427387904) (hpb : (Shr.pl4 zs).getD (Shr.top (Shr.pl4 zs)) 0 ≤ 9223372036854775807) (hmb : (Shr.mi4 zs).getD (Shr.top (Shr.mi4 zs)) 0 ≤ 9223372036854775807) :
 Calls Tryz.prog 40 #[.agg #[.int .i64 (zs.getD 0 0), .slice (some ⟨P, 0, none⟩) 4 4, .slice (some ⟨M, 0, none⟩) 4 4, .int .i64 la, .bool so, .int .i64 nt], shV S, .int .i64 p] w fun e w' => e = .returned (.int .i64 (costP S (badP S zs la) nt p)) ∧ Below w.heap.size w w' := by
 have hPl := hP.lt
 have hMl := hM.lt
 obtain ⟨x, hx⟩ : ∃ x, x = zs.getD 0 0 := ⟨_, rfl⟩
 obtain ⟨pl, hpl⟩ : ∃ x, x = Shr.pl4 zs := ⟨_, rfl⟩
 obtain ⟨ml, hml⟩ : ∃ x, x = Shr.mi4 zs := ⟨_, rfl⟩
 have hpl4 : pl.length = 4 := by rw [hpl]; rfl
 have hml4 : ml.length = 4 := by rw [hml]; rfl
 obtain ⟨de, hde⟩ : ∃ x, x = deepI S la := ⟨_, rfl⟩
 obtain ⟨wd, hwd⟩ : ∃ y, y = wrap64 (wrap64 (x + la) - de) := ⟨_, rfl⟩
 obtain ⟨bd, hbd⟩ : ∃ x, x = badP S zs la := ⟨_, rfl⟩
 rw [← hbd]
 have HBD : Hid (bd = Shr.badT (S.ht - wd) pl ml) := hideP (by rw [hbd, hwd, hde, hx, hpl, hml]; rfl)
 rw [← hx]
 rw [← hx, ← hde, ← hwd] at hw
 rw [← hpl] at hP hpb
 rw [← hml] at hM hmb
 obtain ⟨R, hR⟩ : ∃ r, r = costP S bd nt p := ⟨_, rfl⟩
 rw [← hR]
 have HR := hideP hR
 have HDE := hideP hde
 have HWD := hideP hwd
 have HPP := hideP hP
 have HMM := hideP hM
 clear hx hpl hml hde hwd hbd hR hP hM
 obtain ⟨sh, sd, s0, s1, s2, s3, s4, sn⟩ := S
 simp only [shV] at *
 have LB : Hid (∀ W, Below w.heap.size w W → Calls Tryz.prog 23 #[.agg #[.int .i64 wd, .slice (some ⟨P, 0, none⟩) 4 4, .slice (some ⟨M, 0, none⟩) 4 4], .int .i64 sh] W fun e w' => (∃ c, e = .returned (.tuple #[.int .i64 bd, .int .i64 c])) ∧ Below W.heap.size W w') := hideP (fun W hW => (Shr.l9Bad_any wd (sh - wd) sh _ _ pl ml ((HPP.out.below hW).row hpl4) ((HMM.out.below hW).row hml4) hpl4 hml4 rfl hw hS hpb hmb).mono (fun e w' h => ⟨⟨_, by rw [HBD.out]; exact h.1⟩, h.2⟩))
 clear hpb hmb
 go_enter Tryz.func40, Tryz.ntmps40
 go_upto_region 1 with fail
 obtain ⟨D, hD⟩ : ∃ g, g = w.heap.size := ⟨_, rfl⟩
 obtain ⟨E, hE⟩ : ∃ g, g = w.heap.size + 1 := ⟨_, rfl⟩
 obtain ⟨W1, hW1⟩ : ∃ X, X = (w.alloc (.cells #[.int .i64 x, .slice (some ⟨P, 0, none⟩) 4 4, .slice (some ⟨M, 0, none⟩) 4 4, .int .i64 la, .bool so, .int .i64 nt] 104)).alloc (.cells #[.int .i64 sh, .int .i64 sd, .int .i64 s0, .int .i64 s1, .int .i64 s2, .int .i64 s3, .int .i64 s4, .int .i64 sn] 45) := ⟨_, rfl⟩
 have D1 : Hid (W1.heap[D]? = some (.cells #[.int .i64 x, .slice (some ⟨P, 0, none⟩) 4 4, .slice (some ⟨M, 0, none⟩) 4 4, .int .i64 la, .bool so, .int .i64 nt] 104 (0, 0))) := hideP (by rw [hW1, hD]; exact (Below.heap_alloc _ _ _ (by simp)).trans (heap_alloc_new w _))
 have E1 : Hid (W1.heap[E]? = some (.cells #[.int .i64 sh, .int .i64 sd, .int .i64 s0, .int .i64 s1, .int .i64 s2, .int .i64 s3, .int .i64 s4, .int .i64 sn] 45 (0, 0))) := hideP (by rw [hW1, hE]; have := heap_alloc_new (w.alloc (.cells #[.int .i64 x, .slice (some ⟨P, 0, none⟩) 4 4, .slice (some ⟨M, 0, none⟩) 4 4, .int .i64 la, .bool so, .int .i64 nt] 104)) (.cells #[.int .i64 sh, .int .i64 sd, .int .i64 s0, .int .i64 s1, .int .i64 s2, .int .i64 s3, .int .i64 s4, .int .i64 sn] 45); simpa using this)
 have B1 : Hid (Below w.heap.size w W1) := hideP (by rw [hW1]; exact ((Below.refl _ _).alloc (Nat.le_refl _) _).alloc (by simp) _)
 have hDE : D ≠ E := by omega
 have hED : E ≠ D := by omega
 have hDw : w.heap.size ≤ D := by omega
 rw [← hW1, ← hE, ← hD]
 clear hW1 hE hD
 have d0 : W1.cell? ⟨D, 0, none⟩ = some (.int .i64 x) := by rw [cell_of_row _ _ _ _ _ _ D1.out]; rfl
 have d1 : W1.cell? ⟨D, 1, none⟩ = some (.slice (some ⟨P, 0, none⟩) 4 4) := by rw [cell_of_row _ _ _ _ _ _ D1.out]; rfl
 have d2 : W1.cell? ⟨D, 2, none⟩ = some (.slice (some ⟨M, 0, none⟩) 4 4) := by rw [cell_of_row _ _ _ _ _ _ D1.out]; rfl
 have d3 : W1.cell? ⟨D, 3, none⟩ = some (.int .i64 la) := by rw [cell_of_row _ _ _ _ _ _ D1.out]; rfl
 have d5 : W1.cell? ⟨D, 5, none⟩ = some (.int .i64 nt) := by rw [cell_of_row _ _ _ _ _ _ D1.out]; rfl
 have e0 : W1.cell? ⟨E, 0, none⟩ = some (.int .i64 sh) := by rw [cell_of_row _ _ _ _ _ _ E1.out]; rfl
 have e1 : W1.cell? ⟨E, 1, none⟩ = some (.int .i64 sd) := by rw [cell_of_row _ _ _ _ _ _ E1.out]; rfl
 have e7 : W1.cell? ⟨E, 7, none⟩ = some (.int .i64 sn) := by rw [cell_of_row _ _ _ _ _ _ E1.out]; rfl
 have fD : ∀ j, W1.frozen? ⟨D, j, none⟩ = false := fun j => frozen_of_row _ _ j _ 104 D1.out
 have hDl : D < W1.heap.size := (Array.getElem?_eq_some_iff.1 D1.out).1
 have hEl : E < W1.heap.size := (Array.getElem?_eq_some_iff.1 E1.out).1
 go_upto_if 15 with fail
 go_cut [7] (fun s7 wc => s7 = .int .i64 de ∧ wc = W1)
 case first =>
  by_cases hd : sd < la
  ·have hd1 : la > sd := hd
   have HE : Hid (sd = de) := hideP (by rw [HDE.out]; unfold deepI; simp only; rw [if_pos hd])
   go_wp2_with fail
   go_meet
   case rel => exact ⟨by rw [HE.out], rfl⟩
  ·have hd1 : ¬ la > sd := hd
   have HE : Hid (la = de) := hideP (by rw [HDE.out]; unfold deepI; simp only; rw [if_neg hd])
   go_wp2_with fail
   go_meet
   case rel => exact ⟨by rw [HE.out], rfl⟩
 case rest =>
  obtain ⟨rfl, rfl⟩ := hcut
  go_upto_region 5 with fail
  have hWe : Hid (wrap64 (wrap64 (x + la) - de) = wd) := hideP HWD.out.symm
  rw [hWe.out]
  obtain ⟨X, hX⟩ : ∃ X, X = wc.setCell ⟨D, 0, none⟩ (.int .i64 wd) := ⟨_, rfl⟩
  have DX : Hid (X.heap[D]? = some (.cells #[.int .i64 wd, .slice (some ⟨P, 0, none⟩) 4 4, .slice (some ⟨M, 0, none⟩) 4 4, .int .i64 la, .bool so, .int .i64 nt] 104 (0, 0))) := hideP (by rw [hX]; exact heap_setCell_same _ _ 0 _ 104 _ D1.out)
  have EX : Hid (X.heap[E]? = some (.cells #[.int .i64 sh, .int .i64 sd, .int .i64 s0, .int .i64 s1, .int .i64 s2, .int .i64 s3, .int .i64 s4, .int .i64 sn] 45 (0, 0))) := hideP (by rw [hX]; exact (blk_set wc D 0 _ hEl hED).trans E1.out)
  have BX : Hid (Below w.heap.size w X) := hideP (by rw [hX]; exact B1.out.setCell hDw _)
  rw [← hX]
  clear hX d0 d1 d2 d3 d5 e0 e1 e7 fD hDl hEl
  have d0 : X.cell? ⟨D, 0, none⟩ = some (.int .i64 wd) := by rw [cell_of_row _ _ _ _ _ _ DX.out]; rfl
  have d1 : X.cell? ⟨D, 1, none⟩ = some (.slice (some ⟨P, 0, none⟩) 4 4) := by rw [cell_of_row _ _ _ _ _ _ DX.out]; rfl
  have d2 : X.cell? ⟨D, 2, none⟩ = some (.slice (some ⟨M, 0, none⟩) 4 4) := by rw [cell_of_row _ _ _ _ _ _ DX.out]; rfl
  have e0 : X.cell? ⟨E, 0, none⟩ = some (.int .i64 sh) := by rw [cell_of_row _ _ _ _ _ _ EX.out]; rfl
  have hDl : D < X.heap.size := (Array.getElem?_eq_some_iff.1 DX.out).1
  have hEl : E < X.heap.size := (Array.getElem?_eq_some_iff.1 EX.out).1
  go_wp2_with fail
  refine (LB.out X BX.out).mono ?_
  rintro e w2 ⟨⟨c, rfl⟩, hb2⟩
  have BW : Hid (Below w.heap.size w w2) := hideP (below_more BX.out hb2 BX.out.size)
  have c5 : w2.cell? ⟨D, 5, none⟩ = some (.int .i64 nt) := by rw [cell_of_row _ _ _ _ _ _ ((hb2.block D hDl).trans DX.out)]; rfl
  have c7 : w2.cell? ⟨E, 7, none⟩ = some (.int .i64 sn) := by rw [cell_of_row _ _ _ _ _ _ ((hb2.block E hEl).trans EX.out)]; rfl
  clear hb2 d0 d1 d2 e0 hDl hEl DX EX BX
  by_cases hq : bd = 1000000
  ·have HE : Hid (R = 1000000000) := hideP (by rw [HR.out]; unfold costP; rw [if_pos (.inl hq)])
   have hqb : (bd == 1000000) = true := by simp [hq]
   subst hq
   go_wp2
   go_ret
   exact ⟨by rw [HE.out]; rfl, BW.out⟩
  ·have hqb : (bd == 1000000) = false := by simpa using hq
   by_cases hn : sn < nt
   ·have HE : Hid (R = 1000000000) := hideP (by rw [HR.out]; unfold costP; rw [if_pos (.inr hn)])
    have hn1 : nt > sn := hn
    go_wp2
    go_ret
    exact ⟨by rw [HE.out]; rfl, BW.out⟩
   ·have hn1 : ¬ nt > sn := hn
    by_cases hp : p ≤ -10000
    ·have HE : Hid (R = p) := hideP (by rw [HR.out]; unfold costP; rw [if_neg (fun q => q.elim hq hn), if_pos hp])
     go_wp2
     go_ret
     exact ⟨by rw [HE.out]; rfl, BW.out⟩
    ·by_cases hb : bd < 10000
     ·have HE : Hid (R = wrap64 (bd + p)) := hideP (by rw [HR.out]; unfold costP; rw [if_neg (fun q => q.elim hq hn), if_neg hp, if_pos hb])
      go_wp2
      go_ret
      exact ⟨by rw [HE.out]; rfl, BW.out⟩
     ·have HE : Hid (R = 100000) := hideP (by rw [HR.out]; unfold costP; rw [if_neg (fun q => q.elim hq hn), if_neg hp, if_neg hb])
      go_wp2
      go_ret
      exact ⟨by rw [HE.out]; rfl, BW.out⟩
def fitB (xs : List Nd) (S : Sh) (f t : Int) : Bool := listB xs && decide ((its xs).length ≤ 4000) && shB S && endsB (its xs) f t
end Go.Proofs.YtlohbaoigfaneaaGreat
