import Derived.Test.YtlohbaoigfaneaaGreatGlue
import Derived.RowKit3
import Derived.Test.YtlohbaoigfaneaaGreatBdt
import Derived.Test.YtlohbaoigfaneaaGreatSpf
import Derived.Test.YtlohbaoigfaneaaGreatIdq
import Derived.Test.YtlohbaoigfaneaaGreatNdq
import Derived.Test.YtlohbaoigfaneaaGreatNdo
import Derived.Test.YtlohbaoigfaneaaGreatLrw
import Derived.Test.YtlohbaoigfaneaaGreatPay
import Derived.Test.YtlohbaoigfaneaaGreatSts
import Derived.Test.YtlohbaoigfaneaaGreatIpc
namespace Go.Proofs.YtlohbaoigfaneaaGreat
open Go.RowKit
set_option linter.unusedVariables false
set_option linter.unusedSimpArgs false
theorem load_s42 {a : Act} {oi : Oper} {p : Operand} {G : Nat} {cs : Array Value} (hsz : cs.size = 8) (ho : oi.op = Op.load 42 p) (hp : a.eval p = .pointer (some ⟨G, 0, none⟩)) (W : World) (h : W.heap[G]? = some (.cells cs 42 (0, 0))) : (execOp a.eval oi).run Tryz.prog W = .ok (.value (.agg cs)) W := by
 have hr : (loadVar 42 ⟨G, 0, none⟩).run Tryz.prog W = .ok (.agg cs) W := run_loadVar_row _ _ 42 42 _ (0, 0) _ h Tryz.underlying42 rfl (by rw [hsz]; kernel_rfl)
 unfold execOp
 simp only [ho, hp, Instr.loadAt, Instr.sureAddr, Sem.run_bind, Sem.run_pure, Result.andThen_ok, hr]
set_option maxRecDepth 20000 in
set_option maxHeartbeats 16000000 in
theorem lawPC_any {v : Value} {xs : List Nd} {w0 : World} (S : Sh) (f t : Int) (h : NRow 0 w0 v xs) (hf : xs.length ≤ 9223372036854775807 ∧ ∀ i, i < xs.length → FnN (xs.getD i Nd.none)) :
 Calls Tryz.prog 4 #[v, shV S, .int .i64 f, .int .i64 t] w0 fun e w' => e = .returned (.bool true) ∧ Below w0.heap.size w0 w' := by
 have TS : Hid (∀ W, Calls Tryz.prog 15 #[shV S] W fun r w' => r = .returned (shV S) ∧ Below W.heap.size W w') := hideP (fun W => toSheet_any S W)
 have hsy : ∃ cs : Array Value, shV S = .agg cs ∧ cs.size = 8 := ⟨_, rfl, rfl⟩
 obtain ⟨cs, hcs, hsz⟩ := hsy
 have HCS := hideP hcs
 rw [hcs] at TS ⊢
 clear hcs
 have HX := hideP (SRow.below ndStable h (below1 w0 (.cells cs 42)))
 have BB := hideP (below1 w0 (.cells cs 42))
 have hG := heap_alloc_new w0 (.cells cs 42)
 obtain ⟨ao, n, cap, rfl⟩ : ∃ a n c, v = .slice a n c := by obtain ⟨a, c, rfl⟩ := h.shape; exact ⟨_, _, _, rfl⟩
 have HF := hideP hf
 clear h hf
 go_enter Tryz.func4, Tryz.ntmps4
 go_wp2_with fail
 obtain ⟨sb, hsb⟩ : ∃ sb, sb = w0.heap.size := ⟨_, rfl⟩
 rw [← hsb] at hG
 rw [← hsb]
 have hsl : sb < (w0.alloc (.cells cs 42)).heap.size := by rw [hsb]; simp
 generalize World.alloc _ _ = w at HX BB hG hsl ⊢
 have HSt : Hid (∀ X, Below w.heap.size w X → X.heap[sb]? = some (.cells cs 42 (0, 0))) := hideP (fun X hX => (hX.block sb hsl).trans hG)
 clear hG hsb
 refine (szNodeS_any HX.out HF.out (by omega) (by omega)).mono ?_
 rintro e w1 ⟨⟨q, rfl, hml, hm⟩, hb1⟩
 have B1 : Hid (Below w.heap.size w w1) := hb1
 have HQ := hideP hm
 clear hb1 hm
 by_cases hneg : q < 0
 ·go_wp2
  go_ret
  exact ⟨rfl, below_more BB.out B1.out BB.out.size⟩
 ·have HS : Hid (xs.length ≤ 1048576) := hideP (HQ.out (by omega)).1
  clear HQ HF
  obtain ⟨R1, hR1⟩ : ∃ r, r = pcI xs S f t := ⟨_, rfl⟩
  have CS : Hid (∀ (V : Value) (W : World) (base : Nat), W.ownsRow base 61 15 V xs.length (flatN xs) → Calls Tryz.prog 14 #[V, .agg cs, .int .i64 f, .int .i64 t] W fun e W' => e = .returned (.int .i64 R1) ∧ Below W.heap.size W W') := hideP (fun V W base ho => by rw [hR1, ← HCS.out]; exact specPC_any S f t (SRow.mono ndStable (own_NRow ho rfl) (Nat.zero_le _)) HS.out (own_cap ho))
  have CI : Hid (∀ (V : Value) (W : World) (base : Nat), W.ownsRow base 61 15 V xs.length (flatN xs) → Calls Tryz.prog 16 #[V, .agg cs, .int .i64 f, .int .i64 t] W fun e W' => e = .returned (.int .i64 R1) ∧ Below W.heap.size W W') := hideP (fun V W base ho => by rw [hR1, ← HCS.out]; exact callsIn_wide.1 (implPC_in S f t (SRow.mono ndStable (own_NRow ho rfl) (Nat.zero_le _)) HS.out (own_cap ho)))
  clear hR1
  obtain ⟨z, hz⟩ : ∃ z, z = xs.length := ⟨_, rfl⟩
  have CT : Hid (∀ W, Below w.heap.size w W → Calls Tryz.prog 8 #[.slice ao n cap] W fun e w' => e = .returned (.slice (some ⟨W.heap.size, 0, none⟩) z z) ∧ w'.ownsRow W.heap.size 61 15 (.slice (some ⟨W.heap.size, 0, none⟩) z z) z (flatN xs) ∧ Below W.heap.size W w') := hideP (fun W hW => by rw [hz]; exact toNodeS_own (SRow.below ndStable HX.out hW) HS.out)
  have CQ : Hid (∀ (V U : Value) (W : World) (b1 b2 : Nat), W.ownsRow b1 61 15 V z (flatN xs) → W.ownsRow b2 61 15 U z (flatN xs) → Calls Tryz.prog 12 #[V, U] W fun e w' => e = .returned (.bool true) ∧ Below W.heap.size W w') := hideP (fun V U W b1 b2 ho1 ho2 => eqNodeS_same (SRow.mono ndStable (own_NRow ho1 hz.symm) (Nat.zero_le _)) (SRow.mono ndStable (own_NRow ho2 hz.symm) (Nat.zero_le _)) HS.out)
  rw [← hz] at CS CI
  clear hz HX
  have dd : (R1 != R1) = false := by simp
  have de : (R1 == R1) = true := by simp
  go_upto_region 5 with fail
  refine wp_noPanic ?_
  have BD1 : Hid (Below w.heap.size w w1.drew) := hideP (Below.drew B1.out)
  have hS : (fun Y : World => Y.heap[sb]? = some (.cells cs 42 (0, 0))) w1.drew := HSt.out w1 B1.out
  refine wp_region_held_drew (S := (fun Y : World => Y.heap[sb]? = some (.cells cs 42 (0, 0)))) (by kernel_rfl) hS (fun hS => ?_)
  obtain ⟨v0, hv0⟩ : ∃ X, X = w1.drew := ⟨_, rfl⟩
  rw [← hv0] at hS BD1 ⊢
  clear hv0
  refine tkS (i := 0) (v := .slice ao n cap) rfl hS ?_
  try simp only [Act.put, List.getElem_toArray, List.getElem_cons_zero, List.getElem_cons_succ, List.setIfInBounds_toArray, List.set_cons_zero, List.set_cons_succ]
  refine tkS (i := 2) (v := .agg cs) rfl hS ?_ (hr := fun wx hx => load_s42 hsz rfl rfl wx hx)
  try simp only [Act.put, List.getElem_toArray, List.getElem_cons_zero, List.getElem_cons_succ, List.setIfInBounds_toArray, List.set_cons_zero, List.set_cons_succ]
  refine tkS (i := 4) (v := .int .i64 f) rfl hS ?_
  try simp only [Act.put, List.getElem_toArray, List.getElem_cons_zero, List.getElem_cons_succ, List.setIfInBounds_toArray, List.set_cons_zero, List.set_cons_succ]
  refine tkS (i := 5) (v := .int .i64 t) rfl hS ?_
  try simp only [Act.put, List.getElem_toArray, List.getElem_cons_zero, List.getElem_cons_succ, List.setIfInBounds_toArray, List.set_cons_zero, List.set_cons_succ]
  refine rdS (i := 1) rfl (fun K hK => ?_)
  go_simp
  go_at_call 8
  refine (CT.out v0 BD1.out).mono ?_
  rintro e v1 ⟨rfl, ho1, hb1⟩
  have b1 : Below w.heap.size w v1 := below_more BD1.out hb1 BD1.out.size
  refine hK.out _ _ (HSt.out v1 b1) (fun _ => ?_)
  try simp only [Act.put, List.getElem_toArray, List.getElem_cons_zero, List.getElem_cons_succ, List.setIfInBounds_toArray, List.set_cons_zero, List.set_cons_succ]
  clear hK K
  refine rdS (i := 3) rfl (fun K hK => ?_)
  go_simp
  go_at_call 15
  refine (TS.out v1).mono ?_
  rintro e v2 ⟨rfl, hb2⟩
  have b2 : Below w.heap.size w v2 := below_more b1 hb2 b1.size
  have ho2 := own_below ho1 hb2
  refine hK.out _ _ (HSt.out v2 b2) (fun _ => ?_)
  try simp only [Act.put, List.getElem_toArray, List.getElem_cons_zero, List.getElem_cons_succ, List.setIfInBounds_toArray, List.set_cons_zero, List.set_cons_succ]
  clear hK K
  refine rdS (i := 6) rfl (fun K hK => ?_)
  go_simp
  go_at_call 14
  refine (CS.out _ _ _ ho2).mono ?_
  rintro e w3 ⟨rfl, hb4⟩
  have B3 : Hid (Below w.heap.size w w3) := hideP (below_more b2 hb4 b2.size)
  refine hK.out _ _ (HSt.out w3 B3.out) (fun _ => ?_)
  try simp only [Act.put, List.getElem_toArray, List.getElem_cons_zero, List.getElem_cons_succ, List.setIfInBounds_toArray, List.set_cons_zero, List.set_cons_succ]
  clear hK K
  clear ho1 ho2 hb1 hb2 hb4
  refine tkS (i := 7) (v := .int .i64 R1) rfl (HSt.out w3 B3.out) ?_
  try simp only [Act.put, List.getElem_toArray, List.getElem_cons_zero, List.getElem_cons_succ, List.setIfInBounds_toArray, List.set_cons_zero, List.set_cons_succ]
  refine wpAnyH_done (by kernel_rfl) ?_ _
  clear hS b1 b2
  go_wp2_with fail
  refine (CT.out w3 B3.out).mono ?_
  rintro e w4 ⟨rfl, ho4, hb4⟩
  have B4 : Hid (Below w.heap.size w w4) := hideP (below_more B3.out hb4 B3.out.size)
  have X4 := hideP ho4
  clear ho4 hb4
  have hst4 := HSt.out w4 B4.out
  go_wp2_with (refine wpList_load_row rfl 42 _ rfl sb rfl cs 42 (0, 0) hst4 _ Tryz.underlying42 rfl (by rw [hsz]; kernel_rfl) ?_)
  refine (TS.out _).mono ?_
  rintro e w6 ⟨rfl, hb6⟩
  have B6 : Hid (Below w.heap.size w w6) := hideP (below_more B4.out hb6 B4.out.size)
  have X6 := hideP (own_below X4.out hb6)
  clear hb6 X4 hst4
  go_wp2_with fail
  refine (CI.out _ _ _ X6.out).mono ?_
  rintro e w7 ⟨rfl, hb7⟩
  have B7 : Hid (Below w.heap.size w w7) := hideP (below_more B6.out hb7 B6.out.size)
  have X7 := hideP (own_below X6.out hb7)
  clear hb7 X6
  go_wp2_with fail
  refine (CT.out w7 B7.out).mono ?_
  rintro e w8 ⟨rfl, ho8, hb8⟩
  have B8 : Hid (Below w.heap.size w w8) := hideP (below_more B7.out hb8 B7.out.size)
  have Y8 := hideP ho8
  have X8 := hideP (own_below X7.out hb8)
  clear ho8 hb8 X7
  go_wp2_with fail
  refine (CQ.out _ _ _ _ _ X8.out Y8.out).mono ?_
  rintro e w9 ⟨rfl, hb9⟩
  have B9 : Hid (Below w.heap.size w w9) := hideP (below_more B8.out hb9 B8.out.size)
  clear hb9 X8 Y8
  go_wp2
  go_ret
  exact ⟨rfl, below_more BB.out B9.out BB.out.size⟩
end Go.Proofs.YtlohbaoigfaneaaGreat
