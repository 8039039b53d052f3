import Derived.RangeFuncNested
import Derived.RangeFuncBound
import Derived.RangeFuncCalls
import Derived.RangeFuncLeaves
import Derived.Shelf.Abstract
import Derived.Shelf.RegionOpen
import Derived.WalkKit
import Derived.OwnWalkIn
import Derived.TacticsInMore
import Derived.LoopNIn
import Derived.LoopIn
import Derived.Deep.RegionWith
import Derived.Deep.RegionHeld3
import Derived.Deep.WholeRow
import Derived.Sort.CutIn
import Derived.Test.YtlohbaoigfaneaaGreatTrl
namespace Go.Proofs.YtlohbaoigfaneaaGreat
open Go.RowKit Go.Shelf
set_option linter.unusedVariables false
set_option linter.unusedSimpArgs false
attribute [local go_sem] Oper.semAt_some
theorem TS.low {W0 A C' : World} {FB CB C D g f N uc : Nat} {ua : Option Addr} {ys : List It} {Z : List Int} (h0 : TS W0 FB CB C D g f N uc ua ys Z) (h : TS A FB CB C D g f N uc ua ys Z) (hb : Below W0.heap.size A C') : TS C' FB CB C D g f N uc ua ys Z := by
 have cc : ∀ {b o : Nat} {v v' : Value}, W0.cell? ⟨b, o, none⟩ = some v → A.cell? ⟨b, o, none⟩ = some v' → C'.cell? ⟨b, o, none⟩ = some v' := fun hv hv' => (hb.cell (World.block_lt_of_cell? W0 _ hv)).trans hv'
 exact ⟨cc h0.fb h.fb, cc h0.cb h.cb, cc h0.c9 h.c9, cc h0.c10 h.c10, h.un, ⟨fun i hi => cc (h0.it.c0 i hi) (h.it.c0 i hi), fun i hi => cc (h0.it.c1 i hi) (h.it.c1 i hi), fun i hi => cc (h0.it.c2 i hi) (h.it.c2 i hi)⟩, (hb.block D (Array.getElem?_eq_some_iff.1 h0.zs).1).trans h.zs⟩
theorem load_120 {e : Act} {oi : Oper} {p : Operand} {G : Nat} {cs : Array Value} (hsz : cs.size = 26) (ho : oi.op = Op.load 120 p) (hp : e.eval p = .pointer (some ⟨G, 0, none⟩)) (W : World) (h : W.heap[G]? = some (.cells cs 120 (0, 0))) : (execOp e.eval oi).run Tryz.prog W = .ok (.value (.agg cs)) W := by
 have hr : (loadVar 120 ⟨G, 0, none⟩).run Tryz.prog W = .ok (.agg cs) W := run_loadVar_row _ _ 120 120 _ (0, 0) _ h Tryz.underlying120 rfl (by rw [hsz]; kernel_rfl)
 unfold execOp
 simp only [ho, hp, Instr.loadAt, Instr.sureAddr, Sem.run_bind, Sem.run_pure, Result.andThen_ok, hr]
theorem wpIn_val {o : Oper} {a : Act} {w : World} {v : Value} {n : Nat} {K : Act → World → Prop} {Q : Exit → Act → World → Prop} (h : (execOp a.eval o).run Tryz.prog w = .ok (.value v) w) (hK : K (a.put o.dst v) w) : o.wpIn Fence.wide n Tryz.prog a w K Q := by
 refine ⟨fun _ _ => trivial, ?_⟩
 rw [show Oper.semAt Fence.wide.round a.eval o = execOp a.eval o from rfl, h]
 exact hK
theorem build_120 (W : World) : (Instr.build 120 #[(3, .bool true)]).run Tryz.prog W = .ok (.agg #[.int .i64 0, .int .i64 0, .int .i64 0, .bool true, .bool false, .int .i64 0, .int .i64 0, .int .i64 0, .int .i64 0, .int .i64 0, .int .i64 0, .int .i64 0, .int .i64 0, .int .i64 0, .int .i64 0, .int .i64 0, .int .i64 0, .int .i64 0, .int .i64 0, .int .i64 0, .int .i64 0, .int .i64 0, .int .i64 0, .int .i64 0, .int .i64 0, .int .i64 0]) W := by kernel_rfl
def TrB (W : World) (B : Nat) (tt pr : Int) (s : Trl) : Prop := TriA W B tt pr 0 s.em s.hn s.A s.L s.hg
theorem Fr.low {B n : Nat} {A C : World} (h : Fr B A C) (hB : n ≤ B) (hn : n ≤ A.heap.size) : Below n A C := ⟨h.1, h.2.1, h.2.2.1, h.2.2.2.1, fun q hq => h.2.2.2.2 q (by omega) (by omega)⟩
theorem TriA.drew {w : World} {B : Nat} {tt pr co hg : Int} {em hn : Bool} {A L : List Int} (h : TriA w B tt pr co em hn A L hg) : TriA w.drew B tt pr co em hn A L hg := ⟨h.la, h.ll, h.row⟩
theorem trlS_up {ys : List It} {Z : List Int} {f k N : Nat} {s : Trl} (hk0 : f ≤ k) (hkn : k < N) (hs : s = trlS ys Z f (min k N - f)) : trlS ys Z f (min (k + 1) N - f) = if (s.em && discB (ys.getD k It.none).1) = true then s else trlAdd (ys.getD k It.none).1 (inI Z k) s := by
 rw [show min (k + 1) N - f = (k - f) + 1 by omega, trlS, show f + (k - f) = k by omega, hs, show min k N = k by omega]
set_option maxRecDepth 100000 in
set_option maxHeartbeats 8000000 in
theorem trl1_in (n l : Nat) (hn : 1 ≤ n) {ys : List It} {Z : List Int} {FB CB C D g f N uc : Nat} {ua : Option Addr} (hl : ys.length = N) (hN : N ≤ 20000) (hf : f ≤ N) (hZ : Z.length = N * 10) (hord : ∀ i, i < N → Ord (ys.getD i It.none).1)
 (J Jx : List Nat → World → Prop) (W : World) (hJ : LowTo W.heap.size J) (hS : TS W FB CB C D g f N uc ua ys Z)
 (hY : ∀ pre x X, J pre X → YieldAt Fence.wide (n - 1) Tryz.prog l (triE ys Z f x) X fun e Y => (e = .returned (.bool true) ∧ J (pre ++ [x]) Y ∧ KeptC X Y) ∨ (e = .returned (.bool false) ∧ Jx (pre ++ [x]) Y)) (h0 : J [] W) :
 CallsIn Fence.wide n Tryz.prog 92 #[.func (.yield l) #[] #[], .pointer (some ⟨FB, 0, none⟩), .pointer (some ⟨CB, 0, none⟩)] W fun e Y => (∃ v, e = .returned v) ∧ ((∃ xs, xs = brks ys f (N + 1) ∧ J xs Y) ∨ (∃ pre, Jx pre Y)) := by
 refine callsIn_of_wp Tryz.func92 rfl trivial ?_ rfl
 simp only [Tryz.ntmps92, List.size_toArray, List.length_cons, List.length_nil, Nat.reduceAdd, Nat.reduceSub, Array.replicate_succ, Array.replicate_zero, List.push_toArray, List.append_toArray, List.nil_append, List.cons_append]
 have fb := hS.fb
 have HS0 := hideP hS
 have HY := hideP hY
 have HJ := hideP hJ
 have HORD := hideP hord
 have HL := hideP hl
 have HZ := hideP hZ
 obtain ⟨B, hB⟩ : ∃ B, B = W.heap.size := ⟨_, rfl⟩
 have hFB : FB < W.heap.size := World.block_lt_of_cell? W _ fb
 clear hS hY hJ hord hl hZ
 have hbd := build_120
 refine wpIn_seq_k ?_
 intro K hK
 have HK := hideP hK
 clear hK
 refine wpIn_wide.2 (wp_region_list ?_)
 simp only [List.toList_toArray]
 rw [wpList]
 rw [if_pos (by first | rfl | go_simp)]
 refine .inl ?_
 go_simp
 rw [wpList]
 rw [if_pos (by first | rfl | go_simp)]
 refine .inl ?_
 go_simp
 rw [wpList]
 rw [if_pos (by first | rfl | go_simp)]
 refine .inl ?_
 refine wp_store_row 120 (.tmp 4) (.tmp 8) rfl W.heap.size #[.int .i64 0, .int .i64 0, .int .i64 0, .bool true, .bool false, .int .i64 0, .int .i64 0, .int .i64 0, .int .i64 0, .int .i64 0, .int .i64 0, .int .i64 0, .int .i64 0, .int .i64 0, .int .i64 0, .int .i64 0, .int .i64 0, .int .i64 0, .int .i64 0, .int .i64 0, .int .i64 0, .int .i64 0, .int .i64 0, .int .i64 0, .int .i64 0, .int .i64 0] rfl rfl 120 #[.int .i64 0, .int .i64 0, .int .i64 0, .bool false, .bool false, .int .i64 0, .int .i64 0, .int .i64 0, .int .i64 0, .int .i64 0, .int .i64 0, .int .i64 0, .int .i64 0, .int .i64 0, .int .i64 0, .int .i64 0, .int .i64 0, .int .i64 0, .int .i64 0, .int .i64 0, .int .i64 0, .int .i64 0, .int .i64 0, .int .i64 0, .int .i64 0, .int .i64 0] (heap_alloc_new _ _) (by kernel_rfl) rfl (by kernel_rfl) ?_
 rw [World.setRow_alloc_new]
 rw [wpList]
 refine HK.out _ _ ?_
 obtain ⟨V, hV⟩ : ∃ V, V = W.alloc (.cells #[.int .i64 0, .int .i64 0, .int .i64 0, .bool true, .bool false, .int .i64 0, .int .i64 0, .int .i64 0, .int .i64 0, .int .i64 0, .int .i64 0, .int .i64 0, .int .i64 0, .int .i64 0, .int .i64 0, .int .i64 0, .int .i64 0, .int .i64 0, .int .i64 0, .int .i64 0, .int .i64 0, .int .i64 0, .int .i64 0, .int .i64 0, .int .i64 0, .int .i64 0] 120) := ⟨_, rfl⟩
 rw [← hV, ← hB]
 have bV : Below W.heap.size W V := by rw [hV]; exact below1 _ _
 have T0 : Hid (TrB V B 0 0 trl0) := hideP ⟨rfl, rfl, by rw [hV, hB]; exact heap_alloc_new _ _⟩
 have HS1 := HS0
 have S0 : Hid (TS V FB CB C D g f N uc ua ys Z) := hideP (HS0.out.kept (KeptC.of_below bV))
 have J0 : J [] V := HJ.out _ _ _ h0 bV
 have fbV := S0.out.fb
 have hBV : B < V.heap.size := by rw [hV, hB]; simp
 have HBE := hideP hB
 clear HK hbd hV fb HS0 h0 hB
 gi_wp2
 gi_loopw [5] (fun a wr => ∃ (k : Nat) (tt pr : Int), a = .int .i64 (k : Int) ∧ f ≤ k ∧ k ≤ N + 1 ∧ J (brks ys f k) wr ∧ Hid (TS wr FB CB C D g f N uc ua ys Z) ∧ Hid (TrB wr B tt pr (trlS ys Z f (min k N - f)))) (fun a _ => N + 1 - (intOf a).toNat)
 case atStart => exact ⟨f, 0, 0, rfl, Nat.le_refl _, by omega, by rw [brks_self]; exact J0, S0, by rw [show min f N - f = 0 by omega]; exact T0⟩
 case round =>
  obtain ⟨k, tt, pr, rfl, hk0, hk1, hJ1, HS, HT⟩ := hrel
  have cb := HS.out.cb
  have c9 := HS.out.c9
  by_cases hkN : k ≤ N
  ·have hki : (k : Int) ≤ (N : Int) := by omega
   have BC : Hid (Calls Tryz.prog 91 #[.pointer (some ⟨C, 0, none⟩), .int .i64 (k : Int)] wr fun e w' => e = .returned (.tuple #[.int .i64 (ppI ys k), .bool (pbB ys k)]) ∧ Below wr.heap.size wr w') := hideP (brkI_any k c9 HS.out.un HS.out.it HL.out hkN hN)
   gi_wp2_with fail
   refine ⟨trivial, CallsIn.mono (callsIn_wide.2 BC.out) ?_⟩
   rintro e w1 ⟨rfl, hb1⟩
   have S1 : Hid (TS w1 FB CB C D g f N uc ua ys Z) := hideP (HS.out.kept (KeptC.of_below hb1))
   have hBw : B < wr.heap.size := HT.out.lt
   obtain ⟨s, hs⟩ : ∃ s, s = trlS ys Z f (min k N - f) := ⟨_, rfl⟩
   have T1 : TrB w1 B tt pr s := ⟨(by rw [hs]; exact HT.out.la), (by rw [hs]; exact HT.out.ll), (hb1.block B hBw).trans (by rw [hs]; exact HT.out.row)⟩
   have HSE := hideP hs
   have hWb : W.heap.size ≤ B := by have := HBE.out; omega
   have J1 : Hid (J (brks ys f k) w1) := hideP (HJ.out _ _ _ hJ1 (hb1.mono (by have := HBE.out; omega)))
   obtain ⟨pb, hpb⟩ : ∃ p, p = pbB ys k := ⟨_, rfl⟩
   have HPB := hideP hpb
   rw [← hpb]
   clear hs hpb hJ1 hb1 BC cb c9 HS HT
   obtain ⟨em, hn0, A, L, hg⟩ := s
   obtain ⟨hA, hL0, hrow⟩ := T1
   simp only at hA hL0 hrow
   obtain ⟨a0, a1, a2, a3, a4, a5, a6, a7, a8, a9, rfl⟩ := ten_of A hA
   obtain ⟨l0, l1, l2, l3, l4, l5, l6, l7, l8, l9, rfl⟩ := ten_of L hL0
   have R1 : Hid (w1.heap[B]? = some (.cells #[.int .i64 tt, .int .i64 pr, .int .i64 0, .bool em, .bool hn0, .int .i64 a0, .int .i64 a1, .int .i64 a2, .int .i64 a3, .int .i64 a4, .int .i64 a5, .int .i64 a6, .int .i64 a7, .int .i64 a8, .int .i64 a9, .int .i64 l0, .int .i64 l1, .int .i64 l2, .int .i64 l3, .int .i64 l4, .int .i64 l5, .int .i64 l6, .int .i64 l7, .int .i64 l8, .int .i64 l9, .int .i64 hg] 120 (0, 0))) := hideP hrow
   clear hA hL0 hrow
   have c0 : w1.cell? ⟨B, 0, none⟩ = some (.int .i64 tt) := by rw [cell_of_row _ _ _ _ 120 _ R1.out]; rfl
   have c1 : w1.cell? ⟨B, 1, none⟩ = some (.int .i64 pr) := by rw [cell_of_row _ _ _ _ 120 _ R1.out]; rfl
   have fz : ∀ j, w1.frozen? ⟨B, j, none⟩ = false := fun j => frozen_of_row _ _ j _ 120 R1.out
   have hBw1 := (Array.getElem?_eq_some_iff.1 R1.out).1
   cases pb with
   | true =>
    gi_upto_region 7 with fail
    obtain ⟨Y, hY2⟩ : ∃ Y, (w1.setCell ⟨B, 0, none⟩ (.int .i64 (k : Int))).setCell ⟨B, 1, none⟩ (.int .i64 (ppI ys k)) = Y := ⟨_, rfl⟩
    have R2 : Y.heap[B]? = some (.cells #[.int .i64 (k : Int), .int .i64 (ppI ys k), .int .i64 0, .bool em, .bool hn0, .int .i64 a0, .int .i64 a1, .int .i64 a2, .int .i64 a3, .int .i64 a4, .int .i64 a5, .int .i64 a6, .int .i64 a7, .int .i64 a8, .int .i64 a9, .int .i64 l0, .int .i64 l1, .int .i64 l2, .int .i64 l3, .int .i64 l4, .int .i64 l5, .int .i64 l6, .int .i64 l7, .int .i64 l8, .int .i64 l9, .int .i64 hg] 120 (0, 0)) := by
     rw [← hY2]
     have e1 := row_set (row_set R1.out 0 (.int .i64 (k : Int))) 1 (.int .i64 (ppI ys k))
     simp only [List.set_cons_zero, List.set_cons_succ] at e1
     exact e1
    have b2 : Below W.heap.size w1 Y := by rw [← hY2]; exact ((Below.refl _ _).setCell (p := ⟨B, 0, none⟩) hWb _).setCell (p := ⟨B, 1, none⟩) hWb _
    rw [hY2]
    have J2 := HJ.out _ _ _ J1.out b2
    have S2 : Hid (TS Y FB CB C D g f N uc ua ys Z) := hideP (TS.low HS1.out S1.out b2)
    obtain ⟨fn, tmps, assign, body, hyl, hR⟩ := HY.out (brks ys f k) k Y J2
    have HE : triE ys Z f k = #[.agg #[.int .i64 (k : Int), .int .i64 (ppI ys k), .int .i64 0, .bool em, .bool hn0, .int .i64 a0, .int .i64 a1, .int .i64 a2, .int .i64 a3, .int .i64 a4, .int .i64 a5, .int .i64 a6, .int .i64 a7, .int .i64 a8, .int .i64 a9, .int .i64 l0, .int .i64 l1, .int .i64 l2, .int .i64 l3, .int .i64 l4, .int .i64 l5, .int .i64 l6, .int .i64 l7, .int .i64 l8, .int .i64 l9, .int .i64 hg]] := by
     unfold triE triV
     rw [show trlS ys Z f (k - f) = ⟨em, hn0, [a0, a1, a2, a3, a4, a5, a6, a7, a8, a9], [l0, l1, l2, l3, l4, l5, l6, l7, l8, l9], hg⟩ by rw [HSE.out, show min k N = k by omega]]
     rfl
    rw [HE] at hyl
    have HRR := hideP hR
    have HR2 := hideP R2
    clear hY2 b2 J2 HE hR R2 c0 c1 fz R1 S1 J1
    refine wpIn_region_list ?_
    simp only [List.toList_toArray]
    rw [wpListIn]
    rw [if_pos (by first | rfl | go_simp)]
    refine wpIn_val (v := .func (.yield l) #[] #[]) (by go_simp) ?_
    rw [wpListIn]
    rw [if_pos (by first | rfl | go_simp)]
    refine wpIn_val (v := .agg #[.int .i64 (k : Int), .int .i64 (ppI ys k), .int .i64 0, .bool em, .bool hn0, .int .i64 a0, .int .i64 a1, .int .i64 a2, .int .i64 a3, .int .i64 a4, .int .i64 a5, .int .i64 a6, .int .i64 a7, .int .i64 a8, .int .i64 a9, .int .i64 l0, .int .i64 l1, .int .i64 l2, .int .i64 l3, .int .i64 l4, .int .i64 l5, .int .i64 l6, .int .i64 l7, .int .i64 l8, .int .i64 l9, .int .i64 hg]) (load_120 (p := .tmp 4) (G := B) rfl rfl rfl Y HR2.out) ?_
    try simp only [Act.put, List.getElem_toArray, List.getElem_cons_zero, List.getElem_cons_succ, List.setIfInBounds_toArray, List.set_cons_zero, List.set_cons_succ]
    rw [wpListIn]
    rw [if_pos (by first | rfl | go_simp)]
    gi_wp2_with fail
    refine HRR.out.mono ?_
    rintro e W3 (⟨rfl, hJ3, hk3⟩ | ⟨rfl, hJx3⟩)
    ·have S3 : Hid (TS W3 FB CB C D g f N uc ua ys Z) := hideP (S2.out.kept hk3)
     have R3 : Hid (W3.heap[B]? = some (.cells #[.int .i64 (k : Int), .int .i64 (ppI ys k), .int .i64 0, .bool em, .bool hn0, .int .i64 a0, .int .i64 a1, .int .i64 a2, .int .i64 a3, .int .i64 a4, .int .i64 a5, .int .i64 a6, .int .i64 a7, .int .i64 a8, .int .i64 a9, .int .i64 l0, .int .i64 l1, .int .i64 l2, .int .i64 l3, .int .i64 l4, .int .i64 l5, .int .i64 l6, .int .i64 l7, .int .i64 l8, .int .i64 l9, .int .i64 hg] 120 (0, 0))) := hideP (hk3.2 _ _ HR2.out rfl)
     have J3 : Hid (J (brks ys f (k + 1)) W3) := hideP (by rw [brks_succ ys hk0, if_pos HPB.out.symm]; exact hJ3)
     clear hJ3 hk3 S2 HR2 HRR
     dsimp only
     rw [wpListIn]
     rw [if_pos (by first | rfl | go_simp)]
     have cb := S3.out.cb
     have c9 := S3.out.c9
     have c10 := S3.out.c10
     by_cases hkE : k = N
     ·have hkb : ((k : Int) == (N : Int)) = true := by simp [hkE]
      have HKE := hideP hkE
      clear hkE
      gi_wp2
      all_goals try (rename_i hu _; unfold undef at hu; cases hu; done)
      refine ⟨trivial, ?_⟩
      gi_wp2
      go_roundw
      case rel =>
       have hke := HKE.out
       refine ⟨k + 1, (k : Int), (ppI ys k), by simp, by omega, by omega, J3.out, S3, hideP ?_⟩
       have h := HSE.out
       rw [show min (k + 1) N - f = min k N - f by omega, ← h]
       exact ⟨rfl, rfl, R3.out⟩
      case measure => simp only [intOf]; omega
     ·have hkb : ((k : Int) == (N : Int)) = false := by simp; omega
      have hkn : k < N := by omega
      have hki2 : (k : Int) < (N : Int) := by omega
      obtain rfl := S3.out.un (by omega)
      have i0 := S3.out.it.c0 k (by rw [HL.out]; exact hkn)
      have i1 := S3.out.it.c1 k (by rw [HL.out]; exact hkn)
      have i2 := S3.out.it.c2 k (by rw [HL.out]; exact hkn)
      obtain ⟨y, hy⟩ : ∃ y, y = ys.getD k It.none := ⟨_, rfl⟩
      rw [← hy] at i0 i1 i2
      obtain ⟨x, ya, ye⟩ := y
      simp only at i0 i1 i2
      have HYE := hideP hy
      clear hy
      have c3 : W3.cell? ⟨B, 3, none⟩ = some (.bool em) := by rw [cell_of_row _ _ _ _ 120 _ R3.out]; rfl
      have fz3 : W3.frozen? ⟨B, 3, none⟩ = false := frozen_of_row _ _ 3 _ 120 R3.out
      cases em with
      | false =>
       gi_upto_region 10 with fail
       refine ⟨trivial, ?_⟩
       gi_upto_region 10 with fail
       obtain ⟨Y9, hY9⟩ : ∃ Y, W3.setCell ⟨B, 3, none⟩ (.bool false) = Y := ⟨_, rfl⟩
       have R9 : Hid (Y9.heap[B]? = some (.cells #[.int .i64 (k : Int), .int .i64 (ppI ys k), .int .i64 0, .bool false, .bool hn0, .int .i64 a0, .int .i64 a1, .int .i64 a2, .int .i64 a3, .int .i64 a4, .int .i64 a5, .int .i64 a6, .int .i64 a7, .int .i64 a8, .int .i64 a9, .int .i64 l0, .int .i64 l1, .int .i64 l2, .int .i64 l3, .int .i64 l4, .int .i64 l5, .int .i64 l6, .int .i64 l7, .int .i64 l8, .int .i64 l9, .int .i64 hg] 120 (0, 0))) := hideP (by
        rw [← hY9]
        have e1 := row_set R3.out 3 (.bool false)
        simp only [List.set_cons_zero, List.set_cons_succ] at e1
        exact e1)
       have b9 : Below W.heap.size W3 Y9 := by rw [← hY9]; exact (Below.refl _ _).setCell (p := ⟨B, 3, none⟩) hWb _
       rw [hY9]
       have S9 : Hid (TS Y9 FB CB C D g f N uc (some ⟨g, 0, none⟩) ys Z) := hideP (TS.low HS1.out S3.out b9)
       have J9 : Hid (J (brks ys f (k + 1)) Y9) := hideP (HJ.out _ _ _ J3.out b9)
       clear hY9 b9 c3 fz3 cb c9 c10 i0 i1 i2 J3 R3 S3
       have HIL : (inI Z k).length = 10 := by
        have := HZ.out
        unfold inI
        rw [List.length_take, List.length_drop]
        omega
       have FX : Hid (∀ Y, Below W.heap.size Y9 Y → TS Y FB CB C D g f N uc (some ⟨g, 0, none⟩) ys Z) := hideP (fun Y hY => TS.low HS1.out S9.out hY)
       have HZG : ∀ Y, Below W.heap.size Y9 Y → ∀ i, i < 10 → Y.cell? ⟨D, k * 10 + i, none⟩ = some (.int .i64 ((inI Z k).getD i 0)) := fun Y hY i hi => by
        have hz := HZ.out
        rw [cell_of_row _ _ _ _ 118 _ (FX.out Y hY).zs]
        have e : (inI Z k).getD i 0 = Z.getD (k * 10 + i) 0 := by
         unfold inI
         rw [List.getD_eq_getElem?_getD, List.getD_eq_getElem?_getD, List.getElem?_take, if_pos hi, List.getElem?_drop]
        rw [e, List.getElem?_toArray, List.getElem?_map, List.getD_eq_getElem?_getD, List.getElem?_eq_getElem (by omega)]
        rfl
       obtain ⟨I, hI⟩ : ∃ I, I = inI Z k := ⟨_, rfl⟩
       rw [← hI] at HIL HZG
       have TC : Hid (∀ W', TriA W' B (k : Int) (ppI ys k) 0 false hn0 [a0, a1, a2, a3, a4, a5, a6, a7, a8, a9] [l0, l1, l2, l3, l4, l5, l6, l7, l8, l9] hg → Calls Tryz.prog 94 #[.pointer (some ⟨B, 0, none⟩), .agg #[thV x, .int .i64 ya, .int .i64 ye], .agg (I.map (Value.int .i64)).toArray] W' fun e w' => (∃ v, e = .returned v) ∧ TrB w' B (k : Int) (ppI ys k) (trlAdd x I ⟨false, hn0, [a0, a1, a2, a3, a4, a5, a6, a7, a8, a9], [l0, l1, l2, l3, l4, l5, l6, l7, l8, l9], hg⟩) ∧ Fr B W' w') := hideP (fun W' hT => by
        have hox : Ord x := by have h := HORD.out k hkn; rw [← HYE.out] at h; exact h
        unfold trlAdd
        by_cases h11 : x.k = 11
        ·rw [if_pos h11]
         exact triAddB_any hT x h11 ya ye I HIL
        ·rw [if_neg h11]
         exact triAddA_any hT x hox h11 ya ye I HIL)
       have T9 : Hid (TriA Y9.drew B (k : Int) (ppI ys k) 0 false hn0 [a0, a1, a2, a3, a4, a5, a6, a7, a8, a9] [l0, l1, l2, l3, l4, l5, l6, l7, l8, l9] hg) := hideP ⟨rfl, rfl, R9.out⟩
       have HIE := hideP hI
       have hBY := (Array.getElem?_eq_some_iff.1 R9.out).1
       clear hI R9
       obtain ⟨i0, i1, i2, i3, i4, i5, i6, i7, i8, i9, rfl⟩ := ten_of I HIL
       have HZZ : Hid (∀ Y, Below W.heap.size Y9 Y → Y.cell? ⟨D, k * 10, none⟩ = some (.int .i64 i0) ∧ Y.cell? ⟨D, k * 10 + 1, none⟩ = some (.int .i64 i1) ∧ Y.cell? ⟨D, k * 10 + 2, none⟩ = some (.int .i64 i2) ∧ Y.cell? ⟨D, k * 10 + 3, none⟩ = some (.int .i64 i3) ∧ Y.cell? ⟨D, k * 10 + 4, none⟩ = some (.int .i64 i4) ∧ Y.cell? ⟨D, k * 10 + 5, none⟩ = some (.int .i64 i5) ∧ Y.cell? ⟨D, k * 10 + 6, none⟩ = some (.int .i64 i6) ∧ Y.cell? ⟨D, k * 10 + 7, none⟩ = some (.int .i64 i7) ∧ Y.cell? ⟨D, k * 10 + 8, none⟩ = some (.int .i64 i8) ∧ Y.cell? ⟨D, k * 10 + 9, none⟩ = some (.int .i64 i9)) := hideP (fun Y hY => ⟨HZG Y hY 0 (by omega), HZG Y hY 1 (by omega), HZG Y hY 2 (by omega), HZG Y hY 3 (by omega), HZG Y hY 4 (by omega), HZG Y hY 5 (by omega), HZG Y hY 6 (by omega), HZG Y hY 7 (by omega), HZG Y hY 8 (by omega), HZG Y hY 9 (by omega)⟩)
       have JX : Hid (∀ Y, Below W.heap.size Y9 Y → Y.cell? ⟨g, k * 3, none⟩ = some (thV x) ∧ Y.cell? ⟨g, k * 3 + 1, none⟩ = some (.int .i64 ya) ∧ Y.cell? ⟨g, k * 3 + 2, none⟩ = some (.int .i64 ye)) := hideP (fun Y hY => by
        have h := (FX.out Y hY).it
        have j0 := h.c0 k (by rw [HL.out]; exact hkn)
        have j1 := h.c1 k (by rw [HL.out]; exact hkn)
        have j2 := h.c2 k (by rw [HL.out]; exact hkn)
        rw [← HYE.out] at j0 j1 j2
        exact ⟨j0, j1, j2⟩)
       clear HIL HZG
       simp only [List.map_cons, List.map_nil] at TC
       obtain ⟨vt, hvt⟩ : ∃ v, v = thV x := ⟨_, rfl⟩
       rw [← hvt] at JX TC
       clear hvt
       refine wpIn_wide.2 ?_
       refine wp_region_noPanic ?_
       refine wp_region_held_drew (S := fun Y => Below W.heap.size Y9 Y) (by kernel_rfl) (Below.drew (Below.refl _ _)) (fun hS => ?_)
       refine tkS (i := 0) (v := .pointer (some ⟨C, 0, none⟩)) rfl hS ?_ (hr := fun wx hx => by have h1 := (FX.out wx hx).cb; go_simp)
       try simp only [Act.put, List.getElem_toArray, List.getElem_cons_zero, List.getElem_cons_succ, List.setIfInBounds_toArray, List.set_cons_zero, List.set_cons_succ]
       refine tkS (i := 1) (v := .pointer (some ⟨C, 0, none⟩)) rfl hS ?_ (hr := fun wx hx => by go_simp)
       try simp only [Act.put, List.getElem_toArray, List.getElem_cons_zero, List.getElem_cons_succ, List.setIfInBounds_toArray, List.set_cons_zero, List.set_cons_succ]
       refine tkS (i := 2) (v := .pointer (some ⟨C, 9, none⟩)) rfl hS ?_ (hr := fun wx hx => by go_simp)
       try simp only [Act.put, List.getElem_toArray, List.getElem_cons_zero, List.getElem_cons_succ, List.setIfInBounds_toArray, List.set_cons_zero, List.set_cons_succ]
       refine tkS (i := 3) (v := .slice (some ⟨g, 0, none⟩) N uc) rfl hS ?_ (hr := fun wx hx => by have h1 := (FX.out wx hx).c9; go_simp)
       try simp only [Act.put, List.getElem_toArray, List.getElem_cons_zero, List.getElem_cons_succ, List.setIfInBounds_toArray, List.set_cons_zero, List.set_cons_succ]
       refine tkS (i := 4) (v := .int .i64 (k : Int)) rfl hS ?_ (hr := fun wx hx => by go_simp)
       try simp only [Act.put, List.getElem_toArray, List.getElem_cons_zero, List.getElem_cons_succ, List.setIfInBounds_toArray, List.set_cons_zero, List.set_cons_succ]
       refine tkS (i := 5) (v := .pointer (some ⟨g, k * 3, none⟩)) rfl hS ?_ (hr := fun wx hx => by go_simp)
       try simp only [Act.put, List.getElem_toArray, List.getElem_cons_zero, List.getElem_cons_succ, List.setIfInBounds_toArray, List.set_cons_zero, List.set_cons_succ]
       refine tkS (i := 6) (v := .agg #[vt, .int .i64 ya, .int .i64 ye]) rfl hS ?_ (hr := fun wx hx => by obtain ⟨h1, h2, h3⟩ := JX.out wx hx; go_simp)
       try simp only [Act.put, List.getElem_toArray, List.getElem_cons_zero, List.getElem_cons_succ, List.setIfInBounds_toArray, List.set_cons_zero, List.set_cons_succ]
       refine tkS (i := 7) (v := .pointer (some ⟨C, 0, none⟩)) rfl hS ?_ (hr := fun wx hx => by have h1 := (FX.out wx hx).cb; go_simp)
       try simp only [Act.put, List.getElem_toArray, List.getElem_cons_zero, List.getElem_cons_succ, List.setIfInBounds_toArray, List.set_cons_zero, List.set_cons_succ]
       refine tkS (i := 8) (v := .pointer (some ⟨C, 0, none⟩)) rfl hS ?_ (hr := fun wx hx => by go_simp)
       try simp only [Act.put, List.getElem_toArray, List.getElem_cons_zero, List.getElem_cons_succ, List.setIfInBounds_toArray, List.set_cons_zero, List.set_cons_succ]
       refine tkS (i := 9) (v := .pointer (some ⟨C, 10, none⟩)) rfl hS ?_ (hr := fun wx hx => by go_simp)
       try simp only [Act.put, List.getElem_toArray, List.getElem_cons_zero, List.getElem_cons_succ, List.setIfInBounds_toArray, List.set_cons_zero, List.set_cons_succ]
       refine tkS (i := 10) (v := .slice (some ⟨D, 0, none⟩) N N) rfl hS ?_ (hr := fun wx hx => by have h1 := (FX.out wx hx).c10; go_simp)
       try simp only [Act.put, List.getElem_toArray, List.getElem_cons_zero, List.getElem_cons_succ, List.setIfInBounds_toArray, List.set_cons_zero, List.set_cons_succ]
       refine tkS (i := 11) (v := .int .i64 (k : Int)) rfl hS ?_ (hr := fun wx hx => by go_simp)
       try simp only [Act.put, List.getElem_toArray, List.getElem_cons_zero, List.getElem_cons_succ, List.setIfInBounds_toArray, List.set_cons_zero, List.set_cons_succ]
       refine tkS (i := 12) (v := .pointer (some ⟨D, k * 10, none⟩)) rfl hS ?_ (hr := fun wx hx => by go_simp)
       try simp only [Act.put, List.getElem_toArray, List.getElem_cons_zero, List.getElem_cons_succ, List.setIfInBounds_toArray, List.set_cons_zero, List.set_cons_succ]
       refine tkS (i := 13) (v := .agg #[.int .i64 i0, .int .i64 i1, .int .i64 i2, .int .i64 i3, .int .i64 i4, .int .i64 i5, .int .i64 i6, .int .i64 i7, .int .i64 i8, .int .i64 i9]) rfl hS ?_ (hr := fun wx hx => by obtain ⟨h0, h1, h2, h3, h4, h5, h6, h7, h8, h9⟩ := HZZ.out wx hx; go_simp)
       try simp only [Act.put, List.getElem_toArray, List.getElem_cons_zero, List.getElem_cons_succ, List.setIfInBounds_toArray, List.set_cons_zero, List.set_cons_succ]
       refine rdS (i := 14) rfl (fun K hK => ?_)
       go_simp
       go_at_call 94
       refine (TC.out _ T9.out).mono ?_
       rintro e w5 ⟨⟨vr, rfl⟩, hi5, hf5⟩
       have HI5 := hideP hi5
       have b5 : Below W.heap.size Y9 w5 := (Below.drew (Below.refl _ _)).trans (Fr.low hf5 hWb (by show _ ≤ Y9.heap.size; omega))
       clear hi5 hf5
       refine hK.out _ _ b5 (fun _ => ?_)
       try simp only [Act.put, List.getElem_toArray, List.getElem_cons_zero, List.getElem_cons_succ, List.setIfInBounds_toArray, List.set_cons_zero, List.set_cons_succ]
       clear hK K
       refine wpAnyH_done (by kernel_rfl) ?_ _
       refine NoPanic.normal ?_
       simp only [Exit.inBlock, Exit.then]
       have S5 : Hid (TS w5 FB CB C D g f N uc (some ⟨g, 0, none⟩) ys Z) := hideP (TS.low HS1.out S9.out b5)
       have J5 : Hid (J (brks ys f (k + 1)) w5) := hideP (HJ.out _ _ _ J9.out b5)
       clear b5 S9 J9
       gi_wp2
       go_roundw
       case rel =>
        refine ⟨k + 1, (k : Int), (ppI ys k), by simp, by omega, by omega, J5.out, S5, hideP ?_⟩
        rw [trlS_up hk0 hkn HSE.out, if_neg (by rw [← HYE.out]; simp), ← HYE.out, ← HIE.out]
        exact HI5.out
       case measure => simp only [intOf]; omega
      | true =>
       have DC : Hid (∀ W, Calls Tryz.prog 93 #[.agg #[thV x, .int .i64 ya, .int .i64 ye]] W fun e w' => e = .returned (.bool (discB x)) ∧ Below W.heap.size W w') := hideP (fun W => disc_any x ya ye W)
       obtain ⟨dd, hdd⟩ : ∃ d, d = discB x := ⟨_, rfl⟩
       rw [← hdd] at DC
       obtain ⟨vt, hvt⟩ : ∃ v, v = thV x := ⟨_, rfl⟩
       rw [← hvt] at DC i0
       have HDD := hideP hdd
       have HVT := hideP hvt
       clear hdd hvt
       gi_wp2_with fail
       refine ⟨trivial, CallsIn.mono (callsIn_wide.2 (DC.out _)) ?_⟩
       rintro e w4 ⟨rfl, hb4⟩
       have S4 : Hid (TS w4 FB CB C D g f N uc (some ⟨g, 0, none⟩) ys Z) := hideP (S3.out.kept (KeptC.of_below hb4))
       have R4 : Hid (w4.heap[B]? = some (.cells #[.int .i64 (k : Int), .int .i64 (ppI ys k), .int .i64 0, .bool true, .bool hn0, .int .i64 a0, .int .i64 a1, .int .i64 a2, .int .i64 a3, .int .i64 a4, .int .i64 a5, .int .i64 a6, .int .i64 a7, .int .i64 a8, .int .i64 a9, .int .i64 l0, .int .i64 l1, .int .i64 l2, .int .i64 l3, .int .i64 l4, .int .i64 l5, .int .i64 l6, .int .i64 l7, .int .i64 l8, .int .i64 l9, .int .i64 hg] 120 (0, 0))) := hideP ((hb4.block B (Array.getElem?_eq_some_iff.1 R3.out).1).trans R3.out)
       have J4 : Hid (J (brks ys f (k + 1)) w4) := hideP (HJ.out _ _ _ J3.out (hb4.mono (by have := (Array.getElem?_eq_some_iff.1 R3.out).1; omega)))
       have c3 : w4.cell? ⟨B, 3, none⟩ = some (.bool true) := by rw [cell_of_row _ _ _ _ 120 _ R4.out]; rfl
       have fz3 : w4.frozen? ⟨B, 3, none⟩ = false := frozen_of_row _ _ 3 _ 120 R4.out
       clear hb4 DC i0 i1 i2 cb c9 c10 S3 R3 J3
       have HVT2 : Hid (thV x = vt) := hideP HVT.out.symm
       clear HVT
       cases dd with
       | true =>
        gi_wp2
        go_roundw
        case rel =>
         refine ⟨k + 1, (k : Int), (ppI ys k), by simp, by omega, by omega, J4.out, S4, hideP ?_⟩
         rw [trlS_up hk0 hkn HSE.out, if_pos (by rw [← HYE.out, ← HDD.out]; rfl)]
         exact ⟨rfl, rfl, R4.out⟩
        case measure => simp only [intOf]; omega
       | false =>
        have i0 : True := trivial
        have i1 : True := trivial
        have i2 : True := trivial
        have cb : True := trivial
        have c9 : True := trivial
        have c10 : True := trivial
        gi_upto_region 10 with fail
        obtain ⟨Y9, hY9⟩ : ∃ Y, w4.setCell ⟨B, 3, none⟩ (.bool false) = Y := ⟨_, rfl⟩
        have R9 : Hid (Y9.heap[B]? = some (.cells #[.int .i64 (k : Int), .int .i64 (ppI ys k), .int .i64 0, .bool false, .bool hn0, .int .i64 a0, .int .i64 a1, .int .i64 a2, .int .i64 a3, .int .i64 a4, .int .i64 a5, .int .i64 a6, .int .i64 a7, .int .i64 a8, .int .i64 a9, .int .i64 l0, .int .i64 l1, .int .i64 l2, .int .i64 l3, .int .i64 l4, .int .i64 l5, .int .i64 l6, .int .i64 l7, .int .i64 l8, .int .i64 l9, .int .i64 hg] 120 (0, 0))) := hideP (by
         rw [← hY9]
         have e1 := row_set R4.out 3 (.bool false)
         simp only [List.set_cons_zero, List.set_cons_succ] at e1
         exact e1)
        have b9 : Below W.heap.size w4 Y9 := by rw [← hY9]; exact (Below.refl _ _).setCell (p := ⟨B, 3, none⟩) hWb _
        rw [hY9]
        have S9 : Hid (TS Y9 FB CB C D g f N uc (some ⟨g, 0, none⟩) ys Z) := hideP (TS.low HS1.out S4.out b9)
        have J9 : Hid (J (brks ys f (k + 1)) Y9) := hideP (HJ.out _ _ _ J4.out b9)
        clear hY9 b9 c3 fz3 cb c9 c10 i0 i1 i2 J4 R4 S4
        have HIL : (inI Z k).length = 10 := by
         have := HZ.out
         unfold inI
         rw [List.length_take, List.length_drop]
         omega
        have FX : Hid (∀ Y, Below W.heap.size Y9 Y → TS Y FB CB C D g f N uc (some ⟨g, 0, none⟩) ys Z) := hideP (fun Y hY => TS.low HS1.out S9.out hY)
        have HZG : ∀ Y, Below W.heap.size Y9 Y → ∀ i, i < 10 → Y.cell? ⟨D, k * 10 + i, none⟩ = some (.int .i64 ((inI Z k).getD i 0)) := fun Y hY i hi => by
         have hz := HZ.out
         rw [cell_of_row _ _ _ _ 118 _ (FX.out Y hY).zs]
         have e : (inI Z k).getD i 0 = Z.getD (k * 10 + i) 0 := by
          unfold inI
          rw [List.getD_eq_getElem?_getD, List.getD_eq_getElem?_getD, List.getElem?_take, if_pos hi, List.getElem?_drop]
         rw [e, List.getElem?_toArray, List.getElem?_map, List.getD_eq_getElem?_getD, List.getElem?_eq_getElem (by omega)]
         rfl
        obtain ⟨I, hI⟩ : ∃ I, I = inI Z k := ⟨_, rfl⟩
        rw [← hI] at HIL HZG
        have TC : Hid (∀ W', TriA W' B (k : Int) (ppI ys k) 0 false hn0 [a0, a1, a2, a3, a4, a5, a6, a7, a8, a9] [l0, l1, l2, l3, l4, l5, l6, l7, l8, l9] hg → Calls Tryz.prog 94 #[.pointer (some ⟨B, 0, none⟩), .agg #[thV x, .int .i64 ya, .int .i64 ye], .agg (I.map (Value.int .i64)).toArray] W' fun e w' => (∃ v, e = .returned v) ∧ TrB w' B (k : Int) (ppI ys k) (trlAdd x I ⟨true, hn0, [a0, a1, a2, a3, a4, a5, a6, a7, a8, a9], [l0, l1, l2, l3, l4, l5, l6, l7, l8, l9], hg⟩) ∧ Fr B W' w') := hideP (fun W' hT => by
         have hox : Ord x := by have h := HORD.out k hkn; rw [← HYE.out] at h; exact h
         unfold trlAdd
         by_cases h11 : x.k = 11
         ·rw [if_pos h11]
          exact triAddB_any hT x h11 ya ye I HIL
         ·rw [if_neg h11]
          exact triAddA_any hT x hox h11 ya ye I HIL)
        have T9 : Hid (TriA Y9.drew B (k : Int) (ppI ys k) 0 false hn0 [a0, a1, a2, a3, a4, a5, a6, a7, a8, a9] [l0, l1, l2, l3, l4, l5, l6, l7, l8, l9] hg) := hideP ⟨rfl, rfl, R9.out⟩
        have HIE := hideP hI
        have hBY := (Array.getElem?_eq_some_iff.1 R9.out).1
        clear hI R9
        obtain ⟨i0, i1, i2, i3, i4, i5, i6, i7, i8, i9, rfl⟩ := ten_of I HIL
        have HZZ : Hid (∀ Y, Below W.heap.size Y9 Y → Y.cell? ⟨D, k * 10, none⟩ = some (.int .i64 i0) ∧ Y.cell? ⟨D, k * 10 + 1, none⟩ = some (.int .i64 i1) ∧ Y.cell? ⟨D, k * 10 + 2, none⟩ = some (.int .i64 i2) ∧ Y.cell? ⟨D, k * 10 + 3, none⟩ = some (.int .i64 i3) ∧ Y.cell? ⟨D, k * 10 + 4, none⟩ = some (.int .i64 i4) ∧ Y.cell? ⟨D, k * 10 + 5, none⟩ = some (.int .i64 i5) ∧ Y.cell? ⟨D, k * 10 + 6, none⟩ = some (.int .i64 i6) ∧ Y.cell? ⟨D, k * 10 + 7, none⟩ = some (.int .i64 i7) ∧ Y.cell? ⟨D, k * 10 + 8, none⟩ = some (.int .i64 i8) ∧ Y.cell? ⟨D, k * 10 + 9, none⟩ = some (.int .i64 i9)) := hideP (fun Y hY => ⟨HZG Y hY 0 (by omega), HZG Y hY 1 (by omega), HZG Y hY 2 (by omega), HZG Y hY 3 (by omega), HZG Y hY 4 (by omega), HZG Y hY 5 (by omega), HZG Y hY 6 (by omega), HZG Y hY 7 (by omega), HZG Y hY 8 (by omega), HZG Y hY 9 (by omega)⟩)
        have JX : Hid (∀ Y, Below W.heap.size Y9 Y → Y.cell? ⟨g, k * 3, none⟩ = some (thV x) ∧ Y.cell? ⟨g, k * 3 + 1, none⟩ = some (.int .i64 ya) ∧ Y.cell? ⟨g, k * 3 + 2, none⟩ = some (.int .i64 ye)) := hideP (fun Y hY => by
         have h := (FX.out Y hY).it
         have j0 := h.c0 k (by rw [HL.out]; exact hkn)
         have j1 := h.c1 k (by rw [HL.out]; exact hkn)
         have j2 := h.c2 k (by rw [HL.out]; exact hkn)
         rw [← HYE.out] at j0 j1 j2
         exact ⟨j0, j1, j2⟩)
        clear HIL HZG
        simp only [List.map_cons, List.map_nil] at TC
        obtain ⟨vt, hvt⟩ : ∃ v, v = thV x := ⟨_, rfl⟩
        rw [← hvt] at JX TC
        clear hvt
        refine wpIn_wide.2 ?_
        refine wp_region_noPanic ?_
        refine wp_region_held_drew (S := fun Y => Below W.heap.size Y9 Y) (by kernel_rfl) (Below.drew (Below.refl _ _)) (fun hS => ?_)
        refine tkS (i := 0) (v := .pointer (some ⟨C, 0, none⟩)) rfl hS ?_ (hr := fun wx hx => by have h1 := (FX.out wx hx).cb; go_simp)
        try simp only [Act.put, List.getElem_toArray, List.getElem_cons_zero, List.getElem_cons_succ, List.setIfInBounds_toArray, List.set_cons_zero, List.set_cons_succ]
        refine tkS (i := 1) (v := .pointer (some ⟨C, 0, none⟩)) rfl hS ?_ (hr := fun wx hx => by go_simp)
        try simp only [Act.put, List.getElem_toArray, List.getElem_cons_zero, List.getElem_cons_succ, List.setIfInBounds_toArray, List.set_cons_zero, List.set_cons_succ]
        refine tkS (i := 2) (v := .pointer (some ⟨C, 9, none⟩)) rfl hS ?_ (hr := fun wx hx => by go_simp)
        try simp only [Act.put, List.getElem_toArray, List.getElem_cons_zero, List.getElem_cons_succ, List.setIfInBounds_toArray, List.set_cons_zero, List.set_cons_succ]
        refine tkS (i := 3) (v := .slice (some ⟨g, 0, none⟩) N uc) rfl hS ?_ (hr := fun wx hx => by have h1 := (FX.out wx hx).c9; go_simp)
        try simp only [Act.put, List.getElem_toArray, List.getElem_cons_zero, List.getElem_cons_succ, List.setIfInBounds_toArray, List.set_cons_zero, List.set_cons_succ]
        refine tkS (i := 4) (v := .int .i64 (k : Int)) rfl hS ?_ (hr := fun wx hx => by go_simp)
        try simp only [Act.put, List.getElem_toArray, List.getElem_cons_zero, List.getElem_cons_succ, List.setIfInBounds_toArray, List.set_cons_zero, List.set_cons_succ]
        refine tkS (i := 5) (v := .pointer (some ⟨g, k * 3, none⟩)) rfl hS ?_ (hr := fun wx hx => by go_simp)
        try simp only [Act.put, List.getElem_toArray, List.getElem_cons_zero, List.getElem_cons_succ, List.setIfInBounds_toArray, List.set_cons_zero, List.set_cons_succ]
        refine tkS (i := 6) (v := .agg #[vt, .int .i64 ya, .int .i64 ye]) rfl hS ?_ (hr := fun wx hx => by obtain ⟨h1, h2, h3⟩ := JX.out wx hx; go_simp)
        try simp only [Act.put, List.getElem_toArray, List.getElem_cons_zero, List.getElem_cons_succ, List.setIfInBounds_toArray, List.set_cons_zero, List.set_cons_succ]
        refine tkS (i := 7) (v := .pointer (some ⟨C, 0, none⟩)) rfl hS ?_ (hr := fun wx hx => by have h1 := (FX.out wx hx).cb; go_simp)
        try simp only [Act.put, List.getElem_toArray, List.getElem_cons_zero, List.getElem_cons_succ, List.setIfInBounds_toArray, List.set_cons_zero, List.set_cons_succ]
        refine tkS (i := 8) (v := .pointer (some ⟨C, 0, none⟩)) rfl hS ?_ (hr := fun wx hx => by go_simp)
        try simp only [Act.put, List.getElem_toArray, List.getElem_cons_zero, List.getElem_cons_succ, List.setIfInBounds_toArray, List.set_cons_zero, List.set_cons_succ]
        refine tkS (i := 9) (v := .pointer (some ⟨C, 10, none⟩)) rfl hS ?_ (hr := fun wx hx => by go_simp)
        try simp only [Act.put, List.getElem_toArray, List.getElem_cons_zero, List.getElem_cons_succ, List.setIfInBounds_toArray, List.set_cons_zero, List.set_cons_succ]
        refine tkS (i := 10) (v := .slice (some ⟨D, 0, none⟩) N N) rfl hS ?_ (hr := fun wx hx => by have h1 := (FX.out wx hx).c10; go_simp)
        try simp only [Act.put, List.getElem_toArray, List.getElem_cons_zero, List.getElem_cons_succ, List.setIfInBounds_toArray, List.set_cons_zero, List.set_cons_succ]
        refine tkS (i := 11) (v := .int .i64 (k : Int)) rfl hS ?_ (hr := fun wx hx => by go_simp)
        try simp only [Act.put, List.getElem_toArray, List.getElem_cons_zero, List.getElem_cons_succ, List.setIfInBounds_toArray, List.set_cons_zero, List.set_cons_succ]
        refine tkS (i := 12) (v := .pointer (some ⟨D, k * 10, none⟩)) rfl hS ?_ (hr := fun wx hx => by go_simp)
        try simp only [Act.put, List.getElem_toArray, List.getElem_cons_zero, List.getElem_cons_succ, List.setIfInBounds_toArray, List.set_cons_zero, List.set_cons_succ]
        refine tkS (i := 13) (v := .agg #[.int .i64 i0, .int .i64 i1, .int .i64 i2, .int .i64 i3, .int .i64 i4, .int .i64 i5, .int .i64 i6, .int .i64 i7, .int .i64 i8, .int .i64 i9]) rfl hS ?_ (hr := fun wx hx => by obtain ⟨h0, h1, h2, h3, h4, h5, h6, h7, h8, h9⟩ := HZZ.out wx hx; go_simp)
        try simp only [Act.put, List.getElem_toArray, List.getElem_cons_zero, List.getElem_cons_succ, List.setIfInBounds_toArray, List.set_cons_zero, List.set_cons_succ]
        refine rdS (i := 14) rfl (fun K hK => ?_)
        go_simp
        go_at_call 94
        refine (TC.out _ T9.out).mono ?_
        rintro e w5 ⟨⟨vr, rfl⟩, hi5, hf5⟩
        have HI5 := hideP hi5
        have b5 : Below W.heap.size Y9 w5 := (Below.drew (Below.refl _ _)).trans (Fr.low hf5 hWb (by show _ ≤ Y9.heap.size; omega))
        clear hi5 hf5
        refine hK.out _ _ b5 (fun _ => ?_)
        try simp only [Act.put, List.getElem_toArray, List.getElem_cons_zero, List.getElem_cons_succ, List.setIfInBounds_toArray, List.set_cons_zero, List.set_cons_succ]
        clear hK K
        refine wpAnyH_done (by kernel_rfl) ?_ _
        refine NoPanic.normal ?_
        simp only [Exit.inBlock, Exit.then]
        have S5 : Hid (TS w5 FB CB C D g f N uc (some ⟨g, 0, none⟩) ys Z) := hideP (TS.low HS1.out S9.out b5)
        have J5 : Hid (J (brks ys f (k + 1)) w5) := hideP (HJ.out _ _ _ J9.out b5)
        clear b5 S9 J9
        gi_wp2
        go_roundw
        case rel =>
         refine ⟨k + 1, (k : Int), (ppI ys k), by simp, by omega, by omega, J5.out, S5, hideP ?_⟩
         rw [trlS_up hk0 hkn HSE.out, if_neg (by rw [← HYE.out]; rw [← HDD.out]; simp), ← HYE.out, ← HIE.out]
         exact HI5.out
        case measure => simp only [intOf]; omega
    ·gi_wp2
     refine bodyPost_ret (results_none rfl _ _ _) rfl ?_
     exact ⟨⟨_, rfl⟩, .inr ⟨brks ys f k ++ [k], hJx3⟩⟩
   | false =>
    have J2 : Hid (J (brks ys f (k + 1)) w1) := hideP (by rw [brks_succ ys hk0, if_neg (by rw [← HPB.out]; decide)]; exact J1.out)
    clear c0 c1 fz J1
    have cb := S1.out.cb
    have c9 := S1.out.c9
    have c10 := S1.out.c10
    by_cases hkE : k = N
    ·have hkb : ((k : Int) == (N : Int)) = true := by simp [hkE]
     have HKE := hideP hkE
     clear hkE
     gi_wp2
     all_goals try (rename_i hu _; unfold undef at hu; cases hu; done)
     refine ⟨trivial, ?_⟩
     gi_wp2
     go_roundw
     case rel =>
      have hke := HKE.out
      refine ⟨k + 1, tt, pr, by simp, by omega, by omega, J2.out, S1, hideP ?_⟩
      have h := HSE.out
      rw [show min (k + 1) N - f = min k N - f by omega, ← h]
      exact ⟨rfl, rfl, R1.out⟩
     case measure => simp only [intOf]; omega
    ·have hkb : ((k : Int) == (N : Int)) = false := by simp; omega
     have hkn : k < N := by omega
     have hki2 : (k : Int) < (N : Int) := by omega
     obtain rfl := S1.out.un (by omega)
     have i0 := S1.out.it.c0 k (by rw [HL.out]; exact hkn)
     have i1 := S1.out.it.c1 k (by rw [HL.out]; exact hkn)
     have i2 := S1.out.it.c2 k (by rw [HL.out]; exact hkn)
     obtain ⟨y, hy⟩ : ∃ y, y = ys.getD k It.none := ⟨_, rfl⟩
     rw [← hy] at i0 i1 i2
     obtain ⟨x, ya, ye⟩ := y
     simp only at i0 i1 i2
     have HYE := hideP hy
     clear hy
     have c3 : w1.cell? ⟨B, 3, none⟩ = some (.bool em) := by rw [cell_of_row _ _ _ _ 120 _ R1.out]; rfl
     have fz3 : w1.frozen? ⟨B, 3, none⟩ = false := frozen_of_row _ _ 3 _ 120 R1.out
     cases em with
     | false =>
      gi_upto_region 10 with fail
      refine ⟨trivial, ?_⟩
      gi_upto_region 10 with fail
      obtain ⟨Y9, hY9⟩ : ∃ Y, w1.setCell ⟨B, 3, none⟩ (.bool false) = Y := ⟨_, rfl⟩
      have R9 : Hid (Y9.heap[B]? = some (.cells #[.int .i64 tt, .int .i64 pr, .int .i64 0, .bool false, .bool hn0, .int .i64 a0, .int .i64 a1, .int .i64 a2, .int .i64 a3, .int .i64 a4, .int .i64 a5, .int .i64 a6, .int .i64 a7, .int .i64 a8, .int .i64 a9, .int .i64 l0, .int .i64 l1, .int .i64 l2, .int .i64 l3, .int .i64 l4, .int .i64 l5, .int .i64 l6, .int .i64 l7, .int .i64 l8, .int .i64 l9, .int .i64 hg] 120 (0, 0))) := hideP (by
       rw [← hY9]
       have e1 := row_set R1.out 3 (.bool false)
       simp only [List.set_cons_zero, List.set_cons_succ] at e1
       exact e1)
      have b9 : Below W.heap.size w1 Y9 := by rw [← hY9]; exact (Below.refl _ _).setCell (p := ⟨B, 3, none⟩) hWb _
      rw [hY9]
      have S9 : Hid (TS Y9 FB CB C D g f N uc (some ⟨g, 0, none⟩) ys Z) := hideP (TS.low HS1.out S1.out b9)
      have J9 : Hid (J (brks ys f (k + 1)) Y9) := hideP (HJ.out _ _ _ J2.out b9)
      clear hY9 b9 c3 fz3 cb c9 c10 i0 i1 i2 J2 R1 S1
      have HIL : (inI Z k).length = 10 := by
       have := HZ.out
       unfold inI
       rw [List.length_take, List.length_drop]
       omega
      have FX : Hid (∀ Y, Below W.heap.size Y9 Y → TS Y FB CB C D g f N uc (some ⟨g, 0, none⟩) ys Z) := hideP (fun Y hY => TS.low HS1.out S9.out hY)
      have HZG : ∀ Y, Below W.heap.size Y9 Y → ∀ i, i < 10 → Y.cell? ⟨D, k * 10 + i, none⟩ = some (.int .i64 ((inI Z k).getD i 0)) := fun Y hY i hi => by
       have hz := HZ.out
       rw [cell_of_row _ _ _ _ 118 _ (FX.out Y hY).zs]
       have e : (inI Z k).getD i 0 = Z.getD (k * 10 + i) 0 := by
        unfold inI
        rw [List.getD_eq_getElem?_getD, List.getD_eq_getElem?_getD, List.getElem?_take, if_pos hi, List.getElem?_drop]
       rw [e, List.getElem?_toArray, List.getElem?_map, List.getD_eq_getElem?_getD, List.getElem?_eq_getElem (by omega)]
       rfl
      obtain ⟨I, hI⟩ : ∃ I, I = inI Z k := ⟨_, rfl⟩
      rw [← hI] at HIL HZG
      have TC : Hid (∀ W', TriA W' B tt pr 0 false hn0 [a0, a1, a2, a3, a4, a5, a6, a7, a8, a9] [l0, l1, l2, l3, l4, l5, l6, l7, l8, l9] hg → Calls Tryz.prog 94 #[.pointer (some ⟨B, 0, none⟩), .agg #[thV x, .int .i64 ya, .int .i64 ye], .agg (I.map (Value.int .i64)).toArray] W' fun e w' => (∃ v, e = .returned v) ∧ TrB w' B tt pr (trlAdd x I ⟨false, hn0, [a0, a1, a2, a3, a4, a5, a6, a7, a8, a9], [l0, l1, l2, l3, l4, l5, l6, l7, l8, l9], hg⟩) ∧ Fr B W' w') := hideP (fun W' hT => by
       have hox : Ord x := by have h := HORD.out k hkn; rw [← HYE.out] at h; exact h
       unfold trlAdd
       by_cases h11 : x.k = 11
       ·rw [if_pos h11]
        exact triAddB_any hT x h11 ya ye I HIL
       ·rw [if_neg h11]
        exact triAddA_any hT x hox h11 ya ye I HIL)
      have T9 : Hid (TriA Y9.drew B tt pr 0 false hn0 [a0, a1, a2, a3, a4, a5, a6, a7, a8, a9] [l0, l1, l2, l3, l4, l5, l6, l7, l8, l9] hg) := hideP ⟨rfl, rfl, R9.out⟩
      have HIE := hideP hI
      have hBY := (Array.getElem?_eq_some_iff.1 R9.out).1
      clear hI R9
      obtain ⟨i0, i1, i2, i3, i4, i5, i6, i7, i8, i9, rfl⟩ := ten_of I HIL
      have HZZ : Hid (∀ Y, Below W.heap.size Y9 Y → Y.cell? ⟨D, k * 10, none⟩ = some (.int .i64 i0) ∧ Y.cell? ⟨D, k * 10 + 1, none⟩ = some (.int .i64 i1) ∧ Y.cell? ⟨D, k * 10 + 2, none⟩ = some (.int .i64 i2) ∧ Y.cell? ⟨D, k * 10 + 3, none⟩ = some (.int .i64 i3) ∧ Y.cell? ⟨D, k * 10 + 4, none⟩ = some (.int .i64 i4) ∧ Y.cell? ⟨D, k * 10 + 5, none⟩ = some (.int .i64 i5) ∧ Y.cell? ⟨D, k * 10 + 6, none⟩ = some (.int .i64 i6) ∧ Y.cell? ⟨D, k * 10 + 7, none⟩ = some (.int .i64 i7) ∧ Y.cell? ⟨D, k * 10 + 8, none⟩ = some (.int .i64 i8) ∧ Y.cell? ⟨D, k * 10 + 9, none⟩ = some (.int .i64 i9)) := hideP (fun Y hY => ⟨HZG Y hY 0 (by omega), HZG Y hY 1 (by omega), HZG Y hY 2 (by omega), HZG Y hY 3 (by omega), HZG Y hY 4 (by omega), HZG Y hY 5 (by omega), HZG Y hY 6 (by omega), HZG Y hY 7 (by omega), HZG Y hY 8 (by omega), HZG Y hY 9 (by omega)⟩)
      have JX : Hid (∀ Y, Below W.heap.size Y9 Y → Y.cell? ⟨g, k * 3, none⟩ = some (thV x) ∧ Y.cell? ⟨g, k * 3 + 1, none⟩ = some (.int .i64 ya) ∧ Y.cell? ⟨g, k * 3 + 2, none⟩ = some (.int .i64 ye)) := hideP (fun Y hY => by
       have h := (FX.out Y hY).it
       have j0 := h.c0 k (by rw [HL.out]; exact hkn)
       have j1 := h.c1 k (by rw [HL.out]; exact hkn)
       have j2 := h.c2 k (by rw [HL.out]; exact hkn)
       rw [← HYE.out] at j0 j1 j2
       exact ⟨j0, j1, j2⟩)
      clear HIL HZG
      simp only [List.map_cons, List.map_nil] at TC
      obtain ⟨vt, hvt⟩ : ∃ v, v = thV x := ⟨_, rfl⟩
      rw [← hvt] at JX TC
      clear hvt
      refine wpIn_wide.2 ?_
      refine wp_region_noPanic ?_
      refine wp_region_held_drew (S := fun Y => Below W.heap.size Y9 Y) (by kernel_rfl) (Below.drew (Below.refl _ _)) (fun hS => ?_)
      refine tkS (i := 0) (v := .pointer (some ⟨C, 0, none⟩)) rfl hS ?_ (hr := fun wx hx => by have h1 := (FX.out wx hx).cb; go_simp)
      try simp only [Act.put, List.getElem_toArray, List.getElem_cons_zero, List.getElem_cons_succ, List.setIfInBounds_toArray, List.set_cons_zero, List.set_cons_succ]
      refine tkS (i := 1) (v := .pointer (some ⟨C, 0, none⟩)) rfl hS ?_ (hr := fun wx hx => by go_simp)
      try simp only [Act.put, List.getElem_toArray, List.getElem_cons_zero, List.getElem_cons_succ, List.setIfInBounds_toArray, List.set_cons_zero, List.set_cons_succ]
      refine tkS (i := 2) (v := .pointer (some ⟨C, 9, none⟩)) rfl hS ?_ (hr := fun wx hx => by go_simp)
      try simp only [Act.put, List.getElem_toArray, List.getElem_cons_zero, List.getElem_cons_succ, List.setIfInBounds_toArray, List.set_cons_zero, List.set_cons_succ]
      refine tkS (i := 3) (v := .slice (some ⟨g, 0, none⟩) N uc) rfl hS ?_ (hr := fun wx hx => by have h1 := (FX.out wx hx).c9; go_simp)
      try simp only [Act.put, List.getElem_toArray, List.getElem_cons_zero, List.getElem_cons_succ, List.setIfInBounds_toArray, List.set_cons_zero, List.set_cons_succ]
      refine tkS (i := 4) (v := .int .i64 (k : Int)) rfl hS ?_ (hr := fun wx hx => by go_simp)
      try simp only [Act.put, List.getElem_toArray, List.getElem_cons_zero, List.getElem_cons_succ, List.setIfInBounds_toArray, List.set_cons_zero, List.set_cons_succ]
      refine tkS (i := 5) (v := .pointer (some ⟨g, k * 3, none⟩)) rfl hS ?_ (hr := fun wx hx => by go_simp)
      try simp only [Act.put, List.getElem_toArray, List.getElem_cons_zero, List.getElem_cons_succ, List.setIfInBounds_toArray, List.set_cons_zero, List.set_cons_succ]
      refine tkS (i := 6) (v := .agg #[vt, .int .i64 ya, .int .i64 ye]) rfl hS ?_ (hr := fun wx hx => by obtain ⟨h1, h2, h3⟩ := JX.out wx hx; go_simp)
      try simp only [Act.put, List.getElem_toArray, List.getElem_cons_zero, List.getElem_cons_succ, List.setIfInBounds_toArray, List.set_cons_zero, List.set_cons_succ]
      refine tkS (i := 7) (v := .pointer (some ⟨C, 0, none⟩)) rfl hS ?_ (hr := fun wx hx => by have h1 := (FX.out wx hx).cb; go_simp)
      try simp only [Act.put, List.getElem_toArray, List.getElem_cons_zero, List.getElem_cons_succ, List.setIfInBounds_toArray, List.set_cons_zero, List.set_cons_succ]
      refine tkS (i := 8) (v := .pointer (some ⟨C, 0, none⟩)) rfl hS ?_ (hr := fun wx hx => by go_simp)
      try simp only [Act.put, List.getElem_toArray, List.getElem_cons_zero, List.getElem_cons_succ, List.setIfInBounds_toArray, List.set_cons_zero, List.set_cons_succ]
      refine tkS (i := 9) (v := .pointer (some ⟨C, 10, none⟩)) rfl hS ?_ (hr := fun wx hx => by go_simp)
      try simp only [Act.put, List.getElem_toArray, List.getElem_cons_zero, List.getElem_cons_succ, List.setIfInBounds_toArray, List.set_cons_zero, List.set_cons_succ]
      refine tkS (i := 10) (v := .slice (some ⟨D, 0, none⟩) N N) rfl hS ?_ (hr := fun wx hx => by have h1 := (FX.out wx hx).c10; go_simp)
      try simp only [Act.put, List.getElem_toArray, List.getElem_cons_zero, List.getElem_cons_succ, List.setIfInBounds_toArray, List.set_cons_zero, List.set_cons_succ]
      refine tkS (i := 11) (v := .int .i64 (k : Int)) rfl hS ?_ (hr := fun wx hx => by go_simp)
      try simp only [Act.put, List.getElem_toArray, List.getElem_cons_zero, List.getElem_cons_succ, List.setIfInBounds_toArray, List.set_cons_zero, List.set_cons_succ]
      refine tkS (i := 12) (v := .pointer (some ⟨D, k * 10, none⟩)) rfl hS ?_ (hr := fun wx hx => by go_simp)
      try simp only [Act.put, List.getElem_toArray, List.getElem_cons_zero, List.getElem_cons_succ, List.setIfInBounds_toArray, List.set_cons_zero, List.set_cons_succ]
      refine tkS (i := 13) (v := .agg #[.int .i64 i0, .int .i64 i1, .int .i64 i2, .int .i64 i3, .int .i64 i4, .int .i64 i5, .int .i64 i6, .int .i64 i7, .int .i64 i8, .int .i64 i9]) rfl hS ?_ (hr := fun wx hx => by obtain ⟨h0, h1, h2, h3, h4, h5, h6, h7, h8, h9⟩ := HZZ.out wx hx; go_simp)
      try simp only [Act.put, List.getElem_toArray, List.getElem_cons_zero, List.getElem_cons_succ, List.setIfInBounds_toArray, List.set_cons_zero, List.set_cons_succ]
      refine rdS (i := 14) rfl (fun K hK => ?_)
      go_simp
      go_at_call 94
      refine (TC.out _ T9.out).mono ?_
      rintro e w5 ⟨⟨vr, rfl⟩, hi5, hf5⟩
      have HI5 := hideP hi5
      have b5 : Below W.heap.size Y9 w5 := (Below.drew (Below.refl _ _)).trans (Fr.low hf5 hWb (by show _ ≤ Y9.heap.size; omega))
      clear hi5 hf5
      refine hK.out _ _ b5 (fun _ => ?_)
      try simp only [Act.put, List.getElem_toArray, List.getElem_cons_zero, List.getElem_cons_succ, List.setIfInBounds_toArray, List.set_cons_zero, List.set_cons_succ]
      clear hK K
      refine wpAnyH_done (by kernel_rfl) ?_ _
      refine NoPanic.normal ?_
      simp only [Exit.inBlock, Exit.then]
      have S5 : Hid (TS w5 FB CB C D g f N uc (some ⟨g, 0, none⟩) ys Z) := hideP (TS.low HS1.out S9.out b5)
      have J5 : Hid (J (brks ys f (k + 1)) w5) := hideP (HJ.out _ _ _ J9.out b5)
      clear b5 S9 J9
      gi_wp2
      go_roundw
      case rel =>
       refine ⟨k + 1, tt, pr, by simp, by omega, by omega, J5.out, S5, hideP ?_⟩
       rw [trlS_up hk0 hkn HSE.out, if_neg (by rw [← HYE.out]; simp), ← HYE.out, ← HIE.out]
       exact HI5.out
      case measure => simp only [intOf]; omega
     | true =>
      have DC : Hid (∀ W, Calls Tryz.prog 93 #[.agg #[thV x, .int .i64 ya, .int .i64 ye]] W fun e w' => e = .returned (.bool (discB x)) ∧ Below W.heap.size W w') := hideP (fun W => disc_any x ya ye W)
      obtain ⟨dd, hdd⟩ : ∃ d, d = discB x := ⟨_, rfl⟩
      rw [← hdd] at DC
      obtain ⟨vt, hvt⟩ : ∃ v, v = thV x := ⟨_, rfl⟩
      rw [← hvt] at DC i0
      have HDD := hideP hdd
      have HVT := hideP hvt
      clear hdd hvt
      gi_wp2_with fail
      refine ⟨trivial, CallsIn.mono (callsIn_wide.2 (DC.out _)) ?_⟩
      rintro e w4 ⟨rfl, hb4⟩
      have S4 : Hid (TS w4 FB CB C D g f N uc (some ⟨g, 0, none⟩) ys Z) := hideP (S1.out.kept (KeptC.of_below hb4))
      have R4 : Hid (w4.heap[B]? = some (.cells #[.int .i64 tt, .int .i64 pr, .int .i64 0, .bool true, .bool hn0, .int .i64 a0, .int .i64 a1, .int .i64 a2, .int .i64 a3, .int .i64 a4, .int .i64 a5, .int .i64 a6, .int .i64 a7, .int .i64 a8, .int .i64 a9, .int .i64 l0, .int .i64 l1, .int .i64 l2, .int .i64 l3, .int .i64 l4, .int .i64 l5, .int .i64 l6, .int .i64 l7, .int .i64 l8, .int .i64 l9, .int .i64 hg] 120 (0, 0))) := hideP ((hb4.block B (Array.getElem?_eq_some_iff.1 R1.out).1).trans R1.out)
      have J4 : Hid (J (brks ys f (k + 1)) w4) := hideP (HJ.out _ _ _ J2.out (hb4.mono (by have := (Array.getElem?_eq_some_iff.1 R1.out).1; omega)))
      have c3 : w4.cell? ⟨B, 3, none⟩ = some (.bool true) := by rw [cell_of_row _ _ _ _ 120 _ R4.out]; rfl
      have fz3 : w4.frozen? ⟨B, 3, none⟩ = false := frozen_of_row _ _ 3 _ 120 R4.out
      clear hb4 DC i0 i1 i2 cb c9 c10 S1 R1 J2
      have HVT2 : Hid (thV x = vt) := hideP HVT.out.symm
      clear HVT
      cases dd with
      | true =>
       gi_wp2
       go_roundw
       case rel =>
        refine ⟨k + 1, tt, pr, by simp, by omega, by omega, J4.out, S4, hideP ?_⟩
        rw [trlS_up hk0 hkn HSE.out, if_pos (by rw [← HYE.out, ← HDD.out]; rfl)]
        exact ⟨rfl, rfl, R4.out⟩
       case measure => simp only [intOf]; omega
      | false =>
       have i0 : True := trivial
       have i1 : True := trivial
       have i2 : True := trivial
       have cb : True := trivial
       have c9 : True := trivial
       have c10 : True := trivial
       gi_upto_region 10 with fail
       obtain ⟨Y9, hY9⟩ : ∃ Y, w4.setCell ⟨B, 3, none⟩ (.bool false) = Y := ⟨_, rfl⟩
       have R9 : Hid (Y9.heap[B]? = some (.cells #[.int .i64 tt, .int .i64 pr, .int .i64 0, .bool false, .bool hn0, .int .i64 a0, .int .i64 a1, .int .i64 a2, .int .i64 a3, .int .i64 a4, .int .i64 a5, .int .i64 a6, .int .i64 a7, .int .i64 a8, .int .i64 a9, .int .i64 l0, .int .i64 l1, .int .i64 l2, .int .i64 l3, .int .i64 l4, .int .i64 l5, .int .i64 l6, .int .i64 l7, .int .i64 l8, .int .i64 l9, .int .i64 hg] 120 (0, 0))) := hideP (by
        rw [← hY9]
        have e1 := row_set R4.out 3 (.bool false)
        simp only [List.set_cons_zero, List.set_cons_succ] at e1
        exact e1)
       have b9 : Below W.heap.size w4 Y9 := by rw [← hY9]; exact (Below.refl _ _).setCell (p := ⟨B, 3, none⟩) hWb _
       rw [hY9]
       have S9 : Hid (TS Y9 FB CB C D g f N uc (some ⟨g, 0, none⟩) ys Z) := hideP (TS.low HS1.out S4.out b9)
       have J9 : Hid (J (brks ys f (k + 1)) Y9) := hideP (HJ.out _ _ _ J4.out b9)
       clear hY9 b9 c3 fz3 cb c9 c10 i0 i1 i2 J4 R4 S4
       have HIL : (inI Z k).length = 10 := by
        have := HZ.out
        unfold inI
        rw [List.length_take, List.length_drop]
        omega
       have FX : Hid (∀ Y, Below W.heap.size Y9 Y → TS Y FB CB C D g f N uc (some ⟨g, 0, none⟩) ys Z) := hideP (fun Y hY => TS.low HS1.out S9.out hY)
       have HZG : ∀ Y, Below W.heap.size Y9 Y → ∀ i, i < 10 → Y.cell? ⟨D, k * 10 + i, none⟩ = some (.int .i64 ((inI Z k).getD i 0)) := fun Y hY i hi => by
        have hz := HZ.out
        rw [cell_of_row _ _ _ _ 118 _ (FX.out Y hY).zs]
        have e : (inI Z k).getD i 0 = Z.getD (k * 10 + i) 0 := by
         unfold inI
         rw [List.getD_eq_getElem?_getD, List.getD_eq_getElem?_getD, List.getElem?_take, if_pos hi, List.getElem?_drop]
        rw [e, List.getElem?_toArray, List.getElem?_map, List.getD_eq_getElem?_getD, List.getElem?_eq_getElem (by omega)]
        rfl
       obtain ⟨I, hI⟩ : ∃ I, I = inI Z k := ⟨_, rfl⟩
       rw [← hI] at HIL HZG
       have TC : Hid (∀ W', TriA W' B tt pr 0 false hn0 [a0, a1, a2, a3, a4, a5, a6, a7, a8, a9] [l0, l1, l2, l3, l4, l5, l6, l7, l8, l9] hg → Calls Tryz.prog 94 #[.pointer (some ⟨B, 0, none⟩), .agg #[thV x, .int .i64 ya, .int .i64 ye], .agg (I.map (Value.int .i64)).toArray] W' fun e w' => (∃ v, e = .returned v) ∧ TrB w' B tt pr (trlAdd x I ⟨true, hn0, [a0, a1, a2, a3, a4, a5, a6, a7, a8, a9], [l0, l1, l2, l3, l4, l5, l6, l7, l8, l9], hg⟩) ∧ Fr B W' w') := hideP (fun W' hT => by
        have hox : Ord x := by have h := HORD.out k hkn; rw [← HYE.out] at h; exact h
        unfold trlAdd
        by_cases h11 : x.k = 11
        ·rw [if_pos h11]
         exact triAddB_any hT x h11 ya ye I HIL
        ·rw [if_neg h11]
         exact triAddA_any hT x hox h11 ya ye I HIL)
       have T9 : Hid (TriA Y9.drew B tt pr 0 false hn0 [a0, a1, a2, a3, a4, a5, a6, a7, a8, a9] [l0, l1, l2, l3, l4, l5, l6, l7, l8, l9] hg) := hideP ⟨rfl, rfl, R9.out⟩
       have HIE := hideP hI
       have hBY := (Array.getElem?_eq_some_iff.1 R9.out).1
       clear hI R9
       obtain ⟨i0, i1, i2, i3, i4, i5, i6, i7, i8, i9, rfl⟩ := ten_of I HIL
       have HZZ : Hid (∀ Y, Below W.heap.size Y9 Y → Y.cell? ⟨D, k * 10, none⟩ = some (.int .i64 i0) ∧ Y.cell? ⟨D, k * 10 + 1, none⟩ = some (.int .i64 i1) ∧ Y.cell? ⟨D, k * 10 + 2, none⟩ = some (.int .i64 i2) ∧ Y.cell? ⟨D, k * 10 + 3, none⟩ = some (.int .i64 i3) ∧ Y.cell? ⟨D, k * 10 + 4, none⟩ = some (.int .i64 i4) ∧ Y.cell? ⟨D, k * 10 + 5, none⟩ = some (.int .i64 i5) ∧ Y.cell? ⟨D, k * 10 + 6, none⟩ = some (.int .i64 i6) ∧ Y.cell? ⟨D, k * 10 + 7, none⟩ = some (.int .i64 i7) ∧ Y.cell? ⟨D, k * 10 + 8, none⟩ = some (.int .i64 i8) ∧ Y.cell? ⟨D, k * 10 + 9, none⟩ = some (.int .i64 i9)) := hideP (fun Y hY => ⟨HZG Y hY 0 (by omega), HZG Y hY 1 (by omega), HZG Y hY 2 (by omega), HZG Y hY 3 (by omega), HZG Y hY 4 (by omega), HZG Y hY 5 (by omega), HZG Y hY 6 (by omega), HZG Y hY 7 (by omega), HZG Y hY 8 (by omega), HZG Y hY 9 (by omega)⟩)
       have JX : Hid (∀ Y, Below W.heap.size Y9 Y → Y.cell? ⟨g, k * 3, none⟩ = some (thV x) ∧ Y.cell? ⟨g, k * 3 + 1, none⟩ = some (.int .i64 ya) ∧ Y.cell? ⟨g, k * 3 + 2, none⟩ = some (.int .i64 ye)) := hideP (fun Y hY => by
        have h := (FX.out Y hY).it
        have j0 := h.c0 k (by rw [HL.out]; exact hkn)
        have j1 := h.c1 k (by rw [HL.out]; exact hkn)
        have j2 := h.c2 k (by rw [HL.out]; exact hkn)
        rw [← HYE.out] at j0 j1 j2
        exact ⟨j0, j1, j2⟩)
       clear HIL HZG
       simp only [List.map_cons, List.map_nil] at TC
       obtain ⟨vt, hvt⟩ : ∃ v, v = thV x := ⟨_, rfl⟩
       rw [← hvt] at JX TC
       clear hvt
       refine wpIn_wide.2 ?_
       refine wp_region_noPanic ?_
       refine wp_region_held_drew (S := fun Y => Below W.heap.size Y9 Y) (by kernel_rfl) (Below.drew (Below.refl _ _)) (fun hS => ?_)
       refine tkS (i := 0) (v := .pointer (some ⟨C, 0, none⟩)) rfl hS ?_ (hr := fun wx hx => by have h1 := (FX.out wx hx).cb; go_simp)
       try simp only [Act.put, List.getElem_toArray, List.getElem_cons_zero, List.getElem_cons_succ, List.setIfInBounds_toArray, List.set_cons_zero, List.set_cons_succ]
       refine tkS (i := 1) (v := .pointer (some ⟨C, 0, none⟩)) rfl hS ?_ (hr := fun wx hx => by go_simp)
       try simp only [Act.put, List.getElem_toArray, List.getElem_cons_zero, List.getElem_cons_succ, List.setIfInBounds_toArray, List.set_cons_zero, List.set_cons_succ]
       refine tkS (i := 2) (v := .pointer (some ⟨C, 9, none⟩)) rfl hS ?_ (hr := fun wx hx => by go_simp)
       try simp only [Act.put, List.getElem_toArray, List.getElem_cons_zero, List.getElem_cons_succ, List.setIfInBounds_toArray, List.set_cons_zero, List.set_cons_succ]
       refine tkS (i := 3) (v := .slice (some ⟨g, 0, none⟩) N uc) rfl hS ?_ (hr := fun wx hx => by have h1 := (FX.out wx hx).c9; go_simp)
       try simp only [Act.put, List.getElem_toArray, List.getElem_cons_zero, List.getElem_cons_succ, List.setIfInBounds_toArray, List.set_cons_zero, List.set_cons_succ]
       refine tkS (i := 4) (v := .int .i64 (k : Int)) rfl hS ?_ (hr := fun wx hx => by go_simp)
       try simp only [Act.put, List.getElem_toArray, List.getElem_cons_zero, List.getElem_cons_succ, List.setIfInBounds_toArray, List.set_cons_zero, List.set_cons_succ]
       refine tkS (i := 5) (v := .pointer (some ⟨g, k * 3, none⟩)) rfl hS ?_ (hr := fun wx hx => by go_simp)
       try simp only [Act.put, List.getElem_toArray, List.getElem_cons_zero, List.getElem_cons_succ, List.setIfInBounds_toArray, List.set_cons_zero, List.set_cons_succ]
       refine tkS (i := 6) (v := .agg #[vt, .int .i64 ya, .int .i64 ye]) rfl hS ?_ (hr := fun wx hx => by obtain ⟨h1, h2, h3⟩ := JX.out wx hx; go_simp)
       try simp only [Act.put, List.getElem_toArray, List.getElem_cons_zero, List.getElem_cons_succ, List.setIfInBounds_toArray, List.set_cons_zero, List.set_cons_succ]
       refine tkS (i := 7) (v := .pointer (some ⟨C, 0, none⟩)) rfl hS ?_ (hr := fun wx hx => by have h1 := (FX.out wx hx).cb; go_simp)
       try simp only [Act.put, List.getElem_toArray, List.getElem_cons_zero, List.getElem_cons_succ, List.setIfInBounds_toArray, List.set_cons_zero, List.set_cons_succ]
       refine tkS (i := 8) (v := .pointer (some ⟨C, 0, none⟩)) rfl hS ?_ (hr := fun wx hx => by go_simp)
       try simp only [Act.put, List.getElem_toArray, List.getElem_cons_zero, List.getElem_cons_succ, List.setIfInBounds_toArray, List.set_cons_zero, List.set_cons_succ]
       refine tkS (i := 9) (v := .pointer (some ⟨C, 10, none⟩)) rfl hS ?_ (hr := fun wx hx => by go_simp)
       try simp only [Act.put, List.getElem_toArray, List.getElem_cons_zero, List.getElem_cons_succ, List.setIfInBounds_toArray, List.set_cons_zero, List.set_cons_succ]
       refine tkS (i := 10) (v := .slice (some ⟨D, 0, none⟩) N N) rfl hS ?_ (hr := fun wx hx => by have h1 := (FX.out wx hx).c10; go_simp)
       try simp only [Act.put, List.getElem_toArray, List.getElem_cons_zero, List.getElem_cons_succ, List.setIfInBounds_toArray, List.set_cons_zero, List.set_cons_succ]
       refine tkS (i := 11) (v := .int .i64 (k : Int)) rfl hS ?_ (hr := fun wx hx => by go_simp)
       try simp only [Act.put, List.getElem_toArray, List.getElem_cons_zero, List.getElem_cons_succ, List.setIfInBounds_toArray, List.set_cons_zero, List.set_cons_succ]
       refine tkS (i := 12) (v := .pointer (some ⟨D, k * 10, none⟩)) rfl hS ?_ (hr := fun wx hx => by go_simp)
       try simp only [Act.put, List.getElem_toArray, List.getElem_cons_zero, List.getElem_cons_succ, List.setIfInBounds_toArray, List.set_cons_zero, List.set_cons_succ]
       refine tkS (i := 13) (v := .agg #[.int .i64 i0, .int .i64 i1, .int .i64 i2, .int .i64 i3, .int .i64 i4, .int .i64 i5, .int .i64 i6, .int .i64 i7, .int .i64 i8, .int .i64 i9]) rfl hS ?_ (hr := fun wx hx => by obtain ⟨h0, h1, h2, h3, h4, h5, h6, h7, h8, h9⟩ := HZZ.out wx hx; go_simp)
       try simp only [Act.put, List.getElem_toArray, List.getElem_cons_zero, List.getElem_cons_succ, List.setIfInBounds_toArray, List.set_cons_zero, List.set_cons_succ]
       refine rdS (i := 14) rfl (fun K hK => ?_)
       go_simp
       go_at_call 94
       refine (TC.out _ T9.out).mono ?_
       rintro e w5 ⟨⟨vr, rfl⟩, hi5, hf5⟩
       have HI5 := hideP hi5
       have b5 : Below W.heap.size Y9 w5 := (Below.drew (Below.refl _ _)).trans (Fr.low hf5 hWb (by show _ ≤ Y9.heap.size; omega))
       clear hi5 hf5
       refine hK.out _ _ b5 (fun _ => ?_)
       try simp only [Act.put, List.getElem_toArray, List.getElem_cons_zero, List.getElem_cons_succ, List.setIfInBounds_toArray, List.set_cons_zero, List.set_cons_succ]
       clear hK K
       refine wpAnyH_done (by kernel_rfl) ?_ _
       refine NoPanic.normal ?_
       simp only [Exit.inBlock, Exit.then]
       have S5 : Hid (TS w5 FB CB C D g f N uc (some ⟨g, 0, none⟩) ys Z) := hideP (TS.low HS1.out S9.out b5)
       have J5 : Hid (J (brks ys f (k + 1)) w5) := hideP (HJ.out _ _ _ J9.out b5)
       clear b5 S9 J9
       gi_wp2
       go_roundw
       case rel =>
        refine ⟨k + 1, tt, pr, by simp, by omega, by omega, J5.out, S5, hideP ?_⟩
        rw [trlS_up hk0 hkn HSE.out, if_neg (by rw [← HYE.out]; rw [← HDD.out]; simp), ← HYE.out, ← HIE.out]
        exact HI5.out
       case measure => simp only [intOf]; omega
  ·have hki : ¬ (k : Int) ≤ (N : Int) := by omega
   obtain rfl : k = N + 1 := by omega
   have HJ1 := hideP hJ1
   clear hJ1
   gi_wp2
   go_end0
   exact ⟨⟨_, rfl⟩, .inl HJ1.out⟩
end Go.Proofs.YtlohbaoigfaneaaGreat
