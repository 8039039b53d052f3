/-
  LineOf: the law.
-/
import Derived.Test.YtdgfnceipginkaaIlo
import Derived.Test.YtdgfnceipginkaaNdq
import Derived.Test.YtdgfnceipginkaaOw
import Derived.Test.YtdgfnceipginkaaMkt
import Derived.Test.YtdgfnceipginkaaSty
import Derived.Test.YtdgfnceipginkaaTks
import Derived.Test.YtdgfnceipginkaaStk
namespace Go.Proofs.Ytdgfnceipginkaa
open Go.RowKit
set_option linter.unusedVariables false
set_option linter.unusedSimpArgs false

theorem lnL_len (xs : List Nd) (S : Sy) (f t : Int) : (lnL xs S f t).length ≤ 20006 := by
  unfold lnL
  split
  · rename_i hh
    exact lineZ_len _ (bl_mem hh.2.1).1 _ _
  · simp
theorem load_sl {a : Act} {oi : Oper} {p : Operand} {G : Nat} {cs : Array Value} (hsz : cs.size = 23) (ho : oi.op = Op.load 26 p) (hp : a.eval p = .pointer (some ⟨G, 0, none⟩)) (W : World) (h : W.heap[G]? = some (.cells cs 26 (0, 0))) : (execOp a.eval oi).run Try.prog W = .ok (.value (.agg cs)) W := by
  have hr : (loadVar 26 ⟨G, 0, none⟩).run Try.prog W = .ok (.agg cs) W := run_loadVar_row _ _ 26 26 _ (0, 0) _ h Try.underlying26 rfl (by rw [hsz]; kernel_rfl)
  unfold execOp
  simp only [ho, hp, Instr.loadAt, Instr.sureAddr, Sem.run_bind, Sem.run_pure, Result.andThen_ok, hr]

set_option maxRecDepth 20000 in
set_option maxHeartbeats 16000000 in
theorem lawLO_any {v : Value} {xs : List Nd} {w0 : World} (S : Sy) (f t : Int) (h : NRow 0 w0 v xs) (hf : xs.length ≤ 9223372036854775807 ∧ ∀ i, i < xs.length → FnN (xs.getD i Nd.none)) :
    Calls Try.prog 3 #[v, syV S, .int .i64 f, .int .i64 t] w0 fun e w' => e = .returned (.bool true) ∧ Below w0.heap.size w0 w' := by
  have TS : Hid (∀ W, Calls Try.prog 7 #[syV S] W fun r w' => r = .returned (syV S) ∧ Below W.heap.size W w') := hideP (fun W => toStyle_any S W)
  have hsy : ∃ cs : Array Value, syV S = .agg cs ∧ cs.size = 23 := ⟨_, rfl, rfl⟩
  obtain ⟨cs, hcs, hsz⟩ := hsy
  have HCS := hideP hcs
  rw [hcs] at TS ⊢
  clear hcs
  have HX := hideP (SRow.below ndStable h (below1 w0 (.cells cs 26)))
  have BB := hideP (below1 w0 (.cells cs 26))
  have hG := heap_alloc_new w0 (.cells cs 26)
  obtain ⟨ao, n, cap, rfl⟩ : ∃ a n c, v = .slice a n c := by obtain ⟨a, c, rfl⟩ := h.shape; exact ⟨_, _, _, rfl⟩
  have HF := hideP hf
  clear h hf
  go_enter Try.func3, Try.ntmps3
  go_wp2_with fail
  obtain ⟨sb, hsb⟩ : ∃ sb, sb = w0.heap.size := ⟨_, rfl⟩
  rw [← hsb] at hG
  rw [← hsb]
  have hsl : sb < (w0.alloc (.cells cs 26)).heap.size := by rw [hsb]; simp
  generalize World.alloc _ _ = w at HX BB hG hsl ⊢
  have HSt : Hid (∀ X, Below w.heap.size w X → X.heap[sb]? = some (.cells cs 26 (0, 0))) := hideP (fun X hX => (hX.block sb hsl).trans hG)
  clear hG hsb
  refine (szNodeS_any HX.out HF.out (by omega) (by omega)).mono ?_
  rintro e w1 ⟨⟨m, rfl, hml, hm⟩, hb1⟩
  have B1 : Hid (Below w.heap.size w w1) := hb1
  have HM := hideP hm
  clear hb1 hm
  by_cases hneg : m < 0
  · go_wp2
    go_ret
    exact ⟨rfl, below_more BB.out B1.out BB.out.size⟩
  · have HS : Hid (xs.length ≤ 1048576) := hideP (HM.out (by omega)).1
    clear HM HF
    have hLL := lnL_len xs S f t
    obtain ⟨L, hL⟩ : ∃ L, L = lnL xs S f t := ⟨_, rfl⟩
    rw [← hL] at hLL
    obtain ⟨r, hr⟩ : ∃ r, r = L.length := ⟨_, rfl⟩
    have CS : Hid (∀ (V : Value) (W : World) (base : Nat), W.ownsRow base 48 15 V xs.length (flatN xs) → Calls Try.prog 5 #[V, .agg cs, .int .i64 f, .int .i64 t] W fun e W' => (∃ u, e = .returned u ∧ W'.ownsRow W.heap.size 48 15 u r (flatN L)) ∧ Below W.heap.size W W') := hideP (fun V W base ho => by rw [hr, hL, ← HCS.out]; exact specLO_any S f t (SRow.mono ndStable (own_NRow ho rfl) (Nat.zero_le _)) HS.out (own_cap ho))
    have CI : Hid (∀ (V : Value) (W : World) (base : Nat), W.ownsRow base 48 15 V xs.length (flatN xs) → Calls Try.prog 8 #[V, .agg cs, .int .i64 f, .int .i64 t] W fun e W' => (∃ u, e = .returned u ∧ W'.ownsRow W.heap.size 48 15 u r (flatN L)) ∧ Below W.heap.size W W') := hideP (fun V W base ho => by rw [hr, hL, ← HCS.out]; exact implLO_any S f t (SRow.mono ndStable (own_NRow ho rfl) (Nat.zero_le _)) HS.out (own_cap ho) (nn_own ho))
    have CE : Hid (∀ (V U : Value) (W : World) (b1 b2 : Nat), W.ownsRow b1 48 15 V r (flatN L) → W.ownsRow b2 48 15 U r (flatN L) → Calls Try.prog 9 #[V, U] W fun e w' => e = .returned (.bool true) ∧ Below W.heap.size W w') := hideP (fun V U W b1 b2 ho1 ho2 => eqNodeS_same (SRow.mono ndStable (own_NRow ho1 hr.symm) (Nat.zero_le _)) (SRow.mono ndStable (own_NRow ho2 hr.symm) (Nat.zero_le _)) (by omega))
    have hrl : r ≤ 20006 := by omega
    have CH : Hid (∀ (W : World) (base : Nat) (V : Value), W.ownsRow base 48 15 V r (flatN (marksN 1 r)) → Calls Try.prog 11 #[V, .int .i64 ((1 : Nat) : Int)] W fun e w' => e = .returned (.int .i64 ((1 + 15 * r : Nat) : Int)) ∧ Below W.heap.size W w') := hideP (fun W base V ho => heldNodeS_any (SRow.mono ndStable (own_NRow ho (marksN_len 1 r)) (Nat.zero_le _)) (by omega) (by omega) (by omega))
    clear hL hr hLL
    obtain ⟨z, hz⟩ : ∃ z, z = xs.length := ⟨_, rfl⟩
    have CT : Hid (∀ W, Below w.heap.size w W → Calls Try.prog 6 #[.slice ao n cap] W fun e w' => e = .returned (.slice (some ⟨W.heap.size, 0, none⟩) z z) ∧ w'.ownsRow W.heap.size 48 15 (.slice (some ⟨W.heap.size, 0, none⟩) z z) z (flatN xs) ∧ Below W.heap.size W w') := hideP (fun W hW => by rw [hz]; exact toNodeS_own (SRow.below ndStable HX.out hW) HS.out)
    have CQ : Hid (∀ (V U : Value) (W : World) (b1 b2 : Nat), W.ownsRow b1 48 15 V z (flatN xs) → W.ownsRow b2 48 15 U z (flatN xs) → Calls Try.prog 9 #[V, U] W fun e w' => e = .returned (.bool true) ∧ Below W.heap.size W w') := hideP (fun V U W b1 b2 ho1 ho2 => eqNodeS_same (SRow.mono ndStable (own_NRow ho1 hz.symm) (Nat.zero_le _)) (SRow.mono ndStable (own_NRow ho2 hz.symm) (Nat.zero_le _)) HS.out)
    rw [← hz] at CS CI HS
    clear hz HX
    go_upto_region 5 with fail
    have BD1 : Hid (Below w.heap.size w w1.drew) := hideP (Below.drew B1.out)
    have hS : (fun Y : World => Y.heap[sb]? = some (.cells cs 26 (0, 0))) w1.drew := HSt.out w1 B1.out
    refine wp_region_held_drew (S := (fun Y : World => Y.heap[sb]? = some (.cells cs 26 (0, 0)))) (by kernel_rfl) hS (fun hS => ?_)
    refine tkS (i := 0) (v := .slice ao n cap) rfl hS ?_
    try simp only [Act.put, List.getElem_toArray, List.getElem_cons_zero, List.getElem_cons_succ, List.setIfInBounds_toArray, List.set_cons_zero, List.set_cons_succ]
    refine tkS (i := 2) (v := .agg cs) rfl hS ?_ (hr := fun wx hx => load_sl hsz rfl rfl wx hx)
    try simp only [Act.put, List.getElem_toArray, List.getElem_cons_zero, List.getElem_cons_succ, List.setIfInBounds_toArray, List.set_cons_zero, List.set_cons_succ]
    refine tkS (i := 4) (v := .int .i64 f) rfl hS ?_
    try simp only [Act.put, List.getElem_toArray, List.getElem_cons_zero, List.getElem_cons_succ, List.setIfInBounds_toArray, List.set_cons_zero, List.set_cons_succ]
    refine tkS (i := 5) (v := .int .i64 t) rfl hS ?_
    try simp only [Act.put, List.getElem_toArray, List.getElem_cons_zero, List.getElem_cons_succ, List.setIfInBounds_toArray, List.set_cons_zero, List.set_cons_succ]
    refine rdS (i := 1) rfl (fun K hK => ?_)
    go_simp
    go_at_call 6
    refine (CT.out _ BD1.out).mono ?_
    rintro e wa ⟨rfl, hoa, hba⟩
    have Ba : Hid (Below w.heap.size w wa) := hideP (below_more BD1.out hba BD1.out.size)
    have Oa := hideP hoa
    have hSa := HSt.out wa Ba.out
    clear hoa hba
    refine hK.out _ _ hSa (fun _ => ?_)
    try simp only [Act.put, List.getElem_toArray, List.getElem_cons_zero, List.getElem_cons_succ, List.setIfInBounds_toArray, List.set_cons_zero, List.set_cons_succ]
    clear hK K
    refine rdS (i := 3) rfl (fun K hK => ?_)
    go_simp
    go_at_call 7
    refine (TS.out _).mono ?_
    rintro e wb ⟨rfl, hbb⟩
    have Bb : Hid (Below w.heap.size w wb) := hideP (below_more Ba.out hbb Ba.out.size)
    have Ob := hideP (own_below Oa.out hbb)
    have hSb := HSt.out wb Bb.out
    clear hbb
    refine hK.out _ _ hSb (fun _ => ?_)
    try simp only [Act.put, List.getElem_toArray, List.getElem_cons_zero, List.getElem_cons_succ, List.setIfInBounds_toArray, List.set_cons_zero, List.set_cons_succ]
    clear hK K
    refine rdS (i := 6) rfl (fun K hK => ?_)
    go_simp
    go_at_call 5
    refine (CS.out _ _ _ Ob.out).mono ?_
    rintro e w3 ⟨⟨u0, rfl, ho3⟩, hb3⟩
    obtain ⟨a3, c3, rfl⟩ := ownG_shape ho3
    have B3 : Hid (Below w.heap.size w w3) := hideP (below_more Bb.out hb3 Bb.out.size)
    have U3 := hideP ho3
    have hSc := HSt.out w3 B3.out
    clear ho3 hb3 Oa Ob
    refine hK.out _ _ hSc (fun _ => ?_)
    try simp only [Act.put, List.getElem_toArray, List.getElem_cons_zero, List.getElem_cons_succ, List.setIfInBounds_toArray, List.set_cons_zero, List.set_cons_succ]
    clear hK K
    refine tkS (i := 7) (v := .slice a3 r c3) rfl hSc ?_
    try simp only [Act.put, List.getElem_toArray, List.getElem_cons_zero, List.getElem_cons_succ, List.setIfInBounds_toArray, List.set_cons_zero, List.set_cons_succ]
    refine wpAnyH_done (by kernel_rfl) ?_ _
    clear hSc hSb hSa hS
    go_wp2_with fail
    refine (CT.out w3 B3.out).mono ?_
    rintro e w4 ⟨rfl, ho4, hb4⟩
    have B4 : Hid (Below w.heap.size w w4) := hideP (below_more B3.out hb4 B3.out.size)
    have X4 := hideP ho4
    have U4 := hideP (own_below U3.out hb4)
    have hlt : w3.heap.size < w4.heap.size := (World.ownsRow.lt ho4 _ rfl).2
    clear ho4 hb4
    have hst4 := HSt.out w4 B4.out
    go_wp2_with (refine wpList_load_row rfl 26 _ rfl sb rfl cs 26 (0, 0) hst4 _ Try.underlying26 rfl (by rw [hsz]; kernel_rfl) ?_)
    refine (TS.out _).mono ?_
    rintro e w4b ⟨rfl, hb4b⟩
    have B4b : Hid (Below w.heap.size w w4b) := hideP (below_more B4.out hb4b B4.out.size)
    have X4b := hideP (own_below X4.out hb4b)
    have U4b := hideP (own_below U4.out hb4b)
    have z4b : w4.heap.size ≤ w4b.heap.size := hb4b.size
    clear hb4b hst4
    go_wp2_with fail
    refine (CI.out _ _ _ X4b.out).mono ?_
    rintro e w5 ⟨⟨g0, rfl, ho5⟩, hb5'⟩
    have hb5 : Below w4b.heap.size w4b w5 := hb5'
    obtain ⟨ag, cg, rfl⟩ := ownG_shape ho5
    have B5 : Hid (Below w.heap.size w w5) := hideP (below_more B4b.out hb5 B4b.out.size)
    have G5 : Hid (w5.ownsRow w4.heap.size 48 15 (.slice ag r cg) r (flatN L)) := hideP (ownG_mono ho5 z4b)
    have X5 := hideP (own_below X4b.out hb5)
    have U5 := hideP (own_below U4b.out hb5)
    have z5 : w4.heap.size ≤ w5.heap.size := Nat.le_trans z4b hb5.size
    clear ho5 hb5 X4 U4
    go_wp2_with fail
    refine (CE.out _ _ _ _ _ G5.out U5.out).mono ?_
    rintro e w6 ⟨rfl, hb6⟩
    have B6 : Hid (Below w.heap.size w w6) := hideP (below_more B5.out hb6 B5.out.size)
    have G6 := hideP (own_below G5.out hb6)
    have X6 := hideP (own_below X5.out hb6)
    have U6 := hideP (own_below U5.out hb6)
    have z6 : w4.heap.size ≤ w6.heap.size := Nat.le_trans z5 hb6.size
    clear hb6 G5 X5 U5 z5
    go_wp2_with fail
    refine (CT.out w6 B6.out).mono ?_
    rintro e w7 ⟨rfl, ho7, hb7⟩
    have B7 : Hid (Below w.heap.size w w7) := hideP (below_more B6.out hb7 B6.out.size)
    have Y7 := hideP ho7
    have G7 := hideP (own_below G6.out hb7)
    have X7 := hideP (own_below X6.out hb7)
    have U7 := hideP (own_below U6.out hb7)
    have z7 : w4.heap.size ≤ w7.heap.size := Nat.le_trans z6 hb7.size
    clear hb7 ho7 G6 X6 U6 z6
    go_wp2_with fail
    refine (CQ.out _ _ _ _ _ X7.out Y7.out).mono ?_
    rintro e w8 ⟨rfl, hb8⟩
    have B8 : Hid (Below w.heap.size w w8) := hideP (below_more B7.out hb8 B7.out.size)
    have G8 := hideP (own_below G7.out hb8)
    have X8 := hideP (own_below X7.out hb8)
    have U8 := hideP (own_below U7.out hb8)
    have z8 : w4.heap.size ≤ w8.heap.size := Nat.le_trans z7 hb8.size
    clear hb8 G7 X7 U7 Y7 z7
    go_wp2_with fail
    refine (mark_own (k := 1) X8.out HS.out (by omega) (by omega)).mono ?_
    rintro e w9 ⟨rfl, ho9, hb9, hq9⟩
    have HBU : Hid (∀ b, (Value.slice a3 r c3).ownBlock = some b → b < w3.heap.size) := hideP (fun b hb => (World.ownsRow.lt U3.out b hb).2)
    have HBG : Hid (∀ b, (Value.slice ag r cg).ownBlock = some b → w4.heap.size ≤ b) := hideP (fun b hb => (World.ownsRow.lt G8.out b hb).1)
    have B9 : Hid (Below w.heap.size w w9) := hideP (B8.out.trans (hb9.mono (by have h1 := B3.out.size; have h2 := B8.out.size; omega)))
    have G9 := hideP (own_others G8.out hq9 (fun b e => by have h1 := HBG.out b e; show some w3.heap.size ≠ some b; intro e2; cases e2; omega))
    have U9 := hideP (own_others U8.out hq9 (fun b e => by have h1 := HBU.out b e; show some w3.heap.size ≠ some b; intro e2; cases e2; omega))
    have z9 : w4.heap.size ≤ w9.heap.size := Nat.le_trans z8 (by have := hb9.size; exact this)
    clear hb9 hq9 ho9 G8 U8 X8 U3 z8
    obtain ⟨kz, hkz⟩ : ∃ kz : Int, kz = ((1 + 15 * z : Nat) : Int) := ⟨_, rfl⟩
    rw [← hkz]
    have hkn : ¬ kz < 0 := by omega
    clear hkz
    go_wp2_with fail
    refine (CE.out _ _ _ _ _ G9.out U9.out).mono ?_
    rintro e w10 ⟨rfl, hb10⟩
    have B10 : Hid (Below w.heap.size w w10) := hideP (below_more B9.out hb10 B9.out.size)
    have G10 := hideP (own_below G9.out hb10)
    have U10 := hideP (own_below U9.out hb10)
    have hw10 : w4.heap.size ≤ w10.heap.size := Nat.le_trans z9 hb10.size
    clear hb10 G9 U9
    go_wp2_with fail
    refine (mark_own (k := 1) G10.out (by omega) (by omega) (by omega)).mono ?_
    rintro e w11 ⟨rfl, ho11, hb11, hq11⟩
    have B11 : Hid (Below w.heap.size w w11) := hideP (B10.out.trans (hb11.mono (by have h1 := B4.out.size; omega)))
    have G11 := hideP ho11
    have U11 := hideP (own_others U10.out hq11 (fun b e e2 => by have h1 := HBU.out b e; have h2 := HBG.out b e2; omega))
    clear hb11 hq11 ho11 G10 U10
    obtain ⟨kr, hkr⟩ : ∃ kr : Int, kr = ((1 + 15 * r : Nat) : Int) := ⟨_, rfl⟩
    rw [← hkr] at CH
    rw [← hkr]
    have hkn2 : ¬ kr < 0 := by omega
    clear hkr
    go_wp2_with fail
    refine (CH.out _ _ _ G11.out).mono ?_
    rintro e w12 ⟨rfl, hb12⟩
    have B12 : Hid (Below w.heap.size w w12) := hideP (below_more B11.out hb12 B11.out.size)
    have G12 := hideP (own_below G11.out hb12)
    have V12 := hideP (own_below U11.out hb12)
    clear hb12 G11 U11
    go_upto_region 24 with fail
    have BD12 : Hid (Below w.heap.size w w12.drew) := hideP (Below.drew B12.out)
    have hS : (fun Y : World => Y.heap[sb]? = some (.cells cs 26 (0, 0))) w12.drew := HSt.out w12 B12.out
    refine wp_region_held_drew (S := (fun Y : World => Y.heap[sb]? = some (.cells cs 26 (0, 0)))) (by kernel_rfl) hS (fun hS => ?_)
    refine tkS (i := 0) (v := .slice ao n cap) rfl hS ?_
    try simp only [Act.put, List.getElem_toArray, List.getElem_cons_zero, List.getElem_cons_succ, List.setIfInBounds_toArray, List.set_cons_zero, List.set_cons_succ]
    refine tkS (i := 2) (v := .agg cs) rfl hS ?_ (hr := fun wx hx => load_sl hsz rfl rfl wx hx)
    try simp only [Act.put, List.getElem_toArray, List.getElem_cons_zero, List.getElem_cons_succ, List.setIfInBounds_toArray, List.set_cons_zero, List.set_cons_succ]
    refine tkS (i := 4) (v := .int .i64 f) rfl hS ?_
    try simp only [Act.put, List.getElem_toArray, List.getElem_cons_zero, List.getElem_cons_succ, List.setIfInBounds_toArray, List.set_cons_zero, List.set_cons_succ]
    refine tkS (i := 5) (v := .int .i64 t) rfl hS ?_
    try simp only [Act.put, List.getElem_toArray, List.getElem_cons_zero, List.getElem_cons_succ, List.setIfInBounds_toArray, List.set_cons_zero, List.set_cons_succ]
    refine rdS (i := 1) rfl (fun K hK => ?_)
    go_simp
    go_at_call 6
    refine (CT.out _ BD12.out).mono ?_
    rintro e wa ⟨rfl, hoa, hba⟩
    have Ba : Hid (Below w.heap.size w wa) := hideP (below_more BD12.out hba BD12.out.size)
    have Oa := hideP hoa
    have Ga := hideP (own_below (w := w12.drew) G12.out hba)
    have Va := hideP (own_below (w := w12.drew) V12.out hba)
    have hSa := HSt.out wa Ba.out
    clear hoa hba
    refine hK.out _ _ hSa (fun _ => ?_)
    try simp only [Act.put, List.getElem_toArray, List.getElem_cons_zero, List.getElem_cons_succ, List.setIfInBounds_toArray, List.set_cons_zero, List.set_cons_succ]
    clear hK K
    refine rdS (i := 3) rfl (fun K hK => ?_)
    go_simp
    go_at_call 7
    refine (TS.out _).mono ?_
    rintro e wb ⟨rfl, hbb⟩
    have Bb : Hid (Below w.heap.size w wb) := hideP (below_more Ba.out hbb Ba.out.size)
    have Ob := hideP (own_below Oa.out hbb)
    have Gb := hideP (own_below Ga.out hbb)
    have Vb := hideP (own_below Va.out hbb)
    have hSb := HSt.out wb Bb.out
    clear hbb
    refine hK.out _ _ hSb (fun _ => ?_)
    try simp only [Act.put, List.getElem_toArray, List.getElem_cons_zero, List.getElem_cons_succ, List.setIfInBounds_toArray, List.set_cons_zero, List.set_cons_succ]
    clear hK K
    refine rdS (i := 6) rfl (fun K hK => ?_)
    go_simp
    go_at_call 8
    refine (CI.out _ _ _ Ob.out).mono ?_
    rintro e w14 ⟨⟨u0, rfl, ho14⟩, hb14⟩
    obtain ⟨a14, c14, rfl⟩ := ownG_shape ho14
    have B14 : Hid (Below w.heap.size w w14) := hideP (below_more Bb.out hb14 Bb.out.size)
    have U14 := hideP ho14
    have G14 := hideP (own_below Gb.out hb14)
    have V14 := hideP (own_below Vb.out hb14)
    have hSc := HSt.out w14 B14.out
    clear ho14 hb14 Oa Ob
    refine hK.out _ _ hSc (fun _ => ?_)
    try simp only [Act.put, List.getElem_toArray, List.getElem_cons_zero, List.getElem_cons_succ, List.setIfInBounds_toArray, List.set_cons_zero, List.set_cons_succ]
    clear hK K
    refine tkS (i := 7) (v := .slice a14 r c14) rfl hSc ?_
    try simp only [Act.put, List.getElem_toArray, List.getElem_cons_zero, List.getElem_cons_succ, List.setIfInBounds_toArray, List.set_cons_zero, List.set_cons_succ]
    refine wpAnyH_done (by kernel_rfl) ?_ _
    clear hSc hSb hSa hS
    go_wp2_with fail
    refine (CE.out _ _ _ _ _ U14.out V14.out).mono ?_
    rintro e w15 ⟨rfl, hb15⟩
    have B15 : Hid (Below w.heap.size w w15) := hideP (below_more B14.out hb15 B14.out.size)
    have G15 := hideP (own_below G14.out hb15)
    clear hb15 G14 V14 U14
    go_wp2_with fail
    refine (CH.out _ _ _ G15.out).mono ?_
    rintro e w16 ⟨rfl, hb16⟩
    have B16 : Hid (Below w.heap.size w w16) := hideP (below_more B15.out hb16 B15.out.size)
    clear G15 hb16
    go_wp2
    go_ret
    exact ⟨rfl, below_more BB.out B16.out BB.out.size⟩
end Go.Proofs.Ytdgfnceipginkaa
