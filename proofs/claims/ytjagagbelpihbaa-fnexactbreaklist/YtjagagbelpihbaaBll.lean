/-
  BreakList: the law.
-/
import Derived.Test.YtjagagbelpihbaaIbl
import Derived.Test.YtjagagbelpihbaaSbl
import Derived.Test.YtjagagbelpihbaaPbL
import Derived.Test.YtjagagbelpihbaaSty
namespace Go.Proofs.Ytjagagbelpihbaa
open Go.RowKit Go.Shelf
set_option linter.unusedVariables false
set_option linter.unusedSimpArgs false

theorem blL_len (xs : List Nd) (S : Sy) : (blL xs S).length ≤ 4001 := by
  unfold blL
  split
  · rename_i hh; have := hh.2.2.2; omega
  · simp
theorem nn_own {w : World} {base n : Nat} {v : Value} {xs : List Nd} (h : w.ownsRow base 60 15 v n (flatN xs)) (hn : xs.length = n := by rfl) : NN 0 w v xs := by
  have hc := own_cap h
  rcases h.2 with ⟨rfl, h0⟩ | ⟨g, cap, cur, rfl, hb, hg, _⟩
  · exact .inl ⟨rfl, List.eq_nil_of_length_eq_zero (by omega)⟩
  · subst hn
    exact .inr ⟨g, 0, cap, rfl, (hc _ _ _ rfl).1, Nat.zero_le _, fun _ => (Array.getElem?_eq_some_iff.1 hg).1, fun j u hj => by rw [Nat.zero_add]; exact (own_cell h hj).1⟩
theorem load_sl {a : Act} {oi : Oper} {p : Operand} {G : Nat} {cs : Array Value} (hsz : cs.size = 23) (ho : oi.op = Op.load 37 p) (hp : a.eval p = .pointer (some ⟨G, 0, none⟩)) (W : World) (h : W.heap[G]? = some (.cells cs 37 (0, 0))) : (execOp a.eval oi).run Try.prog W = .ok (.value (.agg cs)) W := by
  have hr : (loadVar 37 ⟨G, 0, none⟩).run Try.prog W = .ok (.agg cs) W := run_loadVar_row _ _ 37 37 _ (0, 0) _ h Try.underlying37 rfl (by rw [hsz]; kernel_rfl)
  unfold execOp
  simp only [ho, hp, Instr.loadAt, Instr.sureAddr, Sem.run_bind, Sem.run_pure, Result.andThen_ok, hr]

set_option maxRecDepth 20000 in
set_option maxHeartbeats 16000000 in
theorem lawBL_any {v : Value} {xs : List Nd} {w0 : World} (S : Sy) (h : NRow 0 w0 v xs) (hf : xs.length ≤ 9223372036854775807 ∧ ∀ i, i < xs.length → FnN (xs.getD i Nd.none)) :
    Calls Try.prog 5 #[v, syV S] w0 fun e w' => e = .returned (.bool true) ∧ Below w0.heap.size w0 w' := by
  have TS : Hid (∀ W, Calls Try.prog 20 #[syV S] W fun r w' => r = .returned (syV S) ∧ Below W.heap.size W w') := hideP (fun W => toStyle_any S W)
  have hsy : ∃ cs : Array Value, syV S = .agg cs ∧ cs.size = 23 := ⟨_, rfl, rfl⟩
  obtain ⟨cs, hcs, hsz⟩ := hsy
  have HCS := hideP hcs
  rw [hcs] at TS ⊢
  clear hcs
  have HX := hideP (SRow.below ndStable h (below1 w0 (.cells cs 37)))
  have BB := hideP (below1 w0 (.cells cs 37))
  have hG := heap_alloc_new w0 (.cells cs 37)
  obtain ⟨ao, n, cap, rfl⟩ : ∃ a n c, v = .slice a n c := by obtain ⟨a, c, rfl⟩ := h.shape; exact ⟨_, _, _, rfl⟩
  have HF := hideP hf
  clear h hf
  go_enter Try.func5, Try.ntmps5
  go_wp2_with fail
  obtain ⟨sb, hsb⟩ : ∃ sb, sb = w0.heap.size := ⟨_, rfl⟩
  rw [← hsb] at hG
  rw [← hsb]
  have hsl : sb < (w0.alloc (.cells cs 37)).heap.size := by rw [hsb]; simp
  generalize World.alloc _ _ = w at HX BB hG hsl ⊢
  have HSt : Hid (∀ X, Below w.heap.size w X → X.heap[sb]? = some (.cells cs 37 (0, 0))) := hideP (fun X hX => (hX.block sb hsl).trans hG)
  clear hG hsb
  refine (szNodeS_any HX.out HF.out (by omega) (by omega)).mono ?_
  rintro e w1 ⟨⟨m, rfl, hml, hm⟩, hb1⟩
  have B1 : Hid (Below w.heap.size w w1) := hb1
  have HM := hideP hm
  clear hb1 hm
  by_cases hneg : m < 0
  · go_wp2
    go_ret
    exact ⟨rfl, below_more BB.out B1.out BB.out.size⟩
  · have HS : Hid (xs.length ≤ 1048576) := hideP (HM.out (by omega)).1
    clear HM HF
    have hLL := blL_len xs S
    obtain ⟨L, hL⟩ : ∃ L, L = blL xs S := ⟨_, rfl⟩
    rw [← hL] at hLL
    obtain ⟨r, hr⟩ : ∃ r, r = L.length := ⟨_, rfl⟩
    have CS : Hid (∀ (V : Value) (W : World) (base : Nat), W.ownsRow base 60 15 V xs.length (flatN xs) → Calls Try.prog 19 #[V, .agg cs] W fun e W' => (∃ u, e = .returned u ∧ IG W.heap.size W' u L) ∧ Below W.heap.size W W') := hideP (fun V W base ho => by rw [hL, ← HCS.out]; exact specBL_any S (SRow.mono ndStable (own_NRow ho rfl) (Nat.zero_le _)) HS.out (own_cap ho))
    have CI : Hid (∀ (V : Value) (W : World) (base : Nat), W.ownsRow base 60 15 V xs.length (flatN xs) → Calls Try.prog 21 #[V, .agg cs] W fun e W' => (∃ u, e = .returned u ∧ IG W.heap.size W' u L) ∧ Below W.heap.size W W') := hideP (fun V W base ho => by rw [hL, ← HCS.out]; exact implBL_any S (SRow.mono ndStable (own_NRow ho rfl) (Nat.zero_le _)) HS.out (own_cap ho) (nn_own ho))
    have CE : Hid (∀ (V U : Value) (W : World) (b1 b2 : Nat), IG b1 W V L → IG b2 W U L → Calls Try.prog 22 #[V, U] W fun e w' => e = .returned (.bool true) ∧ Below W.heap.size W w') := hideP (fun V U W b1 b2 ho1 ho2 => by
      have h := eqInts_any ho1.row ho2.row (by omega)
      rw [decide_eq_true (rfl : L = L)] at h
      exact h)
    have CM : Hid (∀ (V : Value) (W : World) (base : Nat), IG base W V L → Calls Try.prog 23 #[V, .int .i64 1] W fun e w' => e = .returned (.int .i64 (1 + (r : Int))) ∧ IG base w' V (ups 1 r) ∧ Below base W w') := hideP (fun V W base ho => by rw [hr]; exact markI_any ho (by omega))
    have CH : Hid (∀ (V : Value) (W : World) (base : Nat), IG base W V (ups 1 r) → Calls Try.prog 24 #[V, .int .i64 1] W fun e w' => e = .returned (.int .i64 (1 + (r : Int))) ∧ w' = W) := hideP (fun V W base ho => heldInts_any ho.row (by omega) (by omega) (by omega))
    obtain ⟨kr, hkr⟩ : ∃ kr : Int, kr = 1 + (r : Int) := ⟨_, rfl⟩
    rw [← hkr] at CM CH
    have hkn2 : ¬ kr < 0 := by omega
    clear hL hr hLL hkr
    obtain ⟨z, hz⟩ : ∃ z, z = xs.length := ⟨_, rfl⟩
    have CT : Hid (∀ W, Below w.heap.size w W → Calls Try.prog 10 #[.slice ao n cap] W fun e w' => e = .returned (.slice (some ⟨W.heap.size, 0, none⟩) z z) ∧ w'.ownsRow W.heap.size 60 15 (.slice (some ⟨W.heap.size, 0, none⟩) z z) z (flatN xs) ∧ Below W.heap.size W w') := hideP (fun W hW => by rw [hz]; exact toNodeS_own (SRow.below ndStable HX.out hW) HS.out)
    have CQ : Hid (∀ (V U : Value) (W : World) (b1 b2 : Nat), W.ownsRow b1 60 15 V z (flatN xs) → W.ownsRow b2 60 15 U z (flatN xs) → Calls Try.prog 12 #[V, U] W fun e w' => e = .returned (.bool true) ∧ Below W.heap.size W w') := hideP (fun V U W b1 b2 ho1 ho2 => eqNodeS_same (SRow.mono ndStable (own_NRow ho1 hz.symm) (Nat.zero_le _)) (SRow.mono ndStable (own_NRow ho2 hz.symm) (Nat.zero_le _)) HS.out)
    rw [← hz] at CS CI HS
    clear hz HX
    go_upto_region 5 with fail
    have BD1 : Hid (Below w.heap.size w w1.drew) := hideP (Below.drew B1.out)
    have hS : (fun Y : World => Y.heap[sb]? = some (.cells cs 37 (0, 0))) w1.drew := HSt.out w1 B1.out
    refine wp_region_held_drew (S := (fun Y : World => Y.heap[sb]? = some (.cells cs 37 (0, 0)))) (by kernel_rfl) hS (fun hS => ?_)
    refine tkS (i := 0) (v := .slice ao n cap) rfl hS ?_
    try simp only [Act.put, List.getElem_toArray, List.getElem_cons_zero, List.getElem_cons_succ, List.setIfInBounds_toArray, List.set_cons_zero, List.set_cons_succ]
    refine tkS (i := 2) (v := .agg cs) rfl hS ?_ (hr := fun wx hx => load_sl hsz rfl rfl wx hx)
    try simp only [Act.put, List.getElem_toArray, List.getElem_cons_zero, List.getElem_cons_succ, List.setIfInBounds_toArray, List.set_cons_zero, List.set_cons_succ]
    refine rdS (i := 1) rfl (fun K hK => ?_)
    go_simp
    go_at_call 10
    refine (CT.out _ BD1.out).mono ?_
    rintro e w2 ⟨rfl, ho2, hb2⟩
    have B2 : Hid (Below w.heap.size w w2) := hideP (below_more BD1.out hb2 BD1.out.size)
    have O2 := hideP ho2
    have hS2 := HSt.out w2 B2.out
    clear ho2 hb2
    refine hK.out _ _ hS2 (fun _ => ?_)
    try simp only [Act.put, List.getElem_toArray, List.getElem_cons_zero, List.getElem_cons_succ, List.setIfInBounds_toArray, List.set_cons_zero, List.set_cons_succ]
    clear hK K
    refine rdS (i := 3) rfl (fun K hK => ?_)
    go_simp
    go_at_call 20
    refine (TS.out _).mono ?_
    rintro e w2b ⟨rfl, hb2⟩
    have B2b : Hid (Below w.heap.size w w2b) := hideP (below_more B2.out hb2 B2.out.size)
    have O2b := hideP (own_below O2.out hb2)
    have hS3 := HSt.out w2b B2b.out
    clear hb2
    refine hK.out _ _ hS3 (fun _ => ?_)
    try simp only [Act.put, List.getElem_toArray, List.getElem_cons_zero, List.getElem_cons_succ, List.setIfInBounds_toArray, List.set_cons_zero, List.set_cons_succ]
    clear hK K
    refine rdS (i := 4) rfl (fun K hK => ?_)
    go_simp
    go_at_call 19
    refine (CS.out _ _ _ O2b.out).mono ?_
    rintro e w3 ⟨⟨u0, rfl, ho3⟩, hb3⟩
    obtain ⟨au, cu, rfl⟩ := ownG_shape ho3
    have B3 : Hid (Below w.heap.size w w3) := hideP (below_more B2b.out hb3 B2b.out.size)
    have U3 := hideP ho3
    have hS4 := HSt.out w3 B3.out
    clear ho3 hb3 O2 O2b B2 B2b hS2
    refine hK.out _ _ hS4 (fun _ => ?_)
    try simp only [Act.put, List.getElem_toArray, List.getElem_cons_zero, List.getElem_cons_succ, List.setIfInBounds_toArray, List.set_cons_zero, List.set_cons_succ]
    clear hK K
    refine tkS (i := 5) (v := .slice au L.length cu) rfl hS4 ?_
    try simp only [Act.put, List.getElem_toArray, List.getElem_cons_zero, List.getElem_cons_succ, List.setIfInBounds_toArray, List.set_cons_zero, List.set_cons_succ]
    refine wpAnyH_done (by kernel_rfl) ?_ _
    clear hS4 hS3 hS
    go_wp2_with fail
    refine (CT.out w3 B3.out).mono ?_
    rintro e w4 ⟨rfl, ho4, hb4⟩
    have B4 : Hid (Below w.heap.size w w4) := hideP (below_more B3.out hb4 B3.out.size)
    have X4 := hideP ho4
    have U4 := hideP (U3.out.below hb4)
    have hlt : w3.heap.size < w4.heap.size := (World.ownsRow.lt ho4 _ rfl).2
    clear ho4 hb4
    have hst4 := HSt.out w4 B4.out
    go_wp2_with (refine wpList_load_row rfl 37 _ rfl sb rfl cs 37 (0, 0) hst4 _ Try.underlying37 rfl (by rw [hsz]; kernel_rfl) ?_)
    refine (TS.out _).mono ?_
    rintro e w4b ⟨rfl, hb4b⟩
    have B4b : Hid (Below w.heap.size w w4b) := hideP (below_more B4.out hb4b B4.out.size)
    have X4b := hideP (own_below X4.out hb4b)
    have U4b := hideP (U4.out.below hb4b)
    have z4b : w4.heap.size ≤ w4b.heap.size := hb4b.size
    clear hb4b hst4
    go_wp2_with fail
    refine (CI.out _ _ _ X4b.out).mono ?_
    rintro e w5 ⟨⟨g0, rfl, ho5⟩, hb5'⟩
    have hb5 : Below w4b.heap.size w4b w5 := hb5'
    obtain ⟨ag, cg, rfl⟩ := ownG_shape ho5
    have B5 : Hid (Below w.heap.size w w5) := hideP (below_more B4b.out hb5 B4b.out.size)
    have G5 : Hid (IG w4.heap.size w5 (.slice ag L.length cg) L) := hideP (ownG_mono ho5 z4b)
    have X5 := hideP (own_below X4b.out hb5)
    have U5 := hideP (U4b.out.below hb5)
    have z5 : w4.heap.size ≤ w5.heap.size := Nat.le_trans z4b hb5.size
    clear ho5 hb5 X4 U4
    go_wp2_with fail
    refine (CE.out _ _ _ _ _ G5.out U5.out).mono ?_
    rintro e w6 ⟨rfl, hb6⟩
    have B6 : Hid (Below w.heap.size w w6) := hideP (below_more B5.out hb6 B5.out.size)
    have G6 := hideP (G5.out.below hb6)
    have X6 := hideP (own_below X5.out hb6)
    have U6 := hideP (U5.out.below hb6)
    have z6 : w4.heap.size ≤ w6.heap.size := Nat.le_trans z5 hb6.size
    clear hb6 G5 X5 U5 z5
    go_wp2_with fail
    refine (CT.out w6 B6.out).mono ?_
    rintro e w7 ⟨rfl, ho7, hb7⟩
    have B7 : Hid (Below w.heap.size w w7) := hideP (below_more B6.out hb7 B6.out.size)
    have Y7 := hideP ho7
    have G7 := hideP (G6.out.below hb7)
    have X7 := hideP (own_below X6.out hb7)
    have U7 := hideP (U6.out.below hb7)
    have z7 : w4.heap.size ≤ w7.heap.size := Nat.le_trans z6 hb7.size
    clear hb7 ho7 G6 X6 U6 z6
    go_wp2_with fail
    refine (CQ.out _ _ _ _ _ X7.out Y7.out).mono ?_
    rintro e w8 ⟨rfl, hb8⟩
    have B8 : Hid (Below w.heap.size w w8) := hideP (below_more B7.out hb8 B7.out.size)
    have G8 := hideP (G7.out.below hb8)
    have X8 := hideP (own_below X7.out hb8)
    have U8 := hideP (U7.out.below hb8)
    have z8 : w4.heap.size ≤ w8.heap.size := Nat.le_trans z7 hb8.size
    clear hb8 G7 X7 U7 Y7 z7
    go_wp2_with fail
    refine (mark_own (k := 1) X8.out HS.out (by omega) (by omega)).mono ?_
    rintro e w9 ⟨rfl, ho9, hb9, hq9⟩
    have HBU : Hid (∀ b, (Value.slice au L.length cu).ownBlock = some b → b < w3.heap.size) := hideP (fun b hb => (World.ownsRow.lt U3.out b hb).2)
    have HBG : Hid (∀ b, (Value.slice ag L.length cg).ownBlock = some b → w4.heap.size ≤ b ∧ b < w8.heap.size) := hideP (fun b hb => World.ownsRow.lt G8.out b hb)
    have B9 : Hid (Below w.heap.size w w9) := hideP (B8.out.trans (hb9.mono (by have h1 := B3.out.size; have h2 := B8.out.size; omega)))
    have hother : ∀ b, b < w8.heap.size → b ≠ w3.heap.size → w9.heap[b]? = w8.heap[b]? := fun b hb hne => hq9 b hb (fun e => hne (by simp [Value.ownBlock] at e; exact e.symm))
    have G9 := hideP (G8.out.keep (fun b e => hother b (HBG.out b e).2 (by have := (HBG.out b e).1; omega)))
    have U9 := hideP (U8.out.keep (fun b e => hother b (by have := HBU.out b e; omega) (by have := HBU.out b e; omega)))
    have z9 : w4.heap.size ≤ w9.heap.size := Nat.le_trans z8 hb9.size
    clear hb9 hq9 ho9 G8 U8 X8 U3 hother z8
    obtain ⟨kz, hkz⟩ : ∃ kz : Int, kz = ((1 + 15 * z : Nat) : Int) := ⟨_, rfl⟩
    rw [← hkz]
    have hkn : ¬ kz < 0 := by omega
    clear hkz
    go_wp2_with fail
    refine (CE.out _ _ _ _ _ G9.out U9.out).mono ?_
    rintro e w10 ⟨rfl, hb10⟩
    have B10 : Hid (Below w.heap.size w w10) := hideP (below_more B9.out hb10 B9.out.size)
    have G10 := hideP (G9.out.below hb10)
    have U10 := hideP (U9.out.below hb10)
    have hw10 : w4.heap.size ≤ w10.heap.size := Nat.le_trans z9 hb10.size
    clear hb10 G9 U9
    go_wp2_with fail
    refine (CM.out _ _ _ G10.out).mono ?_
    rintro e w11 ⟨rfl, ho11, hb11⟩
    have B11 : Hid (Below w.heap.size w w11) := hideP (B10.out.trans (hb11.mono (by have h1 := B4.out.size; omega)))
    have G11 := hideP ho11
    have U11 := hideP (U10.out.keep (fun b e => hb11.block b (by have := HBU.out b e; omega)))
    clear hb11 ho11 G10 U10
    go_wp2_with fail
    refine (CH.out _ _ _ G11.out).mono ?_
    rintro e w12 ⟨rfl, rfl⟩
    have B12 := B11
    have G12 := G11
    have U12 := U11
    clear B11 G11 U11
    go_upto_region 21 with fail
    have BD12 : Hid (Below w.heap.size w w12.drew) := hideP (Below.drew B12.out)
    have hS : (fun Y : World => Y.heap[sb]? = some (.cells cs 37 (0, 0))) w12.drew := HSt.out w12 B12.out
    refine wp_region_held_drew (S := (fun Y : World => Y.heap[sb]? = some (.cells cs 37 (0, 0)))) (by kernel_rfl) hS (fun hS => ?_)
    refine tkS (i := 0) (v := .slice ao n cap) rfl hS ?_
    try simp only [Act.put, List.getElem_toArray, List.getElem_cons_zero, List.getElem_cons_succ, List.setIfInBounds_toArray, List.set_cons_zero, List.set_cons_succ]
    refine tkS (i := 2) (v := .agg cs) rfl hS ?_ (hr := fun wx hx => load_sl hsz rfl rfl wx hx)
    try simp only [Act.put, List.getElem_toArray, List.getElem_cons_zero, List.getElem_cons_succ, List.setIfInBounds_toArray, List.set_cons_zero, List.set_cons_succ]
    refine rdS (i := 1) rfl (fun K hK => ?_)
    go_simp
    go_at_call 10
    refine (CT.out _ BD12.out).mono ?_
    rintro e w13 ⟨rfl, ho13, hb13⟩
    have B13 : Hid (Below w.heap.size w w13) := hideP (below_more BD12.out hb13 BD12.out.size)
    have Y13 := hideP ho13
    have G13 := hideP (IG.below (W := w12.drew) G12.out hb13)
    have U13 := hideP (IG.below (W := w12.drew) U12.out hb13)
    have hS2 := HSt.out w13 B13.out
    clear hb13 ho13 G12 U12
    refine hK.out _ _ hS2 (fun _ => ?_)
    try simp only [Act.put, List.getElem_toArray, List.getElem_cons_zero, List.getElem_cons_succ, List.setIfInBounds_toArray, List.set_cons_zero, List.set_cons_succ]
    clear hK K
    refine rdS (i := 3) rfl (fun K hK => ?_)
    go_simp
    go_at_call 20
    refine (TS.out _).mono ?_
    rintro e w13b ⟨rfl, hb13b⟩
    have B13b : Hid (Below w.heap.size w w13b) := hideP (below_more B13.out hb13b B13.out.size)
    have Y13b := hideP (own_below Y13.out hb13b)
    have G13b := hideP (G13.out.below hb13b)
    have U13b := hideP (U13.out.below hb13b)
    have hS3 := HSt.out w13b B13b.out
    clear hb13b
    refine hK.out _ _ hS3 (fun _ => ?_)
    try simp only [Act.put, List.getElem_toArray, List.getElem_cons_zero, List.getElem_cons_succ, List.setIfInBounds_toArray, List.set_cons_zero, List.set_cons_succ]
    clear hK K
    refine rdS (i := 4) rfl (fun K hK => ?_)
    go_simp
    go_at_call 21
    refine (CI.out _ _ _ Y13b.out).mono ?_
    rintro e w14 ⟨⟨h0, rfl, ho14⟩, hb14⟩
    obtain ⟨ah, ch, rfl⟩ := ownG_shape ho14
    have B14 : Hid (Below w.heap.size w w14) := hideP (below_more B13b.out hb14 B13b.out.size)
    have H14 := hideP ho14
    have G14 := hideP (G13b.out.below hb14)
    have U14 := hideP (U13b.out.below hb14)
    have hS4 := HSt.out w14 B14.out
    clear ho14 hb14 G13 U13 Y13 G13b U13b Y13b hS2
    refine hK.out _ _ hS4 (fun _ => ?_)
    try simp only [Act.put, List.getElem_toArray, List.getElem_cons_zero, List.getElem_cons_succ, List.setIfInBounds_toArray, List.set_cons_zero, List.set_cons_succ]
    clear hK K
    refine tkS (i := 5) (v := .slice ah L.length ch) rfl hS4 ?_
    try simp only [Act.put, List.getElem_toArray, List.getElem_cons_zero, List.getElem_cons_succ, List.setIfInBounds_toArray, List.set_cons_zero, List.set_cons_succ]
    refine wpAnyH_done (by kernel_rfl) ?_ _
    clear hS4 hS3 hS
    go_wp2_with fail
    refine (CE.out _ _ _ _ _ H14.out U14.out).mono ?_
    rintro e w15 ⟨rfl, hb15⟩
    have B15 : Hid (Below w.heap.size w w15) := hideP (below_more B14.out hb15 B14.out.size)
    have G15 := hideP (G14.out.below hb15)
    clear hb15 G14 U14 H14
    go_wp2_with fail
    refine (CH.out _ _ _ G15.out).mono ?_
    rintro e w16 ⟨rfl, rfl⟩
    clear G15
    go_wp2
    go_ret
    exact ⟨rfl, below_more BB.out B15.out BB.out.size⟩
end Go.Proofs.Ytjagagbelpihbaa
