/-
  Items: the law's own walk.
-/
import Derived.Test.YtmnhjikmnhlbgaaIts
import Derived.Test.YtmnhjikmnhlbgaaIto
namespace Go.Proofs.Ytmnhjikmnhlbgaa
open Go.RowKit Go.Shelf
set_option linter.unusedVariables false
set_option linter.unusedSimpArgs false

theorem offs_list (L : List (List Nd)) : ∀ j, j ≤ L.length → offs (fun i => L.getD i []) j = ((L.take j).map List.length).sum
  | 0, _ => by simp [offs]
  | j + 1, h => by
    rw [offs, offs_list L j (by omega), take_snoc L j [] (by omega)]
    simp
theorem items_offs (xs : List Nd) : (itemsOf xs).length ≤ 20000 ∧ offs (fun i => (itemsOf xs).getD i []) (itemsOf xs).length ≤ 20000 := by
  rw [offs_list _ _ (Nat.le_refl _), List.take_length]
  unfold itemsOf
  by_cases h : listB xs = true
  · have hA := allOk h
    rw [if_pos h]
    have h1 := starts_count (xs := xs) (xs.length + 1) 0
    have h2 := starts_sum hA (xs.length + 1) 0 (by omega)
    have h3 := hA.len
    rw [List.length_map, List.map_map]
    refine ⟨by omega, ?_⟩
    have e : (List.length ∘ itemAt xs) = fun p => (itemAt xs p).length := rfl
    rw [e]
    omega
  · rw [if_neg h]
    simp

/-- Rows of nodes in their memory. -/
structure GI (base : Nat) (W : World) (V : Value) (n : Nat) (vs : List Value) (f : Nat → List Nd) : Prop where
  own : W.ownsRow base 25 1 V n vs
  lst : Lsts base W vs f
theorem GI.below {base n : Nat} {W W' : World} {V : Value} {vs : List Value} {f : Nat → List Nd} (h : GI base W V n vs f) (hb : Below W.heap.size W W') : GI base W' V n vs f := ⟨own25_below h.own hb, h.lst.below hb⟩
theorem GI.rr {base n : Nat} {W : World} {V : Value} {vs : List Value} {f : Nat → List Nd} (h : GI base W V n vs f) : RR W V n f := Lsts.rr h.own h.lst
theorem GI.keep {base n : Nat} {W W' : World} {V : Value} {vs : List Value} {f : Nat → List Nd} (h : GI base W V n vs f) (P : Nat → Prop) (h1 : ∀ b, V.ownBlock = some b → P b) (h2 : ∀ (i : Nat) (u : Value), vs[i]? = some u → ∀ b, u.ownBlock = some b → P b)
    (hk : ∀ b, b < W.heap.size → P b → W'.heap[b]? = W.heap[b]?) : GI base W' V n vs f := by
  refine ⟨?_, ⟨fun i u hu => ?_, h.lst.apart⟩⟩
  · obtain ⟨hl, ho | ⟨b, cap, cur, rfl, hb, hbk, hr⟩⟩ := h.own
    · exact ⟨hl, .inl ho⟩
    · exact ⟨hl, .inr ⟨b, cap, cur, rfl, hb, (hk b (Array.getElem?_eq_some_iff.1 hbk).1 (h1 b rfl)).trans hbk, hr⟩⟩
  · obtain ⟨hl, ho | ⟨b, cap, cur, rfl, hb, hbk, hr⟩⟩ := h.lst.own i u hu
    · exact ⟨hl, .inl ho⟩
    · exact ⟨hl, .inr ⟨b, cap, cur, rfl, hb, (hk b (Array.getElem?_eq_some_iff.1 hbk).1 (h2 i _ hu b rfl)).trans hbk, hr⟩⟩
theorem GI.lo {base n : Nat} {W : World} {V : Value} {vs : List Value} {f : Nat → List Nd} (h : GI base W V n vs f) : (∀ b, V.ownBlock = some b → base ≤ b ∧ b < W.heap.size) ∧ (∀ (i : Nat) (u : Value), vs[i]? = some u → ∀ b, u.ownBlock = some b → base ≤ b ∧ b < W.heap.size) :=
  ⟨fun b hb => World.ownsRow.lt h.own b hb, fun i u hu b hb => World.ownsRow.lt (h.lst.own i u hu) b hb⟩

set_option maxRecDepth 20000 in
set_option maxHeartbeats 4000000 in
theorem lawItems_any {v : Value} {xs : List Nd} {w : World} (h : NRow 0 w v xs) (hf : xs.length ≤ 9223372036854775807 ∧ ∀ i, i < xs.length → FnN (xs.getD i Nd.none)) :
    Calls Try.prog 4 #[v] w fun e w' => e = .returned (.bool true) ∧ Below w.heap.size w w' := by
  have HX := hideP h
  obtain ⟨ao, n, cap, rfl⟩ : ∃ a n c, v = .slice a n c := by obtain ⟨a, c, rfl⟩ := h.shape; exact ⟨_, _, _, rfl⟩
  have HF := hideP hf
  clear h hf
  go_enter Try.func4, Try.ntmps4
  go_wp2_with fail
  refine (szNodeS_any HX.out HF.out (by omega) (by omega)).mono ?_
  rintro e w1 ⟨⟨m, rfl, hml, hm⟩, hb1⟩
  have B1 : Hid (Below w.heap.size w w1) := hb1
  have HM := hideP hm
  clear hb1 hm
  by_cases hneg : m < 0
  · go_wp2
    go_ret
    exact ⟨rfl, B1⟩
  · have HS : Hid (xs.length ≤ 1048576) := hideP (HM.out (by omega)).1
    clear HM HF
    have hio := items_offs xs
    obtain ⟨r, hr⟩ : ∃ r, r = (itemsOf xs).length := ⟨_, rfl⟩
    obtain ⟨f, hf⟩ : ∃ f, f = fun i => (itemsOf xs).getD i [] := ⟨_, rfl⟩
    rw [← hf, ← hr] at hio
    have HR : Hid (r ≤ 1048576 ∧ 1 + 15 * offs f r ≤ 1048576 ∧ ∀ i, i < r → (f i).length ≤ 1048576) := hideP ⟨by omega, by omega, fun i hi => by
      have h1 := offs_mono f r (i + 1) (by omega)
      simp only [offs] at h1
      omega⟩
    have CS : Hid (∀ (V : Value) (W : World) (base : Nat), W.ownsRow base 56 15 V xs.length (flatN xs) → Calls Try.prog 13 #[V] W fun e W' => (∃ u vs, e = .returned u ∧ GI W.heap.size W' u r vs f) ∧ Below W.heap.size W W') := hideP (fun V W base ho => (specItems_any (SRow.mono ndStable (own_NRow ho rfl) (Nat.zero_le _)) HS.out (own_cap ho)).mono (by
      rintro e W' ⟨⟨u, vs, he, h1, h2⟩, hb⟩
      exact ⟨⟨u, vs, he, by rw [hr]; exact h1, by rw [hf]; exact h2⟩, hb⟩))
    have CI : Hid (∀ (V : Value) (W : World) (base : Nat), W.ownsRow base 56 15 V xs.length (flatN xs) → Calls Try.prog 14 #[V] W fun e W' => (∃ u vs, e = .returned u ∧ GI W.heap.size W' u r vs f) ∧ Below W.heap.size W W') := hideP (fun V W base ho => (callsIn_wide.1 (implItems_in (SRow.mono ndStable (own_NRow ho rfl) (Nat.zero_le _)) HS.out (own_cap ho))).mono (by
      rintro e W' ⟨⟨u, vs, he, h1, h2⟩, hb⟩
      exact ⟨⟨u, vs, he, by rw [hr]; exact h1, by rw [hf]; exact h2⟩, hb⟩))
    have CE : Hid (∀ (V U : Value) (W : World) (b1 b2 : Nat) (vs us : List Value), GI b1 W V r vs f → GI b2 W U r us f → Calls Try.prog 15 #[V, U] W fun e w' => e = .returned (.bool true) ∧ Below W.heap.size W w') := hideP (fun V U W b1 b2 vs us ho1 ho2 => eqNodeSS_same ho1.rr ho2.rr HR.out.1 HR.out.2.2)
    clear hf hr hio
    obtain ⟨z, hz⟩ : ∃ z, z = xs.length := ⟨_, rfl⟩
    have CT : Hid (∀ W, Below w.heap.size w W → Calls Try.prog 10 #[.slice ao n cap] W fun e w' => e = .returned (.slice (some ⟨W.heap.size, 0, none⟩) z z) ∧ w'.ownsRow W.heap.size 56 15 (.slice (some ⟨W.heap.size, 0, none⟩) z z) z (flatN xs) ∧ Below W.heap.size W w') := hideP (fun W hW => by rw [hz]; exact toNodeS_own (SRow.below ndStable HX.out hW) HS.out)
    have CQ : Hid (∀ (V U : Value) (W : World) (b1 b2 : Nat), W.ownsRow b1 56 15 V z (flatN xs) → W.ownsRow b2 56 15 U z (flatN xs) → Calls Try.prog 12 #[V, U] W fun e w' => e = .returned (.bool true) ∧ Below W.heap.size W w') := hideP (fun V U W b1 b2 ho1 ho2 => eqNodeS_same (SRow.mono ndStable (own_NRow ho1 hz.symm) (Nat.zero_le _)) (SRow.mono ndStable (own_NRow ho2 hz.symm) (Nat.zero_le _)) HS.out)
    rw [← hz] at CS CI HS
    clear hz HX
    go_wp2_with fail
    refine (CT.out w1 B1.out).mono ?_
    rintro e w2 ⟨rfl, ho2, hb2⟩
    have B2 : Hid (Below w.heap.size w w2) := hideP (below_more B1.out hb2 B1.out.size)
    have O2 := hideP ho2
    clear ho2 hb2
    go_wp2_with fail
    refine (CS.out _ _ _ O2.out).mono ?_
    rintro e w3 ⟨⟨u0, us, rfl, ho3⟩, hb3⟩
    obtain ⟨au, cu, rfl, hu0⟩ := own25_shape ho3.own
    have B3 : Hid (Below w.heap.size w w3) := hideP (below_more B2.out hb3 B2.out.size)
    have U3 := hideP ho3
    clear ho3 hb3 O2 hu0
    go_wp2_with fail
    refine (CT.out w3 B3.out).mono ?_
    rintro e w4 ⟨rfl, ho4, hb4⟩
    have B4 : Hid (Below w.heap.size w w4) := hideP (below_more B3.out hb4 B3.out.size)
    have X4 := hideP ho4
    have U4 := hideP (U3.out.below hb4)
    have hlt : w3.heap.size < w4.heap.size := (World.ownsRow.lt ho4 _ rfl).2
    clear ho4 hb4
    go_wp2_with fail
    refine (CI.out _ _ _ X4.out).mono ?_
    rintro e w5 ⟨⟨g0, gs, rfl, ho5⟩, hb5⟩
    obtain ⟨ag, cg, rfl, hg0⟩ := own25_shape ho5.own
    have B5 : Hid (Below w.heap.size w w5) := hideP (below_more B4.out hb5 B4.out.size)
    have G5 := hideP ho5
    have X5 := hideP (own_below X4.out hb5)
    have U5 := hideP (U4.out.below hb5)
    have z5 : w4.heap.size ≤ w5.heap.size := hb5.size
    clear ho5 hb5 X4 U4 hg0
    go_wp2_with fail
    refine (CE.out _ _ _ _ _ _ _ G5.out U5.out).mono ?_
    rintro e w6 ⟨rfl, hb6⟩
    have B6 : Hid (Below w.heap.size w w6) := hideP (below_more B5.out hb6 B5.out.size)
    have G6 := hideP (G5.out.below hb6)
    have X6 := hideP (own_below X5.out hb6)
    have U6 := hideP (U5.out.below hb6)
    have z6 : w4.heap.size ≤ w6.heap.size := Nat.le_trans z5 hb6.size
    clear hb6 G5 X5 U5 z5
    go_wp2_with fail
    refine (CT.out w6 B6.out).mono ?_
    rintro e w7 ⟨rfl, ho7, hb7⟩
    have B7 : Hid (Below w.heap.size w w7) := hideP (below_more B6.out hb7 B6.out.size)
    have Y7 := hideP ho7
    have G7 := hideP (G6.out.below hb7)
    have X7 := hideP (own_below X6.out hb7)
    have U7 := hideP (U6.out.below hb7)
    have z7 : w4.heap.size ≤ w7.heap.size := Nat.le_trans z6 hb7.size
    clear hb7 ho7 G6 X6 U6 z6
    go_wp2_with fail
    refine (CQ.out _ _ _ _ _ X7.out Y7.out).mono ?_
    rintro e w8 ⟨rfl, hb8⟩
    have B8 : Hid (Below w.heap.size w w8) := hideP (below_more B7.out hb8 B7.out.size)
    have G8 := hideP (G7.out.below hb8)
    have X8 := hideP (own_below X7.out hb8)
    have U8 := hideP (U7.out.below hb8)
    have z8 : w4.heap.size ≤ w8.heap.size := Nat.le_trans z7 hb8.size
    clear hb8 G7 X7 U7 Y7 z7
    go_wp2_with fail
    refine (mark_own (k := 1) X8.out HS.out (by omega) (by omega)).mono ?_
    rintro e w9 ⟨rfl, ho9, hb9, hq9⟩
    have HBU := hideP U3.out.lo
    have HBG := hideP G8.out.lo
    have B9 : Hid (Below w.heap.size w w9) := hideP (B8.out.trans (hb9.mono (by have h1 := B3.out.size; have h2 := B8.out.size; omega)))
    have hother : ∀ b, b < w8.heap.size → b ≠ w3.heap.size → w9.heap[b]? = w8.heap[b]? := fun b hb hne => hq9 b hb (fun e => hne (by simp [Value.ownBlock] at e; exact e.symm))
    have G9 := hideP (G8.out.keep (fun b => w4.heap.size ≤ b) (fun b e => (HBG.out.1 b e).1) (fun i u hu b e => (HBG.out.2 i u hu b e).1) (fun b hb hp => hother b hb (by omega)))
    have U9 := hideP (U8.out.keep (fun b => b < w3.heap.size) (fun b e => (HBU.out.1 b e).2) (fun i u hu b e => (HBU.out.2 i u hu b e).2) (fun b hb hp => hother b hb (by omega)))
    have z9 : w4.heap.size ≤ w9.heap.size := Nat.le_trans z8 hb9.size
    clear hb9 hq9 ho9 G8 U8 X8 U3 hother z8
    obtain ⟨kz, hkz⟩ : ∃ kz : Int, kz = ((1 + 15 * z : Nat) : Int) := ⟨_, rfl⟩
    rw [← hkz]
    have hkn : ¬ kz < 0 := by omega
    clear hkz
    go_wp2_with fail
    refine (CE.out _ _ _ _ _ _ _ G9.out U9.out).mono ?_
    rintro e w10 ⟨rfl, hb10⟩
    have B10 : Hid (Below w.heap.size w w10) := hideP (below_more B9.out hb10 B9.out.size)
    have G10 := hideP (G9.out.below hb10)
    have U10 := hideP (U9.out.below hb10)
    have hw10 : w4.heap.size ≤ w10.heap.size := Nat.le_trans z9 hb10.size
    clear hb10 G9 U9
    go_wp2_with fail
    refine (markNodeSS_any (k := 1) G10.out.own G10.out.lst hw10 (by omega) HR.out.2.1 HR.out.1).mono ?_
    rintro e w11 ⟨rfl, ho11, hl11, hb11⟩
    have B11 : Hid (Below w.heap.size w w11) := hideP (B10.out.trans (hb11.mono (by have h1 := B4.out.size; omega)))
    have G11 : Hid (GI w4.heap.size w11 (.slice ag r cg) r gs (marked 1 f)) := hideP ⟨ho11, hl11⟩
    have U11 := hideP (U10.out.keep (fun b => b < w3.heap.size) (fun b e => (HBU.out.1 b e).2) (fun i u hu b e => (HBU.out.2 i u hu b e).2) (fun b hb hp => hb11.block b (by omega)))
    have CH : Hid (∀ (W : World) (base : Nat) (vs : List Value), GI base W (.slice ag r cg) r vs (marked 1 f) → Calls Try.prog 18 #[.slice ag r cg, .int .i64 ((1 : Nat) : Int)] W fun e w' => e = .returned (.int .i64 ((1 + 15 * offs f r : Nat) : Int)) ∧ Below W.heap.size W w') := hideP (fun W base vs ho => heldNodeSS_any ho.rr (by omega) HR.out.2.1 HR.out.1)
    obtain ⟨kr, hkr⟩ : ∃ kr : Int, kr = ((1 + 15 * offs f r : Nat) : Int) := ⟨_, rfl⟩
    rw [← hkr] at CH
    rw [← hkr]
    have hkn2 : ¬ kr < 0 := by omega
    clear hkr hb11 hl11 ho11 G10 U10
    go_wp2_with fail
    refine (CH.out _ _ _ G11.out).mono ?_
    rintro e w12 ⟨rfl, hb12⟩
    have B12 : Hid (Below w.heap.size w w12) := hideP (below_more B11.out hb12 B11.out.size)
    have G12 := hideP (G11.out.below hb12)
    have U12 := hideP (U11.out.below hb12)
    clear hb12 G11 U11
    go_wp2_with fail
    refine (CT.out w12 B12.out).mono ?_
    rintro e w13 ⟨rfl, ho13, hb13⟩
    have B13 : Hid (Below w.heap.size w w13) := hideP (below_more B12.out hb13 B12.out.size)
    have Y13 := hideP ho13
    have G13 := hideP (G12.out.below hb13)
    have U13 := hideP (U12.out.below hb13)
    clear hb13 ho13 G12 U12
    go_wp2_with fail
    refine (CI.out _ _ _ Y13.out).mono ?_
    rintro e w14 ⟨⟨h0, hs, rfl, ho14⟩, hb14⟩
    obtain ⟨ah, ch, rfl, hh0⟩ := own25_shape ho14.own
    have B14 : Hid (Below w.heap.size w w14) := hideP (below_more B13.out hb14 B13.out.size)
    have H14 := hideP ho14
    have G14 := hideP (G13.out.below hb14)
    have U14 := hideP (U13.out.below hb14)
    clear ho14 hb14 hh0 G13 U13 Y13
    go_wp2_with fail
    refine (CE.out _ _ _ _ _ _ _ H14.out U14.out).mono ?_
    rintro e w15 ⟨rfl, hb15⟩
    have B15 : Hid (Below w.heap.size w w15) := hideP (below_more B14.out hb15 B14.out.size)
    have G15 := hideP (G14.out.below hb15)
    clear hb15 G14 U14 H14
    go_wp2_with fail
    refine (CH.out _ _ _ G15.out).mono ?_
    rintro e w16 ⟨rfl, hb16⟩
    have B16 : Hid (Below w.heap.size w w16) := hideP (below_more B15.out hb16 B15.out.size)
    clear hb16 G15
    go_wp2
    go_ret
    exact ⟨rfl, B16.out⟩
end Go.Proofs.Ytmnhjikmnhlbgaa
