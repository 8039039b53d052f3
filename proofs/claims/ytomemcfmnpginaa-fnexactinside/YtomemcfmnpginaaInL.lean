/-
  The law on Inside.
-/
import Derived.Test.YtomemcfmnpginaaSis
import Derived.Test.YtomemcfmnpginaaNdo
import Derived.Test.YtomemcfmnpginaaNdq
import Derived.Test.YtomemcfmnpginaaMkb
import Derived.Test.YtomemcfmnpginaaMkc
namespace Go.Proofs.Ytomemcfmnpginaa
open Go.RowKit
set_option linter.unusedVariables false
set_option linter.unusedSimpArgs false

theorem inside_len (xs : List Nd) : (insideOf xs).length ≤ xs.length := by
  unfold insideOf
  split
  · rw [zeroAll_len, List.length_drop]; omega
  · simp
theorem own_sole {w w' : World} {g base n : Nat} {v : Value} {xs : List Value} (h : w.ownsRow base 57 15 v n xs) (hs : Sole g w w') (hne : v.ownBlock ≠ some g) : w'.ownsRow base 57 15 v n xs := by
  obtain ⟨hl, h | ⟨b, cap, cur, rfl, hb, hbk, hr⟩⟩ := h
  · exact ⟨hl, .inl h⟩
  · exact ⟨hl, .inr ⟨b, cap, cur, rfl, hb, (hs.other b (Array.getElem?_eq_some_iff.1 hbk).1 (fun e => hne (by rw [e]; rfl))).trans hbk, hr⟩⟩
theorem mark_nil (k : Nat) (w : World) : Calls Try.prog 20 #[.slice none 0 0, .int .i64 (k : Int)] w fun e w' => e = .returned (.int .i64 (k : Int)) ∧ w' = w := by
  go_enter Try.func20, Try.ntmps20
  go_wp2
  go_loopw [1, 5] (fun s i wr => s = .int .i64 (k : Int) ∧ i = .int .i64 0 ∧ wr = w) (fun _ _ _ => 0)
  case atStart => exact ⟨rfl, rfl, rfl⟩
  case round =>
    obtain ⟨rfl, rfl, rfl⟩ := hrel
    go_wp2
    go_ret
    exact ⟨rfl, rfl⟩
/-- Whatever row of nodes is owned is marked; no other block that is there turns. -/
theorem mark_own {base n k : Nat} {v : Value} {L : List Value} {w : World} (h : w.ownsRow base 57 15 v n L) (hn : n ≤ 1048576) (hk0 : 0 < k) (hk1 : k ≤ 1048576) :
    Calls Try.prog 20 #[v, .int .i64 (k : Int)] w fun e w' => e = .returned (.int .i64 ((k + 15 * n : Nat) : Int)) ∧ w'.ownsRow base 57 15 v n (flatN (marksN k n)) ∧ Below (min base w.heap.size) w w' ∧ ∀ b, b < w.heap.size → v.ownBlock ≠ some b → w'.heap[b]? = w.heap[b]? := by
  rcases h.2 with ⟨rfl, rfl⟩ | ⟨g, cap, cur, rfl, hb, hg, _⟩
  · refine (mark_nil k w).mono ?_
    rintro e w' ⟨rfl, rfl⟩
    exact ⟨rfl, World.ownsRow_nil _ _ _ _, Below.refl _ _, fun _ _ _ => rfl⟩
  · refine (markNodeS_any h hn hk0 hk1).mono ?_
    rintro e w' ⟨rfl, ho, hs⟩
    exact ⟨rfl, ho, hs.below.mono (by omega), fun b hb2 hne => hs.other b hb2 (fun e => hne (by rw [e]; rfl))⟩
theorem own_others {w w' : World} {base n : Nat} {v u : Value} {xs : List Value} (h : w.ownsRow base 57 15 v n xs) (ho : ∀ b, b < w.heap.size → u.ownBlock ≠ some b → w'.heap[b]? = w.heap[b]?) (hne : ∀ b, v.ownBlock = some b → u.ownBlock ≠ some b) : w'.ownsRow base 57 15 v n xs := by
  obtain ⟨hl, h | ⟨b, cap, cur, rfl, hb, hbk, hr⟩⟩ := h
  · exact ⟨hl, .inl h⟩
  · exact ⟨hl, .inr ⟨b, cap, cur, rfl, hb, (ho b (Array.getElem?_eq_some_iff.1 hbk).1 (hne b rfl)).trans hbk, hr⟩⟩

set_option maxRecDepth 20000 in
set_option maxHeartbeats 4000000 in
theorem lawInside_any {v : Value} {xs : List Nd} {w : World} (h : NRow 0 w v xs) (hf : xs.length ≤ 9223372036854775807 ∧ ∀ i, i < xs.length → FnN (xs.getD i Nd.none)) :
    Calls Try.prog 6 #[v] w fun e w' => e = .returned (.bool true) ∧ Below w.heap.size w w' := by
  have HX := hideP h
  obtain ⟨ao, n, cap, rfl⟩ : ∃ a n c, v = .slice a n c := by obtain ⟨a, c, rfl⟩ := h.shape; exact ⟨_, _, _, rfl⟩
  have HF := hideP hf
  clear h hf
  go_enter Try.func6, Try.ntmps6
  go_wp2_with fail
  refine (szNodeS_any HX.out HF.out (by omega) (by omega)).mono ?_
  rintro e w1 ⟨⟨m, rfl, hml, hm⟩, hb1⟩
  have B1 : Hid (Below w.heap.size w w1) := hb1
  have HM := hideP hm
  clear hb1 hm
  by_cases hneg : m < 0
  · go_wp2
    go_ret
    exact ⟨rfl, B1⟩
  · have HS : Hid (xs.length ≤ 1048576) := hideP (HM.out (by omega)).1
    have HI : Hid ((insideOf xs).length ≤ 1048576) := hideP (Nat.le_trans (inside_len xs) HS.out)
    clear HM HF
    obtain ⟨ins, hins⟩ : ∃ ins, ins = insideOf xs := ⟨_, rfl⟩
    rw [← hins] at HI
    have CS : Hid (∀ (V : Value) (W : World) (base : Nat), W.ownsRow base 57 15 V xs.length (flatN xs) → Calls Try.prog 23 #[V] W fun e W' => (∃ u, e = .returned u ∧ W'.ownsRow W.heap.size 57 15 u ins.length (flatN ins)) ∧ Below W.heap.size W W') := hideP (fun V W base ho => by rw [hins]; exact specInside_any (SRow.mono ndStable (own_NRow ho rfl) (Nat.zero_le _)) HS.out (own_cap ho))
    have CI : Hid (∀ (V : Value) (W : World) (base : Nat), W.ownsRow base 57 15 V xs.length (flatN xs) → Calls Try.prog 24 #[V] W fun e W' => (∃ u, e = .returned u ∧ W'.ownsRow W.heap.size 57 15 u ins.length (flatN ins)) ∧ Below W.heap.size W W') := hideP (fun V W base ho => by rw [hins]; exact implInside_any (SRow.mono ndStable (own_NRow ho rfl) (Nat.zero_le _)) HS.out (own_cap ho))
    have CE : Hid (∀ (V U : Value) (W : World) (b1 b2 : Nat), W.ownsRow b1 57 15 V ins.length (flatN ins) → W.ownsRow b2 57 15 U ins.length (flatN ins) → Calls Try.prog 16 #[V, U] W fun e w' => e = .returned (.bool true) ∧ Below W.heap.size W w') := hideP (fun V U W b1 b2 ho1 ho2 => eqNodeS_same (SRow.mono ndStable (own_NRow ho1 rfl) (Nat.zero_le _)) (SRow.mono ndStable (own_NRow ho2 rfl) (Nat.zero_le _)) HI.out)
    clear hins
    obtain ⟨r, hr⟩ : ∃ r, r = ins.length := ⟨_, rfl⟩
    rw [← hr] at CS CI CE HI
    have HRI := hideP hr
    obtain ⟨z, hz⟩ : ∃ z, z = xs.length := ⟨_, rfl⟩
    have CT : Hid (∀ W, Below w.heap.size w W → Calls Try.prog 14 #[.slice ao n cap] W fun e w' => e = .returned (.slice (some ⟨W.heap.size, 0, none⟩) z z) ∧ w'.ownsRow W.heap.size 57 15 (.slice (some ⟨W.heap.size, 0, none⟩) z z) z (flatN xs) ∧ Below W.heap.size W w') := hideP (fun W hW => by rw [hz]; exact toNodeS_own (SRow.below ndStable HX.out hW) HS.out)
    have CQ : Hid (∀ (V U : Value) (W : World) (b1 b2 : Nat), W.ownsRow b1 57 15 V z (flatN xs) → W.ownsRow b2 57 15 U z (flatN xs) → Calls Try.prog 16 #[V, U] W fun e w' => e = .returned (.bool true) ∧ Below W.heap.size W w') := hideP (fun V U W b1 b2 ho1 ho2 => eqNodeS_same (SRow.mono ndStable (own_NRow ho1 hz.symm) (Nat.zero_le _)) (SRow.mono ndStable (own_NRow ho2 hz.symm) (Nat.zero_le _)) HS.out)
    rw [← hz] at CS CI HS
    clear hz hr HX
    go_wp2_with fail
    refine (CT.out w1 B1.out).mono ?_
    rintro e w2 ⟨rfl, ho2, hb2⟩
    have B2 : Hid (Below w.heap.size w w2) := hideP (below_more B1.out hb2 B1.out.size)
    have O2 := hideP ho2
    clear ho2 hb2
    go_wp2_with fail
    refine (CS.out _ _ _ O2.out).mono ?_
    rintro e w3 ⟨⟨u0, rfl, ho3⟩, hb3⟩
    obtain ⟨au, cu, rfl, hu0⟩ := own_shape ho3
    have B3 : Hid (Below w.heap.size w w3) := hideP (below_more B2.out hb3 B2.out.size)
    have U3 := hideP ho3
    clear ho3 hb3 O2 hu0
    go_wp2_with fail
    refine (CT.out w3 B3.out).mono ?_
    rintro e w4 ⟨rfl, ho4, hb4⟩
    have B4 : Hid (Below w.heap.size w w4) := hideP (below_more B3.out hb4 B3.out.size)
    have X4 := hideP ho4
    have U4 := hideP (own_below U3.out hb4)
    have hlt : w3.heap.size < w4.heap.size := (World.ownsRow.lt ho4 _ rfl).2
    clear ho4 hb4
    go_wp2_with fail
    refine (CI.out _ _ _ X4.out).mono ?_
    rintro e w5 ⟨⟨g0, rfl, ho5⟩, hb5⟩
    obtain ⟨ag, cg, rfl, hg0⟩ := own_shape ho5
    have B5 : Hid (Below w.heap.size w w5) := hideP (below_more B4.out hb5 B4.out.size)
    have G5 := hideP ho5
    have X5 := hideP (own_below X4.out hb5)
    have U5 := hideP (own_below U4.out hb5)
    clear ho5 hb5 X4 U4 hg0
    go_wp2_with fail
    refine (CE.out _ _ _ _ _ G5.out U5.out).mono ?_
    rintro e w6 ⟨rfl, hb6⟩
    have B6 : Hid (Below w.heap.size w w6) := hideP (below_more B5.out hb6 B5.out.size)
    have G6 := hideP (own_below G5.out hb6)
    have X6 := hideP (own_below X5.out hb6)
    have U6 := hideP (own_below U5.out hb6)
    clear hb6 G5 X5 U5
    go_wp2_with fail
    refine (CT.out w6 B6.out).mono ?_
    rintro e w7 ⟨rfl, ho7, hb7⟩
    have B7 : Hid (Below w.heap.size w w7) := hideP (below_more B6.out hb7 B6.out.size)
    have Y7 := hideP ho7
    have G7 := hideP (own_below G6.out hb7)
    have X7 := hideP (own_below X6.out hb7)
    have U7 := hideP (own_below U6.out hb7)
    clear hb7 ho7 G6 X6 U6
    go_wp2_with fail
    refine (CQ.out _ _ _ _ _ X7.out Y7.out).mono ?_
    rintro e w8 ⟨rfl, hb8⟩
    have B8 : Hid (Below w.heap.size w w8) := hideP (below_more B7.out hb8 B7.out.size)
    have G8 := hideP (own_below G7.out hb8)
    have X8 := hideP (own_below X7.out hb8)
    have U8 := hideP (own_below U7.out hb8)
    clear hb8 G7 X7 U7 Y7
    go_wp2_with fail
    refine (mark_own (k := 1) X8.out HS.out (by omega) (by omega)).mono ?_
    rintro e w9 ⟨rfl, ho9, hb9, hq9⟩
    have HBU : Hid (∀ b, (Value.slice au r cu).ownBlock = some b → b < w3.heap.size) := hideP (fun b e => (World.ownsRow.lt U3.out b e).2)
    have HBG : Hid (∀ b, (Value.slice ag r cg).ownBlock = some b → w3.heap.size < b) := hideP (fun b e => by have := (World.ownsRow.lt G8.out b e).1; omega)
    have B9 : Hid (Below w.heap.size w w9) := hideP (B8.out.trans (hb9.mono (by have h1 := B3.out.size; have h2 := B8.out.size; omega)))
    have G9 := hideP (own_others G8.out hq9 (fun b e => by have h1 := HBG.out b e; show some w3.heap.size ≠ some b; intro e2; cases e2; omega))
    have U9 := hideP (own_others U8.out hq9 (fun b e => by have h1 := HBU.out b e; show some w3.heap.size ≠ some b; intro e2; cases e2; omega))
    clear hb9 hq9 ho9 G8 U8 X8 U3
    obtain ⟨kz, hkz⟩ : ∃ kz : Int, kz = ((1 + 15 * z : Nat) : Int) := ⟨_, rfl⟩
    rw [← hkz]
    have hkn : ¬ kz < 0 := by omega
    clear hkz
    go_wp2_with fail
    refine (CE.out _ _ _ _ _ G9.out U9.out).mono ?_
    rintro e w10 ⟨rfl, hb10⟩
    have B10 : Hid (Below w.heap.size w w10) := hideP (below_more B9.out hb10 B9.out.size)
    have G10 := hideP (own_below G9.out hb10)
    have U10 := hideP (own_below U9.out hb10)
    clear hb10 G9 U9
    go_wp2_with fail
    refine (mark_own (k := 1) G10.out HI.out (by omega) (by omega)).mono ?_
    rintro e w11 ⟨rfl, ho11, hb11, hq11⟩
    have B11 : Hid (Below w.heap.size w w11) := hideP (B10.out.trans (hb11.mono (by have h1 := B4.out.size; have h2 := B10.out.size; omega)))
    have G11 := hideP ho11
    have U11 := hideP (own_others U10.out hq11 (fun b e e2 => by have h1 := HBU.out b e; have h2 := HBG.out b e2; omega))
    have CH : Hid (∀ (W : World) (base : Nat), W.ownsRow base 57 15 (.slice ag r cg) r (flatN (marksN 1 r)) → Calls Try.prog 25 #[.slice ag r cg, .int .i64 ((1 : Nat) : Int)] W fun e w' => e = .returned (.int .i64 ((1 + 15 * r : Nat) : Int)) ∧ Below W.heap.size W w') := hideP (fun W base ho => heldNodeS_any (SRow.mono ndStable (own_NRow ho (marksN_len 1 r)) (Nat.zero_le _)) HI.out (by omega) (by omega))
    obtain ⟨kr, hkr⟩ : ∃ kr : Int, kr = ((1 + 15 * r : Nat) : Int) := ⟨_, rfl⟩
    rw [← hkr] at CH
    rw [← hkr]
    have hkn2 : ¬ kr < 0 := by omega
    clear hkr hb11 hq11 ho11 G10 U10
    go_wp2_with fail
    refine (CH.out _ _ G11.out).mono ?_
    rintro e w12 ⟨rfl, hb12⟩
    have B12 : Hid (Below w.heap.size w w12) := hideP (below_more B11.out hb12 B11.out.size)
    have G12 := hideP (own_below G11.out hb12)
    have U12 := hideP (own_below U11.out hb12)
    clear hb12 G11 U11
    go_wp2_with fail
    refine (CT.out w12 B12.out).mono ?_
    rintro e w13 ⟨rfl, ho13, hb13⟩
    have B13 : Hid (Below w.heap.size w w13) := hideP (below_more B12.out hb13 B12.out.size)
    have Y13 := hideP ho13
    have G13 := hideP (own_below G12.out hb13)
    have U13 := hideP (own_below U12.out hb13)
    clear hb13 ho13 G12 U12
    go_wp2_with fail
    refine (CI.out _ _ _ Y13.out).mono ?_
    rintro e w14 ⟨⟨h0, rfl, ho14⟩, hb14⟩
    obtain ⟨ah, ch, rfl, hh0⟩ := own_shape ho14
    have B14 : Hid (Below w.heap.size w w14) := hideP (below_more B13.out hb14 B13.out.size)
    have H14 := hideP ho14
    have G14 := hideP (own_below G13.out hb14)
    have U14 := hideP (own_below U13.out hb14)
    clear ho14 hb14 hh0 G13 U13 Y13
    go_wp2_with fail
    refine (CE.out _ _ _ _ _ H14.out U14.out).mono ?_
    rintro e w15 ⟨rfl, hb15⟩
    have B15 : Hid (Below w.heap.size w w15) := hideP (below_more B14.out hb15 B14.out.size)
    have G15 := hideP (own_below G14.out hb15)
    clear hb15 G14 U14 H14
    go_wp2_with fail
    refine (CH.out _ _ G15.out).mono ?_
    rintro e w16 ⟨rfl, hb16⟩
    have B16 : Hid (Below w.heap.size w w16) := hideP (below_more B15.out hb16 B15.out.size)
    clear hb16 G15
    go_wp2
    go_ret
    exact ⟨rfl, B16.out⟩
end Go.Proofs.Ytomemcfmnpginaa
