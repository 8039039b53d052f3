/-
  The classes of a formula: the law's own walk.
-/
import Derived.Test.YtfcfihlkckdmbaaSps
import Derived.Test.YtfcfihlkckdmbaaTma
import Derived.Test.YtfcfihlkckdmbaaInts
namespace Go.Proofs.Ytfcfihlkckdmbaa
open Go.RowKit
set_option linter.unusedVariables false
set_option linter.unusedSimpArgs false

theorem ownG_shape {base e s n : Nat} {w : World} {v : Value} {xs : List Value} (h : w.ownsRow base e s v n xs) : ∃ ao cap, v = .slice ao n cap := by
  obtain ⟨hl, ⟨rfl, rfl⟩ | ⟨g, cap, cur, rfl, hg, hb, _⟩⟩ := h
  · exact ⟨_, _, rfl⟩
  · exact ⟨_, _, rfl⟩
theorem ownG_below {base e s n : Nat} {w w' : World} {v : Value} {xs : List Value} (h : w.ownsRow base e s v n xs) (hb : Below w.heap.size w w') : w'.ownsRow base e s v n xs := by
  obtain ⟨hl, h | ⟨g, cap, cur, rfl, hg, hbk, hr⟩⟩ := h
  · exact ⟨hl, .inl h⟩
  · exact ⟨hl, .inr ⟨g, cap, cur, rfl, hg, (hb.block g (Array.getElem?_eq_some_iff.1 hbk).1).trans hbk, hr⟩⟩

/-- A row of whole numbers in its memory. -/
def IG (base : Nat) (W : World) (V : Value) (L : List Int) : Prop := W.ownsRow base 2 1 V L.length (L.map (Value.int .i64))
theorem IG.below {base : Nat} {W W' : World} {V : Value} {L : List Int} (h : IG base W V L) (hb : Below W.heap.size W W') : IG base W' V L := ownG_below h hb
theorem IG.row {base : Nat} {W : World} {V : Value} {L : List Int} (h : IG base W V L) : Row W V L := by
  have h' := h
  obtain ⟨h0, ⟨rfl, hz⟩ | ⟨g, cap, cur, rfl, hg, hb, hr⟩⟩ := h
  · have : L = [] := List.eq_nil_of_length_eq_zero hz
    subst this
    exact ⟨none, 0, 0, rfl, rfl, fun h => by omega⟩
  · exact Row.own h' rfl (Array.getElem?_eq_some_iff.1 hb).1
theorem IG.keep {base : Nat} {W W' : World} {V : Value} {L : List Int} (h : IG base W V L) (hk : ∀ b, V.ownBlock = some b → W'.heap[b]? = W.heap[b]?) : IG base W' V L := by
  obtain ⟨h0, ho | ⟨g, cap, cur, e, hg, hb, hr⟩⟩ := h
  · exact ⟨h0, .inl ho⟩
  · exact ⟨h0, .inr ⟨g, cap, cur, e, hg, (hk g (by rw [e]; rfl)).trans hb, hr⟩⟩
theorem markNone_any {ao : Option Addr} {cap : Nat} (w : World) (k : Int) : Calls Try.prog 17 #[.slice ao 0 cap, .int .i64 k] w fun e w' => e = .returned (.int .i64 k) ∧ w' = w := by
  go_enter Try.func17, Try.ntmps17
  go_wp2
  refine wp_loop_rounds 1 ?_
  rw [rounds_succ]
  go_wp2
  go_ret
  exact ⟨rfl, rfl⟩
theorem markI_any {base : Nat} {W : World} {V : Value} {L : List Int} (h : IG base W V L) (hn : L.length ≤ 1048576) :
    Calls Try.prog 17 #[V, .int .i64 1] W fun e w' => e = .returned (.int .i64 (1 + (L.length : Int))) ∧ IG base w' V (ups 1 L.length) ∧ Below base W w' := by
  have h' := h
  obtain ⟨h0, ⟨rfl, hz⟩ | ⟨g, cap, cur, rfl, hg, hb, hr⟩⟩ := h
  · refine (markNone_any W 1).mono ?_
    rintro e w' ⟨rfl, rfl⟩
    have : L = [] := List.eq_nil_of_length_eq_zero hz
    subst this
    exact ⟨by simp, ⟨rfl, .inl ⟨rfl, rfl⟩⟩, Below.refl _ _⟩
  · refine (markInts_any h' hn (by omega) (by omega)).mono ?_
    rintro e w' ⟨rfl, h1, h2, _⟩
    refine ⟨rfl, ?_, h2.mono hg⟩
    unfold IG
    rw [ups_length]
    exact h1

theorem cls_len {xs : List At} : (clsL xs).length ≤ 2000 := by
  unfold clsL
  split
  · rename_i hf
    unfold formB at hf
    simp only [Bool.and_eq_true, decide_eq_true_eq] at hf
    rw [count_len, List.length_map, hds_len _ _ (Nat.le_refl _)]
    exact Nat.le_trans (tops_le _ _ (Nat.le_refl _)) hf.1
  · simp

theorem specClasses_any {ao : Option Addr} {n cap : Nat} {xs : List At} {w : World} (h : ARow 0 w (.slice ao n cap) xs) (hc : n ≤ cap) (hc9 : cap ≤ 1000000000) :
    Calls Try.prog 13 #[.slice ao n cap] w fun e w' => (∃ u, e = .returned u ∧ w'.ownsRow w.heap.size 2 1 u (clsL xs).length ((clsL xs).map (Value.int .i64))) ∧ Below w.heap.size w w' := by
  have C := hideP (specFormula_any h hc hc9)
  have HH := hideP h
  unfold clsL
  by_cases hf : formB xs = true
  · have hf2 := hf
    unfold formB at hf2
    simp only [Bool.and_eq_true, decide_eq_true_eq] at hf2
    have C2 : Hid (∀ W, Below w.heap.size w W → Calls Try.prog 24 #[.slice ao n cap] W fun e w' => (∃ u, e = .returned u ∧ w'.ownsRow W.heap.size 2 1 u (count none ((hds xs).map Hd.c)).length ((count none ((hds xs).map Hd.c)).map (Value.int .i64))) ∧ Below W.heap.size W w') := hideP (fun W hW => specCounted_any (HH.out.below atStable hW) hf2.1 hf2.2)
    rw [if_pos hf]
    rw [hf] at C
    obtain ⟨Z, hZ⟩ : ∃ Z, Z = count none ((hds xs).map Hd.c) := ⟨_, rfl⟩
    rw [← hZ] at C2 ⊢
    clear hZ hf hf2 h HH
    go_enter Try.func13, Try.ntmps13
    go_wp2_with fail
    refine C.out.mono ?_
    rintro e w2 ⟨rfl, hb⟩
    have B2 := hideP hb
    clear hb
    go_wp2_with fail
    refine (C2.out _ B2.out).mono ?_
    rintro e w3 ⟨⟨u, rfl, hu⟩, hb3⟩
    have H3 := hideP (And.intro hu hb3)
    clear hu hb3
    go_wp2
    go_ret
    exact ⟨⟨_, rfl, own_lower H3.out.1 B2.out.size⟩, below_more B2.out H3.out.2 B2.out.size⟩
  · have hf' : formB xs = false := by simpa using hf
    rw [if_neg hf]
    rw [hf'] at C
    clear hf hf' h HH
    go_enter Try.func13, Try.ntmps13
    go_wp2_with fail
    refine C.out.mono ?_
    rintro e w2 ⟨rfl, hb⟩
    have B2 := hideP hb
    clear hb
    go_wp2
    go_ret
    exact ⟨⟨_, rfl, ⟨by simp, .inr ⟨_, _, _, rfl, B2.out.size, heap_alloc_new w2 _, by omega, by decide, rfl, rfl⟩⟩⟩, B2.out.alloc B2.out.size _⟩

abbrev AP (W : World) (p n : Nat) (xs : List At) : Prop := SPart 6 AtR At.none 38 W p n n xs
theorem AP.row {W : World} {p n : Nat} {xs : List At} (h : AP W p n xs) (hn : xs.length = n) : ARow 0 W (.slice (some ⟨p, 0, none⟩) n n) xs := (SPart.row atStable h hn).mono atStable (Nat.zero_le _)

set_option maxRecDepth 20000 in
set_option maxHeartbeats 4000000 in
theorem lawClasses_any {v : Value} {xs : List At} {w : World} (h : ARow 0 w v xs) (hl63 : xs.length ≤ 9223372036854775807) :
    Calls Try.prog 5 #[v] w fun e w' => e = .returned (.bool true) ∧ Below w.heap.size w w' := by
  have HA := hideP h
  obtain ⟨ao, n, cap, rfl, hl, _⟩ := h
  have hn63 : n ≤ 9223372036854775807 := by rw [← hl]; exact hl63
  have HLX := hideP hl
  have CZ : Hid (∀ W, Calls Try.prog 6 #[.slice ao n cap, .int .i64 1048576] W fun e w' => (∃ m : Int, e = .returned (.int .i64 m) ∧ (0 ≤ m → n ≤ 1048576)) ∧ w' = W) := hideP (fun W => szAtoms_any W hn63)
  clear hl hl63
  go_enter Try.func5, Try.ntmps5
  go_wp2_with fail
  refine (CZ.out _).mono ?_
  rintro e w1 ⟨⟨z, rfl, hz⟩, hww⟩
  subst hww
  by_cases hz0 : z < 0
  · go_wp2
    go_ret
    exact ⟨rfl, Below.refl _ _⟩
  · have hn : n ≤ 1048576 := hz (by omega)
    have B1 : Hid (Below w1.heap.size w1 w1) := hideP (Below.refl _ _)
    have hLL := cls_len (xs := xs)
    obtain ⟨L, hL⟩ : ∃ L, L = clsL xs := ⟨_, rfl⟩
    rw [← hL] at hLL
    obtain ⟨r, hr⟩ : ∃ r, r = L.length := ⟨_, rfl⟩
    have CS : Hid (∀ (p : Nat) (W : World), AP W p n xs → Calls Try.prog 13 #[.slice (some ⟨p, 0, none⟩) n n] W fun e W' => (∃ u, e = .returned u ∧ IG W.heap.size W' u L) ∧ Below W.heap.size W W') := hideP (fun p W ho => by rw [hL]; exact specClasses_any (ho.row HLX.out) (Nat.le_refl _) (by omega))
    have CI : Hid (∀ (p : Nat) (W : World), AP W p n xs → Calls Try.prog 14 #[.slice (some ⟨p, 0, none⟩) n n] W fun e W' => (∃ u, e = .returned u ∧ IG W.heap.size W' u L) ∧ Below W.heap.size W W') := hideP (fun p W ho => by rw [hL]; exact implClasses_any (ho.row HLX.out) (Nat.le_refl _) (by omega))
    have CE : Hid (∀ (V U : Value) (W : World) (b1 b2 : Nat), IG b1 W V L → IG b2 W U L → Calls Try.prog 15 #[V, U] W fun e w' => e = .returned (.bool true) ∧ Below W.heap.size W w') := hideP (fun V U W b1 b2 ho1 ho2 => by
      have h := eqInts_any ho1.row ho2.row (by omega)
      rw [decide_eq_true (rfl : L = L)] at h
      exact h)
    have CM : Hid (∀ (V : Value) (W : World) (base : Nat), IG base W V L → Calls Try.prog 17 #[V, .int .i64 1] W fun e w' => e = .returned (.int .i64 (1 + (r : Int))) ∧ IG base w' V (ups 1 r) ∧ Below base W w') := hideP (fun V W base ho => by rw [hr]; exact markI_any ho (by omega))
    have CH : Hid (∀ (V : Value) (W : World) (base : Nat), IG base W V (ups 1 r) → Calls Try.prog 18 #[V, .int .i64 1] W fun e w' => e = .returned (.int .i64 (1 + (r : Int))) ∧ w' = W) := hideP (fun V W base ho => heldInts_any ho.row (by omega) (by omega) (by omega))
    obtain ⟨kz, hkz⟩ : ∃ kz : Int, kz = 1 + 6 * (n : Int) := ⟨_, rfl⟩
    have CK : Hid (∀ (p : Nat) (W : World), AP W p n xs → Calls Try.prog 16 #[.slice (some ⟨p, 0, none⟩) n n, .int .i64 1] W fun e w' => e = .returned (.int .i64 kz) ∧ Below p W w' ∧ ∀ b, b < W.heap.size → b ≠ p → w'.heap[b]? = W.heap[b]?) := hideP (fun p W ho => by
      obtain ⟨cur, h1, h2, _⟩ := ho
      refine (markAtoms_any ⟨cur, h1, h2⟩ hn).mono ?_
      rintro e w' ⟨he, hs⟩
      exact ⟨by rw [he, hkz], hs.below, hs.other⟩)
    have hkn : ¬ kz < 0 := by omega
    obtain ⟨kr, hkr⟩ : ∃ kr : Int, kr = 1 + (r : Int) := ⟨_, rfl⟩
    rw [← hkr] at CM CH
    have hkn2 : ¬ kr < 0 := by omega
    clear hL hr hLL hkr hkz hz
    have CT : Hid (∀ W, Below w1.heap.size w1 W → Calls Try.prog 8 #[.slice ao n cap] W fun e w' => e = .returned (.slice (some ⟨W.heap.size, 0, none⟩) n n) ∧ AP w' W.heap.size n xs ∧ Below W.heap.size W w') := hideP (fun W hW => by
      have := toAtoms_part (HA.out.below atStable hW) (by rw [HLX.out]; exact hn)
      rw [HLX.out] at this
      exact this)
    have CQ : Hid (∀ (p q : Nat) (W : World), AP W p n xs → AP W q n xs → Calls Try.prog 10 #[.slice (some ⟨p, 0, none⟩) n n, .slice (some ⟨q, 0, none⟩) n n] W fun e w' => e = .returned (.bool true) ∧ Below W.heap.size W w') := hideP (fun p q W h1 h2 => eqAtoms_same (h1.row HLX.out) (h2.row HLX.out) (by rw [HLX.out]; exact hn))
    clear HA
    go_wp2_with fail
    refine (CT.out w1 B1.out).mono ?_
    rintro e w2 ⟨rfl, ho2, hb2⟩
    have B2 : Hid (Below w1.heap.size w1 w2) := hideP (below_more B1.out hb2 B1.out.size)
    have O2 := hideP ho2
    clear ho2 hb2
    go_wp2_with fail
    refine (CS.out _ _ O2.out).mono ?_
    rintro e w3 ⟨⟨u0, rfl, ho3⟩, hb3⟩
    obtain ⟨au, cu, rfl⟩ := ownG_shape ho3
    have B3 : Hid (Below w1.heap.size w1 w3) := hideP (below_more B2.out hb3 B2.out.size)
    have U3 := hideP ho3
    clear ho3 hb3 O2
    go_wp2_with fail
    refine (CT.out w3 B3.out).mono ?_
    rintro e w4 ⟨rfl, ho4, hb4⟩
    have B4 : Hid (Below w1.heap.size w1 w4) := hideP (below_more B3.out hb4 B3.out.size)
    have X4 := hideP ho4
    have U4 := hideP (U3.out.below hb4)
    have hlt : w3.heap.size < w4.heap.size := ho4.lt
    clear ho4 hb4
    go_wp2_with fail
    refine (CI.out _ _ X4.out).mono ?_
    rintro e w5 ⟨⟨g0, rfl, ho5⟩, hb5⟩
    obtain ⟨ag, cg, rfl⟩ := ownG_shape ho5
    have B5 : Hid (Below w1.heap.size w1 w5) := hideP (below_more B4.out hb5 B4.out.size)
    have G5 := hideP ho5
    have X5 := hideP (X4.out.below atStable hb5)
    have U5 := hideP (U4.out.below hb5)
    have z5 : w4.heap.size ≤ w5.heap.size := hb5.size
    clear ho5 hb5 X4 U4
    go_wp2_with fail
    refine (CE.out _ _ _ _ _ G5.out U5.out).mono ?_
    rintro e w6 ⟨rfl, hb6⟩
    have B6 : Hid (Below w1.heap.size w1 w6) := hideP (below_more B5.out hb6 B5.out.size)
    have G6 := hideP (G5.out.below hb6)
    have X6 := hideP (X5.out.below atStable hb6)
    have U6 := hideP (U5.out.below hb6)
    have z6 : w4.heap.size ≤ w6.heap.size := Nat.le_trans z5 hb6.size
    clear hb6 G5 X5 U5 z5
    go_wp2_with fail
    refine (CT.out w6 B6.out).mono ?_
    rintro e w7 ⟨rfl, ho7, hb7⟩
    have B7 : Hid (Below w1.heap.size w1 w7) := hideP (below_more B6.out hb7 B6.out.size)
    have Y7 := hideP ho7
    have G7 := hideP (G6.out.below hb7)
    have X7 := hideP (X6.out.below atStable hb7)
    have U7 := hideP (U6.out.below hb7)
    have z7 : w4.heap.size ≤ w7.heap.size := Nat.le_trans z6 hb7.size
    clear hb7 ho7 G6 X6 U6 z6
    go_wp2_with fail
    refine (CQ.out _ _ _ X7.out Y7.out).mono ?_
    rintro e w8 ⟨rfl, hb8⟩
    have B8 : Hid (Below w1.heap.size w1 w8) := hideP (below_more B7.out hb8 B7.out.size)
    have G8 := hideP (G7.out.below hb8)
    have X8 := hideP (X7.out.below atStable hb8)
    have U8 := hideP (U7.out.below hb8)
    have z8 : w4.heap.size ≤ w8.heap.size := Nat.le_trans z7 hb8.size
    clear hb8 G7 X7 U7 Y7 z7
    go_wp2_with fail
    refine (CK.out _ _ X8.out).mono ?_
    rintro e w9 ⟨rfl, hb9', hq9'⟩
    have hb9 := hb9'
    have hq9 := hq9'
    clear hb9' hq9'
    have HBU : Hid (∀ b, (Value.slice au L.length cu).ownBlock = some b → b < w3.heap.size) := hideP (fun b hb => (World.ownsRow.lt U3.out b hb).2)
    have HBG : Hid (∀ b, (Value.slice ag L.length cg).ownBlock = some b → w4.heap.size ≤ b ∧ b < w8.heap.size) := hideP (fun b hb => World.ownsRow.lt G8.out b hb)
    have B9 : Hid (Below w1.heap.size w1 w9) := hideP (B8.out.trans (hb9.mono (by have h1 := B3.out.size; have h2 := B8.out.size; omega)))
    have hother : ∀ b, b < w8.heap.size → b ≠ w3.heap.size → w9.heap[b]? = w8.heap[b]? := fun b hb hne => hq9 b hb hne
    have G9 := hideP (G8.out.keep (fun b e => hother b (HBG.out b e).2 (by have := (HBG.out b e).1; omega)))
    have U9 := hideP (U8.out.keep (fun b e => hother b (by have := HBU.out b e; omega) (by have := HBU.out b e; omega)))
    have z9 : w4.heap.size ≤ w9.heap.size := Nat.le_trans z8 hb9.size
    clear hb9 hq9 G8 U8 X8 U3 hother z8
    go_wp2_with fail
    refine (CE.out _ _ _ _ _ G9.out U9.out).mono ?_
    rintro e w10 ⟨rfl, hb10⟩
    have B10 : Hid (Below w1.heap.size w1 w10) := hideP (below_more B9.out hb10 B9.out.size)
    have G10 := hideP (G9.out.below hb10)
    have U10 := hideP (U9.out.below hb10)
    have hw10 : w4.heap.size ≤ w10.heap.size := Nat.le_trans z9 hb10.size
    clear hb10 G9 U9
    go_wp2_with fail
    refine (CM.out _ _ _ G10.out).mono ?_
    rintro e w11 ⟨rfl, ho11, hb11⟩
    have B11 : Hid (Below w1.heap.size w1 w11) := hideP (B10.out.trans (hb11.mono (by have h1 := B4.out.size; omega)))
    have G11 := hideP ho11
    have U11 := hideP (U10.out.keep (fun b e => hb11.block b (by have := HBU.out b e; omega)))
    clear hb11 ho11 G10 U10
    go_wp2_with fail
    refine (CH.out _ _ _ G11.out).mono ?_
    rintro e w12 ⟨rfl, rfl⟩
    have B12 := B11
    have G12 := G11
    have U12 := U11
    clear B11 G11 U11
    go_wp2_with fail
    refine (CT.out w12 B12.out).mono ?_
    rintro e w13 ⟨rfl, ho13, hb13⟩
    have B13 : Hid (Below w1.heap.size w1 w13) := hideP (below_more B12.out hb13 B12.out.size)
    have Y13 := hideP ho13
    have G13 := hideP (G12.out.below hb13)
    have U13 := hideP (U12.out.below hb13)
    clear hb13 ho13 G12 U12
    go_wp2_with fail
    refine (CI.out _ _ Y13.out).mono ?_
    rintro e w14 ⟨⟨h0, rfl, ho14⟩, hb14⟩
    obtain ⟨ah, ch, rfl⟩ := ownG_shape ho14
    have B14 : Hid (Below w1.heap.size w1 w14) := hideP (below_more B13.out hb14 B13.out.size)
    have H14 := hideP ho14
    have G14 := hideP (G13.out.below hb14)
    have U14 := hideP (U13.out.below hb14)
    clear ho14 hb14 G13 U13 Y13
    go_wp2_with fail
    refine (CE.out _ _ _ _ _ H14.out U14.out).mono ?_
    rintro e w15 ⟨rfl, hb15⟩
    have B15 : Hid (Below w1.heap.size w1 w15) := hideP (below_more B14.out hb15 B14.out.size)
    have G15 := hideP (G14.out.below hb15)
    clear hb15 G14 U14 H14
    go_wp2_with fail
    refine (CH.out _ _ _ G15.out).mono ?_
    rintro e w16 ⟨rfl, rfl⟩
    clear G15
    go_wp2
    go_ret
    exact ⟨rfl, B15.out⟩
end Go.Proofs.Ytfcfihlkckdmbaa
