/-
  Proved: for every Font and every word, laws.FnExactSetWord returns true and its arguments read behind the call as before it; no condition.
-/
import Derived.Test.YtggcfgbpameppaaFoH
import Derived.Test.YtggcfgbpameppaaIsw
import Derived.Test.YtggcfgbpameppaaMkf
namespace Go.Proofs.Ytggcfgbpameppaa
open Go.ChangeShapes Go.WideShapes Go.ChangeAt Go.RowKit Go.Joins
set_option linter.unusedVariables false
set_option linter.unusedSimpArgs false

/-- A font's copy, with its blocks. -/
structure FC (W : World) (g5 n1 g6 n2 : Nat) (gs ps : List Q4) : Prop where
  two : TwoQ W (.slice (some ⟨g5, 0, none⟩) n1 n1) (.slice (some ⟨g6, 0, none⟩) n2 n2) gs ps
  k5 : Blk W g5 39 (n1 * 4)
  k6 : Blk W g6 63 (n2 * 4)
theorem FC.below {W W' : World} {g5 n1 g6 n2 : Nat} {gs ps : List Q4} (h : FC W g5 n1 g6 n2 gs ps) (hb : Below W.heap.size W W') : FC W' g5 n1 g6 n2 gs ps := ⟨h.two.below hb, h.k5.keep (hb.block _ h.k5.lt), h.k6.keep (hb.block _ h.k6.lt)⟩
/-- A word's copy, with its block. -/
structure BC (W : World) (g7 nb : Nat) (bs : List Int) : Prop where
  row : BRow 0 W (.slice (some ⟨g7, 0, none⟩) nb nb) bs
  k7 : Blk W g7 5 nb
theorem BC.below {W W' : World} {g7 nb : Nat} {bs : List Int} (h : BC W g7 nb bs) (hb : Below W.heap.size W W') : BC W' g7 nb bs := ⟨SRow.below bStable h.row hb, h.k7.keep (hb.block _ h.k7.lt)⟩
theorem own_blk {W : World} {base n g ty sz : Nat} {v : Value} {xs : List Value} (h : W.ownsRow base 81 2 v n xs) (hk : Blk W g ty sz) (hne : ty ≠ 81) {b : Nat} (hb : v.ownBlock = some b) : b ≠ g := by
  rintro rfl
  rcases h.2 with ⟨rfl, _⟩ | ⟨g1, cap1, cur1, rfl, _, k1, _⟩
  · cases hb
  · simp only [Value.ownBlock, Option.some.injEq] at hb
    subst hb
    obtain ⟨cur, h1, _⟩ := hk
    rw [k1] at h1
    simp only [Option.some.injEq, Obj.cells.injEq] at h1
    exact hne h1.2.1.symm
theorem sw_len (f : Fo) (gs ps : List Q4) (bs : List Int) : (swO f gs ps bs).length ≤ 2000 := by
  unfold swO
  by_cases h : wOk f gs ps bs = true
  · rw [if_pos h]
    unfold wOk at h
    simp only [Bool.and_eq_true, decide_eq_true_eq] at h
    rw [← st_sp, List.length_map]
    have := st_len gs ps bs
    omega
  · rw [if_neg h]
    simp

set_option maxRecDepth 20000 in
set_option maxHeartbeats 8000000 in
theorem lawSetWord_any {f : Fo} {vg vp vb : Value} {gs ps : List Q4} {bs : List Int} {w : World} (h : TwoQ w vg vp gs ps) (hb : BRow 0 w vb bs) (hs : f.s.size ≤ 9223372036854775807) (hg : gs.length ≤ 9223372036854775807) (hp : ps.length ≤ 9223372036854775807) (hbl : bs.length ≤ 9223372036854775807) :
    Calls Try.prog 5 #[foV f vg vp, vb] w fun e w' => e = .returned (.bool true) ∧ Below w.heap.size w w' := by
  have HX := hideP h
  have HBR := hideP hb
  obtain ⟨a1, n1, c1, rfl⟩ : ∃ a n c, vg = .slice a n c := by obtain ⟨a, c, rfl⟩ := h.g.shape; exact ⟨_, _, _, rfl⟩
  obtain ⟨a2, n2, c2, rfl⟩ : ∃ a n c, vp = .slice a n c := by obtain ⟨a, c, rfl⟩ := h.p.shape; exact ⟨_, _, _, rfl⟩
  obtain ⟨ab, nb, cb, rfl⟩ : ∃ a n c, vb = .slice a n c := by obtain ⟨a, c, rfl⟩ := hb.shape; exact ⟨_, _, _, rfl⟩
  have hl1 := h.g.len
  have hl2 := h.p.len
  have hl3 := hb.len
  have CZ : Hid (∀ W, Calls Try.prog 7 #[foV f (.slice a1 n1 c1) (.slice a2 n2 c2), .int .i64 1048576] W fun e w' => (∃ m : Int, e = .returned (.int .i64 m) ∧ m ≤ 1048576 ∧ (0 ≤ m → f.s.size ≤ 1048576 ∧ n1 ≤ 1048576 ∧ n2 ≤ 1048576)) ∧ Below W.heap.size W w') := hideP (fun W => szFont_any hs (by omega) (by omega) (by omega) (by omega))
  have HL := hideP (And.intro hl1 hl2)
  have HL3 := hideP hl3
  have hnb : nb ≤ 9223372036854775807 := by omega
  have hOl := sw_len f gs ps bs
  obtain ⟨O, hO⟩ : ∃ o, o = swO f gs ps bs := ⟨_, rfl⟩
  rw [← hO] at hOl
  obtain ⟨rr, hrr⟩ : ∃ r, r = O.length := ⟨_, rfl⟩
  have hrl : rr ≤ 2000 := by omega
  obtain ⟨kp, hkp⟩ : ∃ k : Int, k = 1 + 2 * (rr : Int) := ⟨_, rfl⟩
  have CT : Hid (f.s.size ≤ 1048576 ∧ gs.length ≤ 1048576 ∧ ps.length ≤ 1048576 → ∀ W, Below w.heap.size w W → Calls Try.prog 9 #[foV f (.slice a1 n1 c1) (.slice a2 n2 c2)] W fun e w' => ∃ g5 g6, e = .returned (foV f (.slice (some ⟨g5, 0, none⟩) n1 n1) (.slice (some ⟨g6, 0, none⟩) n2 n2)) ∧ FC w' g5 n1 g6 n2 gs ps ∧ W.heap.size ≤ g5 ∧ W.heap.size ≤ g6 ∧ Below W.heap.size W w') := hideP (fun hm W hW => by
    refine (toFontP_any (HX.out.below hW) hm.2.1 hm.2.2).mono ?_
    rintro e w' ⟨ug, up, rfl, ⟨h1, g5, rfl, hg5, hk5⟩, ⟨h2, g6, rfl, hg6, hk6⟩, hb⟩
    rw [HL.out.1] at h1 hk5 ⊢
    rw [HL.out.2] at h2 hk6 ⊢
    exact ⟨g5, g6, rfl, ⟨⟨h1.mono qStable (Nat.zero_le _), h2.mono qStable (Nat.zero_le _)⟩, hk5, hk6⟩, hg5, hg6, hb⟩)
  have CB : Hid (bs.length ≤ 1048576 → ∀ W, Below w.heap.size w W → Calls Try.prog 16 #[.slice ab nb cb] W fun e w' => ∃ g7, e = .returned (.slice (some ⟨g7, 0, none⟩) nb nb) ∧ BC w' g7 nb bs ∧ W.heap.size ≤ g7 ∧ Below W.heap.size W w') := hideP (fun hm W hW => by
    refine (toByteP_any (SRow.below bStable HBR.out hW) hm).mono ?_
    rintro e w' ⟨ub, rfl, ⟨h1, g7, rfl, hg7, hk7⟩, hb⟩
    rw [HL3.out] at h1 hk7 ⊢
    rw [Nat.mul_one] at hk7
    exact ⟨g7, rfl, ⟨h1.mono bStable (Nat.zero_le _), hk7⟩, hg7, hb⟩)
  have CS : Hid (f.s.size ≤ 1048576 ∧ gs.length ≤ 1048576 ∧ ps.length ≤ 1048576 → bs.length ≤ 1048576 → ∀ W ug up ub, TwoQ W ug up gs ps → BRow 0 W ub bs → Calls Try.prog 15 #[foV f ug up, ub] W fun e w' => ∃ t, e = .returned t ∧ w'.ownsRow W.heap.size 81 2 t rr (f2 O) ∧ Below W.heap.size W w') := hideP (fun hm hm2 W ug up ub hW hU => by have k := specSetWord_any hW hU hm.1 hm.2.1 hm.2.2 hm2; rw [← hO, ← hrr] at k; exact k)
  have CI : Hid (f.s.size ≤ 1048576 ∧ gs.length ≤ 1048576 ∧ ps.length ≤ 1048576 → bs.length ≤ 1048576 → ∀ W ug up ub, TwoQ W ug up gs ps → BRow 0 W ub bs → Calls Try.prog 17 #[foV f ug up, ub] W fun e w' => ∃ t, e = .returned t ∧ w'.ownsRow W.heap.size 81 2 t rr (f2 O) ∧ Below W.heap.size W w') := hideP (fun hm hm2 W ug up ub hW hU => by have k := implSetWord_any hW hU hm.1 hm.2.1 hm.2.2 hm2; rw [← hO, ← hrr] at k; exact k)
  have CE : Hid (f.s.size ≤ 1048576 ∧ gs.length ≤ 1048576 ∧ ps.length ≤ 1048576 → ∀ W ug up vg vp, TwoQ W ug up gs ps → TwoQ W vg vp gs ps → Calls Try.prog 11 #[foV f ug up, foV f vg vp] W fun e w' => e = .returned (.bool true) ∧ Below W.heap.size W w') := hideP (fun hm W ug up vg vp hW hV => eqFont_same hW hV hm.2.1 hm.2.2)
  have CF : Hid (bs.length ≤ 1048576 → ∀ W u v, BRow 0 W u bs → BRow 0 W v bs → Calls Try.prog 19 #[u, v] W fun e w' => e = .returned (.bool true) ∧ Below W.heap.size W w') := hideP (fun hm W u v hW hV => eqByteS_same hW hV hm)
  have CQ : Hid (∀ W u v b1 b2, W.ownsRow b1 81 2 u rr (f2 O) → W.ownsRow b2 81 2 v rr (f2 O) → Calls Try.prog 18 #[u, v] W fun e w' => e = .returned (.bool true) ∧ Below W.heap.size W w') := hideP (fun W u v b1 b2 hU hV => by rw [hrr] at hU hV; exact eqPieceS_same hU hV (by omega))
  have CM : Hid (f.s.size ≤ 1048576 ∧ gs.length ≤ 1048576 ∧ ps.length ≤ 1048576 → ∃ kf : Int, 0 ≤ kf ∧ kf ≤ 8388609 ∧ ∀ W g5 g6, FC W g5 n1 g6 n2 gs ps → Calls Try.prog 20 #[foV f (.slice (some ⟨g5, 0, none⟩) n1 n1) (.slice (some ⟨g6, 0, none⟩) n2 n2), .int .i64 1] W fun e w' => e = .returned (.int .i64 kf) ∧ (∀ lo, lo ≤ g5 → lo ≤ g6 → Below lo W w') ∧ (∀ b, b < W.heap.size → b ≠ g5 → b ≠ g6 → w'.heap[b]? = W.heap[b]?)) := hideP (fun hm => by
    have e1 := HL.out.1
    have e2 := HL.out.2
    refine ⟨1 + 4 * (n1 : Int) + 4 * (n2 : Int), by omega, by omega, fun W g5 g6 hW => ?_⟩
    exact markFont_any hW.k5 hW.k6 (by omega) (by omega))
  have CN : Hid (bs.length ≤ 1048576 → ∀ kf : Int, 0 ≤ kf → kf ≤ 8388609 → ∃ kb : Int, 0 ≤ kb ∧ ∀ W g7, Blk W g7 5 nb → Calls Try.prog 21 #[.slice (some ⟨g7, 0, none⟩) nb nb, .int .i64 kf] W fun e w' => e = .returned (.int .i64 kb) ∧ Sole g7 W w') := hideP (fun hm kf hk0 hk1 => by
    have e3 := HL3.out
    exact ⟨kf + (nb : Int), by omega, fun W g7 hW => markByteS_any hW (by omega) hk0 (by omega)⟩)
  have CK : Hid (∀ W V base, W.ownsRow base 81 2 V rr (f2 O) → Calls Try.prog 22 #[V, .int .i64 1] W fun e w' => e = .returned (.int .i64 kp) ∧ w'.ownsRow base 81 2 V rr (upv 1 (rr * 2)) ∧ Below base W w' ∧ (∀ b, V.ownBlock ≠ some b → w'.heap[b]? = W.heap[b]?)) := hideP (fun W V base hV => by rw [hkp]; exact markPieceS_any hV (by omega))
  have CH : Hid (∀ W V base, W.ownsRow base 81 2 V rr (upv 1 (rr * 2)) → Calls Try.prog 23 #[V, .int .i64 1] W fun e w' => e = .returned (.int .i64 kp) ∧ w' = W) := hideP (fun W V base hV => by rw [hkp]; exact heldPieceS_any hV (by omega))
  have hkp0 : ¬ kp < 0 := by omega
  clear h hs hg hp hl1 hl2 hl3 hO hb hbl hOl hrr hrl hkp
  obtain ⟨s, g0, g1, g2, g3, g4, q, r⟩ := f
  obtain ⟨z, hz⟩ : ∃ z, z = s.size := ⟨_, rfl⟩
  simp only [foV] at CZ CT CS CI CE CM ⊢
  have A0 : Hid (BoxA (w.alloc (.cells #[Value.string s, Value.slice a1 n1 c1, Value.slice a2 n2 c2, Value.int IntKind.i64 g0, Value.int IntKind.i64 g1, Value.int IntKind.i64 g2, Value.int IntKind.i64 g3, Value.int IntKind.i64 g4, Value.int IntKind.i64 q, Value.int IntKind.i64 r] 27)) w.heap.size #[Value.string s, Value.slice a1 n1 c1, Value.slice a2 n2 c2, Value.int IntKind.i64 g0, Value.int IntKind.i64 g1, Value.int IntKind.i64 g2, Value.int IntKind.i64 g3, Value.int IntKind.i64 g4, Value.int IntKind.i64 q, Value.int IntKind.i64 r]) := hideP (heap_alloc_new _ _)
  rw [← hz] at CZ CT CS CI CE CM
  clear hz
  go_enter Try.func5, Try.ntmps5
  by_cases hbig : 1048576 < (nb : Int)
  · go_wp2_with fail
    go_ret
    exact ⟨rfl, below1 _ _⟩
  have HS2 : Hid (bs.length ≤ 1048576) := hideP (by have := HL3.out; omega)
  go_wp2_with fail
  refine (CZ.out _).mono ?_
  rintro e w1 ⟨⟨m, rfl, hml, hm⟩, hb1⟩
  have B1 : Hid (Below w.heap.size w w1) := hideP (below_more (below1 _ _) hb1 (by simp))
  have A1 := hideP (A0.out.below hb1)
  have HM := hideP hm
  clear hb1 hm A0
  by_cases hneg : m < 0
  · go_wp2
    go_ret
    exact ⟨rfl, B1.out⟩
  have HS : Hid (z ≤ 1048576 ∧ gs.length ≤ 1048576 ∧ ps.length ≤ 1048576) := hideP (by have := HM.out (by omega); have h2 := HL.out; exact ⟨this.1, by omega, by omega⟩)
  clear HM CZ
  obtain ⟨kf, hkf0, hkf1, CMf⟩ := CM.out HS.out
  have CMF := hideP CMf
  obtain ⟨kb, hkb0, CNb⟩ := CN.out HS2.out kf hkf0 hkf1
  have CNB := hideP CNb
  have hkbn : ¬ kb < 0 := by omega
  clear CM CN CMf CNb hkf0 hkf1 hkb0
  obtain ⟨p0, p1, p2, p3, p4, p5, p6, p7, p8, p9⟩ := A1.out.at
  have hzA := A1.out.lt
  go_wp2_with fail
  refine (CT.out HS.out _ B1.out).mono ?_
  rintro e w2 ⟨g3', g4', rfl, hf2, _, _, hb2⟩
  have B2 : Hid (Below w.heap.size w w2) := hideP (below_more B1.out hb2 B1.out.size)
  have A2 := hideP (A1.out.below hb2)
  have P2 := hideP hf2
  clear hb2 hf2 A1 p0 p1 p2 p3 p4 p5 p6 p7 p8 p9 hzA
  go_wp2_with fail
  refine (CB.out HS2.out _ B2.out).mono ?_
  rintro e w2b ⟨g8', rfl, hr1, _, hb2⟩
  have B2b : Hid (Below w.heap.size w w2b) := hideP (below_more B2.out hb2 B2.out.size)
  have A2b := hideP (A2.out.below hb2)
  have P2b := hideP (P2.out.below hb2)
  have V2 := hideP hr1
  clear hb2 hr1 A2 P2
  go_wp2_with fail
  refine (CS.out HS.out HS2.out _ _ _ _ P2b.out.two V2.out.row).mono ?_
  rintro e w3 ⟨t6, rfl, ho3, hb3⟩
  obtain ⟨a3, d3, rfl⟩ := ownG_shape ho3
  have B3 : Hid (Below w.heap.size w w3) := hideP (below_more B2b.out hb3 B2b.out.size)
  have A3 := hideP (A2b.out.below hb3)
  have S3 := hideP ho3
  obtain ⟨p0, p1, p2, p3, p4, p5, p6, p7, p8, p9⟩ := A3.out.at
  have hzA := A3.out.lt
  clear hb3 ho3 P2b V2 A2b
  go_wp2_with fail
  refine (CT.out HS.out _ B3.out).mono ?_
  rintro e w4' ⟨g5, g6, rfl, hf4, hg5, hg6, hb4⟩
  obtain ⟨w4, hw4⟩ : ∃ W, W = w4'.alloc (.cells #[Value.string s, Value.slice (some ⟨g5, 0, none⟩) n1 n1, Value.slice (some ⟨g6, 0, none⟩) n2 n2, Value.int IntKind.i64 g0, Value.int IntKind.i64 g1, Value.int IntKind.i64 g2, Value.int IntKind.i64 g3, Value.int IntKind.i64 g4, Value.int IntKind.i64 q, Value.int IntKind.i64 r] 34) := ⟨_, rfl⟩
  have b4 : Below w4'.heap.size w4' w4 := by rw [hw4]; exact below1 _ _
  have b34 : Below w3.heap.size w3 w4 := below_more hb4 b4 hb4.size
  have B4 : Hid (Below w.heap.size w w4) := hideP (below_more B3.out b34 B3.out.size)
  have A4 := hideP (A3.out.below b34)
  have S4 := hideP (own_below S3.out b34)
  have P4 := hideP (hf4.below b4)
  have X4 : Hid (BoxF w4 w4'.heap.size #[Value.string s, Value.slice (some ⟨g5, 0, none⟩) n1 n1, Value.slice (some ⟨g6, 0, none⟩) n2 n2, Value.int IntKind.i64 g0, Value.int IntKind.i64 g1, Value.int IntKind.i64 g2, Value.int IntKind.i64 g3, Value.int IntKind.i64 g4, Value.int IntKind.i64 q, Value.int IntKind.i64 r]) := hideP (by rw [hw4]; exact heap_alloc_new _ _)
  have G56 : Hid (w.heap.size + 1 ≤ g5 ∧ w.heap.size + 1 ≤ g6 ∧ g5 < w4'.heap.size ∧ g6 < w4'.heap.size) := hideP ⟨by omega, by omega, hf4.k5.lt, hf4.k6.lt⟩
  clear hb4 hf4 hg5 hg6 A3 p0 p1 p2 p3 p4 p5 p6 p7 p8 p9 hzA b4 b34 S3
  go_wp2_with fail
  rw [← hw4]
  refine (CB.out HS2.out _ B4.out).mono ?_
  rintro e w4b ⟨g7, rfl, hr1, hg7, hb4⟩
  have B4b : Hid (Below w.heap.size w w4b) := hideP (below_more B4.out hb4 B4.out.size)
  have A4b := hideP (A4.out.below hb4)
  have S4b := hideP (own_below S4.out hb4)
  have P4b := hideP (P4.out.below hb4)
  have X4b := hideP (X4.out.below hb4)
  have V4b := hideP hr1
  have G7 : Hid (w.heap.size + 1 ≤ g7) := hideP (by have := A4.out.lt; omega)
  clear hb4 hr1 hg7 A4 S4 P4 X4 hw4
  obtain ⟨q0, q1, q2, q3, q4, q5, q6, q7, q8, q9⟩ := X4b.out.at
  have hzX := X4b.out.lt
  go_wp2_with fail
  refine (CI.out HS.out HS2.out _ _ _ _ P4b.out.two V4b.out.row).mono ?_
  rintro e w5 ⟨t9, rfl, ho5, hb5⟩
  obtain ⟨a9, d9, rfl⟩ := ownG_shape ho5
  have B5 : Hid (Below w.heap.size w w5) := hideP (below_more B4b.out hb5 B4b.out.size)
  have A5 := hideP (A4b.out.below hb5)
  have X5 := hideP (X4b.out.below hb5)
  have P5 := hideP (P4b.out.below hb5)
  have V5 := hideP (V4b.out.below hb5)
  have S5 := hideP (own_below S4b.out hb5)
  have T5 := hideP ho5
  have GL : Hid (∀ b, (Value.slice a3 rr d3).ownBlock = some b → b < w4b.heap.size) := hideP (fun b hb => (S4b.out.lt b hb).2)
  have GA : Hid (w.heap.size < w4b.heap.size) := hideP A4b.out.lt
  clear hb5 ho5 A4b X4b P4b V4b S4b q0 q1 q2 q3 q4 q5 q6 q7 q8 q9 hzX
  go_wp2_with fail
  refine (CQ.out _ _ _ _ _ T5.out S5.out).mono ?_
  rintro e w6 ⟨rfl, hb6⟩
  have B6 : Hid (Below w.heap.size w w6) := hideP (below_more B5.out hb6 B5.out.size)
  have A6 := hideP (A5.out.below hb6)
  have X6 := hideP (X5.out.below hb6)
  have P6 := hideP (P5.out.below hb6)
  have V6 := hideP (V5.out.below hb6)
  have S6 := hideP (own_below S5.out hb6)
  have T6 := hideP (own_below T5.out hb6)
  clear hb6 A5 X5 P5 V5 S5 T5
  obtain ⟨p0, p1, p2, p3, p4, p5, p6, p7, p8, p9⟩ := A6.out.at
  obtain ⟨q0, q1, q2, q3, q4, q5, q6, q7, q8, q9⟩ := X6.out.at
  have hzA := A6.out.lt
  have hzX := X6.out.lt
  have BD : Hid (Below w6.heap.size w6 w6.drew) := hideP (Below.refl _ _).drew
  have Q : Hid (∀ x : World, Below w6.heap.size w6 x → x.cell? ⟨w.heap.size, 0, none⟩ = some (.string s) ∧ x.cell? ⟨w.heap.size, 1, none⟩ = some (.slice a1 n1 c1) ∧ x.cell? ⟨w.heap.size, 2, none⟩ = some (.slice a2 n2 c2) ∧ x.cell? ⟨w.heap.size, 3, none⟩ = some (.int .i64 g0) ∧ x.cell? ⟨w.heap.size, 4, none⟩ = some (.int .i64 g1) ∧ x.cell? ⟨w.heap.size, 5, none⟩ = some (.int .i64 g2) ∧ x.cell? ⟨w.heap.size, 6, none⟩ = some (.int .i64 g3) ∧ x.cell? ⟨w.heap.size, 7, none⟩ = some (.int .i64 g4) ∧ x.cell? ⟨w.heap.size, 8, none⟩ = some (.int .i64 q) ∧ x.cell? ⟨w.heap.size, 9, none⟩ = some (.int .i64 r) ∧ x.cell? ⟨w4'.heap.size, 0, none⟩ = some (.string s) ∧ x.cell? ⟨w4'.heap.size, 1, none⟩ = some (.slice (some ⟨g5, 0, none⟩) n1 n1) ∧ x.cell? ⟨w4'.heap.size, 2, none⟩ = some (.slice (some ⟨g6, 0, none⟩) n2 n2) ∧ x.cell? ⟨w4'.heap.size, 3, none⟩ = some (.int .i64 g0) ∧ x.cell? ⟨w4'.heap.size, 4, none⟩ = some (.int .i64 g1) ∧ x.cell? ⟨w4'.heap.size, 5, none⟩ = some (.int .i64 g2) ∧ x.cell? ⟨w4'.heap.size, 6, none⟩ = some (.int .i64 g3) ∧ x.cell? ⟨w4'.heap.size, 7, none⟩ = some (.int .i64 g4) ∧ x.cell? ⟨w4'.heap.size, 8, none⟩ = some (.int .i64 q) ∧ x.cell? ⟨w4'.heap.size, 9, none⟩ = some (.int .i64 r)) := hideP (fun x hx => ⟨(hx.cell (p := ⟨w.heap.size, 0, none⟩) hzA).trans p0, (hx.cell (p := ⟨w.heap.size, 1, none⟩) hzA).trans p1, (hx.cell (p := ⟨w.heap.size, 2, none⟩) hzA).trans p2, (hx.cell (p := ⟨w.heap.size, 3, none⟩) hzA).trans p3, (hx.cell (p := ⟨w.heap.size, 4, none⟩) hzA).trans p4, (hx.cell (p := ⟨w.heap.size, 5, none⟩) hzA).trans p5, (hx.cell (p := ⟨w.heap.size, 6, none⟩) hzA).trans p6, (hx.cell (p := ⟨w.heap.size, 7, none⟩) hzA).trans p7, (hx.cell (p := ⟨w.heap.size, 8, none⟩) hzA).trans p8, (hx.cell (p := ⟨w.heap.size, 9, none⟩) hzA).trans p9, (hx.cell (p := ⟨w4'.heap.size, 0, none⟩) hzX).trans q0, (hx.cell (p := ⟨w4'.heap.size, 1, none⟩) hzX).trans q1, (hx.cell (p := ⟨w4'.heap.size, 2, none⟩) hzX).trans q2, (hx.cell (p := ⟨w4'.heap.size, 3, none⟩) hzX).trans q3, (hx.cell (p := ⟨w4'.heap.size, 4, none⟩) hzX).trans q4, (hx.cell (p := ⟨w4'.heap.size, 5, none⟩) hzX).trans q5, (hx.cell (p := ⟨w4'.heap.size, 6, none⟩) hzX).trans q6, (hx.cell (p := ⟨w4'.heap.size, 7, none⟩) hzX).trans q7, (hx.cell (p := ⟨w4'.heap.size, 8, none⟩) hzX).trans q8, (hx.cell (p := ⟨w4'.heap.size, 9, none⟩) hzX).trans q9⟩)
  clear p0 p1 p2 p3 p4 p5 p6 p7 p8 p9 q0 q1 q2 q3 q4 q5 q6 q7 q8 q9
  go_wp2_with fail
  go_region_held3 (fun x => x.cell? ⟨w.heap.size, 0, none⟩ = some (.string s) ∧ x.cell? ⟨w.heap.size, 1, none⟩ = some (.slice a1 n1 c1) ∧ x.cell? ⟨w.heap.size, 2, none⟩ = some (.slice a2 n2 c2) ∧ x.cell? ⟨w.heap.size, 3, none⟩ = some (.int .i64 g0) ∧ x.cell? ⟨w.heap.size, 4, none⟩ = some (.int .i64 g1) ∧ x.cell? ⟨w.heap.size, 5, none⟩ = some (.int .i64 g2) ∧ x.cell? ⟨w.heap.size, 6, none⟩ = some (.int .i64 g3) ∧ x.cell? ⟨w.heap.size, 7, none⟩ = some (.int .i64 g4) ∧ x.cell? ⟨w.heap.size, 8, none⟩ = some (.int .i64 q) ∧ x.cell? ⟨w.heap.size, 9, none⟩ = some (.int .i64 r) ∧ x.cell? ⟨w4'.heap.size, 0, none⟩ = some (.string s) ∧ x.cell? ⟨w4'.heap.size, 1, none⟩ = some (.slice (some ⟨g5, 0, none⟩) n1 n1) ∧ x.cell? ⟨w4'.heap.size, 2, none⟩ = some (.slice (some ⟨g6, 0, none⟩) n2 n2) ∧ x.cell? ⟨w4'.heap.size, 3, none⟩ = some (.int .i64 g0) ∧ x.cell? ⟨w4'.heap.size, 4, none⟩ = some (.int .i64 g1) ∧ x.cell? ⟨w4'.heap.size, 5, none⟩ = some (.int .i64 g2) ∧ x.cell? ⟨w4'.heap.size, 6, none⟩ = some (.int .i64 g3) ∧ x.cell? ⟨w4'.heap.size, 7, none⟩ = some (.int .i64 g4) ∧ x.cell? ⟨w4'.heap.size, 8, none⟩ = some (.int .i64 q) ∧ x.cell? ⟨w4'.heap.size, 9, none⟩ = some (.int .i64 r)) (first | exact Q.out _ BD.out | exact Q.out _ ‹Hid (Below w6.heap.size w6 _)›) (first | (go_at_call 9; refine (CT.out HS.out _ (below_more B6.out BD.out B6.out.size)).mono ?_; rintro e w7 ⟨g10', g11', rfl, hf7, _, _, hb7⟩; have B67 : Hid (Below w6.heap.size w6 w7) := hideP (below_more BD.out hb7 BD.out.size); have P7 := hideP hf7; clear hb7 hf7) | (go_at_call 11; refine (CE.out HS.out _ _ _ _ _ (P6.out.below B67.out).two P7.out.two).mono ?_; rintro e w8 ⟨rfl, hb8⟩; have B8 : Hid (Below w6.heap.size w6 w8) := hideP (below_more B67.out hb8 B67.out.size); clear hb8))
  all_goals
    have B08 : Hid (Below w.heap.size w w8) := hideP (below_more B6.out B8.out B6.out.size)
    clear Q BD P7 B67
    as_aux_lemma =>
      go_wp2_with fail
      refine (CB.out HS2.out _ B08.out).mono ?_
      rintro e w9 ⟨g12', rfl, hr9, _, hb9⟩
      have B69 : Hid (Below w6.heap.size w6 w9) := hideP (below_more B8.out hb9 B8.out.size)
      have B09 : Hid (Below w.heap.size w w9) := hideP (below_more B08.out hb9 B08.out.size)
      go_wp2_with fail
      refine (CF.out HS2.out _ _ _ (V6.out.below B69.out).row hr9.row).mono ?_
      rintro e w10 ⟨rfl, hb10⟩
      have b610 : Below w6.heap.size w6 w10 := below_more B69.out hb10 B69.out.size
      have B10 : Hid (Below w.heap.size w w10) := hideP (below_more B09.out hb10 B09.out.size)
      have A10 := hideP (A6.out.below b610)
      have X10 := hideP (X6.out.below b610)
      have P10 := hideP (P6.out.below b610)
      have V10 := hideP (V6.out.below b610)
      have S10 := hideP (own_below S6.out b610)
      have T10 := hideP (own_below T6.out b610)
      clear hb9 hb10 hr9 b610 B69 B09 B08 B8 A6 X6 P6 V6 S6 T6 hzA hzX
      obtain ⟨q0, q1, q2, q3, q4, q5, q6, q7, q8, q9⟩ := X10.out.at
      have hzX := X10.out.lt
      go_wp2_with fail
      refine (CMF.out _ _ _ P10.out).mono ?_
      rintro e w11 ⟨rfl, hb11, ho11⟩
      have b11 : Below (w.heap.size + 1) w10 w11 := hb11 _ G56.out.1 G56.out.2.1
      have B11 : Hid (Below w.heap.size w w11) := hideP (B10.out.trans (b11.mono (Nat.le_succ _)))
      have A11 : Hid (BoxA w11 w.heap.size #[Value.string s, Value.slice a1 n1 c1, Value.slice a2 n2 c2, Value.int IntKind.i64 g0, Value.int IntKind.i64 g1, Value.int IntKind.i64 g2, Value.int IntKind.i64 g3, Value.int IntKind.i64 g4, Value.int IntKind.i64 q, Value.int IntKind.i64 r]) := hideP ((b11.block _ (Nat.lt_succ_self _)).trans A10.out)
      have S11 := hideP (own_same S10.out (fun b hb => ho11 b (S10.out.lt b hb).2 (own_blk S10.out P10.out.k5 (by decide) hb) (own_blk S10.out P10.out.k6 (by decide) hb)))
      have T11 := hideP (own_same T10.out (fun b hb => ho11 b (T10.out.lt b hb).2 (own_blk T10.out P10.out.k5 (by decide) hb) (own_blk T10.out P10.out.k6 (by decide) hb)))
      have V11 := hideP (V10.out.k7.keep (ho11 g7 V10.out.k7.lt (V10.out.k7.ne P10.out.k5 (by decide)) (V10.out.k7.ne P10.out.k6 (by decide))))
      clear hb11 ho11 b11 A10 X10 S10 T10 V10 P10 B10 q0 q1 q2 q3 q4 q5 q6 q7 q8 q9 hzX
      go_wp2_with fail
      refine (CNB.out _ _ V11.out).mono ?_
      rintro e w12 ⟨rfl, hs12⟩
      have b12 : Below (w.heap.size + 1) w11 w12 := hs12.below.mono G7.out
      have B12 : Hid (Below w.heap.size w w12) := hideP (B11.out.trans (b12.mono (Nat.le_succ _)))
      have A12 : Hid (BoxA w12 w.heap.size #[Value.string s, Value.slice a1 n1 c1, Value.slice a2 n2 c2, Value.int IntKind.i64 g0, Value.int IntKind.i64 g1, Value.int IntKind.i64 g2, Value.int IntKind.i64 g3, Value.int IntKind.i64 g4, Value.int IntKind.i64 q, Value.int IntKind.i64 r]) := hideP ((b12.block _ (Nat.lt_succ_self _)).trans A11.out)
      have S12 := hideP (own_same S11.out (fun b hb => hs12.other b (S11.out.lt b hb).2 (own_blk S11.out V11.out (by decide) hb)))
      have T12 := hideP (own_same T11.out (fun b hb => hs12.other b (T11.out.lt b hb).2 (own_blk T11.out V11.out (by decide) hb)))
      clear hs12 b12 A11 S11 T11 V11 B11
      have hkbd : decide (kb < 0) = false := by simp; omega
      go_wp2_with fail
      refine (CQ.out _ _ _ _ _ T12.out S12.out).mono ?_
      rintro e w13 ⟨rfl, hb13⟩
      have B13 : Hid (Below w.heap.size w w13) := hideP (below_more B12.out hb13 B12.out.size)
      have A13 := hideP (A12.out.below hb13)
      have S13 := hideP (own_below S12.out hb13)
      have T13 := hideP (own_below T12.out hb13)
      clear hb13 A12 S12 T12 B12
      go_wp2_with fail
      refine (CK.out _ _ _ T13.out).mono ?_
      rintro e w14 ⟨rfl, ho14, hb14, hq14⟩
      have B14 : Hid (Below w.heap.size w w14) := hideP (B13.out.trans (hb14.mono (Nat.le_of_lt GA.out)))
      have A14 : Hid (BoxA w14 w.heap.size #[Value.string s, Value.slice a1 n1 c1, Value.slice a2 n2 c2, Value.int IntKind.i64 g0, Value.int IntKind.i64 g1, Value.int IntKind.i64 g2, Value.int IntKind.i64 g3, Value.int IntKind.i64 g4, Value.int IntKind.i64 q, Value.int IntKind.i64 r]) := hideP ((hb14.block _ GA.out).trans A13.out)
      have S14 := hideP (own_same S13.out (fun b hb => hq14 b (fun e => by have h1 := (T13.out.lt b e).1; have h2 := GL.out b hb; omega)))
      have T14 := hideP ho14
      clear ho14 hb14 hq14 A13 S13 T13 B13
      go_wp2_with fail
      refine (CH.out _ _ _ T14.out).mono ?_
      rintro e w15 ⟨rfl, hw15⟩
      subst hw15
      obtain ⟨p0, p1, p2, p3, p4, p5, p6, p7, p8, p9⟩ := A14.out.at
      have hzA := A14.out.lt
      have hkk : (kp != kp) = false := by simp
      go_wp2_with fail
      refine (CT.out HS.out _ B14.out).mono ?_
      rintro e w16 ⟨g13', g14', rfl, hf16, _, _, hb16⟩
      have B16 : Hid (Below w.heap.size w w16) := hideP (below_more B14.out hb16 B14.out.size)
      have S16 := hideP (own_below S14.out hb16)
      have T16 := hideP (own_below T14.out hb16)
      have P16 := hideP hf16
      clear hb16 hf16 A14 S14 T14 B14 p0 p1 p2 p3 p4 p5 p6 p7 p8 p9 hzA
      go_wp2_with fail
      refine (CB.out HS2.out _ B16.out).mono ?_
      rintro e w17 ⟨g15', rfl, hr17, _, hb17⟩
      have B17 : Hid (Below w.heap.size w w17) := hideP (below_more B16.out hb17 B16.out.size)
      have S17 := hideP (own_below S16.out hb17)
      have T17 := hideP (own_below T16.out hb17)
      have P17 := hideP (P16.out.below hb17)
      have V17 := hideP hr17
      clear hb17 hr17 S16 T16 P16 B16
      go_wp2_with fail
      refine (CI.out HS.out HS2.out _ _ _ _ P17.out.two V17.out.row).mono ?_
      rintro e w18 ⟨t13, rfl, ho18, hb18⟩
      obtain ⟨a13, d13, rfl⟩ := ownG_shape ho18
      have B18 : Hid (Below w.heap.size w w18) := hideP (below_more B17.out hb18 B17.out.size)
      have S18 := hideP (own_below S17.out hb18)
      have T18 := hideP (own_below T17.out hb18)
      have U18 := hideP ho18
      clear hb18 ho18 S17 T17 P17 V17 B17
      go_wp2_with fail
      refine (CQ.out _ _ _ _ _ U18.out S18.out).mono ?_
      rintro e w19 ⟨rfl, hb19⟩
      have B19 : Hid (Below w.heap.size w w19) := hideP (below_more B18.out hb19 B18.out.size)
      have T19 := hideP (own_below T18.out hb19)
      clear hb19 S18 T18 U18 B18
      go_wp2_with fail
      refine (CH.out _ _ _ T19.out).mono ?_
      rintro e w20 ⟨rfl, hw20⟩
      subst hw20
      go_wp2
      go_ret
      exact ⟨rfl, B19.out⟩

set_option maxRecDepth 100000 in
theorem setWord_lifted (os : Os) (started : os.Started) (H : Type) (enc : TypeId × Value → H) :
    ReturnsInHanded {} Try.checked os 5 .any (Rows.fnExactSetWordSpec.pre6 enc Try.prog Try.f5 Rows.fnExactSetWordRow.domain false) (Rows.fnExactSetWordSpec.post enc Try.prog Try.f5 false true false false) := by
  refine returnsInHanded_of_change (C := Try.checked) ownT started (by kernel_rfl) Try.func5
    (ChangeSpec.witness6 (enc := enc) (C := Try.checked) false ⟨#[], #[.agg #[.string ByteArray.empty, .slice none 0 0, .slice none 0 0, .int .i64 0, .int .i64 0, .int .i64 0, .int .i64 0, .int .i64 0, .int .i64 0, .int .i64 0], .slice none 0 0], []⟩ 8 (by kernel_rfl) (by kernel_rfl) (by kernel_rfl) (by kernel_rfl)) ?_
  intro W base args ds gs before hval0 hW hcnd _
  have hval : ∀ (j : Nat) t v, Try.f5.params[j]? = some t → args[j]? = some v → Value.okWide Try.prog W .any base t v := hval0
  have hW' := hW
  obtain ⟨p, q, hA0, hV, rfl, hfz, hnd⟩ := hW
  have hA : DataW.TrodAll enc Try.prog W 0 (fun _ => true) true Try.f5.params.toList args.toList ds p := hA0
  rw [Try.params5] at hA hval
  obtain ⟨v0, vs0, d0, ds0, p0, q0, hargs, rfl, rfl, h0, r0⟩ := trodAll_cons hA
  obtain ⟨v1, vs1, d1, ds1, p1, q1, hargs1, rfl, rfl, h1, r1⟩ := trodAll_cons r0
  obtain ⟨rfl, rfl, rfl⟩ := trodAll_nil r1
  subst hargs1
  obtain rfl : args = #[v0, v1] := by cases args; simp_all
  obtain ⟨rfl, rfl⟩ := trodVars_none hV
  have k0 := h0
  have k1 := h1
  have lt0 : ∀ x ∈ p0, x.block < W.heap.size := by obtain ⟨m, hm⟩ := k0; exact DataW.trod_lt m _ _ _ hm
  have lt1 : ∀ x ∈ p1, x.block < W.heap.size := by obtain ⟨m, hm⟩ := k1; exact DataW.trod_lt m _ _ _ hm
  obtain ⟨f, vg, vp, gls, prs, rfl, h2, h3, h4, h5⟩ := openFont (hval 0 27 v0 rfl rfl) h0
  obtain ⟨bs, h6, h7⟩ := openBytes (hval 1 44 v1 rfl rfl) h1
  clear hA0 hval0
  refine (lawSetWord_any h2 h6 h3 h4 h5 h7).mono fun e W' ⟨he, bel⟩ => ?_
  subst he
  exact ⟨_, rfl, _, _, _, [], _, [], hW', trodAll_mk1 (shut_bool Try.underlying4 _), (trodAll_cons_mk (Below.trod laidOut (by kernel_rfl) (of_decide_eq_true (by kernel_rfl)) k0 bel lt0) (trodAll_cons_mk (Below.trod laidOut (by kernel_rfl) (of_decide_eq_true (by kernel_rfl)) k1 bel lt1) trodAll_mk0)), rfl, bel.frame _, fun h => by cases h⟩

theorem setWord_holds : Rows.FnExactSetWordSaid :=
  OpenClaim.holds_of_wide 5 Try.f5 rfl rfl rfl rfl rfl rfl rfl ⟨rfl, rfl, rfl, rfl, rfl⟩ rfl rfl rfl rfl rfl (by kernel_rfl) Try.func5 (by kernel_rfl)
    (of_decide_eq_true (by kernel_rfl)) (by unfold Func.isWrapper; first | (rw [if_pos (by decide +kernel)]; kernel_rfl) | (rw [if_neg (by decide +kernel)]; exact ⟨rfl, rfl⟩))
    (fun os started H enc _ => setWord_lifted os started H enc)
#print axioms setWord_holds
end Go.Proofs.Ytggcfgbpameppaa
