/-
  Proved: for every Font and every word, laws.FnExactWordSize returns true and its arguments read behind the call as before it; no condition.
-/
import Derived.Test.YtggcfgbpameppaaFoH
import Derived.Test.YtggcfgbpameppaaWsi
import Derived.Test.YtggcfgbpameppaaWss
import Derived.Test.YtggcfgbpameppaaBys
namespace Go.Proofs.Ytggcfgbpameppaa
open Go.ChangeShapes Go.WideShapes Go.ChangeAt Go.RowKit Go.Joins
set_option linter.unusedVariables false
set_option linter.unusedSimpArgs false

/-- A size in its box. -/
def BoxZ (wr : World) (B : Nat) (cs : Array Value) : Prop := wr.heap[B]? = some (.cells cs 55 (0, 0))
theorem BoxZ.lt {wr : World} {B : Nat} {cs : Array Value} (h : BoxZ wr B cs) : B < wr.heap.size := (Array.getElem?_eq_some_iff.1 h).1
theorem BoxZ.below {wr w' : World} {B : Nat} {cs : Array Value} (h : BoxZ wr B cs) (hb : Below wr.heap.size wr w') : BoxZ w' B cs := (hb.block _ h.lt).trans h
theorem BoxZ.at {wr : World} {B : Nat} {v0 v1 v2 : Value} (h : BoxZ wr B #[v0, v1, v2]) : wr.cell? ⟨B, 0, none⟩ = some v0 ∧ wr.cell? ⟨B, 1, none⟩ = some v1 ∧ wr.cell? ⟨B, 2, none⟩ = some v2 :=
  ⟨by rw [cell_of_row _ _ _ _ _ _ h]; rfl, by rw [cell_of_row _ _ _ _ _ _ h]; rfl, by rw [cell_of_row _ _ _ _ _ _ h]; rfl⟩

set_option maxRecDepth 20000 in
set_option maxHeartbeats 8000000 in
theorem lawWordSize_any {f : Fo} {vg vp vb : Value} {gs ps : List Q4} {bs : List Int} {w : World} (h : TwoQ w vg vp gs ps) (hb : BRow 0 w vb bs) (hs : f.s.size ≤ 9223372036854775807) (hg : gs.length ≤ 9223372036854775807) (hp : ps.length ≤ 9223372036854775807) (hbl : bs.length ≤ 9223372036854775807) :
    Calls Try.prog 6 #[foV f vg vp, vb] w fun e w' => e = .returned (.bool true) ∧ Below w.heap.size w w' := by
  have HX := hideP h
  have HBR := hideP hb
  obtain ⟨a1, n1, c1, rfl⟩ : ∃ a n c, vg = .slice a n c := by obtain ⟨a, c, rfl⟩ := h.g.shape; exact ⟨_, _, _, rfl⟩
  obtain ⟨a2, n2, c2, rfl⟩ : ∃ a n c, vp = .slice a n c := by obtain ⟨a, c, rfl⟩ := h.p.shape; exact ⟨_, _, _, rfl⟩
  obtain ⟨ab, nb, cb, rfl⟩ : ∃ a n c, vb = .slice a n c := by obtain ⟨a, c, rfl⟩ := hb.shape; exact ⟨_, _, _, rfl⟩
  have hl1 := h.g.len
  have hl2 := h.p.len
  have hl3 := hb.len
  have CZ : Hid (∀ W, Calls Try.prog 7 #[foV f (.slice a1 n1 c1) (.slice a2 n2 c2), .int .i64 1048576] W fun e w' => (∃ m : Int, e = .returned (.int .i64 m) ∧ m ≤ 1048576 ∧ (0 ≤ m → f.s.size ≤ 1048576 ∧ n1 ≤ 1048576 ∧ n2 ≤ 1048576)) ∧ Below W.heap.size W w') := hideP (fun W => szFont_any hs (by omega) (by omega) (by omega) (by omega))
  have HL := hideP (And.intro hl1 hl2)
  have HL3 := hideP hl3
  have hnb : nb ≤ 9223372036854775807 := by omega
  obtain ⟨⟨oa, ob, oc⟩, ho⟩ : ∃ o, o = wsO f gs ps bs := ⟨_, rfl⟩
  have CT : Hid (f.s.size ≤ 1048576 ∧ gs.length ≤ 1048576 ∧ ps.length ≤ 1048576 → ∀ W, Below w.heap.size w W → Calls Try.prog 9 #[foV f (.slice a1 n1 c1) (.slice a2 n2 c2)] W fun e w' => ∃ ug up, e = .returned (foV f ug up) ∧ QRow W.heap.size w' ug gs ∧ QRow W.heap.size w' up ps ∧ Below W.heap.size W w') := hideP (fun hm W hW => toFont_any (HX.out.below hW) hm.2.1 hm.2.2)
  have CB : Hid (bs.length ≤ 1048576 → ∀ W, Below w.heap.size w W → Calls Try.prog 16 #[.slice ab nb cb] W fun e w' => ∃ v', e = .returned v' ∧ BRow W.heap.size w' v' bs ∧ Below W.heap.size W w') := hideP (fun hm W hW => toByteS_any (SRow.below bStable HBR.out hW) hm)
  have CS : Hid (f.s.size ≤ 1048576 ∧ gs.length ≤ 1048576 ∧ ps.length ≤ 1048576 → bs.length ≤ 1048576 → ∀ W ug up ub, TwoQ W ug up gs ps → BRow 0 W ub bs → Calls Try.prog 24 #[foV f ug up, ub] W fun e w' => e = .returned (.agg #[.int .i64 oa, .int .i64 ob, .int .i64 oc]) ∧ Below W.heap.size W w') := hideP (fun hm hm2 W ug up ub hW hU => by have k := specWordSize_any hW hU hm.1 hm.2.1 hm.2.2 hm2; rw [← ho] at k; exact k)
  have CI : Hid (f.s.size ≤ 1048576 ∧ gs.length ≤ 1048576 ∧ ps.length ≤ 1048576 → bs.length ≤ 1048576 → ∀ W ug up ub, TwoQ W ug up gs ps → BRow 0 W ub bs → Calls Try.prog 25 #[foV f ug up, ub] W fun e w' => e = .returned (.agg #[.int .i64 oa, .int .i64 ob, .int .i64 oc]) ∧ Below W.heap.size W w') := hideP (fun hm hm2 W ug up ub hW hU => by have k := implWordSize_any hW hU hm.1 hm.2.1 hm.2.2 hm2; rw [← ho] at k; exact k)
  have CE : Hid (f.s.size ≤ 1048576 ∧ gs.length ≤ 1048576 ∧ ps.length ≤ 1048576 → ∀ W ug up vg vp, TwoQ W ug up gs ps → TwoQ W vg vp gs ps → Calls Try.prog 11 #[foV f ug up, foV f vg vp] W fun e w' => e = .returned (.bool true) ∧ Below W.heap.size W w') := hideP (fun hm W ug up vg vp hW hV => eqFont_same hW hV hm.2.1 hm.2.2)
  have CF : Hid (bs.length ≤ 1048576 → ∀ W u v, BRow 0 W u bs → BRow 0 W v bs → Calls Try.prog 19 #[u, v] W fun e w' => e = .returned (.bool true) ∧ Below W.heap.size W w') := hideP (fun hm W u v hW hV => eqByteS_same hW hV hm)
  clear h hs hg hp hl1 hl2 hl3 ho hb hbl
  obtain ⟨s, g0, g1, g2, g3, g4, q, r⟩ := f
  obtain ⟨z, hz⟩ : ∃ z, z = s.size := ⟨_, rfl⟩
  simp only [foV] at CZ CT CS CI CE ⊢
  have A0 : Hid (BoxA (w.alloc (.cells #[Value.string s, Value.slice a1 n1 c1, Value.slice a2 n2 c2, Value.int IntKind.i64 g0, Value.int IntKind.i64 g1, Value.int IntKind.i64 g2, Value.int IntKind.i64 g3, Value.int IntKind.i64 g4, Value.int IntKind.i64 q, Value.int IntKind.i64 r] 27)) w.heap.size #[Value.string s, Value.slice a1 n1 c1, Value.slice a2 n2 c2, Value.int IntKind.i64 g0, Value.int IntKind.i64 g1, Value.int IntKind.i64 g2, Value.int IntKind.i64 g3, Value.int IntKind.i64 g4, Value.int IntKind.i64 q, Value.int IntKind.i64 r]) := hideP (heap_alloc_new _ _)
  rw [← hz] at CZ CT CS CI CE
  clear hz
  go_enter Try.func6, Try.ntmps6
  by_cases hbig : 1048576 < (nb : Int)
  · go_wp2_with fail
    go_ret
    exact ⟨rfl, below1 _ _⟩
  have HS2 : Hid (bs.length ≤ 1048576) := hideP (by have := HL3.out; omega)
  go_wp2_with fail
  refine (CZ.out _).mono ?_
  rintro e w1 ⟨⟨m, rfl, hml, hm⟩, hb1⟩
  have B1 : Hid (Below w.heap.size w w1) := hideP (below_more (below1 _ _) hb1 (by simp))
  have A1 := hideP (A0.out.below hb1)
  have HM := hideP hm
  clear hb1 hm A0
  by_cases hneg : m < 0
  · go_wp2
    go_ret
    exact ⟨rfl, B1.out⟩
  have HS : Hid (z ≤ 1048576 ∧ gs.length ≤ 1048576 ∧ ps.length ≤ 1048576) := hideP (by have := HM.out (by omega); have h2 := HL.out; exact ⟨this.1, by omega, by omega⟩)
  clear HM CZ
  obtain ⟨p0, p1, p2, p3, p4, p5, p6, p7, p8, p9⟩ := A1.out.at
  have hzA := A1.out.lt
  go_wp2_with fail
  refine (CT.out HS.out _ B1.out).mono ?_
  rintro e w2 ⟨ug, up, rfl, hr1, hr2, hb2⟩
  obtain ⟨a3, m3, d3, rfl⟩ : ∃ a n c, ug = .slice a n c := by obtain ⟨a, c, rfl⟩ := hr1.shape; exact ⟨_, _, _, rfl⟩
  obtain ⟨a4, m4, d4, rfl⟩ : ∃ a n c, up = .slice a n c := by obtain ⟨a, c, rfl⟩ := hr2.shape; exact ⟨_, _, _, rfl⟩
  have B2 : Hid (Below w.heap.size w w2) := hideP (below_more B1.out hb2 B1.out.size)
  have A2 := hideP (A1.out.below hb2)
  have P2 : Hid (TwoQ w2 (.slice a3 m3 d3) (.slice a4 m4 d4) gs ps) := hideP ⟨hr1.mono qStable (Nat.zero_le _), hr2.mono qStable (Nat.zero_le _)⟩
  clear hb2 hr1 hr2 A1 p0 p1 p2 p3 p4 p5 p6 p7 p8 p9 hzA
  go_wp2_with fail
  refine (CB.out HS2.out _ B2.out).mono ?_
  rintro e w2b ⟨vb2, rfl, hr1, hb2⟩
  obtain ⟨a9, m9, d9, rfl⟩ : ∃ a n c, vb2 = .slice a n c := by obtain ⟨a, c, rfl⟩ := hr1.shape; exact ⟨_, _, _, rfl⟩
  have B2b : Hid (Below w.heap.size w w2b) := hideP (below_more B2.out hb2 B2.out.size)
  have A2b := hideP (A2.out.below hb2)
  have P2b := hideP (P2.out.below hb2)
  have V2 : Hid (BRow 0 w2b (.slice a9 m9 d9) bs) := hideP (hr1.mono bStable (Nat.zero_le _))
  clear hb2 hr1 A2 P2
  go_wp2_with fail
  refine (CS.out HS.out HS2.out _ _ _ _ P2b.out V2.out).mono ?_
  rintro e w3' ⟨rfl, hb3⟩
  obtain ⟨w3, hw3⟩ : ∃ W, W = w3'.alloc (.cells #[.int .i64 oa, .int .i64 ob, .int .i64 oc] 55) := ⟨_, rfl⟩
  have b3 : Below w3'.heap.size w3' w3 := by rw [hw3]; exact below1 _ _
  have O3 : Hid (BoxZ w3 w3'.heap.size #[.int .i64 oa, .int .i64 ob, .int .i64 oc]) := hideP (by rw [hw3]; exact heap_alloc_new _ _)
  have B3' : Hid (Below w.heap.size w w3') := hideP (below_more B2b.out hb3 B2b.out.size)
  have B3 : Hid (Below w.heap.size w w3) := hideP (below_more B3'.out b3 B3'.out.size)
  have A3' := hideP (A2b.out.below hb3)
  have A3 := hideP (A3'.out.below b3)
  obtain ⟨p0, p1, p2, p3, p4, p5, p6, p7, p8, p9⟩ := A3'.out.at
  have hzA := A3'.out.lt
  clear hb3 P2b V2 A2b b3
  go_wp2_with fail
  rw [← hw3]
  refine (CT.out HS.out _ B3.out).mono ?_
  rintro e w4' ⟨ug, up, rfl, hr1, hr2, hb4⟩
  obtain ⟨a5, m5, d5, rfl⟩ : ∃ a n c, ug = .slice a n c := by obtain ⟨a, c, rfl⟩ := hr1.shape; exact ⟨_, _, _, rfl⟩
  obtain ⟨a6, m6, d6, rfl⟩ : ∃ a n c, up = .slice a n c := by obtain ⟨a, c, rfl⟩ := hr2.shape; exact ⟨_, _, _, rfl⟩
  obtain ⟨w4, hw4⟩ : ∃ W, W = w4'.alloc (.cells #[Value.string s, Value.slice a5 m5 d5, Value.slice a6 m6 d6, Value.int IntKind.i64 g0, Value.int IntKind.i64 g1, Value.int IntKind.i64 g2, Value.int IntKind.i64 g3, Value.int IntKind.i64 g4, Value.int IntKind.i64 q, Value.int IntKind.i64 r] 34) := ⟨_, rfl⟩
  have b4 : Below w4'.heap.size w4' w4 := by rw [hw4]; exact below1 _ _
  have b34 : Below w3.heap.size w3 w4 := below_more hb4 b4 hb4.size
  have B4 : Hid (Below w.heap.size w w4) := hideP (below_more B3.out b34 B3.out.size)
  have A4 := hideP (A3.out.below b34)
  have O4 := hideP (O3.out.below b34)
  have P4 : Hid (TwoQ w4 (.slice a5 m5 d5) (.slice a6 m6 d6) gs ps) := hideP (TwoQ.below ⟨hr1.mono qStable (Nat.zero_le _), hr2.mono qStable (Nat.zero_le _)⟩ b4)
  have X4 : Hid (BoxF w4 w4'.heap.size #[Value.string s, Value.slice a5 m5 d5, Value.slice a6 m6 d6, Value.int IntKind.i64 g0, Value.int IntKind.i64 g1, Value.int IntKind.i64 g2, Value.int IntKind.i64 g3, Value.int IntKind.i64 g4, Value.int IntKind.i64 q, Value.int IntKind.i64 r]) := hideP (by rw [hw4]; exact heap_alloc_new _ _)
  clear hb4 hr1 hr2 A3 A3' p0 p1 p2 p3 p4 p5 p6 p7 p8 p9 hzA b4 b34 O3 hw3
  go_wp2_with fail
  rw [← hw4]
  refine (CB.out HS2.out _ B4.out).mono ?_
  rintro e w4b ⟨vb4, rfl, hr1, hb4⟩
  obtain ⟨ac, mc, dc, rfl⟩ : ∃ a n c, vb4 = .slice a n c := by obtain ⟨a, c, rfl⟩ := hr1.shape; exact ⟨_, _, _, rfl⟩
  have B4b : Hid (Below w.heap.size w w4b) := hideP (below_more B4.out hb4 B4.out.size)
  have A4b := hideP (A4.out.below hb4)
  have O4b := hideP (O4.out.below hb4)
  have P4b := hideP (P4.out.below hb4)
  have X4b := hideP (X4.out.below hb4)
  have V4b : Hid (BRow 0 w4b (.slice ac mc dc) bs) := hideP (hr1.mono bStable (Nat.zero_le _))
  clear hb4 hr1 A4 O4 P4 X4 hw4
  obtain ⟨q0, q1, q2, q3, q4, q5, q6, q7, q8, q9⟩ := X4b.out.at
  have hzX := X4b.out.lt
  go_wp2_with fail
  refine (CI.out HS.out HS2.out _ _ _ _ P4b.out V4b.out).mono ?_
  rintro e w5' ⟨rfl, hb5⟩
  obtain ⟨w5, hw5⟩ : ∃ W, W = w5'.alloc (.cells #[.int .i64 oa, .int .i64 ob, .int .i64 oc] 55) := ⟨_, rfl⟩
  have b5 : Below w5'.heap.size w5' w5 := by rw [hw5]; exact below1 _ _
  have b45 : Below w4b.heap.size w4b w5 := below_more hb5 b5 hb5.size
  have B5 : Hid (Below w.heap.size w w5) := hideP (below_more B4b.out b45 B4b.out.size)
  have A5 := hideP (A4b.out.below b45)
  have X5 := hideP (X4b.out.below b45)
  have P5 := hideP (P4b.out.below b45)
  have V5 : Hid (BRow 0 w5 (.slice ac mc dc) bs) := hideP (SRow.below bStable V4b.out b45)
  have O5' := hideP (O4b.out.below hb5)
  obtain ⟨o0, o1, o2⟩ := O5'.out.at
  have hzO := O5'.out.lt
  clear hb5 b5 b45 A4b X4b P4b V4b O4b q0 q1 q2 q3 q4 q5 q6 q7 q8 q9 hzX
  go_wp2_with fail
  rw [← hw5]
  refine (eqSize_same oa ob oc _).mono ?_
  rintro e w6 ⟨rfl, hb6⟩
  have B6 : Hid (Below w.heap.size w w6) := hideP (below_more B5.out hb6 B5.out.size)
  have A6 := hideP (A5.out.below hb6)
  have X6 := hideP (X5.out.below hb6)
  have P6 := hideP (P5.out.below hb6)
  have V6 : Hid (BRow 0 w6 (.slice ac mc dc) bs) := hideP (SRow.below bStable V5.out hb6)
  clear hb6 A5 X5 P5 V5 hw5 o0 o1 o2 hzO
  obtain ⟨p0, p1, p2, p3, p4, p5, p6, p7, p8, p9⟩ := A6.out.at
  obtain ⟨q0, q1, q2, q3, q4, q5, q6, q7, q8, q9⟩ := X6.out.at
  have hzA := A6.out.lt
  have hzX := X6.out.lt
  have BD : Hid (Below w6.heap.size w6 w6.drew) := hideP (Below.refl _ _).drew
  have Q : Hid (∀ x : World, Below w6.heap.size w6 x → x.cell? ⟨w.heap.size, 0, none⟩ = some (.string s) ∧ x.cell? ⟨w.heap.size, 1, none⟩ = some (.slice a1 n1 c1) ∧ x.cell? ⟨w.heap.size, 2, none⟩ = some (.slice a2 n2 c2) ∧ x.cell? ⟨w.heap.size, 3, none⟩ = some (.int .i64 g0) ∧ x.cell? ⟨w.heap.size, 4, none⟩ = some (.int .i64 g1) ∧ x.cell? ⟨w.heap.size, 5, none⟩ = some (.int .i64 g2) ∧ x.cell? ⟨w.heap.size, 6, none⟩ = some (.int .i64 g3) ∧ x.cell? ⟨w.heap.size, 7, none⟩ = some (.int .i64 g4) ∧ x.cell? ⟨w.heap.size, 8, none⟩ = some (.int .i64 q) ∧ x.cell? ⟨w.heap.size, 9, none⟩ = some (.int .i64 r) ∧ x.cell? ⟨w4'.heap.size, 0, none⟩ = some (.string s) ∧ x.cell? ⟨w4'.heap.size, 1, none⟩ = some (.slice a5 m5 d5) ∧ x.cell? ⟨w4'.heap.size, 2, none⟩ = some (.slice a6 m6 d6) ∧ x.cell? ⟨w4'.heap.size, 3, none⟩ = some (.int .i64 g0) ∧ x.cell? ⟨w4'.heap.size, 4, none⟩ = some (.int .i64 g1) ∧ x.cell? ⟨w4'.heap.size, 5, none⟩ = some (.int .i64 g2) ∧ x.cell? ⟨w4'.heap.size, 6, none⟩ = some (.int .i64 g3) ∧ x.cell? ⟨w4'.heap.size, 7, none⟩ = some (.int .i64 g4) ∧ x.cell? ⟨w4'.heap.size, 8, none⟩ = some (.int .i64 q) ∧ x.cell? ⟨w4'.heap.size, 9, none⟩ = some (.int .i64 r)) := hideP (fun x hx => ⟨(hx.cell (p := ⟨w.heap.size, 0, none⟩) hzA).trans p0, (hx.cell (p := ⟨w.heap.size, 1, none⟩) hzA).trans p1, (hx.cell (p := ⟨w.heap.size, 2, none⟩) hzA).trans p2, (hx.cell (p := ⟨w.heap.size, 3, none⟩) hzA).trans p3, (hx.cell (p := ⟨w.heap.size, 4, none⟩) hzA).trans p4, (hx.cell (p := ⟨w.heap.size, 5, none⟩) hzA).trans p5, (hx.cell (p := ⟨w.heap.size, 6, none⟩) hzA).trans p6, (hx.cell (p := ⟨w.heap.size, 7, none⟩) hzA).trans p7, (hx.cell (p := ⟨w.heap.size, 8, none⟩) hzA).trans p8, (hx.cell (p := ⟨w.heap.size, 9, none⟩) hzA).trans p9, (hx.cell (p := ⟨w4'.heap.size, 0, none⟩) hzX).trans q0, (hx.cell (p := ⟨w4'.heap.size, 1, none⟩) hzX).trans q1, (hx.cell (p := ⟨w4'.heap.size, 2, none⟩) hzX).trans q2, (hx.cell (p := ⟨w4'.heap.size, 3, none⟩) hzX).trans q3, (hx.cell (p := ⟨w4'.heap.size, 4, none⟩) hzX).trans q4, (hx.cell (p := ⟨w4'.heap.size, 5, none⟩) hzX).trans q5, (hx.cell (p := ⟨w4'.heap.size, 6, none⟩) hzX).trans q6, (hx.cell (p := ⟨w4'.heap.size, 7, none⟩) hzX).trans q7, (hx.cell (p := ⟨w4'.heap.size, 8, none⟩) hzX).trans q8, (hx.cell (p := ⟨w4'.heap.size, 9, none⟩) hzX).trans q9⟩)
  clear p0 p1 p2 p3 p4 p5 p6 p7 p8 p9 q0 q1 q2 q3 q4 q5 q6 q7 q8 q9
  go_wp2_with fail
  go_region_held3 (fun x => x.cell? ⟨w.heap.size, 0, none⟩ = some (.string s) ∧ x.cell? ⟨w.heap.size, 1, none⟩ = some (.slice a1 n1 c1) ∧ x.cell? ⟨w.heap.size, 2, none⟩ = some (.slice a2 n2 c2) ∧ x.cell? ⟨w.heap.size, 3, none⟩ = some (.int .i64 g0) ∧ x.cell? ⟨w.heap.size, 4, none⟩ = some (.int .i64 g1) ∧ x.cell? ⟨w.heap.size, 5, none⟩ = some (.int .i64 g2) ∧ x.cell? ⟨w.heap.size, 6, none⟩ = some (.int .i64 g3) ∧ x.cell? ⟨w.heap.size, 7, none⟩ = some (.int .i64 g4) ∧ x.cell? ⟨w.heap.size, 8, none⟩ = some (.int .i64 q) ∧ x.cell? ⟨w.heap.size, 9, none⟩ = some (.int .i64 r) ∧ x.cell? ⟨w4'.heap.size, 0, none⟩ = some (.string s) ∧ x.cell? ⟨w4'.heap.size, 1, none⟩ = some (.slice a5 m5 d5) ∧ x.cell? ⟨w4'.heap.size, 2, none⟩ = some (.slice a6 m6 d6) ∧ x.cell? ⟨w4'.heap.size, 3, none⟩ = some (.int .i64 g0) ∧ x.cell? ⟨w4'.heap.size, 4, none⟩ = some (.int .i64 g1) ∧ x.cell? ⟨w4'.heap.size, 5, none⟩ = some (.int .i64 g2) ∧ x.cell? ⟨w4'.heap.size, 6, none⟩ = some (.int .i64 g3) ∧ x.cell? ⟨w4'.heap.size, 7, none⟩ = some (.int .i64 g4) ∧ x.cell? ⟨w4'.heap.size, 8, none⟩ = some (.int .i64 q) ∧ x.cell? ⟨w4'.heap.size, 9, none⟩ = some (.int .i64 r)) (first | exact Q.out _ BD.out | exact Q.out _ ‹Hid (Below w6.heap.size w6 _)›) (first | (go_at_call 9; refine (CT.out HS.out _ (below_more B6.out BD.out B6.out.size)).mono ?_; rintro e w7 ⟨ug, up, rfl, hr1, hr2, hb7⟩; obtain ⟨a7, m7, d7, rfl⟩ : ∃ a n c, ug = .slice a n c := (by obtain ⟨a, c, rfl⟩ := hr1.shape; exact ⟨_, _, _, rfl⟩); obtain ⟨a8, m8, d8, rfl⟩ : ∃ a n c, up = .slice a n c := (by obtain ⟨a, c, rfl⟩ := hr2.shape; exact ⟨_, _, _, rfl⟩); have B67 : Hid (Below w6.heap.size w6 w7) := hideP (below_more BD.out hb7 BD.out.size); have P7 : Hid (TwoQ w7 (.slice a7 m7 d7) (.slice a8 m8 d8) gs ps) := hideP ⟨hr1.mono qStable (Nat.zero_le _), hr2.mono qStable (Nat.zero_le _)⟩; clear hb7 hr1 hr2) | (go_at_call 11; refine (CE.out HS.out _ _ _ _ _ (P6.out.below B67.out) P7.out).mono ?_; rintro e w8 ⟨rfl, hb8⟩; have B8 : Hid (Below w6.heap.size w6 w8) := hideP (below_more B67.out hb8 B67.out.size); clear hb8))
  all_goals
    have B08 : Hid (Below w.heap.size w w8) := hideP (below_more B6.out B8.out B6.out.size)
    go_wp2_with fail
    refine (CB.out HS2.out _ B08.out).mono ?_
    rintro e w9 ⟨vb9, rfl, hr9, hb9⟩
    obtain ⟨ae, me, de, rfl⟩ : ∃ a n c, vb9 = .slice a n c := by obtain ⟨a, c, rfl⟩ := hr9.shape; exact ⟨_, _, _, rfl⟩
    have B69 : Hid (Below w6.heap.size w6 w9) := hideP (below_more B8.out hb9 B8.out.size)
    have B09 : Hid (Below w.heap.size w w9) := hideP (below_more B08.out hb9 B08.out.size)
    go_wp2_with fail
    refine (CF.out HS2.out _ _ _ (SRow.below bStable V6.out B69.out) (hr9.mono bStable (Nat.zero_le _))).mono ?_
    rintro e w10 ⟨rfl, hb10⟩
    have B10 : Hid (Below w.heap.size w w10) := hideP (below_more B09.out hb10 B09.out.size)
    clear hb9 hb10 hr9
    go_wp2
    go_ret
    exact ⟨rfl, B10.out⟩

set_option maxRecDepth 100000 in
theorem wordSize_lifted (os : Os) (started : os.Started) (H : Type) (enc : TypeId × Value → H) :
    ReturnsInHanded {} Try.checked os 6 .any (Rows.fnExactWordSizeSpec.pre6 enc Try.prog Try.f6 Rows.fnExactWordSizeRow.domain false) (Rows.fnExactWordSizeSpec.post enc Try.prog Try.f6 false true false false) := by
  refine returnsInHanded_of_change (C := Try.checked) ownT started (by kernel_rfl) Try.func6
    (ChangeSpec.witness6 (enc := enc) (C := Try.checked) false ⟨#[], #[.agg #[.string ByteArray.empty, .slice none 0 0, .slice none 0 0, .int .i64 0, .int .i64 0, .int .i64 0, .int .i64 0, .int .i64 0, .int .i64 0, .int .i64 0], .slice none 0 0], []⟩ 8 (by kernel_rfl) (by kernel_rfl) (by kernel_rfl) (by kernel_rfl)) ?_
  intro W base args ds gs before hval0 hW hcnd _
  have hval : ∀ (j : Nat) t v, Try.f6.params[j]? = some t → args[j]? = some v → Value.okWide Try.prog W .any base t v := hval0
  have hW' := hW
  obtain ⟨p, q, hA0, hV, rfl, hfz, hnd⟩ := hW
  have hA : DataW.TrodAll enc Try.prog W 0 (fun _ => true) true Try.f6.params.toList args.toList ds p := hA0
  rw [Try.params6] at hA hval
  obtain ⟨v0, vs0, d0, ds0, p0, q0, hargs, rfl, rfl, h0, r0⟩ := trodAll_cons hA
  obtain ⟨v1, vs1, d1, ds1, p1, q1, hargs1, rfl, rfl, h1, r1⟩ := trodAll_cons r0
  obtain ⟨rfl, rfl, rfl⟩ := trodAll_nil r1
  subst hargs1
  obtain rfl : args = #[v0, v1] := by cases args; simp_all
  obtain ⟨rfl, rfl⟩ := trodVars_none hV
  have k0 := h0
  have k1 := h1
  have lt0 : ∀ x ∈ p0, x.block < W.heap.size := by obtain ⟨m, hm⟩ := k0; exact DataW.trod_lt m _ _ _ hm
  have lt1 : ∀ x ∈ p1, x.block < W.heap.size := by obtain ⟨m, hm⟩ := k1; exact DataW.trod_lt m _ _ _ hm
  obtain ⟨f, vg, vp, gls, prs, rfl, h2, h3, h4, h5⟩ := openFont (hval 0 27 v0 rfl rfl) h0
  obtain ⟨bs, h6, h7⟩ := openBytes (hval 1 44 v1 rfl rfl) h1
  clear hA0 hval0
  refine (lawWordSize_any h2 h6 h3 h4 h5 h7).mono fun e W' ⟨he, bel⟩ => ?_
  subst he
  exact ⟨_, rfl, _, _, _, [], _, [], hW', trodAll_mk1 (shut_bool Try.underlying4 _), (trodAll_cons_mk (Below.trod laidOut (by kernel_rfl) (of_decide_eq_true (by kernel_rfl)) k0 bel lt0) (trodAll_cons_mk (Below.trod laidOut (by kernel_rfl) (of_decide_eq_true (by kernel_rfl)) k1 bel lt1) trodAll_mk0)), rfl, bel.frame _, fun h => by cases h⟩

theorem wordSize_holds : Rows.FnExactWordSizeSaid :=
  OpenClaim.holds_of_wide 6 Try.f6 rfl rfl rfl rfl rfl rfl rfl ⟨rfl, rfl, rfl, rfl, rfl⟩ rfl rfl rfl rfl rfl (by kernel_rfl) Try.func6 (by kernel_rfl)
    (of_decide_eq_true (by kernel_rfl)) (by unfold Func.isWrapper; first | (rw [if_pos (by decide +kernel)]; kernel_rfl) | (rw [if_neg (by decide +kernel)]; exact ⟨rfl, rfl⟩))
    (fun os started H enc _ => wordSize_lifted os started H enc)
#print axioms wordSize_holds
end Go.Proofs.Ytggcfgbpameppaa
