/-
  Proved: for every Font, laws.FnExactFontOk returns true and its argument reads behind the call as before it; no condition.
-/
import Derived.Test.YtggcfgbpameppaaOpn
import Derived.Test.YtggcfgbpameppaaSpf
import Derived.Test.YtggcfgbpameppaaGly
namespace Go.Proofs.Ytggcfgbpameppaa
open Go.ChangeShapes Go.WideShapes Go.ChangeAt Go.RowKit Go.Joins
set_option linter.unusedVariables false
set_option linter.unusedSimpArgs false

/-- The argument's box. -/
def BoxA (wr : World) (B : Nat) (cs : Array Value) : Prop := wr.heap[B]? = some (.cells cs 27 (0, 0))
theorem BoxA.lt {wr : World} {B : Nat} {cs : Array Value} (h : BoxA wr B cs) : B < wr.heap.size := (Array.getElem?_eq_some_iff.1 h).1
theorem BoxA.below {wr w' : World} {B : Nat} {cs : Array Value} (h : BoxA wr B cs) (hb : Below wr.heap.size wr w') : BoxA w' B cs := (hb.block _ h.lt).trans h
theorem BoxA.at {wr : World} {B : Nat} {v0 v1 v2 v3 v4 v5 v6 v7 v8 v9 : Value} (h : BoxA wr B #[v0, v1, v2, v3, v4, v5, v6, v7, v8, v9]) : wr.cell? ⟨B, 0, none⟩ = some v0 ∧ wr.cell? ⟨B, 1, none⟩ = some v1 ∧ wr.cell? ⟨B, 2, none⟩ = some v2 ∧ wr.cell? ⟨B, 3, none⟩ = some v3 ∧ wr.cell? ⟨B, 4, none⟩ = some v4 ∧ wr.cell? ⟨B, 5, none⟩ = some v5 ∧ wr.cell? ⟨B, 6, none⟩ = some v6 ∧ wr.cell? ⟨B, 7, none⟩ = some v7 ∧ wr.cell? ⟨B, 8, none⟩ = some v8 ∧ wr.cell? ⟨B, 9, none⟩ = some v9 :=
  ⟨by rw [cell_of_row _ _ _ _ _ _ h]; rfl, by rw [cell_of_row _ _ _ _ _ _ h]; rfl, by rw [cell_of_row _ _ _ _ _ _ h]; rfl, by rw [cell_of_row _ _ _ _ _ _ h]; rfl, by rw [cell_of_row _ _ _ _ _ _ h]; rfl, by rw [cell_of_row _ _ _ _ _ _ h]; rfl, by rw [cell_of_row _ _ _ _ _ _ h]; rfl, by rw [cell_of_row _ _ _ _ _ _ h]; rfl, by rw [cell_of_row _ _ _ _ _ _ h]; rfl, by rw [cell_of_row _ _ _ _ _ _ h]; rfl⟩

set_option maxRecDepth 20000 in
set_option maxHeartbeats 8000000 in
theorem lawFont_any {f : Fo} {vg vp : Value} {gs ps : List Q4} {w : World} (h : TwoQ w vg vp gs ps) (hs : f.s.size ≤ 9223372036854775807) (hg : gs.length ≤ 9223372036854775807) (hp : ps.length ≤ 9223372036854775807) :
    Calls Try.prog 3 #[foV f vg vp] w fun e w' => e = .returned (.bool true) ∧ Below w.heap.size w w' := by
  have HX := hideP h
  obtain ⟨a1, n1, c1, rfl⟩ : ∃ a n c, vg = .slice a n c := by obtain ⟨a, c, rfl⟩ := h.g.shape; exact ⟨_, _, _, rfl⟩
  obtain ⟨a2, n2, c2, rfl⟩ : ∃ a n c, vp = .slice a n c := by obtain ⟨a, c, rfl⟩ := h.p.shape; exact ⟨_, _, _, rfl⟩
  have hl1 := h.g.len
  have hl2 := h.p.len
  have CZ : Hid (∀ W, Calls Try.prog 7 #[foV f (.slice a1 n1 c1) (.slice a2 n2 c2), .int .i64 1048576] W fun e w' => (∃ m : Int, e = .returned (.int .i64 m) ∧ m ≤ 1048576 ∧ (0 ≤ m → f.s.size ≤ 1048576 ∧ n1 ≤ 1048576 ∧ n2 ≤ 1048576)) ∧ Below W.heap.size W w') := hideP (fun W => szFont_any hs (by omega) (by omega) (by omega) (by omega))
  have HL := hideP (And.intro hl1 hl2)
  obtain ⟨R, hR⟩ : ∃ R, R = fontB f gs ps := ⟨_, rfl⟩
  have CT : Hid (f.s.size ≤ 1048576 ∧ gs.length ≤ 1048576 ∧ ps.length ≤ 1048576 → ∀ W, Below w.heap.size w W → Calls Try.prog 9 #[foV f (.slice a1 n1 c1) (.slice a2 n2 c2)] W fun e w' => ∃ ug up, e = .returned (foV f ug up) ∧ QRow W.heap.size w' ug gs ∧ QRow W.heap.size w' up ps ∧ Below W.heap.size W w') := hideP (fun hm W hW => toFont_any (HX.out.below hW) hm.2.1 hm.2.2)
  have CS : Hid (f.s.size ≤ 1048576 ∧ gs.length ≤ 1048576 ∧ ps.length ≤ 1048576 → ∀ W ug up, TwoQ W ug up gs ps → Calls Try.prog 8 #[foV f ug up] W fun e w' => e = .returned (.bool R) ∧ Below W.heap.size W w') := hideP (fun hm W ug up hW => by rw [hR]; exact specFont_any hW hm.1 hm.2.1 hm.2.2)
  have CI : Hid (f.s.size ≤ 1048576 ∧ gs.length ≤ 1048576 ∧ ps.length ≤ 1048576 → ∀ W ug up, TwoQ W ug up gs ps → Calls Try.prog 10 #[foV f ug up] W fun e w' => e = .returned (.bool R) ∧ Below W.heap.size W w') := hideP (fun hm W ug up hW => by rw [hR]; exact implFont_any hW hm.1 hm.2.1 hm.2.2)
  have CE : Hid (f.s.size ≤ 1048576 ∧ gs.length ≤ 1048576 ∧ ps.length ≤ 1048576 → ∀ W ug up vg vp, TwoQ W ug up gs ps → TwoQ W vg vp gs ps → Calls Try.prog 11 #[foV f ug up, foV f vg vp] W fun e w' => e = .returned (.bool true) ∧ Below W.heap.size W w') := hideP (fun hm W ug up vg vp hW hV => eqFont_same hW hV hm.2.1 hm.2.2)
  clear h hs hg hp hl1 hl2 hR
  obtain ⟨s, g0, g1, g2, g3, g4, q, r⟩ := f
  obtain ⟨z, hz⟩ : ∃ z, z = s.size := ⟨_, rfl⟩
  simp only [foV] at CZ CT CS CI CE ⊢
  have A0 : Hid (BoxA (w.alloc (.cells #[Value.string s, Value.slice a1 n1 c1, Value.slice a2 n2 c2, Value.int IntKind.i64 g0, Value.int IntKind.i64 g1, Value.int IntKind.i64 g2, Value.int IntKind.i64 g3, Value.int IntKind.i64 g4, Value.int IntKind.i64 q, Value.int IntKind.i64 r] 27)) w.heap.size #[Value.string s, Value.slice a1 n1 c1, Value.slice a2 n2 c2, Value.int IntKind.i64 g0, Value.int IntKind.i64 g1, Value.int IntKind.i64 g2, Value.int IntKind.i64 g3, Value.int IntKind.i64 g4, Value.int IntKind.i64 q, Value.int IntKind.i64 r]) := hideP (heap_alloc_new _ _)
  rw [← hz] at CZ CT CS CI CE
  clear hz
  go_enter Try.func3, Try.ntmps3
  go_wp2_with fail
  refine (CZ.out _).mono ?_
  rintro e w1 ⟨⟨m, rfl, hml, hm⟩, hb1⟩
  have B1 : Hid (Below w.heap.size w w1) := hideP (below_more (below1 _ _) hb1 (by simp))
  have A1 := hideP (A0.out.below hb1)
  have HM := hideP hm
  clear hb1 hm A0
  by_cases hneg : m < 0
  · go_wp2
    go_ret
    exact ⟨rfl, B1.out⟩
  have HS : Hid (z ≤ 1048576 ∧ gs.length ≤ 1048576 ∧ ps.length ≤ 1048576) := hideP (by have := HM.out (by omega); have h2 := HL.out; exact ⟨this.1, by omega, by omega⟩)
  clear HM CZ
  obtain ⟨p0, p1, p2, p3, p4, p5, p6, p7, p8, p9⟩ := A1.out.at
  have hzA := A1.out.lt
  go_wp2_with fail
  refine (CT.out HS.out _ B1.out).mono ?_
  rintro e w2 ⟨ug, up, rfl, hr1, hr2, hb2⟩
  obtain ⟨a3, m3, d3, rfl⟩ : ∃ a n c, ug = .slice a n c := by obtain ⟨a, c, rfl⟩ := hr1.shape; exact ⟨_, _, _, rfl⟩
  obtain ⟨a4, m4, d4, rfl⟩ : ∃ a n c, up = .slice a n c := by obtain ⟨a, c, rfl⟩ := hr2.shape; exact ⟨_, _, _, rfl⟩
  have B2 : Hid (Below w.heap.size w w2) := hideP (below_more B1.out hb2 B1.out.size)
  have A2 := hideP (A1.out.below hb2)
  have P2 : Hid (TwoQ w2 (.slice a3 m3 d3) (.slice a4 m4 d4) gs ps) := hideP ⟨hr1.mono qStable (Nat.zero_le _), hr2.mono qStable (Nat.zero_le _)⟩
  clear hb2 hr1 hr2 A1 p0 p1 p2 p3 p4 p5 p6 p7 p8 p9 hzA
  go_wp2_with fail
  refine (CS.out HS.out _ _ _ P2.out).mono ?_
  rintro e w3 ⟨rfl, hb3⟩
  have B3 : Hid (Below w.heap.size w w3) := hideP (below_more B2.out hb3 B2.out.size)
  have A3 := hideP (A2.out.below hb3)
  clear hb3 P2 A2
  obtain ⟨p0, p1, p2, p3, p4, p5, p6, p7, p8, p9⟩ := A3.out.at
  have hzA := A3.out.lt
  go_wp2_with fail
  refine (CT.out HS.out _ B3.out).mono ?_
  rintro e w4 ⟨ug, up, rfl, hr1, hr2, hb4⟩
  obtain ⟨a5, m5, d5, rfl⟩ : ∃ a n c, ug = .slice a n c := by obtain ⟨a, c, rfl⟩ := hr1.shape; exact ⟨_, _, _, rfl⟩
  obtain ⟨a6, m6, d6, rfl⟩ : ∃ a n c, up = .slice a n c := by obtain ⟨a, c, rfl⟩ := hr2.shape; exact ⟨_, _, _, rfl⟩
  have B4 : Hid (Below w.heap.size w w4) := hideP (below_more B3.out hb4 B3.out.size)
  have A4 := hideP (A3.out.below hb4)
  have P4 : Hid (TwoQ w4 (.slice a5 m5 d5) (.slice a6 m6 d6) gs ps) := hideP ⟨hr1.mono qStable (Nat.zero_le _), hr2.mono qStable (Nat.zero_le _)⟩
  have X4 : Hid (BoxF (w4.alloc (.cells #[Value.string s, Value.slice a5 m5 d5, Value.slice a6 m6 d6, Value.int IntKind.i64 g0, Value.int IntKind.i64 g1, Value.int IntKind.i64 g2, Value.int IntKind.i64 g3, Value.int IntKind.i64 g4, Value.int IntKind.i64 q, Value.int IntKind.i64 r] 34)) w4.heap.size #[Value.string s, Value.slice a5 m5 d5, Value.slice a6 m6 d6, Value.int IntKind.i64 g0, Value.int IntKind.i64 g1, Value.int IntKind.i64 g2, Value.int IntKind.i64 g3, Value.int IntKind.i64 g4, Value.int IntKind.i64 q, Value.int IntKind.i64 r]) := hideP (heap_alloc_new _ _)
  clear hb4 hr1 hr2 A3 p0 p1 p2 p3 p4 p5 p6 p7 p8 p9 hzA
  go_wp2_with fail
  refine (CI.out HS.out _ _ _ (P4.out.below (below1 _ _))).mono ?_
  rintro e w5 ⟨rfl, hb5⟩
  have b45 : Below w4.heap.size w4 w5 := below_more (below1 _ _) hb5 (by simp)
  have B5 : Hid (Below w.heap.size w w5) := hideP (below_more B4.out b45 B4.out.size)
  have A5 := hideP (A4.out.below b45)
  have X5 := hideP (X4.out.below hb5)
  have P5 := hideP (P4.out.below b45)
  clear hb5 b45 A4 X4 P4
  obtain ⟨p0, p1, p2, p3, p4, p5, p6, p7, p8, p9⟩ := A5.out.at
  obtain ⟨q0, q1, q2, q3, q4, q5, q6, q7, q8, q9⟩ := X5.out.at
  have hzA := A5.out.lt
  have hzX := X5.out.lt
  have BD : Hid (Below w5.heap.size w5 w5.drew) := hideP (Below.refl _ _).drew
  have Q : Hid (∀ x : World, Below w5.heap.size w5 x → x.cell? ⟨w.heap.size, 0, none⟩ = some (.string s) ∧ x.cell? ⟨w.heap.size, 1, none⟩ = some (.slice a1 n1 c1) ∧ x.cell? ⟨w.heap.size, 2, none⟩ = some (.slice a2 n2 c2) ∧ x.cell? ⟨w.heap.size, 3, none⟩ = some (.int .i64 g0) ∧ x.cell? ⟨w.heap.size, 4, none⟩ = some (.int .i64 g1) ∧ x.cell? ⟨w.heap.size, 5, none⟩ = some (.int .i64 g2) ∧ x.cell? ⟨w.heap.size, 6, none⟩ = some (.int .i64 g3) ∧ x.cell? ⟨w.heap.size, 7, none⟩ = some (.int .i64 g4) ∧ x.cell? ⟨w.heap.size, 8, none⟩ = some (.int .i64 q) ∧ x.cell? ⟨w.heap.size, 9, none⟩ = some (.int .i64 r) ∧ x.cell? ⟨w4.heap.size, 0, none⟩ = some (.string s) ∧ x.cell? ⟨w4.heap.size, 1, none⟩ = some (.slice a5 m5 d5) ∧ x.cell? ⟨w4.heap.size, 2, none⟩ = some (.slice a6 m6 d6) ∧ x.cell? ⟨w4.heap.size, 3, none⟩ = some (.int .i64 g0) ∧ x.cell? ⟨w4.heap.size, 4, none⟩ = some (.int .i64 g1) ∧ x.cell? ⟨w4.heap.size, 5, none⟩ = some (.int .i64 g2) ∧ x.cell? ⟨w4.heap.size, 6, none⟩ = some (.int .i64 g3) ∧ x.cell? ⟨w4.heap.size, 7, none⟩ = some (.int .i64 g4) ∧ x.cell? ⟨w4.heap.size, 8, none⟩ = some (.int .i64 q) ∧ x.cell? ⟨w4.heap.size, 9, none⟩ = some (.int .i64 r)) := hideP (fun x hx => ⟨(hx.cell (p := ⟨w.heap.size, 0, none⟩) hzA).trans p0, (hx.cell (p := ⟨w.heap.size, 1, none⟩) hzA).trans p1, (hx.cell (p := ⟨w.heap.size, 2, none⟩) hzA).trans p2, (hx.cell (p := ⟨w.heap.size, 3, none⟩) hzA).trans p3, (hx.cell (p := ⟨w.heap.size, 4, none⟩) hzA).trans p4, (hx.cell (p := ⟨w.heap.size, 5, none⟩) hzA).trans p5, (hx.cell (p := ⟨w.heap.size, 6, none⟩) hzA).trans p6, (hx.cell (p := ⟨w.heap.size, 7, none⟩) hzA).trans p7, (hx.cell (p := ⟨w.heap.size, 8, none⟩) hzA).trans p8, (hx.cell (p := ⟨w.heap.size, 9, none⟩) hzA).trans p9, (hx.cell (p := ⟨w4.heap.size, 0, none⟩) hzX).trans q0, (hx.cell (p := ⟨w4.heap.size, 1, none⟩) hzX).trans q1, (hx.cell (p := ⟨w4.heap.size, 2, none⟩) hzX).trans q2, (hx.cell (p := ⟨w4.heap.size, 3, none⟩) hzX).trans q3, (hx.cell (p := ⟨w4.heap.size, 4, none⟩) hzX).trans q4, (hx.cell (p := ⟨w4.heap.size, 5, none⟩) hzX).trans q5, (hx.cell (p := ⟨w4.heap.size, 6, none⟩) hzX).trans q6, (hx.cell (p := ⟨w4.heap.size, 7, none⟩) hzX).trans q7, (hx.cell (p := ⟨w4.heap.size, 8, none⟩) hzX).trans q8, (hx.cell (p := ⟨w4.heap.size, 9, none⟩) hzX).trans q9⟩)
  clear p0 p1 p2 p3 p4 p5 p6 p7 p8 p9 q0 q1 q2 q3 q4 q5 q6 q7 q8 q9
  go_wp2_with fail
  go_region_held3 (fun x => x.cell? ⟨w.heap.size, 0, none⟩ = some (.string s) ∧ x.cell? ⟨w.heap.size, 1, none⟩ = some (.slice a1 n1 c1) ∧ x.cell? ⟨w.heap.size, 2, none⟩ = some (.slice a2 n2 c2) ∧ x.cell? ⟨w.heap.size, 3, none⟩ = some (.int .i64 g0) ∧ x.cell? ⟨w.heap.size, 4, none⟩ = some (.int .i64 g1) ∧ x.cell? ⟨w.heap.size, 5, none⟩ = some (.int .i64 g2) ∧ x.cell? ⟨w.heap.size, 6, none⟩ = some (.int .i64 g3) ∧ x.cell? ⟨w.heap.size, 7, none⟩ = some (.int .i64 g4) ∧ x.cell? ⟨w.heap.size, 8, none⟩ = some (.int .i64 q) ∧ x.cell? ⟨w.heap.size, 9, none⟩ = some (.int .i64 r) ∧ x.cell? ⟨w4.heap.size, 0, none⟩ = some (.string s) ∧ x.cell? ⟨w4.heap.size, 1, none⟩ = some (.slice a5 m5 d5) ∧ x.cell? ⟨w4.heap.size, 2, none⟩ = some (.slice a6 m6 d6) ∧ x.cell? ⟨w4.heap.size, 3, none⟩ = some (.int .i64 g0) ∧ x.cell? ⟨w4.heap.size, 4, none⟩ = some (.int .i64 g1) ∧ x.cell? ⟨w4.heap.size, 5, none⟩ = some (.int .i64 g2) ∧ x.cell? ⟨w4.heap.size, 6, none⟩ = some (.int .i64 g3) ∧ x.cell? ⟨w4.heap.size, 7, none⟩ = some (.int .i64 g4) ∧ x.cell? ⟨w4.heap.size, 8, none⟩ = some (.int .i64 q) ∧ x.cell? ⟨w4.heap.size, 9, none⟩ = some (.int .i64 r)) (first | exact Q.out _ BD.out | exact Q.out _ ‹Hid (Below w5.heap.size w5 _)›) (first | (go_at_call 9; refine (CT.out HS.out _ (below_more B5.out BD.out B5.out.size)).mono ?_; rintro e w6 ⟨ug, up, rfl, hr1, hr2, hb6⟩; obtain ⟨a7, m7, d7, rfl⟩ : ∃ a n c, ug = .slice a n c := (by obtain ⟨a, c, rfl⟩ := hr1.shape; exact ⟨_, _, _, rfl⟩); obtain ⟨a8, m8, d8, rfl⟩ : ∃ a n c, up = .slice a n c := (by obtain ⟨a, c, rfl⟩ := hr2.shape; exact ⟨_, _, _, rfl⟩); have B56 : Hid (Below w5.heap.size w5 w6) := hideP (below_more BD.out hb6 BD.out.size); have P6 : Hid (TwoQ w6 (.slice a7 m7 d7) (.slice a8 m8 d8) gs ps) := hideP ⟨hr1.mono qStable (Nat.zero_le _), hr2.mono qStable (Nat.zero_le _)⟩; clear hb6 hr1 hr2) | (go_at_call 11; refine (CE.out HS.out _ _ _ _ _ (P5.out.below B56.out) P6.out).mono ?_; rintro e w7 ⟨rfl, hb7⟩; have B7 : Hid (Below w5.heap.size w5 w7) := hideP (below_more B56.out hb7 B56.out.size); clear hb7))
  all_goals
    cases R
    · go_wp2
      go_ret
      exact ⟨rfl, below_more B5.out B7.out B5.out.size⟩
    · go_wp2
      go_ret
      exact ⟨rfl, below_more B5.out B7.out B5.out.size⟩

set_option maxRecDepth 100000 in
theorem fontOk_lifted (os : Os) (started : os.Started) (H : Type) (enc : TypeId × Value → H) :
    ReturnsInHanded {} Try.checked os 3 .any (Rows.fnExactFontOkSpec.pre6 enc Try.prog Try.f3 Rows.fnExactFontOkRow.domain false) (Rows.fnExactFontOkSpec.post enc Try.prog Try.f3 false true false false) := by
  refine returnsInHanded_of_change (C := Try.checked) ownT started (by kernel_rfl) Try.func3
    (ChangeSpec.witness6 (enc := enc) (C := Try.checked) false ⟨#[], #[.agg #[.string ByteArray.empty, .slice none 0 0, .slice none 0 0, .int .i64 0, .int .i64 0, .int .i64 0, .int .i64 0, .int .i64 0, .int .i64 0, .int .i64 0]], []⟩ 8 (by kernel_rfl) (by kernel_rfl) (by kernel_rfl) (by kernel_rfl)) ?_
  intro W base args ds gs before hval0 hW hcnd _
  have hval : ∀ (j : Nat) t v, Try.f3.params[j]? = some t → args[j]? = some v → Value.okWide Try.prog W .any base t v := hval0
  have hW' := hW
  obtain ⟨p, q, hA0, hV, rfl, hfz, hnd⟩ := hW
  have hA : DataW.TrodAll enc Try.prog W 0 (fun _ => true) true Try.f3.params.toList args.toList ds p := hA0
  rw [Try.params3] at hA hval
  obtain ⟨v0, vs0, d0, ds0, p0, q0, hargs, rfl, rfl, h0, r0⟩ := trodAll_cons hA
  obtain ⟨rfl, rfl, rfl⟩ := trodAll_nil r0
  obtain rfl : args = #[v0] := by cases args; simp_all
  obtain ⟨rfl, rfl⟩ := trodVars_none hV
  have k0 := h0
  have lt0 : ∀ x ∈ p0, x.block < W.heap.size := by obtain ⟨m, hm⟩ := k0; exact DataW.trod_lt m _ _ _ hm
  obtain ⟨f, vg, vp, gls, prs, rfl, h2, h3, h4, h5⟩ := openFont (hval 0 27 v0 rfl rfl) h0
  clear hA0 hval0
  refine (lawFont_any h2 h3 h4 h5).mono fun e W' ⟨he, bel⟩ => ?_
  subst he
  exact ⟨_, rfl, _, _, _, [], _, [], hW', trodAll_mk1 (shut_bool Try.underlying4 _), (trodAll_cons_mk (Below.trod laidOut (by kernel_rfl) (of_decide_eq_true (by kernel_rfl)) k0 bel lt0) trodAll_mk0), rfl, bel.frame _, fun h => by cases h⟩

theorem fontOk_holds : Rows.FnExactFontOkSaid :=
  OpenClaim.holds_of_wide 3 Try.f3 rfl rfl rfl rfl rfl rfl rfl ⟨rfl, rfl, rfl, rfl, rfl⟩ rfl rfl rfl rfl rfl (by kernel_rfl) Try.func3 (by kernel_rfl)
    (of_decide_eq_true (by kernel_rfl)) (by unfold Func.isWrapper; first | (rw [if_pos (by decide +kernel)]; kernel_rfl) | (rw [if_neg (by decide +kernel)]; exact ⟨rfl, rfl⟩))
    (fun os started H enc _ => fontOk_lifted os started H enc)
#print axioms fontOk_holds
end Go.Proofs.Ytggcfgbpameppaa
