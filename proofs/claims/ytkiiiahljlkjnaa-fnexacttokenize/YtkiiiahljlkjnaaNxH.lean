/-
  Proved: for every list of numbers, every text, every place and every state, laws.FnExactNext returns true and its arguments read behind the call as before it; no condition.
-/
import Derived.Test.YtkiiiahljlkjnaaOpn
import Derived.Test.YtkiiiahljlkjnaaNin
import Derived.ChangeMaps5
namespace Go.Proofs.Ytkiiiahljlkjnaa
open Go.ChangeShapes Go.WideShapes Go.ChangeAt Go.RowKit Go.Joins
open Go.ChangeMaps (open_string)
set_option linter.unusedVariables false
set_option linter.unusedSimpArgs false

/-- A scan in its box. -/
def BoxN (wr : World) (B : Nat) (cs : Array Value) : Prop := wr.heap[B]? = some (.cells cs 36 (0, 0))
theorem BoxN.lt {wr : World} {B : Nat} {cs : Array Value} (h : BoxN wr B cs) : B < wr.heap.size := (Array.getElem?_eq_some_iff.1 h).1
theorem BoxN.below {wr w' : World} {B : Nat} {cs : Array Value} (h : BoxN wr B cs) (hb : Below wr.heap.size wr w') : BoxN w' B cs := (hb.block _ h.lt).trans h
theorem BoxN.at {wr : World} {B : Nat} {v0 v1 v2 v3 v4 v5 : Value} (h : BoxN wr B #[v0, v1, v2, v3, v4, v5]) : wr.cell? ⟨B, 0, none⟩ = some v0 ∧ wr.cell? ⟨B, 1, none⟩ = some v1 ∧ wr.cell? ⟨B, 2, none⟩ = some v2 ∧ wr.cell? ⟨B, 3, none⟩ = some v3 ∧ wr.cell? ⟨B, 4, none⟩ = some v4 ∧ wr.cell? ⟨B, 5, none⟩ = some v5 := by
  refine ⟨?_, ?_, ?_, ?_, ?_, ?_⟩ <;> (rw [cell_of_row _ _ _ _ _ _ h]; rfl)
theorem Copied.row {B n : Nat} {w w' : World} {zs : List Int} (h : Copied B n w w' zs) : Row w' (.slice (some ⟨B, 0, none⟩) n n) zs := Row.own h.1 h.2.1 h.2.2.2

set_option maxRecDepth 20000 in
set_option maxHeartbeats 8000000 in
theorem lawNext_any {v : Value} {zs : List Int} {s : ByteArray} {a st : Int} {w : World} (h : Row w v zs) (hs : s.size ≤ 9223372036854775807) :
    Calls Try.prog 5 #[v, .string s, .int .i64 a, .int .i64 st] w fun e w' => e = .returned (.bool true) ∧ Below w.heap.size w w' := by
  have HX := hideP h
  obtain ⟨x, hx⟩ : ∃ x, nextS zs s a st = x := ⟨_, rfl⟩
  have CS : Hid (∀ W u, Row W u zs → Calls Try.prog 14 #[u, .string s, .int .i64 a, .int .i64 st] W fun e w' => e = .returned (scV x) ∧ Below W.heap.size W w') := hideP (fun W u hW => by have k := specNext_any (a := a) (st := st) hW hs; rw [hx] at k; exact k)
  have CI : Hid (∀ W u, Row W u zs → Calls Try.prog 13 #[u, .string s, .int .i64 a, .int .i64 st] W fun e w' => e = .returned (scV x) ∧ Below W.heap.size W w') := hideP (fun W u hW => by have k := implNext_any (s := s) (a := a) (st := st) hW; rw [hx] at k; exact k)
  obtain ⟨ao, n, cap, rfl, hn, hr⟩ := h
  have CE : Hid (∀ W, Calls Try.prog 16 #[scV x, scV x] W fun e w' => e = .returned (.bool true) ∧ Below W.heap.size W w') := hideP (fun W => eqScan_same x W)
  have CT : Hid (n ≤ 1048576 → ∀ W, Below w.heap.size w W → Calls Try.prog 15 #[.slice ao n cap] W fun e w' => ∃ B, e = .returned (.slice (some ⟨B, 0, none⟩) n n) ∧ Row w' (.slice (some ⟨B, 0, none⟩) n n) zs ∧ Below W.heap.size W w') := hideP (fun hm W hW => (toInts_any (HX.out.below hW) (by omega)).mono (fun e w' hh => by
    obtain ⟨rfl, hc⟩ := hh
    rw [hn] at hc ⊢
    exact ⟨_, rfl, hc.row, hc.2.2.1⟩))
  have CQ : Hid (n ≤ 1048576 → ∀ W u1 u2, Row W u1 zs → Row W u2 zs → Calls Try.prog 17 #[u1, u2] W fun e w' => e = .returned (.bool true) ∧ Below W.heap.size W w') := hideP (fun hm W u1 u2 h1 h2 => (eqInts_any h1 h2 (by omega)).mono (fun e w' hh => by
    obtain ⟨rfl, hb⟩ := hh
    exact ⟨by simp, hb⟩))
  clear hr hn hx
  obtain ⟨z, hz⟩ : ∃ z, z = s.size := ⟨_, rfl⟩
  obtain ⟨xk, xc, xh, xn, xa, xs⟩ := x
  simp only [scV] at CS CI CE
  go_enter Try.func5, Try.ntmps5
  by_cases k1 : 1048576 < n
  · have k2 : (1048576 : Int) < (n : Int) := by omega
    go_wp2
    go_ret
    exact ⟨rfl, Below.refl _ _⟩
  have k2 : ¬ (1048576 : Int) < (n : Int) := by omega
  have k3 : decide ((1048576 : Int) < (n : Int)) = false := by simp; omega
  have HS : Hid (n ≤ 1048576) := hideP (by omega)
  by_cases k4 : (1048576 : Int) < (s.size : Int)
  · go_wp2
    go_ret
    exact ⟨rfl, Below.refl _ _⟩
  have k5 : decide ((1048576 : Int) < (s.size : Int)) = false := by simp; omega
  go_wp2_with fail
  refine (CT.out HS.out _ (Below.refl _ _)).mono ?_
  rintro e w1 ⟨B1, rfl, r1, hb1⟩
  have D1 := hideP hb1
  have R1 := hideP r1
  clear hb1 r1
  go_wp2_with fail
  refine (CS.out _ _ R1.out).mono ?_
  rintro e w2' ⟨rfl, hb2⟩
  obtain ⟨w2, hw2⟩ : ∃ W, W = w2'.alloc (.cells #[.int .i64 xk, .int .i64 xc, .int .i64 xh, .string xn, .int .i64 xa, .int .i64 xs] 36) := ⟨_, rfl⟩
  have b2 : Below w2'.heap.size w2' w2 := by rw [hw2]; exact below1 _ _
  have O2 : Hid (BoxN w2 w2'.heap.size #[.int .i64 xk, .int .i64 xc, .int .i64 xh, .string xn, .int .i64 xa, .int .i64 xs]) := hideP (by rw [hw2]; exact heap_alloc_new _ _)
  have D2' := hideP (below_more D1.out hb2 D1.out.size)
  have D2 := hideP (below_more D2'.out b2 D2'.out.size)
  clear hb2 b2 R1
  go_wp2_with fail
  rw [← hw2]
  refine (CT.out HS.out _ D2.out).mono ?_
  rintro e w3 ⟨B3, rfl, r3, hb3⟩
  have D3 := hideP (below_more D2.out hb3 D2.out.size)
  have O3 := hideP (O2.out.below hb3)
  have R3 := hideP r3
  clear hb3 r3 O2 hw2
  go_wp2_with fail
  refine (CI.out _ _ R3.out).mono ?_
  rintro e w4' ⟨rfl, hb4⟩
  obtain ⟨w4, hw4⟩ : ∃ W, W = w4'.alloc (.cells #[.int .i64 xk, .int .i64 xc, .int .i64 xh, .string xn, .int .i64 xa, .int .i64 xs] 36) := ⟨_, rfl⟩
  have b4 : Below w4'.heap.size w4' w4 := by rw [hw4]; exact below1 _ _
  have D4' := hideP (below_more D3.out hb4 D3.out.size)
  have D4 := hideP (below_more D4'.out b4 D4'.out.size)
  have O4' := hideP (O3.out.below hb4)
  have R4 := hideP ((R3.out.below hb4).below b4)
  obtain ⟨o0, o1, o2, o3, o4, o5⟩ := O4'.out.at
  have hzO := O4'.out.lt
  clear hb4 b4 R3 O3
  go_wp2_with fail
  rw [← hw4]
  refine (CE.out _).mono ?_
  rintro e w5 ⟨rfl, hb5⟩
  have D5 := hideP (below_more D4.out hb5 D4.out.size)
  have R5 := hideP (R4.out.below hb5)
  clear hb5 R4 hw4 o0 o1 o2 o3 o4 o5 hzO
  go_wp2_with fail
  refine (CT.out HS.out _ D5.out).mono ?_
  rintro e w6 ⟨B6, rfl, r6, hb6⟩
  have D6 := hideP (below_more D5.out hb6 D5.out.size)
  have R6 := hideP (R5.out.below hb6)
  have V6 := hideP r6
  clear hb6 r6 R5
  go_wp2_with fail
  refine (CQ.out HS.out _ _ _ R6.out V6.out).mono ?_
  rintro e w7 ⟨rfl, hb7⟩
  have D7 := hideP (below_more D6.out hb7 D6.out.size)
  clear hb7
  go_wp2
  go_ret
  exact ⟨rfl, D7.out⟩

set_option maxRecDepth 100000 in
theorem next_lifted (os : Os) (started : os.Started) (H : Type) (enc : TypeId × Value → H) :
    ReturnsInHanded {} Try.checked os 5 .any (Rows.fnExactNextSpec.pre6 enc Try.prog Try.f5 Rows.fnExactNextRow.domain false) (Rows.fnExactNextSpec.post enc Try.prog Try.f5 false true false false) := by
  refine returnsInHanded_of_change (C := Try.checked) ownT started (by kernel_rfl) Try.func5
    (ChangeSpec.witness6 (enc := enc) (C := Try.checked) false ⟨#[], #[.slice none 0 0, .string ByteArray.empty, .int .i64 0, .int .i64 0], []⟩ 8 (by kernel_rfl) (by kernel_rfl) (by kernel_rfl) (by kernel_rfl)) ?_
  intro W base args ds gs before hval0 hW hcnd _
  have hval : ∀ (j : Nat) t v, Try.f5.params[j]? = some t → args[j]? = some v → Value.okWide Try.prog W .any base t v := hval0
  have hW' := hW
  obtain ⟨p, q, hA0, hV, rfl, hfz, hnd⟩ := hW
  have hA : DataW.TrodAll enc Try.prog W 0 (fun _ => true) true Try.f5.params.toList args.toList ds p := hA0
  rw [Try.params5] at hA hval
  obtain ⟨v0, vs0, d0, ds0, p0, q0, hargs, rfl, rfl, h0, r0⟩ := trodAll_cons hA
  obtain ⟨v1, vs1, d1, ds1, p1, q1, hargs1, rfl, rfl, h1, r1⟩ := trodAll_cons r0
  obtain ⟨v2, vs2, d2, ds2, p2, q2, hargs2, rfl, rfl, h2, r2⟩ := trodAll_cons r1
  obtain ⟨v3, vs3, d3, ds3, p3, q3, hargs3, rfl, rfl, h3, r3⟩ := trodAll_cons r2
  obtain ⟨rfl, rfl, rfl⟩ := trodAll_nil r3
  subst hargs3
  subst hargs2
  subst hargs1
  obtain rfl : args = #[v0, v1, v2, v3] := by cases args; simp_all
  obtain ⟨rfl, rfl⟩ := trodVars_none hV
  have k0 := h0
  have k1 := h1
  have k2 := h2
  have k3 := h3
  have lt0 : ∀ x ∈ p0, x.block < W.heap.size := by obtain ⟨m, hm⟩ := k0; exact DataW.trod_lt m _ _ _ hm
  have lt1 : ∀ x ∈ p1, x.block < W.heap.size := by obtain ⟨m, hm⟩ := k1; exact DataW.trod_lt m _ _ _ hm
  have lt2 : ∀ x ∈ p2, x.block < W.heap.size := by obtain ⟨m, hm⟩ := k2; exact DataW.trod_lt m _ _ _ hm
  have lt3 : ∀ x ∈ p3, x.block < W.heap.size := by obtain ⟨m, hm⟩ := k3; exact DataW.trod_lt m _ _ _ hm
  obtain ⟨zs, hrow⟩ := open_row (hval 0 24 v0 rfl rfl) h0
  obtain ⟨s, rfl, rfl, rfl, hs⟩ := open_string Try.underlying9 (hval 1 9 v1 rfl rfl) h1
  obtain ⟨a, rfl, rfl, rfl, haw⟩ := open_int Try.underlying2 (hval 2 2 v2 rfl rfl) h2
  obtain ⟨st, rfl, rfl, rfl, hsw⟩ := open_int Try.underlying2 (hval 3 2 v3 rfl rfl) h3
  have hs2 : s.size ≤ 9223372036854775807 := by
    unfold maxLen at hs
    exact hs
  clear hA0 hval0
  refine (lawNext_any hrow hs2).mono fun e W' ⟨he, bel⟩ => ?_
  subst he
  exact ⟨_, rfl, _, _, _, [], _, [], hW', trodAll_mk1 (shut_bool Try.underlying4 _), (trodAll_cons_mk (Below.trod laidOut (by kernel_rfl) (of_decide_eq_true (by kernel_rfl)) k0 bel lt0) (trodAll_cons_mk (Below.trod laidOut (by kernel_rfl) (of_decide_eq_true (by kernel_rfl)) k1 bel lt1) (trodAll_cons_mk (Below.trod laidOut (by kernel_rfl) (of_decide_eq_true (by kernel_rfl)) k2 bel lt2) (trodAll_cons_mk (Below.trod laidOut (by kernel_rfl) (of_decide_eq_true (by kernel_rfl)) k3 bel lt3) trodAll_mk0)))), rfl, bel.frame _, fun h => by cases h⟩

theorem next_holds : Rows.FnExactNextSaid :=
  OpenClaim.holds_of_wide 5 Try.f5 rfl rfl rfl rfl rfl rfl rfl ⟨rfl, rfl, rfl, rfl, rfl⟩ rfl rfl rfl rfl rfl (by kernel_rfl) Try.func5 (by kernel_rfl)
    (of_decide_eq_true (by kernel_rfl)) (by unfold Func.isWrapper; first | (rw [if_pos (by decide +kernel)]; kernel_rfl) | (rw [if_neg (by decide +kernel)]; exact ⟨rfl, rfl⟩))
    (fun os started H enc _ => next_lifted os started H enc)
#print axioms next_holds
end Go.Proofs.Ytkiiiahljlkjnaa
