/-
  Proved: for every Sheet, laws.FnExactSheetOk returns true and its argument reads behind the call as before it; no condition.
-/
import Derived.Test.YtdokbboammpffaaRows
import Derived.Test.YtdokbboammpffaaSht
import Derived.ProofKit
import Derived.OpenShut
import Derived.ShutString
import Derived.ChangeOld
namespace Go.Proofs.Ytdokbboammpffaa
open Go.ChangeShapes Go.WideShapes Go.ChangeAt Go.RowKit
set_option linter.unusedVariables false
set_option linter.unusedSimpArgs false

set_option maxHeartbeats 4000000 in
theorem lawSheetOk_any (x : Sh) (w : World) : Calls Try.prog 4 #[shV x] w fun e w' => e = .returned (.bool true) ∧ Below w.heap.size w w' := by
  obtain ⟨sb, hsb⟩ : ∃ sb, sb = shB x := ⟨_, rfl⟩
  have CT : Hid (∀ W, Calls Try.prog 9 #[shV x] W fun r w' => r = .returned (shV x) ∧ Below W.heap.size W w') := hideP (fun W => toSheet_any x W)
  have CS : Hid (∀ W, Calls Try.prog 8 #[shV x] W fun e w' => e = .returned (.bool sb) ∧ Below W.heap.size W w') := hideP (fun W => by rw [hsb]; exact specSheet_any x W)
  have CI : Hid (∀ W, Calls Try.prog 10 #[shV x] W fun e w' => e = .returned (.bool sb) ∧ Below W.heap.size W w') := hideP (fun W => by rw [hsb]; exact implSheet_any x W)
  clear hsb
  obtain ⟨ht, dp, g0, g1, g2, g3, g4, nt⟩ := x
  simp only [shV] at CT CS CI ⊢
  go_enter Try.func4, Try.ntmps4
  go_wp2_with fail
  refine (CT.out _).mono ?_
  rintro e w1 ⟨rfl, hb1⟩
  have B1 : Hid (Below w.heap.size w w1) := hideP (below_more (below1 _ _) hb1 (by simp))
  have QA : Hid (w1.heap[w.heap.size]? = some (.cells #[.int .i64 ht, .int .i64 dp, .int .i64 g0, .int .i64 g1, .int .i64 g2, .int .i64 g3, .int .i64 g4, .int .i64 nt] 33 (0, 0))) := hideP ((hb1.block _ (by simp)).trans (heap_alloc_new _ _))
  clear hb1
  go_wp2_with fail
  refine (CS.out _).mono ?_
  rintro e w2 ⟨rfl, hb2⟩
  have hz1 : w.heap.size < w1.heap.size := (Array.getElem?_eq_some_iff.1 QA.out).1
  have B2 : Hid (Below w.heap.size w w2) := hideP (below_more B1.out hb2 B1.out.size)
  have qa2 : w2.heap[w.heap.size]? = some (.cells #[.int .i64 ht, .int .i64 dp, .int .i64 g0, .int .i64 g1, .int .i64 g2, .int .i64 g3, .int .i64 g4, .int .i64 nt] 33 (0, 0)) := (hb2.block _ hz1).trans QA.out
  have c0 : w2.cell? ⟨w.heap.size, 0, none⟩ = some (.int .i64 ht) := by rw [cell_of_row _ _ _ _ 33 _ qa2]; rfl
  have c1 : w2.cell? ⟨w.heap.size, 1, none⟩ = some (.int .i64 dp) := by rw [cell_of_row _ _ _ _ 33 _ qa2]; rfl
  have c2 : w2.cell? ⟨w.heap.size, 2, none⟩ = some (.int .i64 g0) := by rw [cell_of_row _ _ _ _ 33 _ qa2]; rfl
  have c3 : w2.cell? ⟨w.heap.size, 3, none⟩ = some (.int .i64 g1) := by rw [cell_of_row _ _ _ _ 33 _ qa2]; rfl
  have c4 : w2.cell? ⟨w.heap.size, 4, none⟩ = some (.int .i64 g2) := by rw [cell_of_row _ _ _ _ 33 _ qa2]; rfl
  have c5 : w2.cell? ⟨w.heap.size, 5, none⟩ = some (.int .i64 g3) := by rw [cell_of_row _ _ _ _ 33 _ qa2]; rfl
  have c6 : w2.cell? ⟨w.heap.size, 6, none⟩ = some (.int .i64 g4) := by rw [cell_of_row _ _ _ _ 33 _ qa2]; rfl
  have c7 : w2.cell? ⟨w.heap.size, 7, none⟩ = some (.int .i64 nt) := by rw [cell_of_row _ _ _ _ 33 _ qa2]; rfl
  clear hb2 qa2 QA hz1
  go_wp2_with fail
  refine (CT.out _).mono ?_
  rintro e w3 ⟨rfl, hb3⟩
  have B3 : Hid (Below w.heap.size w w3) := hideP (below_more B2.out hb3 B2.out.size)
  clear hb3 c0 c1 c2 c3 c4 c5 c6 c7
  go_wp2_with fail
  refine (CI.out _).mono ?_
  rintro e w4 ⟨rfl, hb4⟩
  have B4 : Hid (Below w.heap.size w w4) := hideP (below_more B3.out hb4 B3.out.size)
  clear hb4
  cases sb
  · go_wp2
    go_ret
    exact ⟨rfl, B4.out⟩
  · go_wp2
    go_ret
    exact ⟨rfl, B4.out⟩

theorem ownS : ownKnob Try.prog.godebug = none := by kernel_rfl
theorem laidS : laidOutB Try.prog = true := by kernel_rfl
theorem cellsSL : Try.prog.cellsOf 33 = 8 := by kernel_rfl
theorem cellsSG : Try.prog.cellsOf 23 = 5 := by kernel_rfl
theorem cellsS2 : Try.prog.cellsOf 2 = 1 := by kernel_rfl
theorem arrayS {α : Type} {cs : Array α} (h : cs.size = 8) : ∃ c0 c1 c2 c3 c4 c5 c6 c7, cs = #[c0, c1, c2, c3, c4, c5, c6, c7] := by
  obtain ⟨l⟩ := cs
  match l, h with
  | [c0, c1, c2, c3, c4, c5, c6, c7], _ => exact ⟨c0, c1, c2, c3, c4, c5, c6, c7, rfl⟩
theorem listS5 {α : Type} {cs : List α} (h : cs.length = 5) : ∃ c0 c1 c2 c3 c4, cs = [c0, c1, c2, c3, c4] := by
  match cs, h with
  | [c0, c1, c2, c3, c4], _ => exact ⟨c0, c1, c2, c3, c4, rfl⟩
theorem listS4 {α : Type} {cs : List α} (h : cs.length = 4) : ∃ c0 c1 c2 c3, cs = [c0, c1, c2, c3] := by
  match cs, h with
  | [c0, c1, c2, c3], _ => exact ⟨c0, c1, c2, c3, rfl⟩
theorem openGlueS {H : Type} {enc : TypeId × Value → H} {w : World} {base : Nat} {spare : Nat → Bool} {held : Bool} {n : Nat} {a b c d e : Value} {y : DataW H × List MemPlace}
    (h : DataW.trod enc Try.prog w base spare held n 23 [a, b, c, d, e] = some y) : ∃ a' b' c' d' e' : Int, a = .int .i64 a' ∧ b = .int .i64 b' ∧ c = .int .i64 c' ∧ d = .int .i64 d' ∧ e = .int .i64 e' := by
  obtain ⟨xs, m, _, _, _, hlen, hfs⟩ := DataW.trod_struct Try.underlying23 h
  obtain ⟨y0, y1, y2, y3, y4, rfl⟩ := listS5 (by simpa using hlen)
  have g0 : DataW.trod enc Try.prog w base spare held m 2 [a] = some y0 := by simpa [Value.cells, cellsS2] using hfs 0 _ rfl
  have g1 : DataW.trod enc Try.prog w base spare held m 2 [b] = some y1 := by simpa [Value.cells, cellsS2] using hfs 1 _ rfl
  have g2 : DataW.trod enc Try.prog w base spare held m 2 [c] = some y2 := by simpa [Value.cells, cellsS2] using hfs 2 _ rfl
  have g3 : DataW.trod enc Try.prog w base spare held m 2 [d] = some y3 := by simpa [Value.cells, cellsS2] using hfs 3 _ rfl
  have g4 : DataW.trod enc Try.prog w base spare held m 2 [e] = some y4 := by simpa [Value.cells, cellsS2] using hfs 4 _ rfl
  obtain ⟨n0, e0, _, _⟩ := DataW.trod_int Try.underlying2 g0
  obtain ⟨n1, e1, _, _⟩ := DataW.trod_int Try.underlying2 g1
  obtain ⟨n2, e2, _, _⟩ := DataW.trod_int Try.underlying2 g2
  obtain ⟨n3, e3, _, _⟩ := DataW.trod_int Try.underlying2 g3
  obtain ⟨n4, e4, _, _⟩ := DataW.trod_int Try.underlying2 g4
  simp at e0 e1 e2 e3 e4
  exact ⟨n0, n1, n2, n3, n4, e0, e1, e2, e3, e4⟩

/-- A sheet that comes in by value: eight whole numbers. -/
theorem openSheet {H : Type} {enc : TypeId × Value → H} {w : World} {base : Nat} {spare : Nat → Bool} {held : Bool} {r : Reach} {b0 : Nat} {v : Value} {d : DataW H} {p : List MemPlace}
    (hv : Value.okWide Try.prog w r b0 33 v) (h : DataW.Trod enc Try.prog w base spare held 33 v d p) : ∃ x : Sh, v = shV x := by
  obtain ⟨cs, rfl, hsz⟩ := okWide_struct Try.underlying33 hv
  obtain ⟨c0, c1, c2, c3, c4, c5, c6, c7, rfl⟩ := arrayS (hsz.trans cellsSL)
  obtain ⟨fuel, hf⟩ := h
  obtain ⟨xs, n, _, _, _, hlen, hfs⟩ := DataW.trod_struct Try.underlying33 hf
  obtain ⟨y0, y1, y2, y3, rfl⟩ := listS4 (by simpa using hlen)
  have g0 : DataW.trod enc Try.prog w base spare held n 2 [c0] = some y0 := by simpa [Value.cells, cellsS2, cellsSG] using hfs 0 _ rfl
  have g1 : DataW.trod enc Try.prog w base spare held n 2 [c1] = some y1 := by simpa [Value.cells, cellsS2, cellsSG] using hfs 1 _ rfl
  have g2 : DataW.trod enc Try.prog w base spare held n 23 [c2, c3, c4, c5, c6] = some y2 := by simpa [Value.cells, cellsS2, cellsSG] using hfs 2 _ rfl
  have g3 : DataW.trod enc Try.prog w base spare held n 2 [c7] = some y3 := by simpa [Value.cells, cellsS2, cellsSG] using hfs 3 _ rfl
  obtain ⟨n0, e0, _, _⟩ := DataW.trod_int Try.underlying2 g0
  obtain ⟨n1, e1, _, _⟩ := DataW.trod_int Try.underlying2 g1
  obtain ⟨n2, n3, n4, n5, n6, e2, e3, e4, e5, e6⟩ := openGlueS g2
  obtain ⟨n7, e7, _, _⟩ := DataW.trod_int Try.underlying2 g3
  simp at e0 e1 e7
  subst e0 e1 e2 e3 e4 e5 e6 e7
  exact ⟨⟨n0, n1, n2, n3, n4, n5, n6, n7⟩, rfl⟩

set_option maxRecDepth 100000 in
theorem sheetOk_lifted (os : Os) (started : os.Started) (H : Type) (enc : TypeId × Value → H) :
    ReturnsInHanded {} Try.checked os 4 .any (Rows.fnExactSheetOkSpec.pre6 enc Try.prog Try.f4 Rows.fnExactSheetOkRow.domain false) (Rows.fnExactSheetOkSpec.post enc Try.prog Try.f4 false true false false) := by
  refine returnsInHanded_of_change (C := Try.checked) ownS started (by kernel_rfl) Try.func4
    (ChangeSpec.witness6 (enc := enc) (C := Try.checked) false ⟨#[], #[.agg #[.int .i64 0, .int .i64 0, .int .i64 0, .int .i64 0, .int .i64 0, .int .i64 0, .int .i64 0, .int .i64 0]], []⟩ 8 (by kernel_rfl) (by kernel_rfl) (by kernel_rfl) (by kernel_rfl)) ?_
  intro W base args ds gs before hval0 hW hcnd _
  have hval : ∀ (j : Nat) t v, Try.f4.params[j]? = some t → args[j]? = some v → Value.okWide Try.prog W .any base t v := hval0
  have hW' := hW
  obtain ⟨p, q, hA0, hV, rfl, hfz, hnd⟩ := hW
  have hA : DataW.TrodAll enc Try.prog W 0 (fun _ => true) true Try.f4.params.toList args.toList ds p := hA0
  rw [Try.params4] at hA hval
  obtain ⟨v0, vs0, d0, ds0, p0, q0, hargs, rfl, rfl, h0, r0⟩ := trodAll_cons hA
  obtain ⟨rfl, rfl, rfl⟩ := trodAll_nil r0
  obtain rfl : args = #[v0] := by cases args; simp_all
  obtain ⟨rfl, rfl⟩ := trodVars_none hV
  have k0 := h0
  have lt0 : ∀ x ∈ p0, x.block < W.heap.size := by obtain ⟨m, hm⟩ := k0; exact DataW.trod_lt m _ _ _ hm
  obtain ⟨x, rfl⟩ := openSheet (hval 0 33 v0 rfl rfl) h0
  clear hA0 hval0
  refine (lawSheetOk_any x W).mono fun e W' ⟨he, bel⟩ => ?_
  subst he
  exact ⟨_, rfl, _, _, _, [], _, [], hW', trodAll_mk1 (shut_bool Try.underlying4 _), (trodAll_cons_mk (Below.trod laidS (by kernel_rfl) (of_decide_eq_true (by kernel_rfl)) k0 bel lt0) trodAll_mk0), rfl, bel.frame _, fun h => by cases h⟩

theorem sheetOk_holds : Rows.FnExactSheetOkSaid :=
  OpenClaim.holds_of_wide 4 Try.f4 rfl rfl rfl rfl rfl rfl rfl ⟨rfl, rfl, rfl, rfl, rfl⟩ rfl rfl rfl rfl rfl (by kernel_rfl) Try.func4 (by kernel_rfl)
    (of_decide_eq_true (by kernel_rfl)) (by unfold Func.isWrapper; first | (rw [if_pos (by decide +kernel)]; kernel_rfl) | (rw [if_neg (by decide +kernel)]; exact ⟨rfl, rfl⟩))
    (fun os started H enc _ => sheetOk_lifted os started H enc)
#print axioms sheetOk_holds
end Go.Proofs.Ytdokbboammpffaa
