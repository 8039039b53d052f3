/-
  Proved: for every table, laws.FnExactTableOk returns true and its argument reads behind the call as before it; no condition.
-/
import Derived.Test.YticalmdhbgkbbaaGreatGrd
import Derived.Test.YticalmdhbgkbbaaGreatTrs
import Derived.Test.YticalmdhbgkbbaaGreatPlc
import Derived.Deep.RegionHeld3
import Derived.Test.YticalmdhbgkbbaaGreatOpt
namespace Go.Proofs.YticalmdhbgkbbaaGreat
open Go.RowKit
set_option linter.unusedVariables false
set_option linter.unusedSimpArgs false

set_option maxHeartbeats 2000000 in
theorem implTableOk_any (x : Tb) {v : Value} {w : World} (h : RRowN 0 w v x.rs) (hs : SmT x) :
    Calls Tryz.prog 26 #[tbV x v] w fun e w' => e = .returned (.bool (tabB x)) ∧ Below w.heap.size w w' := by
  obtain ⟨va, vn, vc, rfl⟩ : ∃ a n c, v = .slice a n c := by obtain ⟨a, c, rfl⟩ := h.shape; exact ⟨_, _, _, rfl⟩
  obtain ⟨R, hR⟩ : ∃ R, R = tabB x := ⟨_, rfl⟩
  have HC : Hid (∀ W, Below w.heap.size w W → Calls Tryz.prog 61 #[tbV x (.slice va vn vc)] W fun e w' => ∃ p, e = .returned (.tuple #[.pointer p, .bool R]) ∧ Below W.heap.size W w') := hideP (fun W hW => (gridOf_any x (h.below rwNStable hW) hs).mono (fun e w' ⟨h1, h2⟩ => by
    rw [← hR] at h1
    cases R with
    | false => exact ⟨_, h1, h2⟩
    | true =>
      obtain ⟨G, h3, _⟩ := h1
      exact ⟨_, h3, h2⟩))
  rw [← hR]
  clear h hs hR
  obtain ⟨co, gs, gp, gpo, gm, gmo, rs⟩ := x
  simp only [tbV] at HC ⊢
  go_enter Tryz.func26, Tryz.ntmps26
  go_wp2_with fail
  refine (HC.out _ (below1 _ _)).mono ?_
  rintro e w1 ⟨p, rfl, hb1⟩
  have B1 : Hid (Below w.heap.size w w1) := hideP (below_more (below1 _ _) hb1 (by simp))
  clear hb1
  go_wp2
  go_ret
  exact ⟨rfl, B1.out⟩

set_option maxRecDepth 20000 in
set_option maxHeartbeats 8000000 in
theorem lawTableOk_any (x : Tb) {v : Value} {w : World} (h : RRow 0 w v x.rs) (hf : FnT x) :
    Calls Tryz.prog 6 #[tbV x v] w fun e w' => e = .returned (.bool true) ∧ Below w.heap.size w w' := by
  obtain ⟨va, vn, vc, rfl⟩ : ∃ a n c, v = .slice a n c := by obtain ⟨a, c, rfl⟩ := h.shape; exact ⟨_, _, _, rfl⟩
  obtain ⟨R, hR⟩ : ∃ R, R = tabB x := ⟨_, rfl⟩
  have CZ : Hid (∀ W, Below w.heap.size w W → Calls Tryz.prog 23 #[tbV x (.slice va vn vc), .int .i64 1048576] W fun r w' => (∃ m : Int, r = .returned (.int .i64 m) ∧ (0 ≤ m → SmT x)) ∧ Below W.heap.size W w') := hideP (fun W hW => (szTable_any x (h.below rwStable hW) hf (by omega) (by omega)).mono (fun e w' ⟨⟨m, h1, _, h3⟩, h4⟩ => ⟨⟨m, h1, h3⟩, h4⟩))
  have CT : Hid (SmT x → ∀ W, Below w.heap.size w W → Calls Tryz.prog 25 #[tbV x (.slice va vn vc)] W fun e w' => ∃ a n c, e = .returned (tbV x (.slice a n c)) ∧ RRowN 0 w' (.slice a n c) x.rs ∧ Below W.heap.size W w') := hideP (fun hs W hW => (toTable_any x (h.below rwStable hW) hs).mono (fun e w' ⟨v', h1, h2, h3⟩ => by
    obtain ⟨a, c, rfl⟩ := h2.shape
    exact ⟨a, _, c, h1, h2.mono rwNStable (Nat.zero_le _), h3⟩))
  have CS : Hid (SmT x → ∀ u W, RRowN 0 W u x.rs → Calls Tryz.prog 24 #[tbV x u] W fun e w' => e = .returned (.bool R) ∧ Below W.heap.size W w') := hideP (fun hs u W hu => by rw [hR]; exact specTableOk_any x hu hs)
  have CI : Hid (SmT x → ∀ u W, RRowN 0 W u x.rs → Calls Tryz.prog 26 #[tbV x u] W fun e w' => e = .returned (.bool R) ∧ Below W.heap.size W w') := hideP (fun hs u W hu => by rw [hR]; exact implTableOk_any x hu hs)
  have CE : Hid (SmT x → ∀ u u' W, RRowN 0 W u x.rs → RRowN 0 W u' x.rs → Calls Tryz.prog 27 #[tbV x u, tbV x u'] W fun e w' => e = .returned (.bool true) ∧ Below W.heap.size W w') := hideP (fun hs u u' W h1 h2 => eqTable_same x h1 h2 hs)
  obtain ⟨SM, hSM⟩ : ∃ SM : Prop, SM = SmT x := ⟨_, rfl⟩
  rw [← hSM] at CZ CT CS CI CE
  obtain ⟨RN, hRN⟩ : ∃ RN : World → Value → Prop, RN = fun W u => RRowN 0 W u x.rs := ⟨_, rfl⟩
  have CT2 : Hid (SM → ∀ W, Below w.heap.size w W → Calls Tryz.prog 25 #[tbV x (.slice va vn vc)] W fun e w' => ∃ a n c, e = .returned (tbV x (.slice a n c)) ∧ RN w' (.slice a n c) ∧ Below W.heap.size W w') := by rw [hRN]; exact CT
  have CS2 : Hid (SM → ∀ u W, RN W u → Calls Tryz.prog 24 #[tbV x u] W fun e w' => e = .returned (.bool R) ∧ Below W.heap.size W w') := by rw [hRN]; exact CS
  have CI2 : Hid (SM → ∀ u W, RN W u → Calls Tryz.prog 26 #[tbV x u] W fun e w' => e = .returned (.bool R) ∧ Below W.heap.size W w') := by rw [hRN]; exact CI
  have CE2 : Hid (SM → ∀ u u' W, RN W u → RN W u' → Calls Tryz.prog 27 #[tbV x u, tbV x u'] W fun e w' => e = .returned (.bool true) ∧ Below W.heap.size W w') := by rw [hRN]; exact CE
  have RB : Hid (∀ u W W', RN W u → Below W.heap.size W W' → RN W' u) := hideP (by rw [hRN]; exact fun u W W' h hb => SRow.below rwNStable h hb)
  clear h hf hR CT CS CI CE hSM hRN
  obtain ⟨co, gs, gp, gpo, gm, gmo, rs⟩ := x
  simp only [tbV] at CZ CT2 CS2 CI2 CE2 ⊢
  go_enter Tryz.func6, Tryz.ntmps6
  go_wp2_with fail
  refine (CZ.out _ (below1 _ _)).mono ?_
  rintro e w1 ⟨⟨m, rfl, hm⟩, hb1⟩
  have B1 : Hid (Below w.heap.size w w1) := hideP (below_more (below1 _ _) hb1 (by simp))
  have P1 : Hid (w1.heap[w.heap.size]? = some (.cells #[.int .i64 co, .int .i64 gs, .int .i64 gp, .int .i64 gpo, .int .i64 gm, .int .i64 gmo, .slice va vn vc] 47 (0, 0))) := hideP ((hb1.block _ (by simp)).trans (heap_alloc_new w _))
  have HM := hideP hm
  clear hb1 hm
  by_cases hneg : m < 0
  · go_wp2
    go_ret
    exact ⟨rfl, B1.out⟩
  · have HS : Hid SM := hideP (HM.out (by omega))
    clear HM CZ
    have QX : Hid (∀ X : World, X.heap[w.heap.size]? = some (.cells #[.int .i64 co, .int .i64 gs, .int .i64 gp, .int .i64 gpo, .int .i64 gm, .int .i64 gmo, .slice va vn vc] 47 (0, 0)) → w.heap.size < X.heap.size ∧ X.cell? ⟨w.heap.size, 0, none⟩ = some (.int .i64 co) ∧ X.cell? ⟨w.heap.size, 1, none⟩ = some (.int .i64 gs) ∧ X.cell? ⟨w.heap.size, 2, none⟩ = some (.int .i64 gp) ∧ X.cell? ⟨w.heap.size, 3, none⟩ = some (.int .i64 gpo) ∧ X.cell? ⟨w.heap.size, 4, none⟩ = some (.int .i64 gm) ∧ X.cell? ⟨w.heap.size, 5, none⟩ = some (.int .i64 gmo) ∧ X.cell? ⟨w.heap.size, 6, none⟩ = some (.slice va vn vc)) := hideP (fun X hX => ⟨(Array.getElem?_eq_some_iff.1 hX).1, cell_of_row _ _ 0 _ 47 _ hX, cell_of_row _ _ 1 _ 47 _ hX, cell_of_row _ _ 2 _ 47 _ hX, cell_of_row _ _ 3 _ 47 _ hX, cell_of_row _ _ 4 _ 47 _ hX, cell_of_row _ _ 5 _ 47 _ hX, cell_of_row _ _ 6 _ 47 _ hX⟩)
    obtain ⟨l1, c0, c1, c2, c3, c4, c5, c6⟩ := QX.out _ P1.out
    go_wp2_with fail
    refine (CT2.out HS.out _ B1.out).mono ?_
    rintro e w2 ⟨a2, n2, d2, rfl, hr2, hb2⟩
    have B2 : Hid (Below w.heap.size w w2) := hideP (below_more B1.out hb2 B1.out.size)
    have P2 := hideP ((hb2.block _ (Array.getElem?_eq_some_iff.1 P1.out).1).trans P1.out)
    have R2 := hideP hr2
    clear hb2 hr2 l1 c0 c1 c2 c3 c4 c5 c6 P1
    go_wp2_with fail
    refine (CS2.out HS.out _ _ R2.out).mono ?_
    rintro e w3 ⟨rfl, hb3⟩
    have B3 : Hid (Below w.heap.size w w3) := hideP (below_more B2.out hb3 B2.out.size)
    have P3 := hideP ((hb3.block _ (Array.getElem?_eq_some_iff.1 P2.out).1).trans P2.out)
    clear hb3 R2 P2
    obtain ⟨l1, c0, c1, c2, c3, c4, c5, c6⟩ := QX.out _ P3.out
    go_wp2_with fail
    refine (CT2.out HS.out _ B3.out).mono ?_
    rintro e w4 ⟨a4, n4, d4, rfl, hr4, hb4⟩
    have B4 : Hid (Below w.heap.size w w4) := hideP (below_more B3.out hb4 B3.out.size)
    have P4 := hideP ((hb4.block _ (Array.getElem?_eq_some_iff.1 P3.out).1).trans P3.out)
    have R4 := hideP hr4
    clear hb4 hr4 l1 c0 c1 c2 c3 c4 c5 c6 P3
    go_wp2_with fail
    obtain ⟨W4, hW4⟩ : ∃ W4, W4 = w4.alloc (.cells #[.int .i64 co, .int .i64 gs, .int .i64 gp, .int .i64 gpo, .int .i64 gm, .int .i64 gmo, .slice a4 n4 d4] 53) := ⟨_, rfl⟩
    rw [← hW4]
    obtain ⟨p5, hp5⟩ : ∃ p5, p5 = w4.heap.size := ⟨_, rfl⟩
    rw [← hp5]
    have BW4 : Hid (Below w.heap.size w W4) := hideP (by rw [hW4]; exact B4.out.alloc B4.out.size _)
    have PW4 : Hid (W4.heap[w.heap.size]? = some (.cells #[.int .i64 co, .int .i64 gs, .int .i64 gp, .int .i64 gpo, .int .i64 gm, .int .i64 gmo, .slice va vn vc] 47 (0, 0))) := hideP (by rw [hW4]; exact (Below.heap_alloc _ _ _ (Array.getElem?_eq_some_iff.1 P4.out).1).trans P4.out)
    have XW4 : Hid (W4.heap[p5]? = some (.cells #[.int .i64 co, .int .i64 gs, .int .i64 gp, .int .i64 gpo, .int .i64 gm, .int .i64 gmo, .slice a4 n4 d4] 53 (0, 0))) := hideP (by rw [hW4, hp5]; exact heap_alloc_new w4 _)
    have RW4 : Hid (RN W4 (.slice a4 n4 d4)) := hideP (by rw [hW4]; exact RB.out _ _ _ R4.out (below1 _ _))
    clear hW4 hp5 P4 R4 B4
    refine (CI2.out HS.out _ _ RW4.out).mono ?_
    rintro e w5 ⟨rfl, hb5⟩
    have B5 : Hid (Below w.heap.size w w5) := hideP (below_more BW4.out hb5 BW4.out.size)
    have P5 := hideP ((hb5.block _ (Array.getElem?_eq_some_iff.1 PW4.out).1).trans PW4.out)
    have X5 := hideP ((hb5.block _ (Array.getElem?_eq_some_iff.1 XW4.out).1).trans XW4.out)
    have R5 := hideP (RB.out _ _ _ RW4.out hb5)
    clear hb5 BW4 PW4 XW4 RW4
    have Q : Hid (∀ x : World, Below w5.heap.size w5 x → (x.cell? ⟨w.heap.size, 0, none⟩ = some (.int .i64 co) ∧ x.cell? ⟨w.heap.size, 1, none⟩ = some (.int .i64 gs) ∧ x.cell? ⟨w.heap.size, 2, none⟩ = some (.int .i64 gp) ∧ x.cell? ⟨w.heap.size, 3, none⟩ = some (.int .i64 gpo) ∧ x.cell? ⟨w.heap.size, 4, none⟩ = some (.int .i64 gm) ∧ x.cell? ⟨w.heap.size, 5, none⟩ = some (.int .i64 gmo) ∧ x.cell? ⟨w.heap.size, 6, none⟩ = some (.slice va vn vc)) ∧ x.cell? ⟨p5, 0, none⟩ = some (.int .i64 co) ∧ x.cell? ⟨p5, 1, none⟩ = some (.int .i64 gs) ∧ x.cell? ⟨p5, 2, none⟩ = some (.int .i64 gp) ∧ x.cell? ⟨p5, 3, none⟩ = some (.int .i64 gpo) ∧ x.cell? ⟨p5, 4, none⟩ = some (.int .i64 gm) ∧ x.cell? ⟨p5, 5, none⟩ = some (.int .i64 gmo) ∧ x.cell? ⟨p5, 6, none⟩ = some (.slice a4 n4 d4)) := hideP (fun x hx => by
      have h1 := (hx.block _ (Array.getElem?_eq_some_iff.1 P5.out).1).trans P5.out
      have h2 := (hx.block _ (Array.getElem?_eq_some_iff.1 X5.out).1).trans X5.out
      exact ⟨(QX.out _ h1).2, cell_of_row _ _ 0 _ 53 _ h2, cell_of_row _ _ 1 _ 53 _ h2, cell_of_row _ _ 2 _ 53 _ h2, cell_of_row _ _ 3 _ 53 _ h2, cell_of_row _ _ 4 _ 53 _ h2, cell_of_row _ _ 5 _ 53 _ h2, cell_of_row _ _ 6 _ 53 _ h2⟩)
    have BD : Hid (Below w5.heap.size w5 w5.drew) := hideP ((Below.refl _ _).drew)
    have hnq : (R != R) = false := by simp
    go_wp2_with fail
    go_region_held3 (fun x => (x.cell? ⟨w.heap.size, 0, none⟩ = some (.int .i64 co) ∧ x.cell? ⟨w.heap.size, 1, none⟩ = some (.int .i64 gs) ∧ x.cell? ⟨w.heap.size, 2, none⟩ = some (.int .i64 gp) ∧ x.cell? ⟨w.heap.size, 3, none⟩ = some (.int .i64 gpo) ∧ x.cell? ⟨w.heap.size, 4, none⟩ = some (.int .i64 gm) ∧ x.cell? ⟨w.heap.size, 5, none⟩ = some (.int .i64 gmo) ∧ x.cell? ⟨w.heap.size, 6, none⟩ = some (.slice va vn vc)) ∧ x.cell? ⟨p5, 0, none⟩ = some (.int .i64 co) ∧ x.cell? ⟨p5, 1, none⟩ = some (.int .i64 gs) ∧ x.cell? ⟨p5, 2, none⟩ = some (.int .i64 gp) ∧ x.cell? ⟨p5, 3, none⟩ = some (.int .i64 gpo) ∧ x.cell? ⟨p5, 4, none⟩ = some (.int .i64 gm) ∧ x.cell? ⟨p5, 5, none⟩ = some (.int .i64 gmo) ∧ x.cell? ⟨p5, 6, none⟩ = some (.slice a4 n4 d4)) (first | exact Q.out _ BD.out | exact Q.out _ ‹Hid (Below w5.heap.size w5 _)›) (first | (go_at_call 25; refine (CT2.out HS.out _ (below_more B5.out BD.out B5.out.size)).mono ?_; rintro e w7 ⟨a7, n7, d7, rfl, hr7, hb7⟩; have B67 : Hid (Below w5.heap.size w5 w7) := hideP (below_more BD.out hb7 BD.out.size); have R7 := hideP hr7; clear hb7 hr7) | (go_at_call 27; refine (CE2.out HS.out _ _ _ (RB.out _ _ _ R5.out B67.out) R7.out).mono ?_; rintro e w8 ⟨rfl, hb8⟩; have B8 : Hid (Below w5.heap.size w5 w8) := hideP (below_more B67.out hb8 B67.out.size); clear hb8))
    all_goals
      have B08 : Hid (Below w.heap.size w w8) := hideP (below_more B5.out B8.out B5.out.size)
      go_wp2
      go_ret
      exact ⟨rfl, B08.out⟩
end Go.Proofs.YticalmdhbgkbbaaGreat

namespace Go.Proofs.YticalmdhbgkbbaaGreat
open Go.ChangeShapes Go.WideShapes Go.ChangeAt Go.RowKit Go.Joins
set_option linter.unusedVariables false
set_option linter.unusedSimpArgs false

set_option maxRecDepth 100000 in
theorem tableOk_lifted (os : Os) (started : os.Started) (H : Type) (enc : TypeId × Value → H) :
    ReturnsInHanded {} Tryz.checked os 6 .any (Rows.fnExactTableOkSpec.pre6 enc Tryz.prog Tryz.f6 Rows.fnExactTableOkRow.domain false) (Rows.fnExactTableOkSpec.post enc Tryz.prog Tryz.f6 false true false false) := by
  refine returnsInHanded_of_change (C := Tryz.checked) ownT started (by kernel_rfl) Tryz.func6
    (ChangeSpec.witness6 (enc := enc) (C := Tryz.checked) false ⟨#[], #[.agg #[.int .i64 0, .int .i64 0, .int .i64 0, .int .i64 0, .int .i64 0, .int .i64 0, .slice none 0 0]], []⟩ 8 (by kernel_rfl) (by kernel_rfl) (by kernel_rfl) (by kernel_rfl)) ?_
  intro W base args ds gs before hval0 hW hcnd _
  have hval : ∀ (j : Nat) t v, Tryz.f6.params[j]? = some t → args[j]? = some v → Value.okWide Tryz.prog W .any base t v := hval0
  have hW' := hW
  obtain ⟨p, q, hA0, hV, rfl, hfz, hnd⟩ := hW
  have hA : DataW.TrodAll enc Tryz.prog W 0 (fun _ => true) true Tryz.f6.params.toList args.toList ds p := hA0
  rw [Tryz.params6] at hA hval
  obtain ⟨v0, vs0, d0, ds0, p0, q0, hargs, rfl, rfl, h0, r0⟩ := trodAll_cons hA
  obtain ⟨rfl, rfl, rfl⟩ := trodAll_nil r0
  obtain rfl : args = #[v0] := by cases args; simp_all
  obtain ⟨rfl, rfl⟩ := trodVars_none hV
  have k0 := h0
  have lt0 : ∀ x ∈ p0, x.block < W.heap.size := by obtain ⟨m, hm⟩ := k0; exact DataW.trod_lt m _ _ _ hm
  obtain ⟨t, u, rfl, hr, hF⟩ := openTable (hval 0 47 v0 rfl rfl) h0
  clear hA0 hval0
  refine (lawTableOk_any t hr hF).mono fun e W' ⟨he, bel⟩ => ?_
  subst he
  exact ⟨_, rfl, _, _, _, [], _, [], hW', trodAll_mk1 (shut_bool Tryz.underlying4 _), (trodAll_cons_mk (Below.trod laidOut (by kernel_rfl) (of_decide_eq_true (by kernel_rfl)) k0 bel lt0) trodAll_mk0), rfl, bel.frame _, fun h => by cases h⟩

theorem tableOk_holds : Rows.FnExactTableOkSaid :=
  OpenClaim.holds_of_wide 6 Tryz.f6 rfl rfl rfl rfl rfl rfl rfl ⟨rfl, rfl, rfl, rfl, rfl⟩ rfl rfl rfl rfl rfl (by kernel_rfl) Tryz.func6 (by kernel_rfl)
    (of_decide_eq_true (by kernel_rfl)) (by unfold Func.isWrapper; first | (rw [if_pos (by decide +kernel)]; kernel_rfl) | (rw [if_neg (by decide +kernel)]; exact ⟨rfl, rfl⟩))
    (fun os started H enc _ => tableOk_lifted os started H enc)
#print axioms tableOk_holds
end Go.Proofs.YticalmdhbgkbbaaGreat

