/-
  Proved: for every Mean, laws.FnExactMeanOk returns true and its argument reads behind the call as before it; no condition.
-/
import Derived.Test.YtflpjfgodkodiaaOpen
import Derived.Test.YtflpjfgodkodiaaMokI
import Derived.Deep.RegionWith
namespace Go.Proofs.Ytflpjfgodkodiaa
open Go.ChangeShapes Go.WideShapes Go.ChangeAt Go.RowKit Go.Joins
set_option linter.unusedVariables false
set_option linter.unusedSimpArgs false

theorem weight_len {ts : List Tk} {n : Int} (h : (weight ts : Int) ≤ n) (hn : n ≤ 1048576) : ts.length ≤ 1048576 := by unfold weight at h; omega

set_option maxHeartbeats 4000000 in
theorem lawMeanOk_any {k n : Int} {t : Tk} {vp vb : Value} {p b : List Tk} {sl : Int} {w : World} (hp : TRow w vp p) (hb : TRow w vb b) (fp : Fine p) (fb : Fine b) (ft : t.s.size ≤ 9223372036854775807) :
    Calls Try.prog 3 #[meanV k n t vp sl vb] w fun e w' => e = .returned (.bool true) ∧ Below w.heap.size w w' := by
  have HP : Hid (TRow w vp p) := hp
  have HB : Hid (TRow w vb b) := hb
  obtain ⟨ao, n1, cap, rfl, hx, hy⟩ := hp
  obtain ⟨ao2, n2, cap2, rfl, hx2, hy2⟩ := hb
  clear hx hy hx2 hy2
  have HF : Hid (Fine p ∧ Fine b) := ⟨fp, fb⟩
  clear fp fb
  go_enter Try.func3, Try.ntmps3
  go_wp2_with fail
  refine (szMean_any (TRow.below HP (below1 _ _)) (TRow.below HB (below1 _ _)) HF.1 HF.2 ft (by omega) (by omega)).mono ?_
  rintro e w1 ⟨⟨m, rfl, hml, hm⟩, hb1⟩
  have hz1 : w.heap.size < w1.heap.size := by have := hb1.size; simp at this; omega
  obtain ⟨hc1, hf1⟩ := bcell hb1
  have B1 : Hid (Below w.heap.size w w1) := (below1 _ _).trans (hb1.mono (by simp))
  have HM : Hid (0 ≤ m → m = 1048576 - t.s.size - weight p - weight b) := hm
  clear hb1 hm
  by_cases hneg : m < 0
  · go_wp2
    go_ret
    exact ⟨rfl, B1⟩
  · have hm := HM (by omega)
    have lp : p.length ≤ 1048576 := weight_len (n := 1048576) (by omega) (by omega)
    have lb : b.length ≤ 1048576 := weight_len (n := 1048576) (by omega) (by omega)
    have HLL : Hid (p.length ≤ 1048576 ∧ b.length ≤ 1048576) := ⟨lp, lb⟩
    clear hm lp lb HM
    go_wp2_with fail
    refine (toMean_any (TRow.below HP B1) (TRow.below HB B1) HLL.1 HLL.2).mono ?_
    rintro e w2 ⟨vp2, vb2, rfl, hp2, hq2, hb2⟩
    have hz2 : w.heap.size < w2.heap.size := by have := hb2.size; omega
    obtain ⟨hc2, hf2⟩ := bcell hb2
    have B2 : Hid (Below w.heap.size w w2) := below_more B1 hb2 (Below.size B1)
    have P2 : Hid (TRow w2 vp2 p ∧ TRow w2 vb2 b) := ⟨hp2.1, hq2.1⟩
    clear hb2 hp2 hq2
    go_wp2_with fail
    refine (specMeanOk_any P2.1 P2.2 HLL.1 HLL.2).mono ?_
    rintro e w3 ⟨rfl, hb3⟩
    have hz3 : w.heap.size < w3.heap.size := by have := hb3.size; omega
    obtain ⟨hc3, hf3⟩ := bcell hb3
    have B3 : Hid (Below w.heap.size w w3) := below_more B2 hb3 (Below.size B2)
    clear hb3 P2
    go_wp2_with fail
    refine (toMean_any (TRow.below HP B3) (TRow.below HB B3) HLL.1 HLL.2).mono ?_
    rintro e w4 ⟨vp4, vb4, rfl, hp4, hq4, hb4⟩
    obtain ⟨a4, l4, c4, rfl⟩ := hp4.shape
    obtain ⟨a5, l5, c5, rfl⟩ := hq4.shape
    have hz4 : w.heap.size < w4.heap.size := by have := hb4.size; omega
    obtain ⟨hc4, hf4⟩ := bcell hb4
    have B4 : Hid (Below w.heap.size w w4) := below_more B3 hb4 (Below.size B3)
    have P4 : Hid (TRow w4 (.slice a4 l4 c4) p ∧ TRow w4 (.slice a5 l5 c5) b) := ⟨hp4.1, hq4.1⟩
    clear hb4 hp4 hq4
    obtain ⟨mb, hmb⟩ : ∃ mb, mb = meanB k n t p sl b := ⟨_, rfl⟩
    rw [← hmb]
    have CI : Hid (∀ W, Below w4.heap.size w4 W → Calls Try.prog 11 #[meanV k n t (.slice a4 l4 c4) sl (.slice a5 l5 c5)] W fun e w' => e = .returned (.bool mb) ∧ Below W.heap.size W w') := by rw [hmb]; intro W hW; exact implMeanOk_any (TRow.below P4.1 hW) (TRow.below P4.2 hW) HLL.1 HLL.2
    clear hmb
    go_wp2_with fail
    refine (CI _ (below1 _ _)).mono ?_
    rintro e w5 ⟨rfl, hb5⟩
    have hz5 : w.heap.size < w5.heap.size := by have := hb5.size; simp at this; omega
    have hy5 : w4.heap.size < w5.heap.size := by have := hb5.size; simp at this; omega
    obtain ⟨hc5, hf5⟩ := bcell hb5
    have B45 : Hid (Below w4.heap.size w4 w5) := below_more (below1 _ _) hb5 (by simp)
    have B5 : Hid (Below w.heap.size w w5) := below_more B4 B45 (Below.size B4)
    clear hb5
    have q4 : ∀ j, (h : j < 8) → w5.cell? ⟨w4.heap.size, j, none⟩ = some (([.int .i64 k, .int .i64 n, .int .i64 t.c, .int .i64 t.h, .string t.s, .slice a4 l4 c4, .int .i64 sl, .slice a5 l5 c5] : List Value)[j]'h) := by
      intro j hj
      rw [hc5 _ _ (by simp)]
      rcases j with _ | _ | _ | _ | _ | _ | _ | _ | j <;> first | (simp [go_sem]; done) | omega
    have q0 := q4 0 (by omega)
    have q1 := q4 1 (by omega)
    have q2 := q4 2 (by omega)
    have q3 := q4 3 (by omega)
    have q5 := q4 4 (by omega)
    have q6 := q4 5 (by omega)
    have q7 := q4 6 (by omega)
    have q8 := q4 7 (by omega)
    have BD : Below w5.heap.size w5 w5.drew := Below.drew (Below.refl _ _)
    have HX : Hid (TRow w5.drew (.slice ao n1 cap) p ∧ TRow w5.drew (.slice ao2 n2 cap2) b ∧ TRow w5.drew (.slice a4 l4 c4) p ∧ TRow w5.drew (.slice a5 l5 c5) b ∧ Below w5.heap.size w5 w5.drew) := ⟨TRow.below (TRow.below HP B5) BD, TRow.below (TRow.below HB B5) BD, TRow.below (TRow.below P4.1 B45) BD, TRow.below (TRow.below P4.2 B45) BD, BD⟩
    clear BD
    have Q5 : Hid (∀ x : World, Below w5.heap.size w5 x → x.cell? ⟨w4.heap.size, 0, none⟩ = some (.int .i64 k) ∧ x.cell? ⟨w4.heap.size, 1, none⟩ = some (.int .i64 n) ∧ x.cell? ⟨w4.heap.size, 2, none⟩ = some (.int .i64 t.c) ∧ x.cell? ⟨w4.heap.size, 3, none⟩ = some (.int .i64 t.h) ∧ x.cell? ⟨w4.heap.size, 4, none⟩ = some (.string t.s) ∧ x.cell? ⟨w4.heap.size, 5, none⟩ = some (.slice a4 l4 c4) ∧ x.cell? ⟨w4.heap.size, 6, none⟩ = some (.int .i64 sl) ∧ x.cell? ⟨w4.heap.size, 7, none⟩ = some (.slice a5 l5 c5) ∧ w4.heap.size < x.heap.size) := fun x hx => ⟨(Below.cell hx (p := ⟨w4.heap.size, 0, none⟩) hy5).trans q0, (Below.cell hx (p := ⟨w4.heap.size, 1, none⟩) hy5).trans q1, (Below.cell hx (p := ⟨w4.heap.size, 2, none⟩) hy5).trans q2, (Below.cell hx (p := ⟨w4.heap.size, 3, none⟩) hy5).trans q3, (Below.cell hx (p := ⟨w4.heap.size, 4, none⟩) hy5).trans q5, (Below.cell hx (p := ⟨w4.heap.size, 5, none⟩) hy5).trans q6, (Below.cell hx (p := ⟨w4.heap.size, 6, none⟩) hy5).trans q7, (Below.cell hx (p := ⟨w4.heap.size, 7, none⟩) hy5).trans q8, Nat.lt_of_lt_of_le hy5 (Below.size hx)⟩
    clear q4
    go_wp2
    go_region_with (first
      | (go_at_call 10; refine (toMean_any HX.1 HX.2.1 HLL.1 HLL.2).mono ?_; rintro e w6 ⟨vp6, vb6, rfl, hp6, hq6, hb6⟩; obtain ⟨a6, l6, c6, rfl⟩ := hp6.shape; obtain ⟨a7, l7, c7, rfl⟩ := hq6.shape; obtain ⟨hc6, hf6⟩ := bcell hb6; have P6 : Hid (TRow w6 (.slice a4 l4 c4) p ∧ TRow w6 (.slice a5 l5 c5) b ∧ TRow w6 (.slice a6 l6 c6) p ∧ TRow w6 (.slice a7 l7 c7) b ∧ Below w5.heap.size w5 w6) := ⟨TRow.below HX.2.2.1 hb6, TRow.below HX.2.2.2.1 hb6, hp6.1, hq6.1, below_more HX.2.2.2.2 hb6 (Below.size HX.2.2.2.2)⟩; obtain ⟨r0, r1, r2, r3, r4, r5, r6, r7, hs6⟩ := Q5 w6 P6.2.2.2.2; clear hb6 hp6 hq6 hc6 hf6)
      | (go_at_call 12; refine (eqMean_same P6.1 P6.2.1 P6.2.2.1 P6.2.2.2.1 HLL.1 HLL.2).mono ?_; rintro e w7 ⟨rfl, hb7⟩; have B7 : Hid (Below w.heap.size w w7) := below_more (below_more B5 P6.2.2.2.2 (Below.size B5)) hb7 (Nat.le_trans (Below.size B5) (Below.size P6.2.2.2.2)); clear hb7))
    all_goals
      go_wp2
      go_ret
      exact ⟨rfl, ‹Hid (Below w.heap.size w w7)›⟩

set_option maxRecDepth 100000 in
theorem meanOk_lifted (os : Os) (started : os.Started) (H : Type) (enc : TypeId × Value → H) :
    ReturnsInHanded {} Try.checked os 3 .any (Rows.fnExactMeanOkSpec.pre6 enc Try.prog Try.f3 Rows.fnExactMeanOkRow.domain false) (Rows.fnExactMeanOkSpec.post enc Try.prog Try.f3 false true false false) := by
  refine returnsInHanded_of_change (C := Try.checked) ownT started (by kernel_rfl) Try.func3
    (ChangeSpec.witness6 (enc := enc) (C := Try.checked) false ⟨#[], #[meanV 0 0 ⟨0, 0, ByteArray.empty⟩ (.slice none 0 0) 0 (.slice none 0 0)], []⟩ 8 (by kernel_rfl) (by kernel_rfl) (by kernel_rfl) (by kernel_rfl)) ?_
  intro W base args ds gs before hval0 hW hcnd _
  have hval : ∀ (j : Nat) t v, Try.f3.params[j]? = some t → args[j]? = some v → Value.okWide Try.prog W .any base t v := hval0
  have hW' := hW
  obtain ⟨p, q, hA0, hV, rfl, hfz, hnd⟩ := hW
  have hA : DataW.TrodAll enc Try.prog W 0 (fun _ => true) true Try.f3.params.toList args.toList ds p := hA0
  rw [Try.params3] at hA hval
  obtain ⟨v0, vs0, d0, ds0, p0, q0, hargs, rfl, rfl, h0, r0⟩ := trodAll_cons hA
  obtain ⟨rfl, rfl, rfl⟩ := trodAll_nil r0
  obtain rfl : args = #[v0] := by cases args; simp_all
  obtain ⟨rfl, rfl⟩ := trodVars_none hV
  have k0 := h0
  have lt0 : ∀ x ∈ p0, x.block < W.heap.size := by obtain ⟨m, hm⟩ := k0; exact DataW.trod_lt m _ _ _ hm
  obtain ⟨cs, rfl, hsz⟩ := okWide_struct Try.underlying28 (hval 0 28 v0 rfl rfl)
  obtain ⟨fuel, hf⟩ := h0
  obtain ⟨k, n, t, vp, vb, pp, bb, sl, hcs, hp, fp, hb, fb, ft⟩ := openMean hf
  obtain rfl : cs = #[.int .i64 k, .int .i64 n, .int .i64 t.c, .int .i64 t.h, .string t.s, vp, .int .i64 sl, vb] := by
    cases cs
    simp only [Value.cells] at hcs
    simpa using hcs
  clear hA0 hval0
  refine (lawMeanOk_any hp hb fp fb ft).mono fun e W' ⟨he, bel⟩ => ?_
  subst he
  exact ⟨_, rfl, _, _, _, [], _, [], hW', trodAll_mk1 (shut_bool Try.underlying4 _), (trodAll_cons_mk (Below.trod laidOut (by kernel_rfl) (of_decide_eq_true (by kernel_rfl)) k0 bel lt0) trodAll_mk0), rfl, bel.frame _, fun h => by cases h⟩

theorem meanOk_holds : Rows.FnExactMeanOkSaid :=
  OpenClaim.holds_of_wide 3 Try.f3 rfl rfl rfl rfl rfl rfl rfl ⟨rfl, rfl, rfl, rfl, rfl⟩ rfl rfl rfl rfl rfl (by kernel_rfl) Try.func3 (by kernel_rfl)
    (of_decide_eq_true (by kernel_rfl)) (by unfold Func.isWrapper; first | (rw [if_pos (by decide +kernel)]; kernel_rfl) | (rw [if_neg (by decide +kernel)]; exact ⟨rfl, rfl⟩))
    (fun os started H enc _ => meanOk_lifted os started H enc)
#print axioms meanOk_holds
end Go.Proofs.Ytflpjfgodkodiaa
