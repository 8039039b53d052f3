/-
  Proved: for every Pattern, laws.FnExactShowPattern returns true and its argument reads behind the call as before it; no condition.
-/
import Derived.Test.YtejigikcpmhhoaaOpn
import Derived.Test.YtejigikcpmhhoaaSho
import Derived.Deep.RegionWith
namespace Go.Proofs.Ytejigikcpmhhoaa
open Go.ChangeShapes Go.WideShapes Go.ChangeAt Go.RowKit Go.Joins
set_option linter.unusedVariables false
set_option linter.unusedSimpArgs false

theorem beq_same (s : ByteArray) (xs : List Int) : (s.toList == s.toList && decide (xs = xs)) = true := by simp

set_option maxHeartbeats 4000000 in
theorem lawShow_any {v : Value} {s : ByteArray} {zs : List Int} {w : World} (h : Row w v zs) (hs : s.size ≤ 9223372036854775807) (hz : zs.length ≤ 9223372036854775807) :
    Calls Try.prog 6 #[patV s v] w fun e w' => e = .returned (.bool true) ∧ Below w.heap.size w w' := by
  have HX := hideP h
  obtain ⟨ao, cap, rfl⟩ := h.shape
  have HZ := hideP hz
  obtain ⟨n, hn⟩ : ∃ n, n = zs.length := ⟨_, rfl⟩
  rw [← hn] at HX
  rw [← hn]
  clear h hn hz
  go_enter Try.func6, Try.ntmps6
  go_wp2_with fail
  refine (szPattern_any (Row.below HX.out (below1 _ _)) hs HZ.out (by omega) (by omega)).mono ?_
  rintro e w1 ⟨⟨m, rfl, hml, hm⟩, hb1⟩
  have hz1 : w.heap.size < w1.heap.size := by have := hb1.size; simp at this; omega
  obtain ⟨hc1, hf1⟩ := bcell hb1
  have B1 : Hid (Below w.heap.size w w1) := below_more (below1 _ _) hb1 (by simp)
  have HM := hideP hm
  clear hb1 hm
  by_cases hneg : m < 0
  · go_wp2
    go_ret
    exact ⟨rfl, B1⟩
  · have HS : Hid (s.size ≤ 1048576 ∧ zs.length ≤ 1048576) := hideP (HM.out (by omega))
    clear HM HZ
    go_wp2_with fail
    refine (toPattern_any (Row.below HX.out B1) HS.out.2).mono ?_
    rintro e w2 ⟨v2, rfl, hp2, hb2⟩
    obtain ⟨a2, c2, rfl⟩ := hp2.shape
    have hz2 : w.heap.size < w2.heap.size := by have := hb2.size; omega
    obtain ⟨hc2, hf2⟩ := bcell hb2
    have B2 : Hid (Below w.heap.size w w2) := below_more B1 hb2 (Below.size B1)
    have P2 : Hid (Row w2 (.slice a2 zs.length c2) zs) := hp2.1
    clear hb2 hp2
    go_wp2_with fail
    refine (specShow_any P2.out HS.out.2 hs).mono ?_
    rintro e w3 ⟨rfl, hb3⟩
    have hz3 : w.heap.size < w3.heap.size := by have := hb3.size; omega
    obtain ⟨hc3, hf3⟩ := bcell hb3
    have B3 : Hid (Below w.heap.size w w3) := below_more B2 hb3 (Below.size B2)
    clear hb3 P2
    go_wp2_with fail
    refine (toPattern_any (Row.below HX.out B3) HS.out.2).mono ?_
    rintro e w4 ⟨v4, rfl, hp4, hb4⟩
    obtain ⟨a4, c4, rfl⟩ := hp4.shape
    obtain ⟨n4, hn4⟩ : ∃ n, n = zs.length := ⟨_, rfl⟩
    rw [← hn4] at hp4
    rw [← hn4]
    clear hn4
    have hz4 : w.heap.size < w4.heap.size := by have := hb4.size; omega
    obtain ⟨hc4, hf4⟩ := bcell hb4
    have B4 : Hid (Below w.heap.size w w4) := below_more B3 hb4 (Below.size B3)
    have P4 : Hid (Row w4 (.slice a4 n4 c4) zs) := hp4.1
    clear hb4 hp4
    obtain ⟨mb, hmb⟩ : ∃ mb, mb = showT s zs := ⟨_, rfl⟩
    rw [← hmb]
    have CI : Hid (∀ W, Below w4.heap.size w4 W → Calls Try.prog 11 #[patV s (.slice a4 n4 c4)] W fun e w' => e = .returned (.string mb) ∧ Below W.heap.size W w') := hideP (by rw [hmb]; intro W hW; exact implShow_any (Row.below P4.out hW) HS.out.2 hs)
    clear hmb
    go_wp2_with fail
    refine (CI.out _ (below1 _ _)).mono ?_
    rintro e w5 ⟨rfl, hb5⟩
    have hz5 : w.heap.size < w5.heap.size := by have := hb5.size; simp at this; omega
    have hy5 : w4.heap.size < w5.heap.size := by have := hb5.size; simp at this; omega
    obtain ⟨hc5, hf5⟩ := bcell hb5
    have B45 : Hid (Below w4.heap.size w4 w5) := below_more (below1 _ _) hb5 (by simp)
    have B5 : Hid (Below w.heap.size w w5) := below_more B4 B45 (Below.size B4)
    clear hb5
    have q0 : w5.cell? ⟨w4.heap.size, 0, none⟩ = some (.string s) := by rw [hc5 _ _ (by simp)]; simp [go_sem]
    have q1 : w5.cell? ⟨w4.heap.size, 1, none⟩ = some (.slice a4 n4 c4) := by rw [hc5 _ _ (by simp)]; simp [go_sem]
    have Q5 : Hid (∀ x : World, Below w5.heap.size w5 x → x.cell? ⟨w4.heap.size, 0, none⟩ = some (.string s) ∧ x.cell? ⟨w4.heap.size, 1, none⟩ = some (.slice a4 n4 c4) ∧ w4.heap.size < x.heap.size) := fun x hx => ⟨(Below.cell hx (p := ⟨w4.heap.size, 0, none⟩) hy5).trans q0, (Below.cell hx (p := ⟨w4.heap.size, 1, none⟩) hy5).trans q1, Nat.lt_of_lt_of_le hy5 (Below.size hx)⟩
    have BD : Below w5.heap.size w5 w5.drew := Below.drew (Below.refl _ _)
    have HXX : Hid (Row w5.drew (.slice ao n cap) zs ∧ Row w5.drew (.slice a4 n4 c4) zs ∧ Below w5.heap.size w5 w5.drew) := ⟨Row.below (Row.below HX.out B5) BD, Row.below (Row.below P4.out B45) BD, BD⟩
    clear BD
    go_wp2
    go_region_with (first
      | (go_at_call 17; refine (toPattern_any HXX.1 HS.out.2).mono ?_; rintro e w6 ⟨v6, rfl, hp6, hb6⟩; obtain ⟨a6, c6, rfl⟩ := hp6.shape; have P6 : Hid (Row w6 (.slice a4 n4 c4) zs ∧ Row w6 (.slice a6 zs.length c6) zs ∧ Below w5.heap.size w5 w6) := ⟨Row.below HXX.2.1 hb6, hp6.1, below_more HXX.2.2 hb6 (Below.size HXX.2.2)⟩; obtain ⟨r0, r1, hs6⟩ := Q5 w6 P6.2.2; clear hb6 hp6)
      | (go_at_call 18; refine (eqPattern_any P6.1 P6.2.1 HS.out.2).mono ?_; rintro e w7 ⟨rfl, hb7⟩; rw [beq_same]; have B7 : Hid (Below w.heap.size w w7) := below_more (below_more B5 P6.2.2 (Below.size B5)) hb7 (Nat.le_trans (Below.size B5) (Below.size P6.2.2)); clear hb7))
    all_goals
      go_wp2
      go_ret
      exact ⟨rfl, ‹Hid (Below w.heap.size w w7)›⟩


set_option maxRecDepth 100000 in
theorem showPattern_lifted (os : Os) (started : os.Started) (H : Type) (enc : TypeId × Value → H) :
    ReturnsInHanded {} Try.checked os 6 .any (Rows.fnExactShowPatternSpec.pre6 enc Try.prog Try.f6 Rows.fnExactShowPatternRow.domain false) (Rows.fnExactShowPatternSpec.post enc Try.prog Try.f6 false true false false) := by
  refine returnsInHanded_of_change (C := Try.checked) ownT started (by kernel_rfl) Try.func6
    (ChangeSpec.witness6 (enc := enc) (C := Try.checked) false ⟨#[], #[.agg #[.string ByteArray.empty, .slice none 0 0]], []⟩ 8 (by kernel_rfl) (by kernel_rfl) (by kernel_rfl) (by kernel_rfl)) ?_
  intro W base args ds gs before hval0 hW hcnd _
  have hval : ∀ (j : Nat) t v, Try.f6.params[j]? = some t → args[j]? = some v → Value.okWide Try.prog W .any base t v := hval0
  have hW' := hW
  obtain ⟨p, q, hA0, hV, rfl, hfz, hnd⟩ := hW
  have hA : DataW.TrodAll enc Try.prog W 0 (fun _ => true) true Try.f6.params.toList args.toList ds p := hA0
  rw [Try.params6] at hA hval
  obtain ⟨v0, vs0, d0, ds0, p0, q0, hargs, rfl, rfl, h0, r0⟩ := trodAll_cons hA
  obtain ⟨rfl, rfl, rfl⟩ := trodAll_nil r0
  obtain rfl : args = #[v0] := by cases args; simp_all
  obtain ⟨rfl, rfl⟩ := trodVars_none hV
  have k0 := h0
  have lt0 : ∀ x ∈ p0, x.block < W.heap.size := by obtain ⟨m, hm⟩ := k0; exact DataW.trod_lt m _ _ _ hm
  obtain ⟨cs, rfl, hsz⟩ := okWide_struct Try.underlying34 (hval 0 34 v0 rfl rfl)
  obtain ⟨fuel, hf⟩ := h0
  obtain ⟨l⟩ := cs
  obtain ⟨c0, c1, rfl⟩ := list2 (cs := l) (by simpa using hsz.trans cells34)
  obtain ⟨s, zs, rfl, hrow, hs, hz⟩ := openPat (y := _) (by simpa [Value.cells] using hf)
  clear hA0 hval0
  refine (lawShow_any hrow hs hz).mono fun e W' ⟨he, bel⟩ => ?_
  subst he
  exact ⟨_, rfl, _, _, _, [], _, [], hW', trodAll_mk1 (shut_bool Try.underlying4 _), (trodAll_cons_mk (Below.trod laidOut (by kernel_rfl) (of_decide_eq_true (by kernel_rfl)) k0 bel lt0) trodAll_mk0), rfl, bel.frame _, fun h => by cases h⟩

theorem showPattern_holds : Rows.FnExactShowPatternSaid :=
  OpenClaim.holds_of_wide 6 Try.f6 rfl rfl rfl rfl rfl rfl rfl ⟨rfl, rfl, rfl, rfl, rfl⟩ rfl rfl rfl rfl rfl (by kernel_rfl) Try.func6 (by kernel_rfl)
    (of_decide_eq_true (by kernel_rfl)) (by unfold Func.isWrapper; first | (rw [if_pos (by decide +kernel)]; kernel_rfl) | (rw [if_neg (by decide +kernel)]; exact ⟨rfl, rfl⟩))
    (fun os started H enc _ => showPattern_lifted os started H enc)
#print axioms showPattern_holds
end Go.Proofs.Ytejigikcpmhhoaa
