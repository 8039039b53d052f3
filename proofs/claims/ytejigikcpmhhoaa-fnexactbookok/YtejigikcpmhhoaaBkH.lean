/-
  Proved: for every Book, laws.FnExactBookOk returns true and its argument reads behind the call as before it; no condition.
-/
import Derived.Test.YtejigikcpmhhoaaOpn
import Derived.Test.YtejigikcpmhhoaaBkt
import Derived.Test.YtejigikcpmhhoaaBks
import Derived.Deep.RegionWith
namespace Go.Proofs.Ytejigikcpmhhoaa
open Go.ChangeShapes Go.WideShapes Go.ChangeAt Go.RowKit Go.Joins
set_option linter.unusedVariables false
set_option linter.unusedSimpArgs false

/-- Two rows in a world. -/
def TwoR (w : World) (vp vw : Value) (ps ws : List Pt) : Prop := PRow 0 w vp ps ∧ PRow 0 w vw ws
theorem TwoR.below {w w' : World} {vp vw : Value} {ps ws : List Pt} (h : TwoR w vp vw ps ws) (hb : Below w.heap.size w w') : TwoR w' vp vw ps ws := ⟨SRow.below ptStable h.1 hb, SRow.below ptStable h.2 hb⟩

set_option maxHeartbeats 4000000 in
theorem lawBook_any {vp vw : Value} {ps ws : List Pt} {w : World} (h : TwoR w vp vw ps ws) (hf1 : FnR ps) (hf2 : FnR ws) :
    Calls Try.prog 7 #[.agg #[vp, vw]] w fun e w' => e = .returned (.bool true) ∧ Below w.heap.size w w' := by
  have HX := hideP h
  obtain ⟨ao, n, cap, rfl⟩ : ∃ a n c, vp = .slice a n c := by obtain ⟨a, c, rfl⟩ := h.1.shape; exact ⟨_, _, _, rfl⟩
  obtain ⟨ao2, n2, cap2, rfl⟩ : ∃ a n c, vw = .slice a n c := by obtain ⟨a, c, rfl⟩ := h.2.shape; exact ⟨_, _, _, rfl⟩
  have F1 := hideP hf1
  have F2 := hideP hf2
  clear h hf1 hf2
  go_enter Try.func7, Try.ntmps7
  go_wp2_with fail
  refine (szBook_any (HX.out.below (below1 _ _)).1 (HX.out.below (below1 _ _)).2 F1.out F2.out (by omega) (by omega)).mono ?_
  rintro e w1 ⟨⟨m, rfl, hml, hm⟩, hb1⟩
  have hz1 : w.heap.size < w1.heap.size := by have := hb1.size; simp at this; omega
  obtain ⟨hc1, hf1⟩ := bcell hb1
  have B1 : Hid (Below w.heap.size w w1) := below_more (below1 _ _) hb1 (by simp)
  have HM := hideP hm
  clear hb1 hm
  by_cases hneg : m < 0
  · go_wp2
    go_ret
    exact ⟨rfl, B1⟩
  · have HS : Hid (SmR ps ∧ SmR ws) := hideP (HM.out (by omega))
    clear HM F1 F2
    go_wp2_with fail
    refine (toBook_any (HX.out.below B1).1 (HX.out.below B1).2 HS.out.1 HS.out.2).mono ?_
    rintro e w2 ⟨v2, u2, rfl, hp2, hq2, hb2⟩
    obtain ⟨a2, m2, c2, rfl⟩ : ∃ a n c, v2 = .slice a n c := by obtain ⟨a, c, rfl⟩ := hp2.shape; exact ⟨_, _, _, rfl⟩
    obtain ⟨a3, m3, c3, rfl⟩ : ∃ a n c, u2 = .slice a n c := by obtain ⟨a, c, rfl⟩ := hq2.shape; exact ⟨_, _, _, rfl⟩
    have hz2 : w.heap.size < w2.heap.size := by have := hb2.size; omega
    obtain ⟨hc2, hf2⟩ := bcell hb2
    have B2 : Hid (Below w.heap.size w w2) := below_more B1 hb2 (Below.size B1)
    have P2 : Hid (TwoR w2 (.slice a2 m2 c2) (.slice a3 m3 c3) ps ws) := hideP ⟨hp2.mono ptStable (Nat.zero_le _), hq2.mono ptStable (Nat.zero_le _)⟩
    clear hb2 hp2 hq2
    go_wp2_with fail
    refine (specBook_any P2.out.1 P2.out.2 HS.out.1 HS.out.2).mono ?_
    rintro e w3 ⟨rfl, hb3⟩
    have hz3 : w.heap.size < w3.heap.size := by have := hb3.size; omega
    obtain ⟨hc3, hf3⟩ := bcell hb3
    have B3 : Hid (Below w.heap.size w w3) := below_more B2 hb3 (Below.size B2)
    clear hb3 P2
    go_wp2_with fail
    refine (toBook_any (HX.out.below B3).1 (HX.out.below B3).2 HS.out.1 HS.out.2).mono ?_
    rintro e w4 ⟨v4, u4, rfl, hp4, hq4, hb4⟩
    obtain ⟨a4, n4, c4, rfl⟩ : ∃ a n c, v4 = .slice a n c := by obtain ⟨a, c, rfl⟩ := hp4.shape; exact ⟨_, _, _, rfl⟩
    obtain ⟨a5, n5, c5, rfl⟩ : ∃ a n c, u4 = .slice a n c := by obtain ⟨a, c, rfl⟩ := hq4.shape; exact ⟨_, _, _, rfl⟩
    have hz4 : w.heap.size < w4.heap.size := by have := hb4.size; omega
    obtain ⟨hc4, hf4⟩ := bcell hb4
    have B4 : Hid (Below w.heap.size w w4) := below_more B3 hb4 (Below.size B3)
    have P4 : Hid (TwoR w4 (.slice a4 n4 c4) (.slice a5 n5 c5) ps ws) := hideP ⟨hp4.mono ptStable (Nat.zero_le _), hq4.mono ptStable (Nat.zero_le _)⟩
    clear hb4 hp4 hq4
    obtain ⟨mb, hmb⟩ : ∃ mb, mb = bookB ps ws := ⟨_, rfl⟩
    rw [← hmb]
    have CI : Hid (∀ W, Below w4.heap.size w4 W → Calls Try.prog 26 #[.agg #[.slice a4 n4 c4, .slice a5 n5 c5]] W fun e w' => e = .returned (.bool mb) ∧ Below W.heap.size W w') := hideP (by rw [hmb]; intro W hW; exact implBook_any (P4.out.below hW).1 (P4.out.below hW).2 HS.out.1 HS.out.2)
    clear hmb
    go_wp2_with fail
    refine (CI.out _ (below1 _ _)).mono ?_
    rintro e w5 ⟨rfl, hb5⟩
    have hz5 : w.heap.size < w5.heap.size := by have := hb5.size; simp at this; omega
    have hy5 : w4.heap.size < w5.heap.size := by have := hb5.size; simp at this; omega
    obtain ⟨hc5, hf5⟩ := bcell hb5
    have B45 : Hid (Below w4.heap.size w4 w5) := below_more (below1 _ _) hb5 (by simp)
    have B5 : Hid (Below w.heap.size w w5) := below_more B4 B45 (Below.size B4)
    clear hb5
    have q0 : w5.cell? ⟨w4.heap.size, 0, none⟩ = some (.slice a4 n4 c4) := by rw [hc5 _ _ (by simp)]; simp [go_sem]
    have q1 : w5.cell? ⟨w4.heap.size, 1, none⟩ = some (.slice a5 n5 c5) := by rw [hc5 _ _ (by simp)]; simp [go_sem]
    have Q5 : Hid (∀ x : World, Below w5.heap.size w5 x → x.cell? ⟨w4.heap.size, 0, none⟩ = some (.slice a4 n4 c4) ∧ x.cell? ⟨w4.heap.size, 1, none⟩ = some (.slice a5 n5 c5) ∧ w4.heap.size < x.heap.size) := fun x hx => ⟨(Below.cell hx (p := ⟨w4.heap.size, 0, none⟩) hy5).trans q0, (Below.cell hx (p := ⟨w4.heap.size, 1, none⟩) hy5).trans q1, Nat.lt_of_lt_of_le hy5 (Below.size hx)⟩
    have BD : Below w5.heap.size w5 w5.drew := Below.drew (Below.refl _ _)
    have HXX : Hid (TwoR w5.drew (.slice ao n cap) (.slice ao2 n2 cap2) ps ws ∧ TwoR w5.drew (.slice a4 n4 c4) (.slice a5 n5 c5) ps ws ∧ Below w5.heap.size w5 w5.drew) := ⟨(HX.out.below B5).below BD, (P4.out.below B45).below BD, BD⟩
    clear BD
    go_wp2
    go_region_with (first
      | (go_at_call 25; refine (toBook_any HXX.1.1 HXX.1.2 HS.out.1 HS.out.2).mono ?_; rintro e w6 ⟨v6, u6, rfl, hp6, hq6, hb6⟩; obtain ⟨a6, m6, c6, rfl⟩ : ∃ a n c, v6 = .slice a n c := (by obtain ⟨a, c, rfl⟩ := hp6.shape; exact ⟨_, _, _, rfl⟩); obtain ⟨a7, m7, c7, rfl⟩ : ∃ a n c, u6 = .slice a n c := (by obtain ⟨a, c, rfl⟩ := hq6.shape; exact ⟨_, _, _, rfl⟩); have P6 : Hid (TwoR w6 (.slice a4 n4 c4) (.slice a5 n5 c5) ps ws ∧ TwoR w6 (.slice a6 m6 c6) (.slice a7 m7 c7) ps ws ∧ Below w5.heap.size w5 w6) := ⟨HXX.2.1.below hb6, ⟨hp6.mono ptStable (Nat.zero_le _), hq6.mono ptStable (Nat.zero_le _)⟩, below_more HXX.2.2 hb6 (Below.size HXX.2.2)⟩; obtain ⟨r0, r1, hs6⟩ := Q5 w6 P6.2.2; clear hb6 hp6 hq6)
      | (go_at_call 27; refine (eqBook_same P6.1.1 P6.1.2 P6.2.1.1 P6.2.1.2 HS.out.1 HS.out.2).mono ?_; rintro e w7 ⟨rfl, hb7⟩; have B7 : Hid (Below w.heap.size w w7) := below_more (below_more B5 P6.2.2 (Below.size B5)) hb7 (Nat.le_trans (Below.size B5) (Below.size P6.2.2)); clear hb7))
    all_goals
      go_wp2
      go_ret
      exact ⟨rfl, ‹Hid (Below w.heap.size w w7)›⟩

theorem openExc {H : Type} {enc : TypeId × Value → H} {w : World} {base : Nat} {held : Bool} {fuel : Nat} {c0 c1 : Value} {y : DataW H × List MemPlace}
    (hf : DataW.trod enc Try.prog w base (fun _ => true) held fuel 90 [c0, c1] = some y) : ∃ (s : ByteArray) (zs : List Int), c0 = .string s ∧ Row w c1 zs ∧ s.size ≤ 9223372036854775807 ∧ zs.length ≤ 9223372036854775807 := by
  obtain ⟨xs, n, _, _, _, hlen, hfs⟩ := DataW.trod_struct Try.underlying90 hf
  obtain ⟨y0, y1, rfl⟩ := list2 (by simpa using hlen)
  have g0 : DataW.trod enc Try.prog w base (fun _ => true) held n 9 [c0] = some y0 := by simpa [cells9] using hfs 0 _ rfl
  have g1 : DataW.trod enc Try.prog w base (fun _ => true) held n 24 [c1] = some y1 := by simpa [cells9, cells24] using hfs 1 _ rfl
  obtain ⟨s, e, hs⟩ := DataW.trod_string Try.underlying9 g0
  obtain ⟨zs, hr, hz⟩ := openInts g1
  simp at e
  exact ⟨s, zs, e, hr, by first | exact hs.2 | omega, hz⟩

set_option maxRecDepth 100000 in
theorem bookOk_lifted (os : Os) (started : os.Started) (H : Type) (enc : TypeId × Value → H) :
    ReturnsInHanded {} Try.checked os 7 .any (Rows.fnExactBookOkSpec.pre6 enc Try.prog Try.f7 Rows.fnExactBookOkRow.domain false) (Rows.fnExactBookOkSpec.post enc Try.prog Try.f7 false true false false) := by
  refine returnsInHanded_of_change (C := Try.checked) ownT started (by kernel_rfl) Try.func7
    (ChangeSpec.witness6 (enc := enc) (C := Try.checked) false ⟨#[], #[.agg #[.slice none 0 0, .slice none 0 0]], []⟩ 8 (by kernel_rfl) (by kernel_rfl) (by kernel_rfl) (by kernel_rfl)) ?_
  intro W base args ds gs before hval0 hW hcnd _
  have hval : ∀ (j : Nat) t v, Try.f7.params[j]? = some t → args[j]? = some v → Value.okWide Try.prog W .any base t v := hval0
  have hW' := hW
  obtain ⟨p, q, hA0, hV, rfl, hfz, hnd⟩ := hW
  have hA : DataW.TrodAll enc Try.prog W 0 (fun _ => true) true Try.f7.params.toList args.toList ds p := hA0
  rw [Try.params7] at hA hval
  obtain ⟨v0, vs0, d0, ds0, p0, q0, hargs, rfl, rfl, h0, r0⟩ := trodAll_cons hA
  obtain ⟨rfl, rfl, rfl⟩ := trodAll_nil r0
  obtain rfl : args = #[v0] := by cases args; simp_all
  obtain ⟨rfl, rfl⟩ := trodVars_none hV
  have k0 := h0
  have lt0 : ∀ x ∈ p0, x.block < W.heap.size := by obtain ⟨m, hm⟩ := k0; exact DataW.trod_lt m _ _ _ hm
  obtain ⟨cs, rfl, hsz⟩ := okWide_struct Try.underlying44 (hval 0 44 v0 rfl rfl)
  obtain ⟨fuel, hf⟩ := h0
  obtain ⟨l⟩ := cs
  obtain ⟨c0, c1, rfl⟩ := list2 (cs := l) (by simpa using hsz.trans cells44)
  obtain ⟨xs, n, _, _, _, hlen, hfs⟩ := DataW.trod_struct Try.underlying44 (by simpa [Value.cells] using hf : DataW.trod enc Try.prog W 0 (fun _ => true) true fuel 44 [c0, c1] = _)
  obtain ⟨y0, y1, rfl⟩ := list2 (by simpa using hlen)
  have g0 : DataW.trod enc Try.prog W 0 (fun _ => true) true n 41 [c0] = some y0 := by simpa [cells41] using hfs 0 _ rfl
  have g1 : DataW.trod enc Try.prog W 0 (fun _ => true) true n 42 [c1] = some y1 := by simpa [cells41, cells42] using hfs 1 _ rfl
  obtain ⟨ps, hr1, hl1, hF1⟩ := openSlice (R := PtR) (F := FnP) Pt.none Try.underlying41 cells34 (by omega) (fun fuel cs y ht hl => by
    obtain ⟨d0, d1, rfl⟩ := list2 hl
    obtain ⟨s, zs, rfl, hrow, hs, hz⟩ := openPat ht
    exact ⟨⟨s, zs⟩, ⟨_, rfl, RIn.zero hrow⟩, hs, hz⟩) g0
  obtain ⟨ws, hr2, hl2, hF2⟩ := openSlice (R := PtR) (F := FnP) Pt.none Try.underlying42 cells90 (by omega) (fun fuel cs y ht hl => by
    obtain ⟨d0, d1, rfl⟩ := list2 hl
    obtain ⟨s, zs, rfl, hrow, hs, hz⟩ := openExc ht
    exact ⟨⟨s, zs⟩, ⟨_, rfl, RIn.zero hrow⟩, hs, hz⟩) g1
  clear hA0 hval0
  refine (lawBook_any ⟨hr1, hr2⟩ ⟨hl1, hF1⟩ ⟨hl2, hF2⟩).mono fun e W' ⟨he, bel⟩ => ?_
  subst he
  exact ⟨_, rfl, _, _, _, [], _, [], hW', trodAll_mk1 (shut_bool Try.underlying4 _), (trodAll_cons_mk (Below.trod laidOut (by kernel_rfl) (of_decide_eq_true (by kernel_rfl)) k0 bel lt0) trodAll_mk0), rfl, bel.frame _, fun h => by cases h⟩

theorem bookOk_holds : Rows.FnExactBookOkSaid :=
  OpenClaim.holds_of_wide 7 Try.f7 rfl rfl rfl rfl rfl rfl rfl ⟨rfl, rfl, rfl, rfl, rfl⟩ rfl rfl rfl rfl rfl (by kernel_rfl) Try.func7 (by kernel_rfl)
    (of_decide_eq_true (by kernel_rfl)) (by unfold Func.isWrapper; first | (rw [if_pos (by decide +kernel)]; kernel_rfl) | (rw [if_neg (by decide +kernel)]; exact ⟨rfl, rfl⟩))
    (fun os started H enc _ => bookOk_lifted os started H enc)
#print axioms bookOk_holds
end Go.Proofs.Ytejigikcpmhhoaa
