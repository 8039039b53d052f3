/-
 Proved: for every Env, laws.FnExactDumpSize returns true and its argument reads behind the call as before it; no condition.
-/
import Derived.Test.YtbpidcfoldkhgaaGreatOpenE
import Derived.Test.YtbpidcfoldkhgaaGreatDwf
import Derived.Deep.RegionWith
namespace Go.Proofs.YtbpidcfoldkhgaaGreat
open Go.ChangeShapes Go.WideShapes Go.ChangeAt Go.RowKit Go.Joins
set_option linter.unusedVariables false
set_option linter.unusedSimpArgs false
set_option maxHeartbeats 4000000 in
theorem lawDumpSize_any {v : Value} {xs : List Lv} {w : World} (h : LRow 0 w v xs) (hf : FnE xs) :
 Calls Tryz.prog 4 #[.agg #[v]] w fun e w' => e = .returned (.bool true) ∧ Below w.heap.size w w' := by
 have HX : Hid (LRow 0 w v xs) := h
 obtain ⟨ao, cap, rfl⟩ := h.shape
 have HF : Hid (FnE xs) := hf
 obtain ⟨n, hn⟩ : ∃ n, n = xs.length := ⟨_, rfl⟩
 rw [← hn] at HX
 rw [← hn]
 clear h hf hn
 go_enter Tryz.func4, Tryz.ntmps4
 go_wp2_with fail
 refine (szEnv_any (SRow.below lvStable HX (below1 _ _)) HF (by omega) (by omega)).mono ?_
 rintro e w1 ⟨⟨m, rfl, hml, hm⟩, hb1⟩
 have hz1 : w.heap.size < w1.heap.size := by have := hb1.size; simp at this; omega
 obtain ⟨hc1, hf1⟩ := bcell hb1
 have B1 : Hid (Below w.heap.size w w1) := below_more (below1 _ _) hb1 (by simp)
 have HM : Hid (0 ≤ m → SmE xs) := hm
 clear hb1 hm
 by_cases hneg : m < 0
 ·go_wp2
  go_ret
  exact ⟨rfl, B1⟩
 ·have HS : Hid (SmE xs) := HM (by omega)
  clear HM
  go_wp2_with fail
  refine (toEnv_any (SRow.below lvStable HX B1) HS).mono ?_
  rintro e w2 ⟨v2, rfl, hp2, hb2⟩
  have hz2 : w.heap.size < w2.heap.size := by have := hb2.size; omega
  obtain ⟨hc2, hf2⟩ := bcell hb2
  have B2 : Hid (Below w.heap.size w w2) := below_more B1 hb2 (Below.size B1)
  have P2 : Hid (LRow 0 w2 v2 xs) := hp2.mono lvStable (Nat.zero_le _)
  clear hb2 hp2
  go_wp2_with fail
  refine (specSize_any P2 HS).mono ?_
  rintro e w3 ⟨rfl, hb3⟩
  have hz3 : w.heap.size < w3.heap.size := by have := hb3.size; omega
  obtain ⟨hc3, hf3⟩ := bcell hb3
  have B3 : Hid (Below w.heap.size w w3) := below_more B2 hb3 (Below.size B2)
  clear hb3 P2
  go_wp2_with fail
  refine (toEnv_any (SRow.below lvStable HX B3) HS).mono ?_
  rintro e w4 ⟨v4, rfl, hp4, hb4⟩
  obtain ⟨a4, c4, rfl⟩ := hp4.shape
  obtain ⟨n4, hn4⟩ : ∃ n, n = xs.length := ⟨_, rfl⟩
  rw [← hn4] at hp4
  rw [← hn4]
  clear hn4
  have hz4 : w.heap.size < w4.heap.size := by have := hb4.size; omega
  obtain ⟨hc4, hf4⟩ := bcell hb4
  have B4 : Hid (Below w.heap.size w w4) := below_more B3 hb4 (Below.size B3)
  have P4 : Hid (LRow 0 w4 (.slice a4 n4 c4) xs) := hp4.mono lvStable (Nat.zero_le _)
  clear hb4 hp4
  obtain ⟨mb, hmb⟩ : ∃ mb, mb = (dmpB xs).length := ⟨_, rfl⟩
  rw [← hmb]
  have CI : Hid (∀ W, Below w4.heap.size w4 W → Calls Tryz.prog 15 #[.agg #[.slice a4 n4 c4]] W fun e w' => e = .returned (.int .i64 (mb : Int)) ∧ Below W.heap.size W w') := by rw [hmb]; intro W hW; exact implSize_any (SRow.below lvStable P4 hW) HS
  clear hmb
  go_wp2_with fail
  refine (CI _ (below1 _ _)).mono ?_
  rintro e w5 ⟨rfl, hb5⟩
  have hz5 : w.heap.size < w5.heap.size := by have := hb5.size; simp at this; omega
  have hy5 : w4.heap.size < w5.heap.size := by have := hb5.size; simp at this; omega
  obtain ⟨hc5, hf5⟩ := bcell hb5
  have B45 : Hid (Below w4.heap.size w4 w5) := below_more (below1 _ _) hb5 (by simp)
  have B5 : Hid (Below w.heap.size w w5) := below_more B4 B45 (Below.size B4)
  clear hb5
  have q0 : w5.cell? ⟨w4.heap.size, 0, none⟩ = some (.slice a4 n4 c4) := by rw [hc5 _ _ (by simp)]; simp [go_sem]
  have Q5 : Hid (∀ x : World, Below w5.heap.size w5 x → x.cell? ⟨w4.heap.size, 0, none⟩ = some (.slice a4 n4 c4) ∧ w4.heap.size < x.heap.size) := fun x hx => ⟨(Below.cell hx (p := ⟨w4.heap.size, 0, none⟩) hy5).trans q0, Nat.lt_of_lt_of_le hy5 (Below.size hx)⟩
  have BD : Below w5.heap.size w5 w5.drew := Below.drew (Below.refl _ _)
  have HXX : Hid (LRow 0 w5.drew (.slice ao n cap) xs ∧ LRow 0 w5.drew (.slice a4 n4 c4) xs ∧ Below w5.heap.size w5 w5.drew) := ⟨SRow.below lvStable (SRow.below lvStable HX B5) BD, SRow.below lvStable (SRow.below lvStable P4 B45) BD, BD⟩
  clear BD
  go_wp2
  go_region_with (first
   | (go_at_call 7; refine (toEnv_any HXX.1 HS).mono ?_; rintro e w6 ⟨v6, rfl, hp6, hb6⟩; obtain ⟨a6, c6, rfl⟩ := hp6.shape; have P6 : Hid (LRow 0 w6 (.slice a4 n4 c4) xs ∧ LRow 0 w6 (.slice a6 xs.length c6) xs ∧ Below w5.heap.size w5 w6) := ⟨SRow.below lvStable HXX.2.1 hb6, hp6.mono lvStable (Nat.zero_le _), below_more HXX.2.2 hb6 (Below.size HXX.2.2)⟩; obtain ⟨r0, hs6⟩ := Q5 w6 P6.2.2; clear hb6 hp6)
   | (go_at_call 10; refine (eqEnv_same P6.1 P6.2.1 HS).mono ?_; rintro e w7 ⟨rfl, hb7⟩; have B7 : Hid (Below w.heap.size w w7) := below_more (below_more B5 P6.2.2 (Below.size B5)) hb7 (Nat.le_trans (Below.size B5) (Below.size P6.2.2)); clear hb7))
  all_goals
   go_wp2
   go_ret
   exact ⟨rfl, ‹Hid (Below w.heap.size w w7)›⟩
set_option maxRecDepth 100000 in
theorem dumpSize_lifted (os : Os) (started : os.Started) (H : Type) (enc : TypeId × Value → H) :
 ReturnsInHanded {} Tryz.checked os 4 .any (Rows.fnExactDumpSizeSpec.pre6 enc Tryz.prog Tryz.f4 Rows.fnExactDumpSizeRow.domain false) (Rows.fnExactDumpSizeSpec.post enc Tryz.prog Tryz.f4 false true false false) := by
 refine returnsInHanded_of_change (C := Tryz.checked) ownT started (by kernel_rfl) Tryz.func4
  (ChangeSpec.witness6 (enc := enc) (C := Tryz.checked) false ⟨#[], #[.agg #[.slice none 0 0]], []⟩ 8 (by kernel_rfl) (by kernel_rfl) (by kernel_rfl) (by kernel_rfl)) ?_
 intro W base args ds gs before hval0 hW hcnd _
 have hval : ∀ (j : Nat) t v, Tryz.f4.params[j]? = some t → args[j]? = some v → Value.okWide Tryz.prog W .any base t v := hval0
 have hW' := hW
 obtain ⟨p, q, hA0, hV, rfl, hfz, hnd⟩ := hW
 have hA : DataW.TrodAll enc Tryz.prog W 0 (fun _ => true) true Tryz.f4.params.toList args.toList ds p := hA0
 rw [Tryz.params4] at hA hval
 obtain ⟨v0, vs0, d0, ds0, p0, q0, hargs, rfl, rfl, h0, r0⟩ := trodAll_cons hA
 obtain ⟨rfl, rfl, rfl⟩ := trodAll_nil r0
 obtain rfl : args = #[v0] := by cases args; simp_all
 obtain ⟨rfl, rfl⟩ := trodVars_none hV
 have k0 := h0
 have lt0 : ∀ x ∈ p0, x.block < W.heap.size := by obtain ⟨m, hm⟩ := k0; exact DataW.trod_lt m _ _ _ hm
 obtain ⟨cs, rfl, hsz⟩ := okWide_struct Tryz.underlying24 (hval 0 24 v0 rfl rfl)
 obtain ⟨fuel, hf⟩ := h0
 obtain ⟨y0, n', _, hlc, g0⟩ := trod_struct1 Tryz.underlying24 hf
 obtain ⟨l⟩ := cs
 simp only [Value.cells] at hlc g0
 obtain ⟨c0, rfl⟩ := list1 (cs := l) (by simpa using hlc.trans (by kernel_rfl : Tryz.prog.cellsOf 24 = 1))
 have g1 : DataW.trod enc Tryz.prog W 0 (fun _ => true) true n' 22 [c0] = some y0 := by simpa [cells22] using g0
 obtain ⟨ls, hrow, hfine⟩ := openLevels g1
 clear hA0 hval0
 refine (lawDumpSize_any hrow hfine).mono fun e W' ⟨he, bel⟩ => ?_
 subst he
 exact ⟨_, rfl, _, _, _, [], _, [], hW', trodAll_mk1 (shut_bool Tryz.underlying4 _), (trodAll_cons_mk (Below.trod laidOut (by kernel_rfl) (of_decide_eq_true (by kernel_rfl)) k0 bel lt0) trodAll_mk0), rfl, bel.frame _, fun h => by cases h⟩
theorem dumpSize_holds : Rows.FnExactDumpSizeSaid :=
 OpenClaim.holds_of_wide 4 Tryz.f4 rfl rfl rfl rfl rfl rfl rfl ⟨rfl, rfl, rfl, rfl, rfl⟩ rfl rfl rfl rfl rfl (by kernel_rfl) Tryz.func4 (by kernel_rfl)
  (of_decide_eq_true (by kernel_rfl)) (by unfold Func.isWrapper; first | (rw [if_pos (by decide +kernel)]; kernel_rfl) | (rw [if_neg (by decide +kernel)]; exact ⟨rfl, rfl⟩))
  (fun os started H enc _ => dumpSize_lifted os started H enc)
#print axioms dumpSize_holds
end Go.Proofs.YtbpidcfoldkhgaaGreat
