/-
 Proved: for every Env, laws.FnExactDump returns true and its argument reads behind the call as before it; no condition.
-/
import Derived.Test.YtbpidcfoldkhgaaGreatOpenE
import Derived.Test.YtbpidcfoldkhgaaGreatDxe
import Derived.Test.YtbpidcfoldkhgaaGreatMrg
import Derived.Deep.RegionWith
namespace Go.Proofs.YtbpidcfoldkhgaaGreat
open Go.ChangeShapes Go.WideShapes Go.ChangeAt Go.RowKit Go.Joins
set_option linter.unusedVariables false
set_option linter.unusedSimpArgs false
theorem dmp_most (xs : List Lv) : (dmpB xs).length ≤ 70368744177000 := by
 unfold dmpB
 by_cases h : envB xs = true ∧ xs.length = 1
 ·rw [if_pos h, List.length_append]
  have h1 := h.1
  unfold envB at h1
  simp only [Bool.and_eq_true] at h1
  have h2 := levB_d (all_in h1.2 (xs.getD 0 Lv.none) (getD_in (ts := xs) (k := 0) Lv.none (by rw [h.2]; omega)))
  have h3 := h2.all
  have h4 : (endB (lvlB (xs.getD 0 Lv.none))).length = 2 := rfl
  omega
 ·rw [if_neg h]
  simp
theorem grow_below {W W' : World} {B b : Nat} {v : Value} {zs : List Int} (h : W.grownBy W' v.ownBlock) (hb : BO b W v zs) (hB : B ≤ b) (hs : B ≤ W.heap.size) : Below B W W' :=
 ⟨h.os, h.tape, h.output, h.size, fun k hk => h.block k (Nat.lt_of_lt_of_le hk hs) (fun e => by have := (hb.row k e.symm).1; omega)⟩
theorem lrow_p {lo : Nat} {w : World} {v : Value} {xs : List Lv} (h : LRowP lo w v xs) : LRow 0 w v xs := by exact (SRowP.row lpStable lvP_R h).mono lvStable (Nat.zero_le _)
set_option maxRecDepth 20000 in
set_option maxHeartbeats 8000000 in
theorem lawDump_any {v : Value} {xs : List Lv} {w : World} (h : LRow 0 w v xs) (hf : FnE xs) :
 Calls Tryz.prog 3 #[.agg #[v]] w fun e w' => e = .returned (.bool true) ∧ Below w.heap.size w w' := by
 have HX : Hid (LRow 0 w v xs) := h
 obtain ⟨ao, cap, rfl⟩ := h.shape
 have HF : Hid (FnE xs) := hf
 obtain ⟨n, hn⟩ : ∃ n, n = xs.length := ⟨_, rfl⟩
 have HN := hideP hn
 rw [← hn] at HX
 rw [← hn]
 clear h hf hn
 go_enter Tryz.func3, Tryz.ntmps3
 go_wp2_with fail
 refine (szEnv_t (SRow.below lvStable HX (below1 _ _)) HF (by omega) (by omega)).mono ?_
 rintro e w1 ⟨⟨m, rfl, hml, hm⟩, hb1⟩
 have hz1 : w.heap.size < w1.heap.size := by have := hb1.size; simp at this; omega
 obtain ⟨hc1, hf1⟩ := bcell hb1
 have B1 : Hid (Below w.heap.size w w1) := below_more (below1 _ _) hb1 (by simp)
 have c1 : w1.cell? ⟨w.heap.size, 0, none⟩ = some (.slice ao n cap) := by rw [hc1 _ _ (by simp)]; simp [go_sem]
 have HM : Hid (0 ≤ m → SmE2 xs) := hm
 clear hb1 hm hc1 hf1
 by_cases hneg : m < 0
 ·go_wp2
  go_ret
  exact ⟨rfl, B1⟩
 ·have HS2 : Hid (SmE2 xs) := HM (by omega)
  have HS : Hid (SmE xs) := SmE2.old HS2
  have E0 : Hid (∀ X, Below w1.heap.size w1 X → X.cell? ⟨w.heap.size, 0, none⟩ = some (.slice ao n cap) ∧ w.heap.size < X.heap.size) := hideP (fun X hX => ⟨(hX.cell (p := ⟨w.heap.size, 0, none⟩) hz1).trans c1, Nat.lt_of_lt_of_le hz1 hX.size⟩)
  have XE : Hid (∀ X, Below w.heap.size w X → LRow 0 X (.slice ao n cap) xs) := hideP (fun X hX => SRow.below lvStable HX hX)
  obtain ⟨Z, hZ⟩ : ∃ z, z = dmpB xs := ⟨_, rfl⟩
  have ZL : Hid (Z.length ≤ 70368744177000) := hideP (by rw [hZ]; exact dmp_most xs)
  have CS : Hid (∀ X v, LRow 0 X v xs → Calls Tryz.prog 6 #[.agg #[v]] X fun e W' => (∃ u, e = .returned u ∧ BO X.heap.size W' u Z) ∧ Below X.heap.size X W') := hideP (fun X v hX => by rw [hZ]; exact specDump_any hX HS)
  have CI : Hid (∀ X v, LRow 0 X v xs → Calls Tryz.prog 8 #[.agg #[v]] X fun e W' => (∃ u, e = .returned u ∧ BO X.heap.size W' u Z) ∧ Below X.heap.size X W') := hideP (fun X v hX => by rw [hZ]; exact implDump_any hX HS)
  clear HM hZ
  go_wp2_with fail
  refine (toEnv_any (XE.out _ B1) HS).mono ?_
  rintro e w2 ⟨v2, rfl, hp2, hb2⟩
  have K2 := hideP hb2
  have P2 := hideP (hp2.mono lvStable (Nat.zero_le _))
  clear hb2 hp2
  go_wp2_with fail
  refine (CS.out _ _ P2.out).mono ?_
  rintro e w3 ⟨⟨u4, rfl, ho3⟩, hb3⟩
  have K3 := hideP (below_more K2.out hb3 K2.out.size)
  have O3 := hideP ho3
  obtain ⟨c3, z3⟩ := E0.out _ K3.out
  obtain ⟨a4, n4, p4, rfl⟩ := BO.shp ho3
  have B3 : Hid (Below w.heap.size w w3) := below_more B1 K3.out (Below.size B1)
  have U4 : Hid (∀ X, Below w3.heap.size w3 X → BO w2.heap.size X (.slice a4 n4 p4) Z) := hideP (fun X hX => O3.out.kept hX)
  clear hb3 ho3 P2
  go_wp2_with fail
  refine (toEnv_p (XE.out _ B3.out) HS).mono ?_
  rintro e w4 ⟨v4, rfl, hp4, hb4⟩
  have R4 := hideP (lrow_p hp4)
  obtain ⟨o, rfl, ml⟩ := SRowP.mls hp4 (Nat.le_refl w4.heap.size)
  rw [← show n = xs.length from HN] at R4 ⊢
  have ML := hideP ml
  have B34 := hideP hb4
  clear hp4 ml hb4
  go_wp2_with fail
  refine (CI.out _ _ (SRow.below lvStable R4.out (below1 _ _))).mono ?_
  rintro e w5 ⟨⟨u6, rfl, ho5⟩, hb5⟩
  have B45 := hideP ((below1 w4 _).trans (hb5.mono (by simp)))
  have e5 : w5.cell? ⟨w4.heap.size, 0, none⟩ = some (.slice (some ⟨o, 0, none⟩) n n) := (hb5.cell (p := ⟨w4.heap.size, 0, none⟩) (by simp)).trans (cell_new _ _ _)
  have zz5 : w4.heap.size < w5.heap.size := by have := hb5.size; simp at this; omega
  have B35 := hideP (below_more B34.out B45.out B34.out.size)
  have O5 : Hid (BO (w4.heap.size + 1) w5 u6 Z) := hideP (by have h := ho5; rw [World.size_alloc] at h; exact h)
  obtain ⟨a6, n6, p6, rfl⟩ := BO.shp ho5
  have E5 : Hid (∀ X, Below w5.heap.size w5 X → X.cell? ⟨w4.heap.size, 0, none⟩ = some (.slice (some ⟨o, 0, none⟩) n n) ∧ w4.heap.size < X.heap.size) := hideP (fun X hX => ⟨(hX.cell (p := ⟨w4.heap.size, 0, none⟩) zz5).trans e5, Nat.lt_of_lt_of_le zz5 hX.size⟩)
  clear hb5 ho5
  go_wp2_with fail
  refine (eqBytes_same O5.out (U4.out _ B35.out) (by have := ZL.out; omega)).mono ?_
  rintro e w6 ⟨rfl, hb6⟩
  have K6 := hideP hb6
  have B36 := hideP (below_more B35.out hb6 B35.out.size)
  clear hb6
  obtain ⟨d0, s0⟩ := E5.out w6 K6.out
  have K16 := hideP (below_more K3.out B36.out K3.out.size)
  obtain ⟨f0, s1⟩ := E0.out w6 K16.out
  have B06 := hideP (below_more B3.out B36.out B3.out.size)
  have B46 := hideP (below_more B45.out K6.out B45.out.size)
  have BD : Below w6.heap.size w6 w6.drew := Below.drew (Below.refl _ _)
  have HXX : Hid (LRow 0 w6.drew (.slice ao n cap) xs ∧ LRow 0 w6.drew (.slice (some ⟨o, 0, none⟩) n n) xs ∧ Below w6.heap.size w6 w6.drew) := ⟨SRow.below lvStable (XE.out _ B06.out) BD, SRow.below lvStable (SRow.below lvStable R4.out B46.out) BD, BD⟩
  clear BD c3 z3 e5 zz5 c1
  go_wp2
  go_region_with (first
   | (go_at_call 7; refine (toEnv_any HXX.1 HS).mono ?_; rintro e w7 ⟨v7, rfl, hp7, hb7⟩; obtain ⟨a7, c7, rfl⟩ := hp7.shape; have P7 : Hid (LRow 0 w7 (.slice (some ⟨o, 0, none⟩) n n) xs ∧ LRow 0 w7 (.slice a7 xs.length c7) xs ∧ Below w6.heap.size w6 w7) := ⟨SRow.below lvStable HXX.2.1 hb7, hp7.mono lvStable (Nat.zero_le _), below_more HXX.2.2 hb7 (Below.size HXX.2.2)⟩; obtain ⟨r0, hs7⟩ := E5.out w7 (below_more K6.out P7.2.2 K6.out.size); clear hb7 hp7)
   | (go_at_call 10; refine (eqEnv_same P7.1 P7.2.1 HS).mono ?_; rintro e w8 ⟨rfl, hb8⟩; have K8 : Hid (Below w6.heap.size w6 w8) := below_more P7.2.2 hb8 (Below.size P7.2.2); clear hb8))
  all_goals
   have L8 := hideP (below_more K6.out K8.out K6.out.size)
   obtain ⟨e8, z8⟩ := E5.out w8 L8.out
   have B48 := hideP (below_more B45.out L8.out B45.out.size)
   have B38 := hideP (below_more B34.out B48.out B34.out.size)
   have O8 := hideP (O5.out.kept L8.out)
   clear d0 s0 f0 s1
   go_wp2_with fail
   refine (markEnv_f HN.out HS2.out B38.out.size (MLs.frm ML.out (Frm.of_below B48.out B34.out.size))).mono ?_
   rintro e w9 ⟨⟨K, rfl⟩, f9⟩
   have B39 := hideP (B38.out.trans f9.below)
   have O9 : Hid (BO (w4.heap.size + 1) w9 (.slice a6 n6 p6) Z) := hideP (row_kept O8.out (fun g hg => f9.abv.block g (by have := (row_type O8.out hg).1; omega) (DW.row_lt O8.out hg)))
   have hK : ¬ (K : Int) < 0 := by omega
   clear f9 e8 z8
   go_wp2_with fail
   refine (eqBytes_same O9.out (U4.out _ B39.out) (by have := ZL.out; omega)).mono ?_
   rintro e w10 ⟨rfl, hb10⟩
   have B310 := hideP (below_more B39.out hb10 B39.out.size)
   have O10 := hideP (O9.out.kept hb10)
   clear hb10
   go_wp2_with fail
   refine (markBytes_any O10.out (by have := ZL.out; omega)).mono ?_
   rintro e w11 ⟨rfl, m11, g11⟩
   have B311 := hideP (B310.out.trans (grow_below g11 O10.out (by have := B34.out.size; omega) B310.out.size))
   have M11 := hideP m11
   have hq : ¬ ((Z.length : Int) + 1) < 0 := by omega
   clear m11 g11
   go_wp2_with fail
   refine (heldBytes_any M11.out (by have := ZL.out; omega)).mono ?_
   rintro e w12 ⟨rfl, hb12⟩
   have B312 := hideP (below_more B311.out hb12 B311.out.size)
   have M12 := hideP (M11.out.kept hb12)
   obtain ⟨c12, z12⟩ := E0.out w12 (below_more K3.out B312.out K3.out.size)
   clear hb12
   go_wp2_with fail
   refine (toEnv_any (XE.out _ (below_more B3.out B312.out B3.out.size)) HS).mono ?_
   rintro e w13 ⟨v13, rfl, hp13, hb13⟩
   have P13 := hideP (hp13.mono lvStable (Nat.zero_le _))
   have B313 := hideP (below_more B312.out hb13 B312.out.size)
   have M13 := hideP (M12.out.kept hb13)
   clear hp13 hb13 c12 z12
   go_wp2_with fail
   refine (CI.out _ _ P13.out).mono ?_
   rintro e w14 ⟨⟨u10, rfl, ho14⟩, hb14⟩
   have O14 := hideP ho14
   obtain ⟨a10, n10, p10, rfl⟩ := BO.shp ho14
   have B314 := hideP (below_more B313.out hb14 B313.out.size)
   have M14 := hideP (M13.out.kept hb14)
   clear ho14 hb14
   go_wp2_with fail
   refine (eqBytes_same O14.out (U4.out _ B314.out) (by have := ZL.out; omega)).mono ?_
   rintro e w15 ⟨rfl, hb15⟩
   have B315 := hideP (below_more B314.out hb15 B314.out.size)
   have M15 := hideP (M14.out.kept hb15)
   clear hb15
   go_wp2_with fail
   refine (heldBytes_any M15.out (by have := ZL.out; omega)).mono ?_
   rintro e w16 ⟨rfl, hb16⟩
   have B316 := hideP (below_more B315.out hb16 B315.out.size)
   clear hb16
   go_wp2
   go_ret
   exact ⟨rfl, below_more B3.out B316.out B3.out.size⟩
set_option maxRecDepth 100000 in
theorem dump_lifted (os : Os) (started : os.Started) (H : Type) (enc : TypeId × Value → H) :
 ReturnsInHanded {} Tryz.checked os 3 .any (Rows.fnExactDumpSpec.pre6 enc Tryz.prog Tryz.f3 Rows.fnExactDumpRow.domain false) (Rows.fnExactDumpSpec.post enc Tryz.prog Tryz.f3 false true false false) := by
 refine returnsInHanded_of_change (C := Tryz.checked) ownT started (by kernel_rfl) Tryz.func3
  (ChangeSpec.witness6 (enc := enc) (C := Tryz.checked) false ⟨#[], #[.agg #[.slice none 0 0]], []⟩ 8 (by kernel_rfl) (by kernel_rfl) (by kernel_rfl) (by kernel_rfl)) ?_
 intro W base args ds gs before hval0 hW hcnd _
 have hval : ∀ (j : Nat) t v, Tryz.f3.params[j]? = some t → args[j]? = some v → Value.okWide Tryz.prog W .any base t v := hval0
 have hW' := hW
 obtain ⟨p, q, hA0, hV, rfl, hfz, hnd⟩ := hW
 have hA : DataW.TrodAll enc Tryz.prog W 0 (fun _ => true) true Tryz.f3.params.toList args.toList ds p := hA0
 rw [Tryz.params3] at hA hval
 obtain ⟨v0, vs0, d0, ds0, p0, q0, hargs, rfl, rfl, h0, r0⟩ := trodAll_cons hA
 obtain ⟨rfl, rfl, rfl⟩ := trodAll_nil r0
 obtain rfl : args = #[v0] := by cases args; simp_all
 obtain ⟨rfl, rfl⟩ := trodVars_none hV
 have k0 := h0
 have lt0 : ∀ x ∈ p0, x.block < W.heap.size := by obtain ⟨m, hm⟩ := k0; exact DataW.trod_lt m _ _ _ hm
 obtain ⟨cs, rfl, hsz⟩ := okWide_struct Tryz.underlying24 (hval 0 24 v0 rfl rfl)
 obtain ⟨fuel, hf⟩ := h0
 obtain ⟨y0, n', _, hlc, g0⟩ := trod_struct1 Tryz.underlying24 hf
 obtain ⟨l⟩ := cs
 simp only [Value.cells] at hlc g0
 obtain ⟨c0, rfl⟩ := list1 (cs := l) (by simpa using hlc.trans (by kernel_rfl : Tryz.prog.cellsOf 24 = 1))
 have g1 : DataW.trod enc Tryz.prog W 0 (fun _ => true) true n' 22 [c0] = some y0 := by simpa [cells22] using g0
 obtain ⟨ls, hrow, hfine⟩ := openLevels g1
 clear hA0 hval0
 refine (lawDump_any hrow hfine).mono fun e W' ⟨he, bel⟩ => ?_
 subst he
 exact ⟨_, rfl, _, _, _, [], _, [], hW', trodAll_mk1 (shut_bool Tryz.underlying4 _), (trodAll_cons_mk (Below.trod laidOut (by kernel_rfl) (of_decide_eq_true (by kernel_rfl)) k0 bel lt0) trodAll_mk0), rfl, bel.frame _, fun h => by cases h⟩
theorem dump_holds : Rows.FnExactDumpSaid :=
 OpenClaim.holds_of_wide 3 Tryz.f3 rfl rfl rfl rfl rfl rfl rfl ⟨rfl, rfl, rfl, rfl, rfl⟩ rfl rfl rfl rfl rfl (by kernel_rfl) Tryz.func3 (by kernel_rfl)
  (of_decide_eq_true (by kernel_rfl)) (by unfold Func.isWrapper; first | (rw [if_pos (by decide +kernel)]; kernel_rfl) | (rw [if_neg (by decide +kernel)]; exact ⟨rfl, rfl⟩))
  (fun os started H enc _ => dump_lifted os started H enc)
#print axioms dump_holds
end Go.Proofs.YtbpidcfoldkhgaaGreat
