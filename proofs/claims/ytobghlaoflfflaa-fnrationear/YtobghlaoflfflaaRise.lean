/-
  Proved: for every bytes, laws.FnBadRises returns true and its argument reads behind the call as before it; no condition.
-/
import Derived.Test.YtobghlaoflfflaaDraw
import Derived.Test.YtobghlaoflfflaaBadB
import Derived.ProofKit
import Derived.OpenShut
import Derived.ShutString
import Derived.ChangeOld
import Derived.SizedLaws
namespace Go.Proofs.Ytobghlaoflfflaa
open Go.ChangeShapes Go.WideShapes Go.ChangeAt Go.RowKit
set_option linter.unusedVariables false
set_option linter.unusedSimpArgs false

theorem badN_mono {s s' c : Nat} (hc : 0 < c) (h : s ≤ s') : badN s c ≤ badN s' c := by
  by_cases h0 : badN s c = 0
  · omega
  · have h1 : badN s c ≤ 10000 := BigN.part_le _ _ _
    refine (bad_iff s' c _ hc (by omega) h1).1 ?_
    have h2 := (bad_iff s c _ hc (by omega) h1).2 (Nat.le_refl _)
    have h3 : s * s * s ≤ s' * s' * s' := Nat.mul_le_mul (Nat.mul_le_mul h h) h
    omega
theorem badN_anti {s c c' : Nat} (hc : 0 < c) (h : c ≤ c') : badN s c' ≤ badN s c := by
  by_cases h0 : badN s c' = 0
  · omega
  · have h1 : badN s c' ≤ 10000 := BigN.part_le _ _ _
    refine (bad_iff s c _ hc (by omega) h1).1 ?_
    have h2 := (bad_iff s c' _ (by omega) (by omega) h1).2 (Nat.le_refl _)
    have h3 : c * c * c ≤ c' * c' * c' := Nat.mul_le_mul (Nat.mul_le_mul h h) h
    have h4 := Nat.mul_le_mul_right (2 * badN s c' - 1) h3
    omega
theorem badV_range (s c : Int) : 0 ≤ badV s c ∧ badV s c ≤ 10000 := by
  have h1 : badN s.toNat c.toNat ≤ 10000 := BigN.part_le _ _ _
  unfold badV
  split
  · omega
  · split
    · omega
    · omega
theorem badV_mono {s s' : Int} (c : Int) (h : s ≤ s') : badV s c ≤ badV s' c := by
  have h1 := badV_range s' c
  have h2 := badV_range s c
  by_cases e1 : s ≤ 0
  · have : badV s c = 0 := by simp [badV, e1]
    omega
  · by_cases e2 : c ≤ 0
    · have : badV s' c = 10000 := by simp [badV, e2]; omega
      omega
    · have a1 : badV s c = ((badN s.toNat c.toNat : Nat) : Int) := by simp only [badV, e1, e2, if_false]
      have a2 : badV s' c = ((badN s'.toNat c.toNat : Nat) : Int) := by simp only [badV, e2, show ¬ s' ≤ 0 by omega, if_false]
      have := badN_mono (s := s.toNat) (s' := s'.toNat) (c := c.toNat) (by omega) (by omega)
      omega
theorem badV_anti (s : Int) {c c' : Int} (h0 : 0 ≤ c) (h : c ≤ c') : badV s c' ≤ badV s c := by
  have h1 := badV_range s c'
  have h2 := badV_range s c
  by_cases e1 : s ≤ 0
  · have : badV s c' = 0 := by simp [badV, e1]
    omega
  · by_cases e2 : c ≤ 0
    · have : badV s c = 10000 := by simp [badV, e1, e2]
      omega
    · have a1 : badV s c = ((badN s.toNat c.toNat : Nat) : Int) := by simp only [badV, e1, e2, if_false]
      have a2 : badV s c' = ((badN s.toNat c'.toNat : Nat) : Int) := by simp only [badV, e1, show ¬ c' ≤ 0 by omega, if_false]
      have := badN_anti (s := s.toNat) (c := c.toNat) (c' := c'.toNat) (by omega) (by omega)
      omega
theorem bad_tenth : badV 6553 65536 = 0 := by decide +kernel
theorem bad_one : badV 65536 65536 = 100 := by decide +kernel

theorem Cur.bel {w wr : World} {ao : Option Addr} {len cap : Nat} (h : Cur w wr ao len cap) : Below w.heap.size w wr := by
  obtain ⟨_, _, _, _, _, h4⟩ := h
  exact h4

set_option maxHeartbeats 2000000 in
theorem drawBad_any (ao : Option Addr) (len cap : Nat) (w : World) (hB : Bytes w ao len cap) :
    Calls Try.prog 14 #[.slice ao len cap] w fun e w' => ∃ a b : Int, e = .returned (.tuple #[.int .i64 a, .int .i64 b]) ∧ I64 a ∧ I64 b ∧ Below w.heap.size w w' := by
  have HB := hideD hB
  clear hB
  go_enter Try.func14, Try.ntmps14
  go_wp2_with fail
  refine (new_any ao len cap w HB.out).mono ?_
  rintro e w1 ⟨rfl, c1⟩
  have C1 := hideD c1
  clear c1
  go_wp2_with fail
  refine (drawLen_any ao len cap w _ HB.out C1.out).mono ?_
  rintro e w2 ⟨a, rfl, ha, c2⟩
  have C2 := hideD c2
  have HA := hideD ha
  clear c2 ha C1
  go_wp2_with fail
  refine (drawLen_any ao len cap w _ HB.out C2.out).mono ?_
  rintro e w3 ⟨b, rfl, hb, c3⟩
  have C3 := hideD c3
  have HBb := hideD hb
  clear c3 hb C2
  go_wp2_with fail
  refine (once_any 2 ao len cap w _ HB.out C3.out (by omega) (by omega)).mono ?_
  rintro e w4 ⟨b1, rfl, c4, _⟩
  have C4 := hideD c4
  clear c4 C3
  cases b1
  · go_wp2_with fail
    refine (once_any 3 ao len cap w _ HB.out C4.out (by omega) (by omega)).mono ?_
    rintro e w5 ⟨b2, rfl, c5, _⟩
    have C5 := hideD c5
    clear c5 C4
    cases b2
    · go_wp2
      go_ret2
      exact ⟨_, _, rfl, HA.out, HBb.out, C5.out.bel⟩
    · go_wp2
      go_ret2
      exact ⟨_, _, rfl, HA.out, wrapI64 _, C5.out.bel⟩
  · go_wp2_with fail
    refine (below_any 65536 ao len cap w _ HB.out C4.out (by omega) (by omega)).mono ?_
    rintro e w6 ⟨y, rfl, y0, y1, c6, _⟩
    have C6 := hideD c6
    clear c6 C4
    go_wp2_with fail
    refine (once_any 3 ao len cap w _ HB.out C6.out (by omega) (by omega)).mono ?_
    rintro e w5 ⟨b2, rfl, c5, _⟩
    have C5 := hideD c5
    clear c5 C6
    cases b2
    · go_wp2
      go_ret2
      exact ⟨_, _, rfl, HA.out, wrapI64 _, C5.out.bel⟩
    · go_wp2
      go_ret2
      exact ⟨_, _, rfl, HA.out, wrapI64 _, C5.out.bel⟩

/-- What is known of bytes that came in. -/
def IsRow (w : World) (a : Option Addr) (len cap : Nat) (zs : List Int) : Prop :=
  (a = none ∧ len = 0 ∧ cap = 0 ∧ zs = []) ∨
  ∃ x, a = some x ∧ len ≤ cap ∧ cap ≤ maxLen ∧ zs.length = cap ∧ (∀ i, i < zs.length → w.cell? (x.add i) = some (.int .u8 (zs.getD i 0))) ∧ ∀ n ∈ zs, (Lit.int .u8 n).wf = true

theorem IsRow.bytes {w : World} {a : Option Addr} {len cap : Nat} {zs : List Int} (h : IsRow w a len cap zs) (hl : len ≤ 1048576) : Bytes w a len cap := by
  rcases h with ⟨rfl, rfl, rfl, rfl⟩ | ⟨x, rfl, h1, h2, h3, h4, h5⟩
  · exact ⟨by omega, by omega, fun h => by omega⟩
  · refine ⟨by omega, h1, fun h0 => ?_⟩
    obtain ⟨b, off, spot⟩ := x
    have hc := h4 0 (by omega)
    have hspot : spot = none := by simpa [Addr.add] using World.cell?_spot hc
    subst hspot
    have hc0 : w.cell? ⟨b, off, none⟩ = some (.int .u8 (zs.getD 0 0)) := by simpa [Addr.add] using hc
    refine ⟨b, off, rfl, lt_of_cellW hc0, fun i hi => ?_⟩
    have hci := h4 i (by omega)
    have hr := range_u8 h5 i
    refine ⟨zs.getD i 0, by simpa using hr.1, by simpa using hr.2, ?_⟩
    rw [← hci, Addr.add_lit]

theorem IsRow.small {w : World} {a : Option Addr} {len cap : Nat} {zs : List Int} (h : IsRow w a len cap zs) : len ≤ 9223372036854775807 := by
  rcases h with ⟨rfl, rfl, rfl, rfl⟩ | ⟨x, rfl, h1, h2, _⟩
  · omega
  · unfold maxLen at h2; omega

set_option maxHeartbeats 4000000 in
theorem lawRise_any (a0 : Option Addr) (len cap : Nat) (zs : List Int) (w : World) (h : IsRow w a0 len cap zs) :
    Calls Try.prog 4 #[.slice a0 len cap] w fun e w' => e = .returned (.bool true) ∧ Below w.heap.size w w' := by
  have hs := h.small
  by_cases hbig : 1048576 < len
  · clear h
    go_enter Try.func4, Try.ntmps4
    go_wp2
    go_ret
    exact ⟨rfl, Below.refl _ _⟩
  · have HB := hideD (h.bytes (by omega))
    clear h
    go_enter Try.func4, Try.ntmps4
    go_wp2_with (first | (go_at_call 9; go_in) | fail)
    refine (drawBad_any a0 len cap w HB.out).mono ?_
    rintro e w1 ⟨a, b, rfl, ⟨ha1, ha2⟩, ⟨hb1, hb2⟩, hbel1⟩
    have B1 := hideD hbel1
    clear hbel1 HB
    have T1 := hideD (implBad_any 6553 65536)
    have T2 := hideD (implBad_any 65536 65536)
    rw [bad_tenth] at T1
    rw [bad_one] at T2
    have X0 := hideD (implBad_any a b)
    have X1 := hideD (implBad_any (a + 1 + (len : Int)) b)
    have X2 := hideD (implBad_any a (b + 1 + (len : Int)))
    have hr := badV_range a b
    have hm := badV_mono (s := a) (s' := a + 1 + (len : Int)) b (by omega)
    have ht : 0 ≤ b → badV a (b + 1 + (len : Int)) ≤ badV a b := fun h0 => badV_anti a h0 (by omega)
    generalize badV a b = x at *
    generalize badV (a + 1 + (len : Int)) b = r1 at *
    generalize badV a (b + 1 + (len : Int)) = r2 at *
    obtain ⟨hr1, hr2⟩ := hr
    have HT := hideD ht
    clear ht
    go_wp2_with fail
    refine (X0.out _ ha2 hb2).mono ?_
    rintro e w2 ⟨rfl, hbel2⟩
    have B2 := hideD (B1.out.trans (hbel2.mono B1.out.size))
    clear hbel2
    go_wp2_with fail
    refine (T1.out _ (by omega) (by omega)).mono ?_
    rintro e w3 ⟨rfl, hbel3⟩
    have B3 := hideD (B2.out.trans (hbel3.mono B2.out.size))
    clear hbel3
    go_wp2_with fail
    refine (T2.out _ (by omega) (by omega)).mono ?_
    rintro e w4 ⟨rfl, hbel4⟩
    have B4 := hideD (B3.out.trans (hbel4.mono B3.out.size))
    clear hbel4
    by_cases g1 : 2305843009213693952 < a
    · go_wp2
      go_ret
      exact ⟨rfl, B4.out⟩
    by_cases g2 : 2305843009213693952 < b
    · go_wp2
      go_ret
      exact ⟨rfl, B4.out⟩
    go_wp2_with fail
    refine (X1.out _ (by omega) hb2).mono ?_
    rintro e w5 ⟨rfl, hbel5⟩
    have B5 := hideD (B4.out.trans (hbel5.mono B4.out.size))
    clear hbel5
    go_wp2_with fail
    refine (X2.out _ ha2 (by omega)).mono ?_
    rintro e w6 ⟨rfl, hbel6⟩
    have B6 := hideD (B5.out.trans (hbel6.mono B5.out.size))
    clear hbel6
    by_cases g3 : b < 0
    · by_cases g4 : r2 ≤ x
      · go_wp2
        go_ret
        exact ⟨rfl, B6.out⟩
      · have g4' : decide (r2 ≤ x) = false := by simp; omega
        go_wp2
        go_ret
        exact ⟨rfl, B6.out⟩
    · have g4 := HT.out (by omega)
      go_wp2
      go_ret
      exact ⟨rfl, B6.out⟩

theorem ownR : ownKnob Try.prog.godebug = none := by kernel_rfl
theorem laidOutR : laidOutB Try.prog = true := by kernel_rfl

set_option maxRecDepth 100000 in
theorem rise_lifted (os : Os) (started : os.Started) (H : Type) (enc : TypeId × Value → H) :
    ReturnsInHanded {} Try.checked os 4 .any (Rows.fnBadRisesSpec.pre6 enc Try.prog Try.f4 Rows.fnBadRisesRow.domain false) (Rows.fnBadRisesSpec.post enc Try.prog Try.f4 false true false false) := by
  refine returnsInHanded_of_change (C := Try.checked) ownR started (by kernel_rfl) Try.func4
    (ChangeSpec.witness6 (enc := enc) (C := Try.checked) false ⟨#[], #[.slice none 0 0], []⟩ 8 (by kernel_rfl) (by kernel_rfl) (by kernel_rfl) (by kernel_rfl)) ?_
  intro W base args ds gs before hval0 hW hcnd _
  have hval : ∀ (j : Nat) t v, Try.f4.params[j]? = some t → args[j]? = some v → Value.okWide Try.prog W .any base t v := hval0
  have hW' := hW
  obtain ⟨p, q, hA0, hV, rfl, hfz, hnd⟩ := hW
  have hA : DataW.TrodAll enc Try.prog W 0 (fun _ => true) true Try.f4.params.toList args.toList ds p := hA0
  rw [Try.params4] at hA hval
  obtain ⟨v0, vs0, d0, ds0, p0, q0, hargs, rfl, rfl, h0, r0⟩ := trodAll_cons hA
  obtain ⟨rfl, rfl, rfl⟩ := trodAll_nil r0
  obtain rfl : args = #[v0] := by cases args; simp_all
  obtain ⟨rfl, rfl⟩ := trodVars_none hV
  obtain ⟨a0, len0, cap0, rfl⟩ := okWide_slice Try.underlying22 (hval 0 22 v0 rfl rfl)
  have k0 := h0
  have lt0 : ∀ x ∈ p0, x.block < W.heap.size := by obtain ⟨m, hm⟩ := k0; exact DataW.trod_lt m _ _ _ hm
  obtain ⟨z0, w0⟩ : ∃ zs, IsRow W a0 len0 cap0 zs := by
    obtain ⟨fuel, hf⟩ := h0
    rcases open_ints Try.underlying22 Try.underlying5 (by kernel_rfl) hf with ⟨hcs, _⟩ | ⟨x, l, c, zs, hcs, _, hl, hm, hz, _, hcell, hwz⟩
    · simp [Value.cells] at hcs
      obtain ⟨rfl, rfl, rfl⟩ := hcs
      exact ⟨[], .inl ⟨rfl, rfl, rfl, rfl⟩⟩
    · simp [Value.cells] at hcs
      obtain ⟨rfl, rfl, rfl⟩ := hcs
      exact ⟨zs, .inr ⟨_, rfl, hl, hm, by simpa using hz, hcell, hwz⟩⟩
  clear hA0 hval0
  refine (lawRise_any a0 len0 cap0 z0 W w0).mono fun e W' ⟨he, bel⟩ => ?_
  subst he
  exact ⟨_, rfl, _, _, _, [], _, [], hW', trodAll_mk1 (shut_bool Try.underlying4 _), (trodAll_cons_mk (Below.trod laidOutR (by kernel_rfl) (of_decide_eq_true (by kernel_rfl)) k0 bel lt0) trodAll_mk0), rfl, bel.frame _, fun h => by cases h⟩

theorem badRises_holds : Rows.FnBadRisesSaid :=
  OpenClaim.holds_of_wide 4 Try.f4 rfl rfl rfl rfl rfl rfl rfl ⟨rfl, rfl, rfl, rfl, rfl⟩ rfl rfl rfl rfl rfl (by kernel_rfl) Try.func4 (by kernel_rfl)
    (of_decide_eq_true (by kernel_rfl)) (by unfold Func.isWrapper; first | (rw [if_pos (by decide +kernel)]; kernel_rfl) | (rw [if_neg (by decide +kernel)]; exact ⟨rfl, rfl⟩))
    (fun os started H enc _ => rise_lifted os started H enc)
#print axioms badRises_holds
end Go.Proofs.Ytobghlaoflfflaa
