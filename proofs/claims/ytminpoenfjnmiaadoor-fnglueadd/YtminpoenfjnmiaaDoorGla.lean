/-
  FnGlueAdd: the law's walk.
-/
import Derived.Test.YtminpoenfjnmiaaDoorShj
import Derived.Test.YtminpoenfjnmiaaDoorGlr
import Derived.Test.YtminpoenfjnmiaaDoorDraw
import Derived.Deep.RegionHeld3
namespace Go.Proofs.YtminpoenfjnmiaaDoor
open Go.RowKit
set_option linter.unusedVariables false
set_option linter.unusedSimpArgs false

theorem bigLen_any (ao : Option Addr) (len cap : Nat) (w : World) (hl : len ≤ 9223372036854775807) : Calls Tryd.prog 4 #[.slice ao len cap] w fun e w' => e = .returned (.bool (decide (1048576 < len))) ∧ w' = w := by
  by_cases h : 1048576 < len
  · rw [show decide (1048576 < len) = true by simp [h]]
    have h' : (1048576 : Int) < (len : Int) := by omega
    go_enter Tryd.func4, Tryd.ntmps4
    go_wp2
    go_ret
    exact ⟨rfl, rfl⟩
  · rw [show decide (1048576 < len) = false by simp [h]]
    have h' : ¬ (1048576 : Int) < (len : Int) := by omega
    go_enter Tryd.func4, Tryd.ntmps4
    go_wp2
    go_ret
    exact ⟨rfl, rfl⟩

/-- Two glues in blocks of their own. -/
def Two (w : World) (A B : Nat) (s p po m mo s' p' po' m' mo' : Int) : Prop := A < w.heap.size ∧ B < w.heap.size ∧ w.cell? ⟨A, 0, none⟩ = some (.int .i64 s) ∧ w.cell? ⟨A, 1, none⟩ = some (.int .i64 p) ∧ w.cell? ⟨A, 2, none⟩ = some (.int .i64 po) ∧ w.cell? ⟨A, 3, none⟩ = some (.int .i64 m) ∧ w.cell? ⟨A, 4, none⟩ = some (.int .i64 mo) ∧ w.cell? ⟨B, 0, none⟩ = some (.int .i64 s') ∧ w.cell? ⟨B, 1, none⟩ = some (.int .i64 p') ∧ w.cell? ⟨B, 2, none⟩ = some (.int .i64 po') ∧ w.cell? ⟨B, 3, none⟩ = some (.int .i64 m') ∧ w.cell? ⟨B, 4, none⟩ = some (.int .i64 mo')
theorem Two.kept {w w' : World} {A B : Nat} {s p po m mo s' p' po' m' mo' : Int} (h : Two w A B s p po m mo s' p' po' m' mo') (hb : Below w.heap.size w w') : Two w' A B s p po m mo s' p' po' m' mo' := by
  obtain ⟨hA, hB, a0, a1, a2, a3, a4, b0, b1, b2, b3, b4⟩ := h
  exact ⟨Nat.lt_of_lt_of_le hA hb.size, Nat.lt_of_lt_of_le hB hb.size, (hb.cell (p := ⟨A, 0, none⟩) hA).trans a0, (hb.cell (p := ⟨A, 1, none⟩) hA).trans a1, (hb.cell (p := ⟨A, 2, none⟩) hA).trans a2, (hb.cell (p := ⟨A, 3, none⟩) hA).trans a3, (hb.cell (p := ⟨A, 4, none⟩) hA).trans a4, (hb.cell (p := ⟨B, 0, none⟩) hB).trans b0, (hb.cell (p := ⟨B, 1, none⟩) hB).trans b1, (hb.cell (p := ⟨B, 2, none⟩) hB).trans b2, (hb.cell (p := ⟨B, 3, none⟩) hB).trans b3, (hb.cell (p := ⟨B, 4, none⟩) hB).trans b4⟩

theorem addV_shape (s p po m mo s' p' po' m' mo' : Int) : ∃ a b c d e f, addV s p po m mo s' p' po' m' mo' = .tuple #[glueV a b c d e, .bool f] := by
  unfold addV
  split
  · exact ⟨_, _, _, _, _, _, rfl⟩
  · exact ⟨_, _, _, _, _, _, rfl⟩

theorem live_add : addV 1 0 0 0 0 2 0 0 0 0 = .tuple #[glueV 3 0 0 0 0, .bool true] := by rfl

set_option maxRecDepth 100000 in
set_option maxHeartbeats 4000000 in
theorem lawGlue_any (ao : Option Addr) (len cap : Nat) (w : World) (hl : len ≤ 9223372036854775807)
    (DT : len ≤ 1048576 → ∀ w', w' = w → Calls Tryd.prog 5 #[.slice ao len cap] w' fun e w' => ∃ a b : Gl, e = .returned (.tuple #[a.v, b.v]) ∧ Below w.heap.size w w') (hP : Pows w) (hO : Names w) :
    Calls Tryd.prog 3 #[.slice ao len cap] w fun e w' => e = .returned (.bool true) ∧ Below w.heap.size w w' := by
  have BG := hideP (fun w => bigLen_any ao len cap w hl)
  have HP := hideP hP
  have HO := hideP hO
  by_cases hbig : 1048576 < len
  · rw [show decide (1048576 < len) = true by simp [hbig]] at BG
    clear DT hP hO hl hbig
    go_enter Tryd.func3, Tryd.ntmps3
    go_wp2_with fail
    refine (BG.out _).mono ?_
    rintro e w1 ⟨rfl, rfl⟩
    go_wp2
    go_ret
    exact ⟨rfl, Below.refl _ _⟩
  rw [show decide (1048576 < len) = false by simp [hbig]] at BG
  have HD := hideP (DT (by omega))
  clear DT hP hO hl hbig
  go_enter Tryd.func3, Tryd.ntmps3
  go_wp2_with fail
  refine (BG.out _).mono ?_
  rintro e w1 ⟨rfl, rfl⟩
  clear BG
  go_wp2_with fail
  refine (HD.out _ rfl).mono ?_
  rintro e w2 ⟨⟨s, p, po, m, mo⟩, ⟨s', p', po', m', mo'⟩, rfl, hb2⟩
  simp only [Gl.v]
  have HW2 := hideP hb2
  clear hb2 HD
  go_wp2_with fail
  obtain ⟨T, hT⟩ : ∃ T, T = (w2.alloc (.cells #[.int .i64 s, .int .i64 p, .int .i64 po, .int .i64 m, .int .i64 mo] 25)).alloc (.cells #[.int .i64 s', .int .i64 p', .int .i64 po', .int .i64 m', .int .i64 mo'] 25) := ⟨_, rfl⟩
  obtain ⟨A, hA⟩ : ∃ A, A = w2.heap.size := ⟨_, rfl⟩
  have HT : Hid (Two T A (A + 1) s p po m mo s' p' po' m' mo') := by
    have bA : T.heap[A]? = some (.cells #[.int .i64 s, .int .i64 p, .int .i64 po, .int .i64 m, .int .i64 mo] 25 (0, 0)) := by
      rw [hT, hA, Below.heap_alloc _ _ _ (by simp)]
      exact heap_alloc_new w2 _
    have bB : T.heap[A + 1]? = some (.cells #[.int .i64 s', .int .i64 p', .int .i64 po', .int .i64 m', .int .i64 mo'] 25 (0, 0)) := by
      rw [hT, hA]
      have := heap_alloc_new (w2.alloc (.cells #[.int .i64 s, .int .i64 p, .int .i64 po, .int .i64 m, .int .i64 mo] 25)) (.cells #[.int .i64 s', .int .i64 p', .int .i64 po', .int .i64 m', .int .i64 mo'] 25)
      simpa using this
    refine ⟨(Array.getElem?_eq_some_iff.1 bA).1, (Array.getElem?_eq_some_iff.1 bB).1, ?_, ?_, ?_, ?_, ?_, ?_, ?_, ?_, ?_, ?_⟩ <;> simp [World.cell?, bA, bB]
  have HWT : Hid (Below w1.heap.size w1 T) := by rw [hT]; exact (HW2.out.alloc HW2.out.size _).alloc (by have := HW2.out.size; simp; omega) _
  rw [← hT]
  refine (implAdd_any 1 0 0 0 0 2 0 0 0 0 _).mono ?_
  rintro e w3 ⟨rfl, hb3⟩
  rw [live_add]
  have H3 := hideP (HT.out.kept hb3)
  have HW3 := hideP (HWT.out.trans (hb3.mono HWT.out.size))
  clear hb3 HT HWT HW2 hT
  rw [← hA]
  clear hA
  obtain ⟨zA, zB, a0, a1, a2, a3, a4, b0, b1, b2, b3, b4⟩ := H3.out
  go_wp2_with fail
  have L3 : Hid (Below w3.heap.size w3 (w3.alloc (.cells #[.int .i64 3, .int .i64 0, .int .i64 0, .int .i64 0, .int .i64 0] 25))) := (Below.refl _ _).alloc (Nat.le_refl _) _
  obtain ⟨x0, x1, x2, x3, x4, ok, hx⟩ := addV_shape s p po m mo s' p' po' m' mo'
  have hy : addV s' p' po' m' mo' s p po m mo = .tuple #[glueV x0 x1 x2 x3 x4, .bool ok] := by rw [addV_comm]; exact hx
  refine (implAdd_any s p po m mo s' p' po' m' mo' _).mono ?_
  rintro e w4 ⟨rfl, hb4⟩
  rw [hx]
  have H4 := hideP ((H3.out.kept L3.out).kept hb4)
  have HW4 := hideP ((HW3.out.trans (L3.out.mono HW3.out.size)).trans (hb4.mono (Nat.le_trans HW3.out.size L3.out.size)))
  clear hb4 L3 H3 HW3 a0 a1 a2 a3 a4 b0 b1 b2 b3 b4 zA zB hx
  obtain ⟨zA, zB, a0, a1, a2, a3, a4, b0, b1, b2, b3, b4⟩ := H4.out
  go_wp2_with fail
  obtain ⟨T4, hT4⟩ : ∃ T, T = w4.alloc (.cells #[.int .i64 x0, .int .i64 x1, .int .i64 x2, .int .i64 x3, .int .i64 x4] 25) := ⟨_, rfl⟩
  obtain ⟨X, hX⟩ : ∃ X, X = w4.heap.size := ⟨_, rfl⟩
  have L4 : Hid (Below w4.heap.size w4 T4) := by rw [hT4]; exact (Below.refl _ _).alloc (Nat.le_refl _) _
  have bX : T4.heap[X]? = some (.cells #[.int .i64 x0, .int .i64 x1, .int .i64 x2, .int .i64 x3, .int .i64 x4] 25 (0, 0)) := by rw [hT4, hX]; exact heap_alloc_new w4 _
  have HX : Hid (Two T4 X A x0 x1 x2 x3 x4 s p po m mo) := by
    have k := H4.out.kept L4.out
    obtain ⟨zA', zB', a0', a1', a2', a3', a4', _⟩ := k
    refine ⟨(Array.getElem?_eq_some_iff.1 bX).1, zA', ?_, ?_, ?_, ?_, ?_, a0', a1', a2', a3', a4'⟩ <;> simp [World.cell?, bX]
  rw [← hT4]
  refine (implAdd_any s' p' po' m' mo' s p po m mo _).mono ?_
  rintro e w5 ⟨rfl, hb5⟩
  rw [hy]
  have H5 := hideP (HX.out.kept hb5)
  have HW5 := hideP ((HW4.out.trans (L4.out.mono HW4.out.size)).trans (hb5.mono (Nat.le_trans HW4.out.size L4.out.size)))
  rw [← hX]
  clear hb5 L4 HX H4 HW4 a0 a1 a2 a3 a4 b0 b1 b2 b3 b4 zA zB hy bX hT4 hX
  obtain ⟨zX, zA, e0, e1, e2, e3, e4, a0, a1, a2, a3, a4⟩ := H5.out
  go_wp2_with fail
  obtain ⟨T5, hT5⟩ : ∃ T, T = w5.alloc (.cells #[.int .i64 x0, .int .i64 x1, .int .i64 x2, .int .i64 x3, .int .i64 x4] 25) := ⟨_, rfl⟩
  have L5 : Hid (Below w5.heap.size w5 T5) := by rw [hT5]; exact (Below.refl _ _).alloc (Nat.le_refl _) _
  have K5 := hideP (H5.out.kept L5.out)
  have HW5' := hideP (HW5.out.trans (L5.out.mono HW5.out.size))
  rw [← hT5]
  clear hT5 L5 H5 HW5 e0 e1 e2 e3 e4 a0 a1 a2 a3 a4 zX zA
  refine (implAdd_any s p po m mo 0 0 0 0 0 _).mono ?_
  rintro e w6 ⟨rfl, hb6⟩
  have H6 := hideP (K5.out.kept hb6)
  have HW6 := hideP (HW5'.out.trans (hb6.mono HW5'.out.size))
  clear hb6 K5 HW5'
  obtain ⟨_, zA, _, _, _, _, _, a0, a1, a2, a3, a4⟩ := H6.out
  have OK := hideP (implGlueOk_any s p po m mo)
  rcases addV_zero s p po m mo with ⟨h1, hz⟩ | ⟨h1, po2, mo2, h2, f1, f2, hz⟩
  · rw [hz]
    rw [h1] at OK
    clear hz h1 H6
    go_wp2_with fail
    refine (OK.out _).mono ?_
    rintro e w7 ⟨rfl, hb7⟩
    have HW7 := hideP ((HW6.out.alloc HW6.out.size _).trans (hb7.mono (HW6.out.alloc HW6.out.size _).size))
    clear hb7
    go_wp2
    go_quiet (fail)
    go_wp2
    go_ret
    exact ⟨rfl, below_drewN HW7.out _⟩
  · rw [hz]
    obtain ⟨S, SA, SZ⟩ := showGlue_det s p po m mo po2 mo2 h1 h2 f1 f2
    have HSA := hideP SA
    have HSZ := hideP SZ
    rw [h1] at OK
    clear hz h1 h2 f1 f2 SA SZ
    go_wp2_with fail
    obtain ⟨T6, hT6⟩ : ∃ T, T = w6.alloc (.cells #[.int .i64 s, .int .i64 p, .int .i64 po2, .int .i64 m, .int .i64 mo2] 25) := ⟨_, rfl⟩
    obtain ⟨Z, hZ⟩ : ∃ Z, Z = w6.heap.size := ⟨_, rfl⟩
    have L6 : Hid (Below w6.heap.size w6 T6) := by rw [hT6]; exact (Below.refl _ _).alloc (Nat.le_refl _) _
    have bZ : T6.heap[Z]? = some (.cells #[.int .i64 s, .int .i64 p, .int .i64 po2, .int .i64 m, .int .i64 mo2] 25 (0, 0)) := by rw [hT6, hZ]; exact heap_alloc_new w6 _
    have HZ : Hid (Two T6 Z A s p po2 m mo2 s p po m mo) := by
      have k := H6.out.kept L6.out
      obtain ⟨_, zA', _, _, _, _, _, a0', a1', a2', a3', a4'⟩ := k
      refine ⟨(Array.getElem?_eq_some_iff.1 bZ).1, zA', ?_, ?_, ?_, ?_, ?_, a0', a1', a2', a3', a4'⟩ <;> simp [World.cell?, bZ]
    rw [← hT6]
    refine (OK.out _).mono ?_
    rintro e w7 ⟨rfl, hb7⟩
    have H7 := hideP (HZ.out.kept hb7)
    have HW7 := hideP ((HW6.out.trans (L6.out.mono HW6.out.size)).trans (hb7.mono (Nat.le_trans HW6.out.size L6.out.size)))
    rw [← hZ]
    clear hb7 L6 HZ H6 HW6 a0 a1 a2 a3 a4 zA bZ hT6 hZ OK
    obtain ⟨zZ, zA, z0, z1, z2, z3, z4, a0, a1, a2, a3, a4⟩ := H7.out
    have D : Hid (∀ w', Below w7.heap.size w7 w' → Pows w' ∧ Names w') := fun w' h => ⟨(HP.out.kept HW7.out).kept h, (HO.out.kept HW7.out).kept h⟩
    have S1 := hideP (show Two w7.drew Z A s p po2 m mo2 s p po m mo from ⟨zZ, zA, z0, z1, z2, z3, z4, a0, a1, a2, a3, a4⟩)
    clear H7
    go_wp2_with fail
    go_region_held3 (fun w' => w'.cell? ⟨Z, 0, none⟩ = some (.int .i64 s) ∧ w'.cell? ⟨Z, 1, none⟩ = some (.int .i64 p) ∧ w'.cell? ⟨Z, 2, none⟩ = some (.int .i64 po2) ∧ w'.cell? ⟨Z, 3, none⟩ = some (.int .i64 m) ∧ w'.cell? ⟨Z, 4, none⟩ = some (.int .i64 mo2) ∧ w'.cell? ⟨A, 0, none⟩ = some (.int .i64 s) ∧ w'.cell? ⟨A, 1, none⟩ = some (.int .i64 p) ∧ w'.cell? ⟨A, 2, none⟩ = some (.int .i64 po) ∧ w'.cell? ⟨A, 3, none⟩ = some (.int .i64 m) ∧ w'.cell? ⟨A, 4, none⟩ = some (.int .i64 mo))
      (first | exact ⟨z0, z1, z2, z3, z4, a0, a1, a2, a3, a4⟩ | exact S2.out.2.2 | exact S3.out.2.2)
      (first
        | (go_at_call 8; refine (HSA.out _ (D.out _ A2.out).1 (D.out _ A2.out).2).mono ?_; rintro e w9 ⟨rfl, hb9⟩; have A3 := hideP (A2.out.trans (hb9.mono A2.out.size)); have S3 := hideP (S2.out.kept hb9); clear hb9)
        | (go_at_call 8; refine (HSZ.out _ (D.out _ (Below.drew (Below.refl _ _))).1 (D.out _ (Below.drew (Below.refl _ _))).2).mono ?_; rintro e w8 ⟨rfl, hb8⟩; have A2 := hideP ((Below.drew (Below.refl w7.heap.size w7)).trans hb8); have S2 := hideP (S1.out.kept hb8); clear hb8))
    all_goals
      go_wp2
      go_ret
      exact ⟨rfl, HW7.out.trans (A3.out.mono HW7.out.size)⟩
end Go.Proofs.YtminpoenfjnmiaaDoor
