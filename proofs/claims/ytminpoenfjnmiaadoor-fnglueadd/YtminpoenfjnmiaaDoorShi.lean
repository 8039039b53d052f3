/-
  ShowGlue.
-/
import Derived.Test.YtminpoenfjnmiaaDoorShg
import Derived.Deep.RegionHeld3
namespace Go.Proofs.YtminpoenfjnmiaaDoor
open Go.RowKit
set_option linter.unusedVariables false
set_option linter.unusedSimpArgs false

theorem keepG {G : Nat} {s p po m mo : Int} {w w' : World} (h : w.cell? ⟨G, 0, none⟩ = some (.int .i64 s) ∧ w.cell? ⟨G, 1, none⟩ = some (.int .i64 p) ∧ w.cell? ⟨G, 2, none⟩ = some (.int .i64 po) ∧ w.cell? ⟨G, 3, none⟩ = some (.int .i64 m) ∧ w.cell? ⟨G, 4, none⟩ = some (.int .i64 mo)) (hb : Below w.heap.size w w') : w'.cell? ⟨G, 0, none⟩ = some (.int .i64 s) ∧ w'.cell? ⟨G, 1, none⟩ = some (.int .i64 p) ∧ w'.cell? ⟨G, 2, none⟩ = some (.int .i64 po) ∧ w'.cell? ⟨G, 3, none⟩ = some (.int .i64 m) ∧ w'.cell? ⟨G, 4, none⟩ = some (.int .i64 mo) := by
  obtain ⟨h0, h1, h2, h3, h4⟩ := h
  have hz := lt_of_cell h0
  exact ⟨(hb.cell (p := ⟨G, 0, none⟩) hz).trans h0, (hb.cell (p := ⟨G, 1, none⟩) hz).trans h1, (hb.cell (p := ⟨G, 2, none⟩) hz).trans h2, (hb.cell (p := ⟨G, 3, none⟩) hz).trans h3, (hb.cell (p := ⟨G, 4, none⟩) hz).trans h4⟩

theorem plusOf_b (s p po m mo : Int) (w : World) : Calls Tryd.prog 13 #[glueV s p po m mo] w fun e w' => e = .returned (giveV p po) ∧ Below w.heap.size w w' := by
  refine (plusOf_any s p po m mo w).mono ?_
  rintro e w' ⟨rfl, c1, c2, rfl⟩
  exact ⟨rfl, bal (bal (Below.refl _ _) _) _⟩
theorem minusOf_b (s p po m mo : Int) (w : World) : Calls Tryd.prog 14 #[glueV s p po m mo] w fun e w' => e = .returned (giveV m mo) ∧ Below w.heap.size w w' := by
  refine (minusOf_any s p po m mo w).mono ?_
  rintro e w' ⟨rfl, c1, c2, rfl⟩
  exact ⟨rfl, bal (bal (Below.refl _ _) _) _⟩

set_option maxRecDepth 100000 in
set_option maxHeartbeats 4000000 in
theorem showGlue_core (s p po m mo : Int) (t0 t1 t2 : ByteArray) (w : World) (hok : okB s p po m mo = true) (h0 : t0.size ≤ 110) (h1 : t1.size ≤ 120) (h2 : t2.size ≤ 120) (hP : Pows w) (hO : Names w)
    (C0 : ∀ w, Pows w → Names w → Calls Tryd.prog 17 #[.int .i64 s] w fun e w' => e = .returned (.string t0) ∧ Below w.heap.size w w')
    (C1 : ∀ w, Pows w → Names w → Calls Tryd.prog 18 #[.string ⟨#[32, 112, 108, 117, 115, 32]⟩, giveV p po] w fun e w' => e = .returned (.string t1) ∧ Below w.heap.size w w')
    (C2 : ∀ w, Pows w → Names w → Calls Tryd.prog 18 #[.string ⟨#[32, 109, 105, 110, 117, 115, 32]⟩, giveV m mo] w fun e w' => e = .returned (.string t2) ∧ Below w.heap.size w w') :
    Calls Tryd.prog 8 #[glueV s p po m mo] w fun e w' => e = .returned (.string (t0 ++ t1 ++ t2)) ∧ Below w.heap.size w w' := by
  have OK := hideP (implGlueOk_any s p po m mo)
  rw [hok] at OK
  have HP := hideP hP
  have HO := hideP hO
  have H0 := hideP C0
  have H1 := hideP C1
  have H2 := hideP C2
  clear hok hP hO C0 C1 C2
  go_enter Tryd.func8, Tryd.ntmps8
  go_wp2_with fail
  refine (OK.out _).mono ?_
  rintro e w1 ⟨rfl, hb1⟩
  have HB1 : Hid (Below w.heap.size w w1) := ((Below.refl _ _).alloc (Nat.le_refl _) _).trans (hb1.mono (by simp))
  have hbl : w1.heap[w.heap.size]? = some (.cells #[.int .i64 s, .int .i64 p, .int .i64 po, .int .i64 m, .int .i64 mo] 25 (0, 0)) := (hb1.block _ (by simp)).trans (heap_alloc_new w _)
  have D : Hid (∀ w', Below w1.heap.size w1 w' → Pows w' ∧ Names w') := fun w' h => ⟨(HP.out.kept HB1.out).kept h, (HO.out.kept HB1.out).kept h⟩
  obtain ⟨G, hG⟩ : ∃ G, G = w.heap.size := ⟨_, rfl⟩
  have q : w1.cell? ⟨G, 0, none⟩ = some (.int .i64 s) ∧ w1.cell? ⟨G, 1, none⟩ = some (.int .i64 p) ∧ w1.cell? ⟨G, 2, none⟩ = some (.int .i64 po) ∧ w1.cell? ⟨G, 3, none⟩ = some (.int .i64 m) ∧ w1.cell? ⟨G, 4, none⟩ = some (.int .i64 mo) := by
    rw [hG]
    refine ⟨?_, ?_, ?_, ?_, ?_⟩ <;> simp [World.cell?, hbl]
  clear hb1 hbl HP HO OK
  go_wp2_with fail
  rw [← hG]
  clear hG
  obtain ⟨q0, q1, q2, q3, q4⟩ := q
  have k1 : ¬ 9223372036854775807 < t0.size + t1.size := by omega
  have k2 : ¬ 9223372036854775807 < t0.size + t1.size + t2.size := by omega
  have S1 := hideP (show w1.drew.cell? ⟨G, 0, none⟩ = some (.int .i64 s) ∧ w1.drew.cell? ⟨G, 1, none⟩ = some (.int .i64 p) ∧ w1.drew.cell? ⟨G, 2, none⟩ = some (.int .i64 po) ∧ w1.drew.cell? ⟨G, 3, none⟩ = some (.int .i64 m) ∧ w1.drew.cell? ⟨G, 4, none⟩ = some (.int .i64 mo) from ⟨q0, q1, q2, q3, q4⟩)
  go_region_held3 (fun w' => w'.cell? ⟨G, 0, none⟩ = some (.int .i64 s) ∧ w'.cell? ⟨G, 1, none⟩ = some (.int .i64 p) ∧ w'.cell? ⟨G, 2, none⟩ = some (.int .i64 po) ∧ w'.cell? ⟨G, 3, none⟩ = some (.int .i64 m) ∧ w'.cell? ⟨G, 4, none⟩ = some (.int .i64 mo))
    (first | exact ⟨q0, q1, q2, q3, q4⟩ | exact S2.out | exact S3.out | exact S4.out | exact S5.out | exact S6.out)
    (first
      | (go_at_call 17; refine (H0.out _ (D.out _ (Below.drew (Below.refl _ _))).1 (D.out _ (Below.drew (Below.refl _ _))).2).mono ?_; rintro e w2 ⟨rfl, hb2⟩; have A2 := hideP ((Below.drew (Below.refl w1.heap.size w1)).trans hb2); have S2 := hideP (keepG S1.out hb2); clear hb2)
      | (go_at_call 13; refine (plusOf_b s p po m mo _).mono ?_; rintro e w3 ⟨rfl, hb3⟩; have A3 := hideP (A2.out.trans (hb3.mono A2.out.size)); have S3 := hideP (keepG S2.out hb3); clear hb3)
      | (go_at_call 14; refine (minusOf_b s p po m mo _).mono ?_; rintro e w5 ⟨rfl, hb5⟩; have A5 := hideP (A4.out.trans (hb5.mono A4.out.size)); have S5 := hideP (keepG S4.out hb5); clear hb5)
      | (go_at_call 18; refine (H2.out _ (D.out _ A5.out).1 (D.out _ A5.out).2).mono ?_; rintro e w6 ⟨rfl, hb6⟩; have A6 := hideP (A5.out.trans (hb6.mono A5.out.size)); have S6 := hideP (keepG S5.out hb6); clear hb6)
      | (go_at_call 18; refine (H1.out _ (D.out _ A3.out).1 (D.out _ A3.out).2).mono ?_; rintro e w4 ⟨rfl, hb4⟩; have A4 := hideP (A3.out.trans (hb4.mono A3.out.size)); have S4 := hideP (keepG S3.out hb4); clear hb4))
  all_goals
    go_wp2
    go_ret
    exact ⟨rfl, HB1.out.trans (A6.out.mono HB1.out.size)⟩
end Go.Proofs.YtminpoenfjnmiaaDoor
