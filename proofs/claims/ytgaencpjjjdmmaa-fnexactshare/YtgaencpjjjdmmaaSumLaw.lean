/-
  Proved: for every list of glues, laws.FnExactSumGlue returns true and its argument reads behind the call as before it; no condition.
-/
import Derived.Test.YtgaencpjjjdmmaaRows
import Derived.Test.YtgaencpjjjdmmaaSumE
import Derived.ProofKit
import Derived.OpenShut
import Derived.ShutString
import Derived.ChangeOld
import Derived.Deep.Slices
namespace Go.Proofs.Ytgaencpjjjdmmaa
open Go.ChangeShapes Go.WideShapes Go.ChangeAt Go.RowKit
set_option linter.unusedVariables false
set_option linter.unusedSimpArgs false

set_option maxHeartbeats 1000000 in
/-- A slice of nothing is not written. -/
theorem mark_none {ao : Option Addr} {cap : Nat} (w : World) (k : Int) : Calls Try.prog 19 #[.slice ao 0 cap, .int .i64 k] w fun e w' => e = .returned (.int .i64 k) ∧ w' = w := by
  go_enter Try.func19, Try.ntmps19
  go_wp2
  refine wp_loop_rounds 1 ?_
  rw [rounds_succ]
  go_wp2
  go_ret
  exact ⟨rfl, rfl⟩

theorem Four.owns {w : World} {g : Nat} {xs : List Int} (h : Four w 54 g xs) : w.ownsRow g 54 1 (.slice (some ⟨g, 0, none⟩) 4 4) 4 (xs.map (Value.int .i64)) :=
  ⟨by simp [h.2], .inr ⟨g, 4, (xs.map (Value.int .i64)).toArray, rfl, Nat.le_refl _, h.1, Nat.le_refl _, by unfold maxLen; omega, by simp [h.2], by rw [List.take_of_length_le (by simp [h.2])]⟩⟩
theorem four_own {w : World} {base g : Nat} {xs : List Int} (h : w.ownsRow base 54 1 (.slice (some ⟨g, 0, none⟩) 4 4) 4 (xs.map (Value.int .i64))) : Four w 54 g xs := by
  have hl : xs.length = 4 := by simpa using h.1
  rcases h.2 with ⟨h', _⟩ | ⟨g', cap', cur, h', _, hg, _, _, hcs, htake⟩
  · simp at h'
  · simp only [Value.slice.injEq, Option.some.injEq, Addr.mk.injEq, and_true, true_and] at h'
    obtain ⟨rfl, rfl⟩ := h'
    refine ⟨?_, hl⟩
    rw [hg, ← htake, List.take_of_length_le (by rw [Array.length_toList]; omega)]

/-- What the law's walk carries: old memory, what the specification made, and the two rows that the program made. -/
def St (w w3 wi : World) (P Q : Nat) (xs ys : List Int) : Prop := Below w.heap.size w wi ∧ Below w3.heap.size w3 wi ∧ Four wi 54 P xs ∧ Four wi 54 Q ys
theorem St.step {w w3 wi wj : World} {P Q : Nat} {xs ys : List Int} (h : St w w3 wi P Q xs ys) (hb : Below wi.heap.size wi wj) : St w w3 wj P Q xs ys :=
  ⟨h.1.trans (hb.mono h.1.size), h.2.1.trans (hb.mono h.2.1.size), h.2.2.1.below hb, h.2.2.2.below hb⟩
theorem St.only {w w3 wi wj : World} {P Q g : Nat} {xs ys : List Int} (h : St w w3 wi P Q xs ys) (ho : Only g wi wj) (hw : w.heap.size ≤ g) (h3 : w3.heap.size ≤ g) (hP : P ≠ g) (hQ : Q ≠ g) : St w w3 wj P Q xs ys :=
  ⟨h.1.trans (ho.2.2.mono hw), h.2.1.trans (ho.2.2.mono h3), ⟨(ho.2.1 P hP).trans h.2.2.1.1, h.2.2.1.2⟩, ⟨(ho.2.1 Q hQ).trans h.2.2.2.1, h.2.2.2.2⟩⟩

set_option maxRecDepth 20000 in
set_option maxHeartbeats 4000000 in
theorem lawSum_ok {v : Value} {gs : List Gl} {w : World} (h : GRow w v gs) (hn : gs.length ≤ 9223372036854775807) (hok : glsOk gs = true) :
    Calls Try.prog 5 #[v] w fun e w' => e = .returned (.bool true) ∧ Below w.heap.size w w' := by
  have HG : Hid (GRow w v gs) := h
  have HOK : Hid (glsOk gs = true) := hok
  have HN : Hid (gs.length ≤ 10000) := (glsOk_each hok).1
  obtain ⟨ao, n, cap, rfl, hl, _⟩ := h
  have HL : Hid (gs.length = n) := hl
  have hn9 : n ≤ 9223372036854775807 := by omega
  have HS : Hid (sumN gs = siz gs ∧ sumP gs = tot Gl.p Gl.po gs ∧ sumM gs = tot Gl.m Gl.mo gs) := by simp [sumN, sumP, sumM, hok]; trivial
  clear hn hok hl
  go_enter Try.func5, Try.ntmps5
  go_wp2_with fail
  refine (szGlues_any _ hn9).mono ?_
  rintro e w1 ⟨⟨m, rfl, hm⟩, hw1⟩
  have hw1' := hw1.symm
  clear hw1
  subst hw1'
  by_cases hneg : m < 0
  · go_wp2
    go_ret
    exact ⟨rfl, Below.refl _ _⟩
  · clear hm
    go_wp2_with fail
    refine (toGlues_any HG (by have := (show gs.length ≤ 10000 from HN); omega)).mono ?_
    rintro e w2 ⟨rfl, hp2, hb2⟩
    have X2 : Hid (GRow w2 (.slice (some ⟨w.heap.size, 0, none⟩) gs.length gs.length) gs) := hp2.row rfl
    have B2 : Hid (Below w.heap.size w w2) := hb2
    clear hp2 hb2
    go_wp2_with fail
    refine (specSum_any X2 (by have := (show gs.length ≤ 10000 from HN); omega)).mono ?_
    rintro e w3 ⟨⟨v1, v2, rfl, hR1, hR2⟩, hb3⟩
    rw [HS.2.1] at hR1
    rw [HS.2.2] at hR2
    rw [HS.1]
    have R3 : Hid (Row w3 v1 (tot Gl.p Gl.po gs) ∧ Row w3 v2 (tot Gl.m Gl.mo gs)) := ⟨hR1, hR2⟩
    have B3 : Hid (Below w.heap.size w w3) := Below.trans B2 (hb3.mono (Below.size B2))
    clear hb3 hR1 hR2 X2 B2
    go_wp2_with fail
    refine (toGlues_any (GRow.below HG B3) (by have := (show gs.length ≤ 10000 from HN); omega)).mono ?_
    rintro e w4 ⟨rfl, hp4, hb4⟩
    have X4 : Hid (GPart w4 w3.heap.size gs.length gs.length gs) := hp4
    have B4 : Hid (Below w.heap.size w w4 ∧ Below w3.heap.size w3 w4) := ⟨Below.trans B3 (hb4.mono (Below.size B3)), hb4⟩
    clear hp4 hb4
    go_wp2_with fail
    refine (implSum_ok (X4.row rfl) HOK).mono ?_
    rintro e w5 ⟨P, Q, rfl, hfP, hfQ, hPQ, hP4, hQ4, hb5⟩
    have S5 : Hid (St w w3 w5 P Q (tot Gl.p Gl.po gs) (tot Gl.m Gl.mo gs)) := ⟨B4.1.trans (hb5.mono B4.1.size), B4.2.trans (hb5.mono B4.2.size), hfP, hfQ⟩
    have X5 : Hid (GPart w5 w3.heap.size gs.length gs.length gs) := GPart.below X4 hb5
    have hX4 := X4.lt
    have HPQ : Hid (P ≠ Q ∧ P ≠ w3.heap.size ∧ Q ≠ w3.heap.size ∧ w.heap.size ≤ w3.heap.size ∧ w.heap.size ≤ P ∧ w.heap.size ≤ Q ∧ w3.heap.size ≤ P ∧ w3.heap.size ≤ Q) := by
      have z1 := Below.size B3
      exact ⟨hPQ, by omega, by omega, z1, by omega, by omega, by omega, by omega⟩
    clear hfP hfQ hb5 X4 B4 hPQ hP4 hQ4 hX4
    go_wp2_with fail
    refine (eqInts_any S5.2.2.1.row (Row.below R3.1 S5.2.1) (by rw [tot_length]; omega)).mono ?_
    rintro e w6 ⟨rfl, hb6⟩
    rw [decide_eq_true rfl]
    have S6 : Hid (St w w3 w6 P Q (tot Gl.p Gl.po gs) (tot Gl.m Gl.mo gs)) := St.step S5 hb6
    have X6 : Hid (GPart w6 w3.heap.size gs.length gs.length gs) := GPart.below X5 hb6
    clear hb6 S5 X5
    go_wp2_with fail
    refine (eqInts_any S6.2.2.2.row (Row.below R3.2 S6.2.1) (by rw [tot_length]; omega)).mono ?_
    rintro e w7 ⟨rfl, hb7⟩
    rw [decide_eq_true rfl]
    have S7 : Hid (St w w3 w7 P Q (tot Gl.p Gl.po gs) (tot Gl.m Gl.mo gs)) := St.step S6 hb7
    have X7 : Hid (GPart w7 w3.heap.size gs.length gs.length gs) := GPart.below X6 hb7
    clear hb7 S6 X6
    go_wp2_with fail
    refine (toGlues_any (GRow.below HG S7.1) (by have := (show gs.length ≤ 10000 from HN); omega)).mono ?_
    rintro e w8 ⟨rfl, hp8, hb8⟩
    have S8 : Hid (St w w3 w8 P Q (tot Gl.p Gl.po gs) (tot Gl.m Gl.mo gs)) := St.step S7 hb8
    have X8 : Hid (GPart w8 w3.heap.size gs.length gs.length gs) := GPart.below X7 hb8
    have Y8 : Hid (GRow w8 (.slice (some ⟨w7.heap.size, 0, none⟩) gs.length gs.length) gs) := hp8.row rfl
    clear hb8 hp8 S7 X7
    go_wp2_with fail
    refine (eqGlues_same (X8.row rfl) Y8 (by have := (show gs.length ≤ 10000 from HN); omega)).mono ?_
    rintro e w9 ⟨rfl, hb9⟩
    have S9 : Hid (St w w3 w9 P Q (tot Gl.p Gl.po gs) (tot Gl.m Gl.mo gs)) := St.step S8 hb9
    have X9 : Hid (GPart w9 w3.heap.size gs.length gs.length gs) := GPart.below X8 hb9
    clear hb9 S8 X8 Y8
    go_wp2_with fail
    refine (markGlues_any X9 (by have := (show gs.length ≤ 10000 from HN); omega)).mono ?_
    rintro e w10 ⟨rfl, ho10⟩
    have S10 : Hid (St w w3 w10 P Q (tot Gl.p Gl.po gs) (tot Gl.m Gl.mo gs)) := St.only S9 ho10 HPQ.2.2.2.1 (Nat.le_refl _) HPQ.2.1 HPQ.2.2.1
    clear ho10 S9 X9
    have hpos : ¬ ((1 : Int) + 5 * (gs.length : Int) < 0) := by omega
    go_wp2_with fail
    refine (eqInts_any S10.2.2.1.row (Row.below R3.1 S10.2.1) (by rw [tot_length]; omega)).mono ?_
    rintro e w11 ⟨rfl, hb11⟩
    rw [decide_eq_true rfl]
    have S11 : Hid (St w w3 w11 P Q (tot Gl.p Gl.po gs) (tot Gl.m Gl.mo gs)) := St.step S10 hb11
    clear hb11 S10
    go_wp2_with fail
    refine (eqInts_any S11.2.2.2.row (Row.below R3.2 S11.2.1) (by rw [tot_length]; omega)).mono ?_
    rintro e w12 ⟨rfl, hb12⟩
    rw [decide_eq_true rfl]
    have S12 : Hid (St w w3 w12 P Q (tot Gl.p Gl.po gs) (tot Gl.m Gl.mo gs)) := St.step S11 hb12
    clear hb12 S11
    go_wp2_with fail
    refine (markInts_any S12.2.2.1.owns (by omega) (by omega) (by omega)).mono ?_
    rintro e w13 ⟨rfl, ho13, hb13, hs13, hh13⟩
    have S13 : Hid (St w w3 w13 P Q (ups 1 4) (tot Gl.m Gl.mo gs)) := ⟨S12.1.trans (hb13.mono HPQ.2.2.2.2.1), S12.2.1.trans (hb13.mono HPQ.2.2.2.2.2.2.1), four_own ho13, ⟨(hh13 Q (Ne.symm HPQ.1)).trans S12.2.2.2.1, S12.2.2.2.2⟩⟩
    clear ho13 hb13 hs13 hh13 S12
    go_wp2_with fail
    refine (markInts_any S13.2.2.2.owns (by omega) (by omega) (by omega)).mono ?_
    rintro e w14 ⟨rfl, ho14, hb14, hs14, hh14⟩
    have S14 : Hid (St w w3 w14 P Q (ups 1 4) (ups (1 + (4 : Nat)) 4)) := ⟨S13.1.trans (hb14.mono HPQ.2.2.2.2.2.1), S13.2.1.trans (hb14.mono HPQ.2.2.2.2.2.2.2), ⟨(hh14 P HPQ.1).trans S13.2.2.1.1, S13.2.2.1.2⟩, four_own ho14⟩
    clear ho14 hb14 hs14 hh14 S13
    go_wp2_with fail
    refine (heldInts_any S14.2.2.1.row (by omega) (by omega) (by omega)).mono ?_
    rintro e w15 ⟨rfl, hw15⟩
    have hw15' := hw15.symm
    clear hw15
    subst hw15'
    go_wp2_with fail
    refine (heldInts_any S14.2.2.2.row (by omega) (by omega) (by omega)).mono ?_
    rintro e w15 ⟨rfl, hw15⟩
    have hw15' := hw15.symm
    clear hw15
    subst hw15'
    go_wp2_with fail
    refine (toGlues_any (GRow.below HG S14.1) (by have := (show gs.length ≤ 10000 from HN); omega)).mono ?_
    rintro e w15 ⟨rfl, hp15, hb15⟩
    have S15 : Hid (St w w3 w15 P Q (ups 1 4) (ups (1 + (4 : Nat)) 4)) := St.step S14 hb15
    have X15 : Hid (GRow w15 (.slice (some ⟨w14.heap.size, 0, none⟩) gs.length gs.length) gs) := hp15.row rfl
    clear hb15 hp15 S14
    go_wp2_with fail
    refine (implSum_ok X15 HOK).mono ?_
    rintro e w16 ⟨P', Q', rfl, hfP, hfQ, hPQ, hP4, hQ4, hb16⟩
    have S16 : Hid (St w w3 w16 P Q (ups 1 4) (ups (1 + (4 : Nat)) 4)) := St.step S15 hb16
    have T16 : Hid (Four w16 54 P' (tot Gl.p Gl.po gs) ∧ Four w16 54 Q' (tot Gl.m Gl.mo gs)) := ⟨hfP, hfQ⟩
    clear hfP hfQ hPQ hP4 hQ4 hb16 S15 X15
    go_wp2_with fail
    refine (eqInts_any T16.1.row (Row.below R3.1 S16.2.1) (by rw [tot_length]; omega)).mono ?_
    rintro e w17 ⟨rfl, hb17⟩
    rw [decide_eq_true rfl]
    have S17 : Hid (St w w3 w17 P Q (ups 1 4) (ups (1 + (4 : Nat)) 4)) := St.step S16 hb17
    have T17 : Hid (Four w17 54 Q' (tot Gl.m Gl.mo gs)) := T16.2.below hb17
    clear hb17 S16 T16
    go_wp2_with fail
    refine (eqInts_any (Four.row T17) (Row.below R3.2 S17.2.1) (by rw [tot_length]; omega)).mono ?_
    rintro e w18 ⟨rfl, hb18⟩
    rw [decide_eq_true rfl]
    have S18 : Hid (St w w3 w18 P Q (ups 1 4) (ups (1 + (4 : Nat)) 4)) := St.step S17 hb18
    clear hb18 S17 T17
    go_wp2_with fail
    refine (heldInts_any S18.2.2.1.row (by omega) (by omega) (by omega)).mono ?_
    rintro e w19 ⟨rfl, hw19⟩
    have hw19' := hw19.symm
    clear hw19
    subst hw19'
    go_wp2_with fail
    refine (heldInts_any S18.2.2.2.row (by omega) (by omega) (by omega)).mono ?_
    rintro e w19 ⟨rfl, hw19⟩
    have hw19' := hw19.symm
    clear hw19
    subst hw19'
    go_wp2
    go_ret
    exact ⟨rfl, S18.1⟩

theorem rowNone (w : World) : Row w (.slice none 0 0) [] := ⟨none, 0, 0, rfl, rfl, fun h => by omega⟩

set_option maxRecDepth 20000 in
set_option maxHeartbeats 4000000 in
theorem lawSum_no {v : Value} {gs : List Gl} {w : World} (h : GRow w v gs) (hn : gs.length ≤ 9223372036854775807) (hok : glsOk gs = false) :
    Calls Try.prog 5 #[v] w fun e w' => e = .returned (.bool true) ∧ Below w.heap.size w w' := by
  have HG : Hid (GRow w v gs) := h
  have HOK : Hid (glsOk gs = false) := hok
  obtain ⟨ao, n, cap, rfl, hl, _⟩ := h
  have HL : Hid (gs.length = n) := hl
  have hn9 : n ≤ 9223372036854775807 := by omega
  have HS : Hid (sumN gs = 0 ∧ sumP gs = [] ∧ sumM gs = []) := by simp [sumN, sumP, sumM, hok]; trivial
  clear hn hok hl
  go_enter Try.func5, Try.ntmps5
  go_wp2_with fail
  refine (szGlues_any _ hn9).mono ?_
  rintro e w1 ⟨⟨m, rfl, hm⟩, hw1⟩
  have hw1' := hw1.symm
  clear hw1
  subst hw1'
  by_cases hneg : m < 0
  · go_wp2
    go_ret
    exact ⟨rfl, Below.refl _ _⟩
  · have HN : Hid (gs.length ≤ 1048576) := by rw [show gs.length = n from HL]; exact hm (by omega)
    clear hm
    go_wp2_with fail
    refine (toGlues_any HG HN).mono ?_
    rintro e w2 ⟨rfl, hp2, hb2⟩
    have X2 : Hid (GRow w2 (.slice (some ⟨w.heap.size, 0, none⟩) gs.length gs.length) gs) := hp2.row rfl
    have B2 : Hid (Below w.heap.size w w2) := hb2
    clear hp2 hb2
    go_wp2_with fail
    refine (specSum_any X2 HN).mono ?_
    rintro e w3 ⟨⟨v1, v2, rfl, hR1, hR2⟩, hb3⟩
    rw [HS.2.1] at hR1
    rw [HS.2.2] at hR2
    rw [HS.1]
    have R3 : Hid (Row w3 v1 [] ∧ Row w3 v2 []) := ⟨hR1, hR2⟩
    have B3 : Hid (Below w.heap.size w w3) := Below.trans B2 (hb3.mono (Below.size B2))
    clear hb3 hR1 hR2 X2 B2
    go_wp2_with fail
    refine (toGlues_any (GRow.below HG B3) HN).mono ?_
    rintro e w4 ⟨rfl, hp4, hb4⟩
    have X4 : Hid (GPart w4 w3.heap.size gs.length gs.length gs) := hp4
    have S4 : Hid (Below w.heap.size w w4 ∧ Below w3.heap.size w3 w4) := ⟨Below.trans B3 (hb4.mono (Below.size B3)), hb4⟩
    clear hp4 hb4
    go_wp2_with fail
    refine (implSum_no (X4.row rfl) HN HOK).mono ?_
    rintro e w5 ⟨rfl, hb5⟩
    have S5 : Hid (Below w.heap.size w w5 ∧ Below w3.heap.size w3 w5) := ⟨S4.1.trans (hb5.mono S4.1.size), S4.2.trans (hb5.mono S4.2.size)⟩
    have X5 : Hid (GPart w5 w3.heap.size gs.length gs.length gs) := GPart.below X4 hb5
    clear hb5 X4 S4
    go_wp2_with fail
    refine (eqInts_any (rowNone _) (Row.below R3.1 S5.2) (by simp)).mono ?_
    rintro e w6 ⟨rfl, hb6⟩
    rw [decide_eq_true rfl]
    have S6 : Hid (Below w.heap.size w w6 ∧ Below w3.heap.size w3 w6) := ⟨S5.1.trans (hb6.mono S5.1.size), S5.2.trans (hb6.mono S5.2.size)⟩
    have X6 : Hid (GPart w6 w3.heap.size gs.length gs.length gs) := GPart.below X5 hb6
    clear hb6 S5 X5
    go_wp2_with fail
    refine (eqInts_any (rowNone _) (Row.below R3.2 S6.2) (by simp)).mono ?_
    rintro e w7 ⟨rfl, hb7⟩
    rw [decide_eq_true rfl]
    have S7 : Hid (Below w.heap.size w w7 ∧ Below w3.heap.size w3 w7) := ⟨S6.1.trans (hb7.mono S6.1.size), S6.2.trans (hb7.mono S6.2.size)⟩
    have X7 : Hid (GPart w7 w3.heap.size gs.length gs.length gs) := GPart.below X6 hb7
    clear hb7 S6 X6
    go_wp2_with fail
    refine (toGlues_any (GRow.below HG S7.1) HN).mono ?_
    rintro e w8 ⟨rfl, hp8, hb8⟩
    have S8 : Hid (Below w.heap.size w w8 ∧ Below w3.heap.size w3 w8) := ⟨S7.1.trans (hb8.mono S7.1.size), S7.2.trans (hb8.mono S7.2.size)⟩
    have X8 : Hid (GPart w8 w3.heap.size gs.length gs.length gs) := GPart.below X7 hb8
    have Y8 : Hid (GRow w8 (.slice (some ⟨w7.heap.size, 0, none⟩) gs.length gs.length) gs) := hp8.row rfl
    clear hb8 hp8 S7 X7
    go_wp2_with fail
    refine (eqGlues_same (X8.row rfl) Y8 HN).mono ?_
    rintro e w9 ⟨rfl, hb9⟩
    have S9 : Hid (Below w.heap.size w w9 ∧ Below w3.heap.size w3 w9) := ⟨S8.1.trans (hb9.mono S8.1.size), S8.2.trans (hb9.mono S8.2.size)⟩
    have X9 : Hid (GPart w9 w3.heap.size gs.length gs.length gs) := GPart.below X8 hb9
    clear hb9 S8 X8 Y8
    go_wp2_with fail
    refine (markGlues_any X9 HN).mono ?_
    rintro e w10 ⟨rfl, ho10⟩
    have S10 : Hid (Below w.heap.size w w10 ∧ Below w3.heap.size w3 w10) := ⟨S9.1.trans (ho10.2.2.mono (Below.size B3)), S9.2.trans ho10.2.2⟩
    clear ho10 S9 X9
    have hpos : ¬ ((1 : Int) + 5 * (gs.length : Int) < 0) := by omega
    go_wp2_with fail
    refine (eqInts_any (rowNone _) (Row.below R3.1 S10.2) (by simp)).mono ?_
    rintro e w11 ⟨rfl, hb11⟩
    rw [decide_eq_true rfl]
    have S11 : Hid (Below w.heap.size w w11 ∧ Below w3.heap.size w3 w11) := ⟨S10.1.trans (hb11.mono S10.1.size), S10.2.trans (hb11.mono S10.2.size)⟩
    clear hb11 S10
    go_wp2_with fail
    refine (eqInts_any (rowNone _) (Row.below R3.2 S11.2) (by simp)).mono ?_
    rintro e w12 ⟨rfl, hb12⟩
    rw [decide_eq_true rfl]
    have S12 : Hid (Below w.heap.size w w12 ∧ Below w3.heap.size w3 w12) := ⟨S11.1.trans (hb12.mono S11.1.size), S11.2.trans (hb12.mono S11.2.size)⟩
    clear hb12 S11
    go_wp2_with fail
    refine (mark_none _ _).mono ?_
    rintro e wh ⟨rfl, hwh⟩
    have hwh' := hwh.symm
    clear hwh
    subst hwh'
    go_wp2_with fail
    refine (mark_none _ _).mono ?_
    rintro e wh ⟨rfl, hwh⟩
    have hwh' := hwh.symm
    clear hwh
    subst hwh'
    go_wp2_with fail
    refine (heldInts_any (n := 0) (rowNone _) (by omega) (by omega) (by omega)).mono ?_
    rintro e wh ⟨rfl, hwh⟩
    have hwh' := hwh.symm
    clear hwh
    subst hwh'
    go_wp2_with fail
    refine (heldInts_any (n := 0) (rowNone _) (by omega) (by omega) (by omega)).mono ?_
    rintro e wh ⟨rfl, hwh⟩
    have hwh' := hwh.symm
    clear hwh
    subst hwh'
    go_wp2_with fail
    refine (toGlues_any (GRow.below HG S12.1) HN).mono ?_
    rintro e w15 ⟨rfl, hp15, hb15⟩
    have S15 : Hid (Below w.heap.size w w15 ∧ Below w3.heap.size w3 w15) := ⟨S12.1.trans (hb15.mono S12.1.size), S12.2.trans (hb15.mono S12.2.size)⟩
    have X15 : Hid (GRow w15 (.slice (some ⟨w12.heap.size, 0, none⟩) gs.length gs.length) gs) := hp15.row rfl
    clear hb15 hp15 S12
    go_wp2_with fail
    refine (implSum_no X15 HN HOK).mono ?_
    rintro e w16 ⟨rfl, hb16⟩
    have S16 : Hid (Below w.heap.size w w16 ∧ Below w3.heap.size w3 w16) := ⟨S15.1.trans (hb16.mono S15.1.size), S15.2.trans (hb16.mono S15.2.size)⟩
    clear hb16 S15 X15
    go_wp2_with fail
    refine (eqInts_any (rowNone _) (Row.below R3.1 S16.2) (by simp)).mono ?_
    rintro e w17 ⟨rfl, hb17⟩
    rw [decide_eq_true rfl]
    have S17 : Hid (Below w.heap.size w w17 ∧ Below w3.heap.size w3 w17) := ⟨S16.1.trans (hb17.mono S16.1.size), S16.2.trans (hb17.mono S16.2.size)⟩
    clear hb17 S16
    go_wp2_with fail
    refine (eqInts_any (rowNone _) (Row.below R3.2 S17.2) (by simp)).mono ?_
    rintro e w18 ⟨rfl, hb18⟩
    rw [decide_eq_true rfl]
    have S18 : Hid (Below w.heap.size w w18 ∧ Below w3.heap.size w3 w18) := ⟨S17.1.trans (hb18.mono S17.1.size), S17.2.trans (hb18.mono S17.2.size)⟩
    clear hb18 S17
    go_wp2_with fail
    refine (heldInts_any (n := 0) (rowNone _) (by omega) (by omega) (by omega)).mono ?_
    rintro e wh ⟨rfl, hwh⟩
    have hwh' := hwh.symm
    clear hwh
    subst hwh'
    go_wp2_with fail
    refine (heldInts_any (n := 0) (rowNone _) (by omega) (by omega) (by omega)).mono ?_
    rintro e wh ⟨rfl, hwh⟩
    have hwh' := hwh.symm
    clear hwh
    subst hwh'
    go_wp2
    go_ret
    exact ⟨rfl, S18.1⟩

theorem lawSum_any {v : Value} {gs : List Gl} {w : World} (h : GRow w v gs) (hn : gs.length ≤ 9223372036854775807) : Calls Try.prog 5 #[v] w fun e w' => e = .returned (.bool true) ∧ Below w.heap.size w w' := by
  cases hq : glsOk gs
  · exact lawSum_no h hn hq
  · exact lawSum_ok h hn hq

theorem ownT : ownKnob Try.prog.godebug = none := by kernel_rfl
theorem laidOut : laidOutB Try.prog = true := by kernel_rfl
theorem cells60 : Try.prog.cellsOf 60 = 5 := by kernel_rfl
theorem cells2 : Try.prog.cellsOf 2 = 1 := by kernel_rfl

theorem list5 {α : Type} {cs : List α} (h : cs.length = 5) : ∃ c0 c1 c2 c3 c4, cs = [c0, c1, c2, c3, c4] := by
  match cs, h with
  | [c0, c1, c2, c3, c4], _ => exact ⟨c0, c1, c2, c3, c4, rfl⟩

set_option maxRecDepth 100000 in
/-- A slice of glues that comes in. -/
theorem open_gls {H : Type} {enc : TypeId × Value → H} {w : World} {base : Nat} {held : Bool} {r : Reach} {b0 : Nat} {v : Value} {d : DataW H} {p : List MemPlace}
    (hv : Value.okWide Try.prog w r b0 38 v) (h : DataW.Trod enc Try.prog w base (fun _ => true) held 38 v d p) :
    ∃ gs : List Gl, GRow w v gs ∧ gs.length ≤ 9223372036854775807 := by
  obtain ⟨a0, len, cap, rfl⟩ := okWide_slice Try.underlying38 hv
  obtain ⟨fuel, hf⟩ := h
  rcases Go.Deep.open_slice Try.underlying38 hf with ⟨hcs, hx⟩ | ⟨a, len', cap', m, n, D, Pl, hcs, _, hl, hm, hmm, hx, hel⟩
  · simp [Value.cells] at hcs
    obtain ⟨rfl, rfl, rfl⟩ := hcs
    exact ⟨[], ⟨none, 0, 0, rfl, rfl, fun h => by omega⟩, by simp⟩
  · simp [Value.cells] at hcs
    obtain ⟨rfl, rfl, rfl⟩ := hcs
    by_cases h0 : len = 0
    · subst h0
      exact ⟨[], ⟨_, 0, cap, rfl, rfl, fun h => by omega⟩, by simp⟩
    · have hplain : ∃ b off, a = ⟨b, off, none⟩ := by
        obtain ⟨cs', hcells, htr⟩ := hel 0 (by simp at hmm; omega)
        rw [cells60] at hcells
        obtain ⟨_, hlen, hat⟩ := World.cells?_some hcells
        have h1 := hat 0 (by omega)
        rw [List.getElem?_eq_getElem (by omega)] at h1
        obtain ⟨b, off, spot⟩ := a
        have hspot : spot = none := by simpa [Addr.add] using World.cell?_spot h1
        subst hspot
        exact ⟨b, off, rfl⟩
      obtain ⟨b, off, rfl⟩ := hplain
      have each : ∀ i, i < len → ∃ t : Gl, w.cell? ⟨b, off + i * 5, none⟩ = some (.int .i64 t.s) ∧ w.cell? ⟨b, off + i * 5 + 1, none⟩ = some (.int .i64 t.p) ∧ w.cell? ⟨b, off + i * 5 + 2, none⟩ = some (.int .i64 t.po) ∧ w.cell? ⟨b, off + i * 5 + 3, none⟩ = some (.int .i64 t.m) ∧ w.cell? ⟨b, off + i * 5 + 4, none⟩ = some (.int .i64 t.mo) := by
        intro i hi
        obtain ⟨cs', hcells, htr⟩ := hel i (by simp at hmm; omega)
        rw [cells60, add_plain] at hcells
        obtain ⟨_, hlen, hat⟩ := World.cells?_some hcells
        obtain ⟨c0, c1, c2, c3, c4, rfl⟩ := list5 hlen
        obtain ⟨xs, n', _, _, _, hlx, hfs⟩ := DataW.trod_struct Try.underlying60 htr
        obtain ⟨y0, y1, y2, y3, y4, rfl⟩ := list5 (by simpa using hlx)
        have g0 : DataW.trod enc Try.prog w base (fun _ => true) held n' 2 [c0] = some y0 := by simpa [cells2] using hfs 0 _ rfl
        have g1 : DataW.trod enc Try.prog w base (fun _ => true) held n' 2 [c1] = some y1 := by simpa [cells2] using hfs 1 _ rfl
        have g2 : DataW.trod enc Try.prog w base (fun _ => true) held n' 2 [c2] = some y2 := by simpa [cells2] using hfs 2 _ rfl
        have g3 : DataW.trod enc Try.prog w base (fun _ => true) held n' 2 [c3] = some y3 := by simpa [cells2] using hfs 3 _ rfl
        have g4 : DataW.trod enc Try.prog w base (fun _ => true) held n' 2 [c4] = some y4 := by simpa [cells2] using hfs 4 _ rfl
        obtain ⟨n0, e0, _, _⟩ := DataW.trod_int Try.underlying2 g0
        obtain ⟨n1, e1, _, _⟩ := DataW.trod_int Try.underlying2 g1
        obtain ⟨n2, e2, _, _⟩ := DataW.trod_int Try.underlying2 g2
        obtain ⟨n3, e3, _, _⟩ := DataW.trod_int Try.underlying2 g3
        obtain ⟨n4, e4, _, _⟩ := DataW.trod_int Try.underlying2 g4
        simp at e0 e1 e2 e3 e4
        subst e0 e1 e2 e3 e4
        refine ⟨⟨n0, n1, n2, n3, n4⟩, ?_, ?_, ?_, ?_, ?_⟩
        · have := hat 0 (by omega); rw [add_plain] at this; simpa using this
        · have := hat 1 (by omega); rw [add_plain] at this; simpa using this
        · have := hat 2 (by omega); rw [add_plain] at this; simpa using this
        · have := hat 3 (by omega); rw [add_plain] at this; simpa using this
        · have := hat 4 (by omega); rw [add_plain] at this; simpa using this
      let f : Nat → Gl := fun i => if hi : i < len then Classical.choose (each i hi) else Gl.none
      have hf : ∀ i, (hi : i < len) → w.cell? ⟨b, off + i * 5, none⟩ = some (.int .i64 (f i).s) ∧ w.cell? ⟨b, off + i * 5 + 1, none⟩ = some (.int .i64 (f i).p) ∧ w.cell? ⟨b, off + i * 5 + 2, none⟩ = some (.int .i64 (f i).po) ∧ w.cell? ⟨b, off + i * 5 + 3, none⟩ = some (.int .i64 (f i).m) ∧ w.cell? ⟨b, off + i * 5 + 4, none⟩ = some (.int .i64 (f i).mo) := by
        intro i hi
        have := Classical.choose_spec (each i hi)
        simp only [f, dif_pos hi]
        exact this
      have hget : ∀ i, i < len → ((List.range len).map f).getD i Gl.none = f i := by
        intro i hi
        simp [List.getD, List.getElem?_map, List.getElem?_range hi]
      refine ⟨(List.range len).map f, ⟨_, len, cap, rfl, by simp, fun hp => ⟨b, off, rfl, World.block_lt_of_cell? w _ (hf 0 hp).1, fun i hi => ?_⟩⟩, ?_⟩
      · rw [hget i hi]
        exact hf i hi
      · simp
        unfold maxLen at hm
        omega

set_option maxRecDepth 100000 in
theorem sumGlue_lifted (os : Os) (started : os.Started) (H : Type) (enc : TypeId × Value → H) :
    ReturnsInHanded {} Try.checked os 5 .any (Rows.fnExactSumGlueSpec.pre6 enc Try.prog Try.f5 Rows.fnExactSumGlueRow.domain false) (Rows.fnExactSumGlueSpec.post enc Try.prog Try.f5 false true false false) := by
  refine returnsInHanded_of_change (C := Try.checked) ownT started (by kernel_rfl) Try.func5
    (ChangeSpec.witness6 (enc := enc) (C := Try.checked) false ⟨#[], #[.slice none 0 0], []⟩ 8 (by kernel_rfl) (by kernel_rfl) (by kernel_rfl) (by kernel_rfl)) ?_
  intro W base args ds gs before hval0 hW hcnd _
  have hval : ∀ (j : Nat) t v, Try.f5.params[j]? = some t → args[j]? = some v → Value.okWide Try.prog W .any base t v := hval0
  have hW' := hW
  obtain ⟨p, q, hA0, hV, rfl, hfz, hnd⟩ := hW
  have hA : DataW.TrodAll enc Try.prog W 0 (fun _ => true) true Try.f5.params.toList args.toList ds p := hA0
  rw [Try.params5] at hA hval
  obtain ⟨v0, vs0, d0, ds0, p0, q0, hargs, rfl, rfl, h0, r0⟩ := trodAll_cons hA
  obtain ⟨rfl, rfl, rfl⟩ := trodAll_nil r0
  obtain rfl : args = #[v0] := by cases args; simp_all
  obtain ⟨rfl, rfl⟩ := trodVars_none hV
  have k0 := h0
  have lt0 : ∀ x ∈ p0, x.block < W.heap.size := by obtain ⟨m, hm⟩ := k0; exact DataW.trod_lt m _ _ _ hm
  obtain ⟨gl, hrow, hn⟩ := open_gls (hval 0 38 v0 rfl rfl) h0
  clear hA0 hval0
  refine (lawSum_any hrow hn).mono fun e W' ⟨he, bel⟩ => ?_
  subst he
  exact ⟨_, rfl, _, _, _, [], _, [], hW', trodAll_mk1 (shut_bool Try.underlying4 _), (trodAll_cons_mk (Below.trod laidOut (by kernel_rfl) (of_decide_eq_true (by kernel_rfl)) k0 bel lt0) trodAll_mk0), rfl, bel.frame _, fun h => by cases h⟩

theorem sumGlue_holds : Rows.FnExactSumGlueSaid :=
  OpenClaim.holds_of_wide 5 Try.f5 rfl rfl rfl rfl rfl rfl rfl ⟨rfl, rfl, rfl, rfl, rfl⟩ rfl rfl rfl rfl rfl (by kernel_rfl) Try.func5 (by kernel_rfl)
    (of_decide_eq_true (by kernel_rfl)) (by unfold Func.isWrapper; first | (rw [if_pos (by decide +kernel)]; kernel_rfl) | (rw [if_neg (by decide +kernel)]; exact ⟨rfl, rfl⟩))
    (fun os started H enc _ => sumGlue_lifted os started H enc)
#print axioms sumGlue_holds
end Go.Proofs.Ytgaencpjjjdmmaa
