/-
  ShowGlue hangs on the glue alone, and on an order only where there is an amount.
-/
import Derived.Test.YtminpoenfjnmiaaDoorShi
namespace Go.Proofs.YtminpoenfjnmiaaDoor
open Go.RowKit
set_option linter.unusedVariables false
set_option linter.unusedSimpArgs false

theorem sgn_abs (x : Int) : sgn (decide (x < 0)) x.natAbs = x := by
  unfold sgn
  by_cases h : x < 0
  · simp only [h, decide_true, if_true]; omega
  · simp only [h, decide_false, Bool.false_eq_true, if_false]; omega

/-- The decimal of an amount. -/
theorem decimal_ex (x : Int) (hx : Amt x) : ∃ s : ByteArray, s.size ≤ 100 ∧ ∀ w, Pows w → Calls Tryd.prog 21 #[.int .i64 x] w fun e w' => e = .returned (.string s) ∧ Below w.heap.size w w' := by
  unfold Amt at hx
  obtain ⟨p, hp⟩ := shown_ex (eOf (decide (x < 0))) x.natAbs (eOf_le _)
  obtain ⟨s, A, B, hl, dA, dB, A0, A5, hBp, hval, hshow⟩ := showDecimal_any (decide (x < 0)) x.natAbs p (by omega) (fun h => by simp at h; omega) hp
  have hp5 := hp.2.1
  refine ⟨s, ?_, fun w hP => ?_⟩
  · have : s.size = (Txt (decide (x < 0)) A B).length := by rw [← hl]; exact Array.length_toList.symm
    rw [this]
    unfold Txt
    split <;> simp only [List.length_append, List.length_cons, List.length_nil] <;> omega
  · have := hshow w hP
    rw [sgn_abs] at this
    exact this

/-- What a word, an amount and an order show. -/
theorem give_ex (word : ByteArray) (hw : word.size ≤ 10) (a o o' : Int) (ha : Amt a) (ho : Ord o) (ho' : Ord o') (h : a ≠ 0 → o' = o) : ∃ t : ByteArray, t.size ≤ 120 ∧
    (∀ w, Pows w → Names w → Calls Tryd.prog 18 #[.string word, giveV a o] w fun e w' => e = .returned (.string t) ∧ Below w.heap.size w w') ∧
    (∀ w, Pows w → Names w → Calls Tryd.prog 18 #[.string word, giveV a o'] w fun e w' => e = .returned (.string t) ∧ Below w.heap.size w w') := by
  by_cases h0 : a = 0
  · subst h0
    exact ⟨⟨#[]⟩, by decide, fun w _ _ => showGive_zero word o w, fun w _ _ => showGive_zero word o' w⟩
  · obtain ⟨s, hs, hD⟩ := decimal_ex a ha
    have e := h h0
    subst e
    obtain ⟨k, hk⟩ : ∃ k : Nat, (k : Int) = o' := ⟨o'.toNat, by unfold Ord at ho'; omega⟩
    unfold Ord at ho'
    have hn := nameOf_size k
    have hc : ∀ w, Pows w → Names w → Calls Tryd.prog 18 #[.string word, giveV a o'] w fun e w' => e = .returned (.string (word ++ s ++ nameOf k)) ∧ Below w.heap.size w w' := fun w hP hO => by
      rw [← hk]
      exact showGive_some word s a k w h0 (by omega) hw hs hP hO hD
    exact ⟨_, by simp only [ByteArray.size_append]; omega, hc, hc⟩

theorem showGlue_det (s p po m mo po' mo' : Int) (h1 : okB s p po m mo = true) (h2 : okB s p po' m mo' = true) (hp : p ≠ 0 → po' = po) (hm : m ≠ 0 → mo' = mo) : ∃ S : ByteArray,
    (∀ w, Pows w → Names w → Calls Tryd.prog 8 #[glueV s p po m mo] w fun e w' => e = .returned (.string S) ∧ Below w.heap.size w w') ∧
    (∀ w, Pows w → Names w → Calls Tryd.prog 8 #[glueV s p po' m mo'] w fun e w' => e = .returned (.string S) ∧ Below w.heap.size w w') := by
  obtain ⟨as_, ap, opo, am, omo⟩ := okB_parts h1
  obtain ⟨_, _, opo', _, omo'⟩ := okB_parts h2
  obtain ⟨s0, hs0, hD⟩ := decimal_ex s as_
  obtain ⟨t1, ht1, a1, b1⟩ := give_ex ⟨#[32, 112, 108, 117, 115, 32]⟩ (by decide) p po po' ap opo opo' hp
  obtain ⟨t2, ht2, a2, b2⟩ := give_ex ⟨#[32, 109, 105, 110, 117, 115, 32]⟩ (by decide) m mo mo' am omo omo' hm
  have h0 : ∀ w, Pows w → Names w → Calls Tryd.prog 17 #[.int .i64 s] w fun e w' => e = .returned (.string (s0 ++ ⟨#[112, 116]⟩)) ∧ Below w.heap.size w w' := fun w hP hO => showLen_in s s0 w (by unfold Amt at as_; omega) hs0 hP hO hD
  have hz : (s0 ++ ⟨#[112, 116]⟩ : ByteArray).size ≤ 110 := by
    rw [ByteArray.size_append]
    have : (⟨#[112, 116]⟩ : ByteArray).size = 2 := rfl
    omega
  exact ⟨s0 ++ ⟨#[112, 116]⟩ ++ t1 ++ t2, fun w hP hO => showGlue_core s p po m mo _ t1 t2 w h1 hz ht1 ht2 hP hO h0 a1 a2, fun w hP hO => showGlue_core s p po' m mo' _ t1 t2 w h2 hz ht1 ht2 hP hO h0 b1 b2⟩

/-- Adding does not hang on the order of the two. -/
theorem addV_comm (s p po m mo s' p' po' m' mo' : Int) : addV s p po m mo s' p' po' m' mo' = addV s' p' po' m' mo' s p po m mo := by
  cases h1 : okB s p po m mo
  · rw [addV_1 h1, addV_2 h1]
  cases h2 : okB s' p' po' m' mo'
  · rw [addV_2 h2, addV_1 h2]
  obtain ⟨_, _, o1, _, o2⟩ := okB_parts h1
  obtain ⟨_, _, o3, _, o4⟩ := okB_parts h2
  unfold addV
  rw [h1, h2, sgSum o1 o3, sgSum o2 o4, Int.add_comm s s']

/-- A glue of nothing changes a glue at most in an order of nothing. -/
theorem addV_zero (s p po m mo : Int) : (okB s p po m mo = false ∧ addV s p po m mo 0 0 0 0 0 = .tuple #[glueV 0 0 0 0 0, .bool false]) ∨
    (okB s p po m mo = true ∧ ∃ po' mo', okB s p po' m mo' = true ∧ (p ≠ 0 → po' = po) ∧ (m ≠ 0 → mo' = mo) ∧ addV s p po m mo 0 0 0 0 0 = .tuple #[glueV s p po' m mo', .bool true]) := by
  cases h1 : okB s p po m mo
  · exact .inl ⟨rfl, addV_1 h1⟩
  · refine .inr ⟨rfl, ?_⟩
    have hz : okB 0 0 0 0 0 = true := by decide
    have g : ∀ a o : Int, ∃ o', gSum a o 0 0 = (a, o') ∧ (a ≠ 0 → o' = o) ∧ (o' = o ∨ o' = 0) := fun a o => by
      by_cases ha : a = 0
      · subst ha
        exact ⟨0, gSum_00, fun h => absurd rfl h, .inr rfl⟩
      · exact ⟨o, gSum_0b ha, fun _ => rfl, .inl rfl⟩
    obtain ⟨po', e1, f1, g1⟩ := g p po
    obtain ⟨mo', e2, f2, g2⟩ := g m mo
    have hok : okB s p po' m mo' = true := by
      obtain ⟨a1, a2, a3, a4, a5⟩ := okB_parts h1
      unfold Amt at a1 a2 a4
      unfold Ord at a3 a5
      simp only [okB, fitsB, orderB, Bool.and_eq_true, decide_eq_true_eq]
      omega
    refine ⟨po', mo', hok, f1, f2, ?_⟩
    have hok' : okB (s + 0) p po' m mo' = true := by rw [Int.add_zero]; exact hok
    have := addV_4 h1 hz e1 e2 hok'
    rw [Int.add_zero] at this
    exact this

end Go.Proofs.YtminpoenfjnmiaaDoor
