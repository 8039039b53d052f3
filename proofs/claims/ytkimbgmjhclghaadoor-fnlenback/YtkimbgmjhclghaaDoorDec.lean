/-
  The reading of a decimal number: digits and at most one dot, as a function of the bytes; and what the program's own takeDecimal answers.
-/
import Derived.Test.YtkimbgmjhclghaaDoorRows
import Derived.WalkKit
import Derived.WalkSpells
import Derived.WalkLawsBesides
import Derived.Deep.QuietTactic
import Derived.BigQuiet
import Derived.WalkSmall
import Derived.Below
import Derived.Outline
namespace Go.Proofs.YtkimbgmjhclghaaDoor
open Go.RowKit
set_option linter.unusedVariables false
set_option linter.unusedSimpArgs false

theorem hideP {p : Prop} (h : p) : Hid p := h

/-- The byte at a place of a text. -/
def byteAt (s : ByteArray) (i : Nat) : Nat := (s.data.toList.getD i 0).toNat

theorem byteAt_le (s : ByteArray) (i : Nat) : byteAt s i ≤ 255 := by
  unfold byteAt
  have := (s.data.toList.getD i 0).toNat_lt
  omega

theorem byteAt_get (s : ByteArray) (i : Nat) (h : i < s.size) : (s[i]'h).toNat = byteAt s i := by
  obtain ⟨⟨l⟩⟩ := s
  have hl : i < l.length := h
  have e : (ByteArray.mk ⟨l⟩)[i]'h = l.getD i 0 := by
    simp only [List.getD, List.getElem?_eq_getElem hl, Option.getD_some]
    rfl
  rw [e]
  rfl

structure Dec where
  at_ : Nat
  num : Nat
  ten : Nat
  count : Nat

/-- What is read from the place i on: n so far, t the power of ten behind the dot, k digits, d whether the dot has come; 16 digits: too many. -/
def dec (b : Nat → Nat) : (fuel i n t k : Nat) → Bool → Dec
  | 0, i, n, t, k, _ => ⟨i, n, t, k⟩
  | f + 1, i, n, t, k, d =>
    if b i = 46 ∧ d = false then dec b f (i + 1) n t k true
    else if 48 ≤ b i ∧ b i ≤ 57 then (if k = 15 then ⟨i, n, t, 16⟩ else dec b f (i + 1) (n * 10 + (b i - 48)) (if d then t * 10 else t) (k + 1) d)
    else ⟨i, n, t, k⟩

theorem dec_end (b : Nat → Nat) (L i n t k : Nat) (d : Bool) (h : ¬ i < L) : dec b (L - i) i n t k d = ⟨i, n, t, k⟩ := by
  rw [show L - i = 0 by omega]
  rfl
theorem dec_dot (b : Nat → Nat) (L i n t k : Nat) (h : i < L) (hb : b i = 46) : dec b (L - i) i n t k false = dec b (L - (i + 1)) (i + 1) n t k true := by
  rw [show L - i = (L - (i + 1)) + 1 by omega]
  simp only [dec, hb, and_self, if_true]
theorem dec_stop (b : Nat → Nat) (L i n t k : Nat) (d : Bool) (h : i < L) (h1 : ¬ (b i = 46 ∧ d = false)) (h2 : ¬ (48 ≤ b i ∧ b i ≤ 57)) : dec b (L - i) i n t k d = ⟨i, n, t, k⟩ := by
  rw [show L - i = (L - (i + 1)) + 1 by omega]
  simp only [dec, if_neg h1, if_neg h2]
theorem dec_many (b : Nat → Nat) (L i n t : Nat) (d : Bool) (h : i < L) (h2 : 48 ≤ b i ∧ b i ≤ 57) : dec b (L - i) i n t 15 d = ⟨i, n, t, 16⟩ := by
  rw [show L - i = (L - (i + 1)) + 1 by omega]
  have h1 : ¬ (b i = 46 ∧ d = false) := fun h => by omega
  simp only [dec, if_neg h1, if_pos h2, if_true]
theorem dec_digit (b : Nat → Nat) (L i n t k : Nat) (d : Bool) (h : i < L) (h2 : 48 ≤ b i ∧ b i ≤ 57) (hk : ¬ k = 15) :
    dec b (L - i) i n t k d = dec b (L - (i + 1)) (i + 1) (n * 10 + (b i - 48)) (if d then t * 10 else t) (k + 1) d := by
  rw [show L - i = (L - (i + 1)) + 1 by omega]
  have h1 : ¬ (b i = 46 ∧ d = false) := fun h => by omega
  simp only [dec, if_neg h1, if_pos h2, if_neg hk]

/-- Bounds: n and t are at most what k digits make. -/
def Small (n t k : Nat) : Prop := k ≤ 15 ∧ n < 10 ^ k ∧ t ≤ 10 ^ k ∧ 0 < t

theorem Small.next {n t k c : Nat} {d : Bool} (h : Small n t k) (hc : c ≤ 9) (hk : ¬ k = 15) : Small (n * 10 + c) (if d then t * 10 else t) (k + 1) := by
  obtain ⟨h1, h2, h3, h4⟩ := h
  have e : 10 ^ (k + 1) = 10 ^ k * 10 := by rw [Nat.pow_succ]
  refine ⟨by omega, by omega, ?_, ?_⟩
  · cases d
    · simp only [Bool.false_eq_true, if_false]; omega
    · simp only [if_true]; omega
  · cases d
    · simp only [Bool.false_eq_true, if_false]; omega
    · simp only [if_true]; omega

theorem Small.bounds {n t k : Nat} (h : Small n t k) : n < 1000000000000000 ∧ t ≤ 1000000000000000 := by
  obtain ⟨h1, h2, h3, _⟩ := h
  have : 10 ^ k ≤ 10 ^ 15 := Nat.pow_le_pow_right (by decide) h1
  have e : (10 : Nat) ^ 15 = 1000000000000000 := by decide
  omega

/-- What takeDecimal answers. -/
def decOk (D : Dec) : Bool := decide (0 < D.count) && decide (D.count ≤ 15)

/-- What takeDecimal answers of a text of which R is read. -/
def DecAns (s : ByteArray) (R : Dec) (e : Ending) : Prop :=
  (R.count = 16 ∧ e = .returned (.tuple #[.int .i64 0, .int .i64 0, .string ⟨#[]⟩, .bool false])) ∨
  (Small R.num R.ten R.count ∧ R.at_ ≤ s.size ∧ e = .returned (.tuple #[.int .i64 (R.num : Int), .int .i64 (R.ten : Int), .string (s.extract R.at_ s.size), .bool (decide (0 < R.count))]))

theorem ans_of {s : ByteArray} {R : Dec} {i n t k : Nat} (HE : Hid (R = ⟨i, n, t, k⟩)) (HS : Hid (Small n t k)) (hi : i ≤ s.size) :
    DecAns s R (.returned (.tuple #[.int .i64 (n : Int), .int .i64 (t : Int), .string (s.extract i s.size), .bool (decide (0 < k))])) := by
  rw [HE.out]
  exact .inr ⟨HS.out, hi, rfl⟩

theorem below_drewN {B : Nat} {a w : World} (h : Below B a w) (n : Nat) : Below B a (w.drewN n) := h.trans ⟨rfl, rfl, rfl, Nat.le_refl _, fun _ _ => rfl⟩

set_option maxHeartbeats 1000000 in
theorem takeDecimal_any (s : ByteArray) (R : Dec) (w : World) (hs : s.size ≤ 9223372036854775807) (HR : Hid (R = dec (byteAt s) (s.size - 0) 0 0 1 0 false)) :
    Calls Tryd.prog 16 #[.string s] w fun e w' => DecAns s R e ∧ Below w.heap.size w w' := by
  go_enter Tryd.func16, Tryd.ntmps16
  go_wp2
  go_loop [2, 3, 6, 7, 8] (fun s2 s3 s6 s7 s8 => ∃ (i n t k : Nat) (d : Bool), i ≤ s.size ∧ s2 = .int .i64 (n : Int) ∧ s3 = .int .i64 (t : Int) ∧ s6 = .int .i64 (k : Int) ∧ s7 = .int .i64 (i : Int) ∧ s8 = .bool d ∧ Hid (Small n t k) ∧ Hid (R = dec (byteAt s) (s.size - i) i n t k d)) (fun _ _ _ s7 _ => s.size - (intOf s7).toNat)
  case atStart => exact ⟨0, 0, 1, 0, false, Nat.zero_le _, rfl, rfl, rfl, rfl, rfl, hideP ⟨by decide, by decide, by decide, by decide⟩, HR⟩
  case round =>
    obtain ⟨i, n, t, k, d, hi, rfl, rfl, rfl, rfl, rfl, HS, HD⟩ := hrel
    clear HR
    by_cases hlt : i < s.size
    · obtain ⟨c, hc⟩ : ∃ c : Nat, c = byteAt s i := ⟨_, rfl⟩
      have hc1 : c ≤ 255 := by rw [hc]; exact byteAt_le s i
      have hb : ((s[i]'hlt).toNat : Int) = (c : Int) := by rw [hc, byteAt_get s i hlt]
      have HCB := hideP hc
      have hz : (i : Int) + 1 ≤ 9223372036854775807 := by omega
      clear hc
      by_cases hA : c = 46 ∧ d = false
      · obtain ⟨rfl, rfl⟩ := hA
        have e1 : (((s[i]'hlt).toNat : Int) == 46) = true := by rw [hb]; rfl
        clear hb
        go_wp2
        go_round
        case rel => exact ⟨i + 1, n, t, k, true, by omega, rfl, rfl, rfl, by go_num, rfl, HS, hideP (HD.out.trans (dec_dot _ _ _ _ _ _ hlt HCB.out.symm))⟩
        case measure => simp [intOf]; omega
      · by_cases hD : 48 ≤ c ∧ c ≤ 57
        · have e1 : (((s[i]'hlt).toNat : Int) == 46) = false := by rw [hb]; simp; omega
          have e2 : decide (((s[i]'hlt).toNat : Int) < 48) = false := by rw [hb]; simp; omega
          have e3 : decide (57 < ((s[i]'hlt).toNat : Int)) = false := by rw [hb]; simp; omega
          have hdc : 48 ≤ byteAt s i ∧ byteAt s i ≤ 57 := by rw [← HCB.out]; exact hD
          have HDC := hideP hdc
          clear hA hdc
          by_cases hk : k = 15
          · subst hk
            clear hb
            go_wp2
            exact bodyPost_ret (v := .tuple #[.int .i64 0, .int .i64 0, .string ⟨#[]⟩, .bool false]) (by simp [results, Tryd.results16, go_sem]) rfl ⟨.inl ⟨by rw [HD.out, dec_many _ _ _ _ _ _ hlt HDC.out], rfl⟩, Below.refl _ _⟩
          · have k1 : ((k : Int) == 15) = false := by simp; omega
            have hkl := HS.out.1
            obtain ⟨m, hm⟩ : ∃ m : Int, m = (n : Int) := ⟨_, rfl⟩
            obtain ⟨tt, htt⟩ : ∃ m : Int, m = (t : Int) := ⟨_, rfl⟩
            have hbn := HS.out.bounds
            have hm1 : 0 ≤ m ∧ m < 1000000000000000 := by omega
            have ht1 : 0 ≤ tt ∧ tt ≤ 1000000000000000 := by omega
            have HM := hideP hm
            have HT := hideP htt
            have HK := hideP hk
            have hx1 : 48 ≤ ((s[i]'hlt).toNat : Int) ∧ ((s[i]'hlt).toNat : Int) ≤ 57 := by omega
            have HX := hideP hb
            rw [← hm, ← htt]
            clear hbn hm htt hk hb
            cases d
            · go_wp2
              go_round
              case rel =>
                refine ⟨i + 1, n * 10 + (c - 48), t, k + 1, false, by omega, ?_, by rw [HT.out], by go_num, by go_num, rfl, hideP (HS.out.next (d := false) (by omega) HK.out), hideP ((HD.out.trans (dec_digit _ _ _ _ _ _ _ hlt HDC.out HK.out)).trans (by rw [HCB.out]; rfl))⟩
                rw [HX.out, HM.out]
                congr 1
                omega
              case measure => simp [intOf]; omega
            · go_wp2
              go_round
              case rel =>
                refine ⟨i + 1, n * 10 + (c - 48), t * 10, k + 1, true, by omega, ?_, ?_, by go_num, by go_num, rfl, hideP (HS.out.next (d := true) (by omega) HK.out), hideP ((HD.out.trans (dec_digit _ _ _ _ _ _ _ hlt HDC.out HK.out)).trans (by rw [HCB.out]; rfl))⟩
                · rw [HX.out, HM.out]
                  congr 1
                  omega
                · rw [HT.out]
                  congr 1
              case measure => simp [intOf]; omega
        · have hn1 : ¬ (byteAt s i = 46 ∧ d = false) := by rw [← HCB.out]; exact hA
          have hn2 : ¬ (48 ≤ byteAt s i ∧ byteAt s i ≤ 57) := by rw [← HCB.out]; exact hD
          have HE := hideP (HD.out.trans (dec_stop _ _ _ _ _ _ _ hlt hn1 hn2))
          clear hn1 hn2
          by_cases hlo : c < 48
          · have e2 : decide (((s[i]'hlt).toNat : Int) < 48) = true := by rw [hb]; simp; omega
            cases d
            · have e1 : (((s[i]'hlt).toNat : Int) == 46) = false := by
                rw [hb]
                have : c ≠ 46 := fun h => hA ⟨h, rfl⟩
                simp; omega
              clear hA hD hb hlo
              go_wp2
              go_quiet (fail)
              go_wp2
              exact bodyPost_ret (v := .tuple #[.int .i64 (n : Int), .int .i64 (t : Int), .string (s.extract i s.size), .bool (decide (0 < k))]) (by simp [results, Tryd.results16, go_sem]) rfl ⟨ans_of HE HS hi, below_drewN (Below.refl _ _) _⟩
            · by_cases h46 : c = 46
              · have e1 : (((s[i]'hlt).toNat : Int) == 46) = true := by rw [hb]; simp; omega
                clear hA hD hb hlo h46
                go_wp2
                go_quiet (fail)
                go_wp2
                exact bodyPost_ret (v := .tuple #[.int .i64 (n : Int), .int .i64 (t : Int), .string (s.extract i s.size), .bool (decide (0 < k))]) (by simp [results, Tryd.results16, go_sem]) rfl ⟨ans_of HE HS hi, below_drewN (Below.refl _ _) _⟩
              · have e1 : (((s[i]'hlt).toNat : Int) == 46) = false := by rw [hb]; simp; omega
                clear hA hD hb hlo h46
                go_wp2
                go_quiet (fail)
                go_wp2
                exact bodyPost_ret (v := .tuple #[.int .i64 (n : Int), .int .i64 (t : Int), .string (s.extract i s.size), .bool (decide (0 < k))]) (by simp [results, Tryd.results16, go_sem]) rfl ⟨ans_of HE HS hi, below_drewN (Below.refl _ _) _⟩
          · have e1 : (((s[i]'hlt).toNat : Int) == 46) = false := by rw [hb]; simp; omega
            have e2 : decide (((s[i]'hlt).toNat : Int) < 48) = false := by rw [hb]; simp; omega
            have e3 : decide (57 < ((s[i]'hlt).toNat : Int)) = true := by rw [hb]; simp; omega
            clear hA hD hb hlo
            go_wp2
            go_quiet (fail)
            go_wp2
            exact bodyPost_ret (v := .tuple #[.int .i64 (n : Int), .int .i64 (t : Int), .string (s.extract i s.size), .bool (decide (0 < k))]) (by simp [results, Tryd.results16, go_sem]) rfl ⟨ans_of HE HS hi, below_drewN (Below.refl _ _) _⟩
    · have HE := hideP (HD.out.trans (dec_end _ _ _ _ _ _ _ hlt))
      go_wp2
      go_quiet (fail)
      go_wp2
      exact bodyPost_ret (v := .tuple #[.int .i64 (n : Int), .int .i64 (t : Int), .string (s.extract i s.size), .bool (decide (0 < k))]) (by simp [results, Tryd.results16, go_sem]) rfl ⟨ans_of HE HS hi, below_drewN (Below.refl _ _) _⟩
end Go.Proofs.YtkimbgmjhclghaaDoor
