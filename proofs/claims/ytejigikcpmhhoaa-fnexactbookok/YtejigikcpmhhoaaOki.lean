/-
  The program's PatternOk.
-/
import Derived.Test.YtejigikcpmhhoaaLet
import Derived.Deep.RegionWith
namespace Go.Proofs.Ytejigikcpmhhoaa
open Go.RowKit
set_option linter.unusedVariables false
set_option linter.unusedSimpArgs false

theorem sufS_le (s : ByteArray) : (sufS s).size ≤ s.size := by
  unfold sufS; split
  · rw [size_extract s 0 (s.size - 1) (by omega)]; omega
  · exact Nat.le_refl _
theorem preS_le (s : ByteArray) : (preS s).size ≤ s.size := by
  unfold preS; split
  · rw [size_extract s 1 s.size (by omega)]; omega
  · exact Nat.le_refl _

/-- What the two trimmings leave, by places. -/
theorem inside_at (s : ByteArray) : ∃ a e : Nat, e ≤ s.size ∧ (sufS (preS s)).size = e - a ∧ (∀ i, a + i < e → byteAt (sufS (preS s)) i = byteAt s (a + i)) ∧
    (a = 0 ∨ (a = 1 ∧ 0 < s.size ∧ byteAt s 0 = 46)) ∧ (a = 0 → 0 < s.size → byteAt s 0 ≠ 46) ∧ a ≤ s.size ∧
    (e = s.size ∨ (e + 1 = s.size ∧ a < s.size ∧ byteAt s e = 46)) ∧ (e = s.size → a < s.size → byteAt s (s.size - 1) ≠ 46) := by
  by_cases h : 0 < s.size ∧ byteAt s 0 = 46
  · have hp : preS s = s.extract 1 s.size := by simp [preS, h]
    have hz : (preS s).size = s.size - 1 := by rw [hp, size_extract s 1 s.size (by omega)]
    have hb : ∀ i, 1 + i < s.size → byteAt (preS s) i = byteAt s (1 + i) := fun i hi => by rw [hp]; exact byteAt_extract s 1 s.size i (by omega) hi
    by_cases h2 : 0 < (preS s).size ∧ byteAt (preS s) ((preS s).size - 1) = 46
    · have hq : sufS (preS s) = (preS s).extract 0 ((preS s).size - 1) := by simp only [sufS, h2, and_self, if_true]
      have hlast : byteAt s (s.size - 1) = 46 := by
        have := hb ((preS s).size - 1) (by omega)
        rw [← h2.2, this]; congr 1; omega
      refine ⟨1, s.size - 1, by omega, by rw [hq, size_extract _ _ _ (by omega)]; omega, fun i hi => ?_, .inr ⟨rfl, h⟩, by omega, by omega, .inr ⟨by omega, by omega, hlast⟩, fun he => by omega⟩
      rw [hq, byteAt_extract _ 0 _ i (by omega) (by omega), Nat.zero_add]
      exact hb i (by omega)
    · have hq : sufS (preS s) = preS s := by simp only [sufS, h2, if_false]
      refine ⟨1, s.size, Nat.le_refl _, by rw [hq, hz], fun i hi => by rw [hq]; exact hb i hi, .inr ⟨rfl, h⟩, by omega, by omega, .inl rfl, fun _ ha hl => h2 ⟨by omega, ?_⟩⟩
      rw [hb _ (by omega), ← hl]; congr 1; omega
  · have hp : preS s = s := by simp only [preS, h, if_false]
    rw [hp]
    have hn : 0 < s.size → byteAt s 0 ≠ 46 := fun h0 h1 => h ⟨h0, h1⟩
    by_cases h2 : 0 < s.size ∧ byteAt s (s.size - 1) = 46
    · have hq : sufS s = s.extract 0 (s.size - 1) := by simp only [sufS, h2, and_self, if_true]
      refine ⟨0, s.size - 1, by omega, by rw [hq, size_extract _ _ _ (by omega)], fun i hi => ?_, .inl rfl, fun _ => hn, by omega, .inr ⟨by omega, by omega, h2.2⟩, fun he => by omega⟩
      rw [hq, byteAt_extract _ 0 _ i (by omega) (by omega)]
    · have hq : sufS s = s := by simp only [sufS, h2, if_false]
      refine ⟨0, s.size, Nat.le_refl _, by rw [hq]; omega, fun i hi => by rw [hq, Nat.zero_add], .inl rfl, fun _ => hn, by omega, .inl rfl, fun _ ha hl => h2 ⟨by omega, hl⟩⟩

theorem inside_iff (s : ByteArray) : (0 < (sufS (preS s)).size ∧ AllLow (sufS (preS s))) ↔ LetP s := by
  obtain ⟨a, e, he, hz, hb, ha, ha0, has, hee, hel⟩ := inside_at s
  constructor
  · rintro ⟨h0, hl⟩
    have hlow : ∀ i, a ≤ i → i < e → Low (byteAt s i) := fun i h1 h2 => by
      have h3 := hl (i - a) (by omega)
      rw [hb (i - a) (by omega), show a + (i - a) = i by omega] at h3
      exact h3
    refine ⟨fun i hi => ?_, a, by omega, hlow a (Nat.le_refl _) (by omega)⟩
    by_cases h1 : i < a
    · rcases ha with rfl | ⟨rfl, _, h46⟩
      · omega
      · obtain rfl : i = 0 := by omega
        exact .inr ⟨h46, .inl rfl⟩
    · by_cases h2 : i < e
      · exact .inl (hlow i (by omega) h2)
      · rcases hee with rfl | ⟨h3, _, h46⟩
        · omega
        · obtain rfl : i = e := by omega
          exact .inr ⟨h46, .inr h3⟩
  · rintro ⟨hall, k, hk, hkl⟩
    have hka : a ≤ k := by
      rcases ha with rfl | ⟨rfl, _, h46⟩
      · omega
      · by_cases hk0 : k = 0
        · subst hk0; rw [h46] at hkl; exact absurd hkl (by decide)
        · omega
    have hke : k < e := by
      rcases hee with rfl | ⟨h3, _, h46⟩
      · exact hk
      · by_cases hk0 : k = e
        · subst hk0; rw [h46] at hkl; exact absurd hkl (by decide)
        · omega
    refine ⟨by omega, fun i hi => ?_⟩
    rw [hb i (by omega)]
    rcases hall (a + i) (by omega) with h1 | ⟨h46, h0 | h1⟩
    · exact h1
    · exfalso
      have ha' : a = 0 := by omega
      have hi' : i = 0 := by omega
      subst ha'; subst hi'
      exact ha0 rfl (by omega) h46
    · exfalso
      rcases hee with h2 | ⟨h3, _, _⟩
      · exact hel h2 (by omega) (by rw [← h46]; congr 1; omega)
      · omega

theorem ne_empty (s : ByteArray) : s.toList.isEmpty = decide (s.size = 0) := by
  rw [ByteArray.toList_eq]
  obtain ⟨⟨l⟩⟩ := s
  cases l with
  | nil => rfl
  | cons a b => simp [ByteArray.size]

set_option maxHeartbeats 1000000 in
theorem lettersOk_any (s : ByteArray) (w : World) (hs : s.size ≤ 9223372036854775807) : Calls Try.prog 31 #[.string s] w fun e w' => e = .returned (.bool (decide (LetP s))) ∧ Below w.heap.size w w' := by
  obtain ⟨p, hp⟩ : ∃ p, p = preS s := ⟨_, rfl⟩
  obtain ⟨r, hr⟩ : ∃ r, r = sufS p := ⟨_, rfl⟩
  have hps : p.size ≤ 9223372036854775807 := by rw [hp]; exact Nat.le_trans (preS_le s) hs
  have hrs : r.size ≤ 9223372036854775807 := by rw [hr]; exact Nat.le_trans (sufS_le p) hps
  have e1 : decide (LetP s) = (!decide (r.size = 0) && decide (AllLow r)) := by
    have e0 : decide (LetP s) = decide (0 < (sufS (preS s)).size ∧ AllLow (sufS (preS s))) := decide_eq_decide.2 (inside_iff s).symm
    rw [hr, hp, e0]
    by_cases h0 : (sufS (preS s)).size = 0
    · simp [h0]
    · simp [h0, Nat.pos_iff_ne_zero]
  have c1 : Hid (∀ W, Calls Try.prog 56 #[.string s, .string ⟨#[46]⟩] W fun e w' => e = .returned (.string p) ∧ w' = W) := hideP (fun W => by rw [hp]; exact trimP_any s W hs)
  have c2 : Hid (∀ W, Calls Try.prog 55 #[.string p, .string ⟨#[46]⟩] W fun e w' => e = .returned (.string r) ∧ w' = W) := hideP (fun W => by rw [hr]; exact trimS_any p W hps)
  have hne := ne_empty r
  have HE := hideP e1
  clear e1 hp hr
  by_cases h0 : r.size = 0
  · rw [show decide (r.size = 0) = true by simp [h0]] at hne HE
    clear h0
    go_enter Try.func31, Try.ntmps31
    go_wp2_with fail
    refine (c1.out _).mono ?_
    rintro e w1 ⟨rfl, hw⟩
    have hw2 := hw.symm
    subst hw2
    go_wp2_with fail
    refine (c2.out _).mono ?_
    rintro e w1 ⟨rfl, hw⟩
    have hw2 := hw.symm
    subst hw2
    go_wp2
    go_ret
    exact ⟨retB HE.out.symm, Below.refl _ _⟩
  · rw [show decide (r.size = 0) = false by simp [h0]] at hne HE
    clear h0
    obtain ⟨al, hal⟩ : ∃ al, al = decide (AllLow r) := ⟨_, rfl⟩
    have c3 : Hid (∀ W, Calls Try.prog 57 #[.string r] W fun e w' => e = .returned (.bool al) ∧ Below W.heap.size W w') := hideP (fun W => by rw [hal]; exact allSmall_any r W hrs)
    rw [← hal] at HE
    clear hal
    go_enter Try.func31, Try.ntmps31
    go_wp2_with fail
    refine (c1.out _).mono ?_
    rintro e w1 ⟨rfl, hw⟩
    have hw2 := hw.symm
    subst hw2
    go_wp2_with fail
    refine (c2.out _).mono ?_
    rintro e w1 ⟨rfl, hw⟩
    have hw2 := hw.symm
    subst hw2
    go_wp2_with fail
    refine (c3.out _).mono ?_
    rintro e w1 ⟨rfl, hb⟩
    go_wp2
    go_ret
    exact ⟨retB HE.out.symm, hb⟩

theorem marksP_no {zs : List Int} {j : Nat} (hj : j < zs.length) (h : ¬ (0 ≤ zs.getD j 0 ∧ zs.getD j 0 ≤ 9)) : decide (MarksP zs) = false := decide_eq_false fun ha => h (ha j hj)

set_option maxHeartbeats 1000000 in
theorem marksOk_any {v : Value} {zs : List Int} {w : World} (h : Row w v zs) (hl : zs.length ≤ 2097152) : Calls Try.prog 32 #[v] w fun e w' => e = .returned (.bool (decide (MarksP zs))) ∧ Below w.heap.size w w' := by
  obtain ⟨ao, n, cap, rfl, hn, hr⟩ := h
  have HR : Hid (0 < n → ∃ b off, ao = some ⟨b, off, none⟩ ∧ b < w.heap.size ∧ ∀ i, i < n → w.cell? ⟨b, off + i, none⟩ = some (.int .i64 (zs.getD i 0))) := hr
  have HN : Hid (zs.length = n) := hn
  have hnl : n ≤ 2097152 := by omega
  clear hr hn hl
  go_enter Try.func32, Try.ntmps32
  go_wp2
  go_loop [7] (fun i => ∃ k : Nat, k ≤ n ∧ i = .int .i64 k ∧ Hid (∀ j, j < k → 0 ≤ zs.getD j 0 ∧ zs.getD j 0 ≤ 9)) (fun i => n - (intOf i).toNat)
  case atStart => exact ⟨0, by omega, rfl, hideP (fun j hj => by omega)⟩
  case round =>
    obtain ⟨k, hk, rfl, HJ⟩ := hrel
    by_cases hlt : k < n
    · have hki : (k : Int) < (n : Int) := by omega
      obtain ⟨b, off, rfl, hb, hc⟩ := HR (by omega)
      obtain ⟨z, hz⟩ : ∃ z, z = zs.getD k 0 := ⟨_, rfl⟩
      have hcell : w.cell? ⟨b, off + k, none⟩ = some (.int .i64 z) := by rw [hz]; exact hc k hlt
      have HZ := hideP hz
      clear hz hc
      by_cases h0 : 0 ≤ z
      · by_cases h1 : z ≤ 9
        · have e1 : decide (z < 0) = false := by simp; omega
          have e2 : decide (9 < z) = false := by simp; omega
          have HB : Hid (0 ≤ z ∧ z ≤ 9) := hideP ⟨h0, h1⟩
          clear h0 h1
          go_wp2
          go_round
          case rel =>
            refine ⟨k + 1, by omega, by go_num, hideP (fun j hj => ?_)⟩
            by_cases hjk : j = k
            · subst hjk; rw [← HZ.out]; exact HB.out
            · exact HJ.out j (by omega)
          case measure => simp [intOf]; omega
        · have e1 : decide (z < 0) = false := by simp; omega
          have e2 : decide (9 < z) = true := by simp; omega
          have HB : Hid (¬ (0 ≤ z ∧ z ≤ 9)) := hideP (fun h => h1 h.2)
          clear h0 h1
          go_wp2
          go_ret
          exact ⟨retB (marksP_no (by rw [HN.out]; exact hlt) (by rw [← HZ.out]; exact HB.out)).symm, Below.refl _ _⟩
      · have e1 : decide (z < 0) = true := by simp; omega
        have HB : Hid (¬ (0 ≤ z ∧ z ≤ 9)) := hideP (fun h => h0 h.1)
        clear h0
        go_wp2
        go_ret
        exact ⟨retB (marksP_no (by rw [HN.out]; exact hlt) (by rw [← HZ.out]; exact HB.out)).symm, Below.refl _ _⟩
    · have hge : ¬ ((k : Int) < (n : Int)) := by omega
      go_wp2
      go_ret
      exact ⟨retB (decide_eq_true (fun j hj => HJ.out j (by have := HN.out; omega))).symm, Below.refl _ _⟩

theorem patB_long {s : ByteArray} {zs : List Int} (h : ¬ s.size ≤ 20) : patB s zs = false := decide_eq_false fun hp => h hp.1
theorem patB_let {s : ByteArray} {zs : List Int} (h : decide (LetP s) = false) : patB s zs = false := decide_eq_false fun hp => of_decide_eq_false h hp.2.1
theorem patB_len {s : ByteArray} {zs : List Int} (h : zs.length ≠ s.size + 1) : patB s zs = false := decide_eq_false fun hp => h hp.2.2.1
theorem patB_marks {s : ByteArray} {zs : List Int} (h : s.size ≤ 20) (hl : decide (LetP s) = true) (hn : zs.length = s.size + 1) : patB s zs = decide (MarksP zs) :=
  decide_eq_decide.2 ⟨fun hp => hp.2.2.2, fun hm => ⟨h, of_decide_eq_true hl, hn, hm⟩⟩

set_option maxHeartbeats 2000000 in
theorem implPatternOk_big {v : Value} {s : ByteArray} {zs : List Int} {w : World} (h : Row w v zs) (hl : zs.length ≤ 2097152) (hs : s.size ≤ 9223372036854775807) :
    Calls Try.prog 12 #[.agg #[.string s, v]] w fun e w' => e = .returned (.bool (patB s zs)) ∧ Below w.heap.size w w' := by
  obtain ⟨ao, n, cap, rfl, hn, -⟩ := id h
  have HX := hideP h
  have HN := hideP hn
  have hnl : n ≤ 2097152 := by omega
  clear h hn hl
  by_cases h20 : s.size ≤ 20
  · have e1 : decide ((s.size : Int) ≤ 20) = true := by simp; omega
    obtain ⟨lt, hlt⟩ : ∃ b, b = decide (LetP s) := ⟨_, rfl⟩
    have c1 : Hid (∀ W, Calls Try.prog 31 #[.string s] W fun e w' => e = .returned (.bool lt) ∧ Below W.heap.size W w') := hideP (fun W => by rw [hlt]; exact lettersOk_any s W hs)
    have HL := hideP hlt
    clear hlt
    cases lt
    · go_enter Try.func12, Try.ntmps12
      go_wp2_with fail
      refine (c1.out _).mono ?_
      rintro e w1 ⟨rfl, hb1⟩
      have hz1 : w.heap.size < w1.heap.size := by have := hb1.size; simp at this; omega
      obtain ⟨hc1, hf1⟩ := bcell hb1
      have B1 : Hid (Below w.heap.size w w1) := below_more (below1 _ _) hb1 (by simp)
      clear hb1
      go_wp2
      go_ret
      exact ⟨retB (patB_let HL.out.symm).symm, B1⟩
    · by_cases hle : n = s.size + 1
      · have e2 : ((n : Int) == (s.size : Int) + 1) = true := by simp; omega
        have HS := hideP hle
        obtain ⟨mb, hmb⟩ : ∃ b, b = decide (MarksP zs) := ⟨_, rfl⟩
        have c2 : Hid (∀ W, Below w.heap.size w W → Calls Try.prog 32 #[.slice ao n cap] W fun e w' => e = .returned (.bool mb) ∧ Below W.heap.size W w') := hideP (fun W hW => by rw [hmb]; exact marksOk_any (HX.out.below hW) (by rw [HN.out]; exact hnl))
        have HM := hideP hmb
        clear hmb hle
        go_enter Try.func12, Try.ntmps12
        go_wp2_with fail
        refine (c1.out _).mono ?_
        rintro e w1 ⟨rfl, hb1⟩
        have hz1 : w.heap.size < w1.heap.size := by have := hb1.size; simp at this; omega
        obtain ⟨hc1, hf1⟩ := bcell hb1
        have B1 : Hid (Below w.heap.size w w1) := below_more (below1 _ _) hb1 (by simp)
        clear hb1
        go_wp2_with fail
        refine (c2.out _ B1).mono ?_
        rintro e w2 ⟨rfl, hb2⟩
        have B2 : Hid (Below w.heap.size w w2) := below_more B1 hb2 (by omega)
        clear hb2
        go_wp2
        go_ret
        exact ⟨retB (HM.out.trans (patB_marks h20 HL.out.symm (HN.out.trans HS.out)).symm), B2⟩
      · have e2 : ((n : Int) == (s.size : Int) + 1) = false := by simp; omega
        have HS := hideP hle
        clear hle
        go_enter Try.func12, Try.ntmps12
        go_wp2_with fail
        refine (c1.out _).mono ?_
        rintro e w1 ⟨rfl, hb1⟩
        have hz1 : w.heap.size < w1.heap.size := by have := hb1.size; simp at this; omega
        obtain ⟨hc1, hf1⟩ := bcell hb1
        have B1 : Hid (Below w.heap.size w w1) := below_more (below1 _ _) hb1 (by simp)
        clear hb1
        go_wp2
        go_ret
        exact ⟨retB (patB_len (by rw [HN.out]; exact HS.out)).symm, B1⟩
  · have e1 : decide ((s.size : Int) ≤ 20) = false := by simp; omega
    have HS := hideP h20
    clear h20
    go_enter Try.func12, Try.ntmps12
    go_wp2
    go_ret
    exact ⟨retB (patB_long HS.out).symm, below1 _ _⟩
theorem implPatternOk_any {v : Value} {s : ByteArray} {zs : List Int} {w : World} (h : Row w v zs) (hl : zs.length ≤ 1048576) (hs : s.size ≤ 9223372036854775807) :
    Calls Try.prog 12 #[.agg #[.string s, v]] w fun e w' => e = .returned (.bool (patB s zs)) ∧ Below w.heap.size w w' := implPatternOk_big h (by omega) hs
end Go.Proofs.Ytejigikcpmhhoaa
