/-
  The program's question whether letters are those of a pattern.
-/
import Derived.Test.YtejigikcpmhhoaaPat
namespace Go.Proofs.Ytejigikcpmhhoaa
open Go.RowKit
set_option linter.unusedVariables false
set_option linter.unusedSimpArgs false

theorem toList_extract (s : ByteArray) (a b : Nat) : (s.extract a b).toList = (s.data.toList.take b).drop a := by
  rw [ByteArray.toList_eq]
  simp [List.extract, List.take_drop]
  by_cases h : a ≤ b
  · rw [show a + (b - a) = b by omega]
  · rw [show a + (b - a) = a by omega, List.drop_eq_nil_of_le (by simp; omega), List.drop_eq_nil_of_le (by simp; omega)]

theorem byteAt_extract (s : ByteArray) (a b i : Nat) (hb : b ≤ s.size) (h : a + i < b) : byteAt (s.extract a b) i = byteAt s (a + i) := by
  unfold byteAt
  have e := toList_extract s a b
  rw [ByteArray.toList_eq] at e
  rw [e]
  simp [List.getD, List.getElem?_drop, List.getElem?_take, h]

theorem size_extract (s : ByteArray) (a b : Nat) (hb : b ≤ s.size) : (s.extract a b).size = b - a := by
  simp [ByteArray.size_extract]; omega

theorem one_eq (s : ByteArray) (i : Nat) (h : i < s.size) : ((s.extract i (i + 1)).toList == [46]) = decide (byteAt s i = 46) := by
  have h2 : i < s.data.toList.length := by simpa using h
  rw [toList_extract]
  have e : (s.data.toList.take (i + 1)).drop i = [s.data.toList.getD i 0] := by
    rw [List.drop_take, show i + 1 - i = 1 by omega]
    rw [List.drop_eq_getElem_cons h2]
    simp [List.getD, List.getElem?_eq_getElem h2]
  rw [e]
  unfold byteAt
  obtain ⟨x, hx⟩ : ∃ x, x = s.data.toList.getD i 0 := ⟨_, rfl⟩
  rw [← hx]
  by_cases h46 : x = 46
  · subst h46; rfl
  · have : x.toNat ≠ 46 := fun hn => h46 (UInt8.toNat.inj hn)
    simp [this, h46]

/-- What is left without a dot ahead, and without one behind. -/
def preS (s : ByteArray) : ByteArray := if 0 < s.size ∧ byteAt s 0 = 46 then s.extract 1 s.size else s
def sufS (s : ByteArray) : ByteArray := if 0 < s.size ∧ byteAt s (s.size - 1) = 46 then s.extract 0 (s.size - 1) else s

theorem hasP_any (s : ByteArray) (w : World) (hs : s.size ≤ 9223372036854775807) : Calls Try.prog 75 #[.string s, .string ⟨#[46]⟩] w fun e w' => e = .returned (.bool (decide (0 < s.size ∧ byteAt s 0 = 46))) ∧ w' = w := by
  by_cases h0 : 0 < s.size
  · have e := one_eq s 0 h0
    rw [Nat.zero_add] at e
    have e2 : decide (0 < s.size ∧ byteAt s 0 = 46) = ((s.extract 0 1).toList == [46]) := by rw [e]; simp [h0]
    have E := hideP e2
    clear e e2
    go_enter Try.func75, Try.ntmps75
    go_wp2
    go_ret
    exact ⟨retB E.out.symm, rfl⟩
  · have h1 : ¬ (1 ≤ (s.size : Int)) := by omega
    rw [show decide (0 < s.size ∧ byteAt s 0 = 46) = false by simp [h0]]
    clear h0
    go_enter Try.func75, Try.ntmps75
    go_wp2
    go_ret
    exact ⟨rfl, rfl⟩

theorem hasS_any (s : ByteArray) (w : World) (hs : s.size ≤ 9223372036854775807) : Calls Try.prog 74 #[.string s, .string ⟨#[46]⟩] w fun e w' => e = .returned (.bool (decide (0 < s.size ∧ byteAt s (s.size - 1) = 46))) ∧ w' = w := by
  by_cases h0 : 0 < s.size
  · have e := one_eq s (s.size - 1) (by omega)
    rw [show s.size - 1 + 1 = s.size by omega] at e
    have e2 : decide (0 < s.size ∧ byteAt s (s.size - 1) = 46) = ((s.extract (s.size - 1) s.size).toList == [46]) := by rw [e]; simp [h0]
    have E := hideP e2
    clear e e2
    go_enter Try.func74, Try.ntmps74
    go_wp2
    go_ret
    exact ⟨retB E.out.symm, rfl⟩
  · have h1 : ¬ (1 ≤ (s.size : Int)) := by omega
    rw [show decide (0 < s.size ∧ byteAt s (s.size - 1) = 46) = false by simp [h0]]
    clear h0
    go_enter Try.func74, Try.ntmps74
    go_wp2
    go_ret
    exact ⟨rfl, rfl⟩

theorem trimP1_any (s : ByteArray) (w : World) (hs : s.size ≤ 9223372036854775807) : Calls Try.prog 69 #[.string s, .string ⟨#[46]⟩] w fun e w' => e = .returned (.string (preS s)) ∧ w' = w := by
  by_cases h : 0 < s.size ∧ byteAt s 0 = 46
  · have c := fun W => hasP_any s W hs
    rw [show decide (0 < s.size ∧ byteAt s 0 = 46) = true by simp [h]] at c
    have h0 := h.1
    rw [show preS s = s.extract 1 s.size by simp [preS, h]]
    clear h
    go_enter Try.func69, Try.ntmps69
    go_wp2_with fail
    refine (c _).mono ?_
    rintro e w1 ⟨rfl, hw⟩
    have hw2 := hw.symm
    subst hw2
    go_wp2
    go_ret
    exact ⟨rfl, rfl⟩
  · have c := fun W => hasP_any s W hs
    rw [show decide (0 < s.size ∧ byteAt s 0 = 46) = false by simp [h]] at c
    rw [show preS s = s by simp only [preS, h, if_false]]
    clear h
    go_enter Try.func69, Try.ntmps69
    go_wp2_with fail
    refine (c _).mono ?_
    rintro e w1 ⟨rfl, hw⟩
    have hw2 := hw.symm
    subst hw2
    go_wp2
    go_ret
    exact ⟨rfl, rfl⟩

theorem trimS1_any (s : ByteArray) (w : World) (hs : s.size ≤ 9223372036854775807) : Calls Try.prog 68 #[.string s, .string ⟨#[46]⟩] w fun e w' => e = .returned (.string (sufS s)) ∧ w' = w := by
  by_cases h : 0 < s.size ∧ byteAt s (s.size - 1) = 46
  · have c := fun W => hasS_any s W hs
    rw [show decide (0 < s.size ∧ byteAt s (s.size - 1) = 46) = true by simp [h]] at c
    have h0 := h.1
    rw [show sufS s = s.extract 0 (s.size - 1) by simp [sufS, h]]
    clear h
    go_enter Try.func68, Try.ntmps68
    go_wp2_with fail
    refine (c _).mono ?_
    rintro e w1 ⟨rfl, hw⟩
    have hw2 := hw.symm
    subst hw2
    go_wp2
    go_ret
    exact ⟨rfl, rfl⟩
  · have c := fun W => hasS_any s W hs
    rw [show decide (0 < s.size ∧ byteAt s (s.size - 1) = 46) = false by simp [h]] at c
    rw [show sufS s = s by simp only [sufS, h, if_false]]
    clear h
    go_enter Try.func68, Try.ntmps68
    go_wp2_with fail
    refine (c _).mono ?_
    rintro e w1 ⟨rfl, hw⟩
    have hw2 := hw.symm
    subst hw2
    go_wp2
    go_ret
    exact ⟨rfl, rfl⟩

theorem trimP_any (s : ByteArray) (w : World) (hs : s.size ≤ 9223372036854775807) : Calls Try.prog 56 #[.string s, .string ⟨#[46]⟩] w fun e w' => e = .returned (.string (preS s)) ∧ w' = w := by
  go_enter Try.func56, Try.ntmps56
  go_wp2_with fail
  refine (trimP1_any s _ hs).mono ?_
  rintro e w1 ⟨rfl, hw⟩
  have hw2 := hw.symm
  subst hw2
  go_wp2
  go_ret
  exact ⟨rfl, rfl⟩
theorem trimS_any (s : ByteArray) (w : World) (hs : s.size ≤ 9223372036854775807) : Calls Try.prog 55 #[.string s, .string ⟨#[46]⟩] w fun e w' => e = .returned (.string (sufS s)) ∧ w' = w := by
  go_enter Try.func55, Try.ntmps55
  go_wp2_with fail
  refine (trimS1_any s _ hs).mono ?_
  rintro e w1 ⟨rfl, hw⟩
  have hw2 := hw.symm
  subst hw2
  go_wp2
  go_ret
  exact ⟨rfl, rfl⟩

/-- Every byte of the text is a small letter. -/
abbrev AllLow (s : ByteArray) : Prop := ∀ i, i < s.size → Low (byteAt s i)

theorem allLow_no {s : ByteArray} {i : Nat} (hi : i < s.size) (h : ¬ Low (byteAt s i)) : decide (AllLow s) = false := decide_eq_false fun ha => h (ha i hi)

set_option maxHeartbeats 1000000 in
theorem allSmall_any (s : ByteArray) (w : World) (hs : s.size ≤ 9223372036854775807) : Calls Try.prog 57 #[.string s] w fun e w' => e = .returned (.bool (decide (AllLow s))) ∧ Below w.heap.size w w' := by
  go_enter Try.func57, Try.ntmps57
  go_wp2
  go_loopw [] (fun wr => ∃ pos : Nat, pos ≤ s.size ∧ wr = w.iter s pos ∧ Hid (∀ j, j < pos → Low (byteAt s j))) (fun wr => s.size - wr.iterPos w.heap.size)
  case atStart => exact ⟨0, Nat.zero_le _, rfl, hideP (fun j hj => by omega)⟩
  case round =>
    obtain ⟨pos, hpos, rfl, HJ⟩ := hrel
    have HB : Hid (∀ p, Below w.heap.size w (w.iter s p)) := hideP (fun p => (Below.refl _ _).alloc (Nat.le_refl _) _)
    have hip : (w.iter s pos).iterPos w.heap.size = pos := by simp [World.iterPos, World.iter_heap]
    by_cases hlt : pos < s.size
    · obtain ⟨c, hc⟩ : ∃ c : Nat, c = byteAt s pos := ⟨_, rfl⟩
      have hb : (s[pos]'hlt).toNat = c := by rw [hc, byteAt_get s pos hlt]
      by_cases hasc : c < 128
      · have hnx := fun ty => run_next_ascii (P := Try.prog) w s pos ty hlt (by rw [hb]; exact hasc)
        rw [hb] at hnx
        have HC := hideP hc
        obtain ⟨x, hx⟩ : ∃ x : Int, x = (c : Int) := ⟨_, rfl⟩
        have hnx2 : ∀ ty, (Instr.next (.pointer (some ⟨w.heap.size, 0, none⟩)) true ty).run Try.prog (w.iter s pos) = .ok (.tuple #[.bool true, .int .i64 pos, .int .i32 x]) (w.iter s (pos + 1)) := by rw [hx]; exact hnx
        have hip2 : (w.iter s (pos + 1)).iterPos w.heap.size = pos + 1 := by simp [World.iterPos, World.iter_heap]
        have HIP := hideP hip
        have HIP2 := hideP hip2
        clear hnx hb hc hip hip2
        by_cases h1 : 97 ≤ c
        · by_cases h2 : c ≤ 122
          · have e1 : decide (x < 97) = false := by simp; omega
            have e2 : decide (122 < x) = false := by simp; omega
            have HL : Hid (Low c) := hideP ⟨h1, h2⟩
            clear h1 h2 hx
            go_wp2
            go_roundw
            case rel =>
              refine ⟨pos + 1, by omega, rfl, hideP (fun j hj => ?_)⟩
              by_cases hjp : j = pos
              · subst hjp; rw [← HC.out]; exact HL.out
              · exact HJ.out j (by omega)
            case measure => rw [HIP.out, HIP2.out]; omega
          · have e1 : decide (x < 97) = false := by simp; omega
            have e2 : decide (122 < x) = true := by simp; omega
            have HL : Hid (¬ Low c) := hideP (fun h => h2 h.2)
            clear h1 h2 hx
            go_wp2
            go_ret
            exact ⟨retB (allLow_no hlt (by rw [← HC.out]; exact HL.out)).symm, HB.out _⟩
        · have e1 : decide (x < 97) = true := by simp; omega
          have HL : Hid (¬ Low c) := hideP (fun h => h1 h.1)
          clear h1 hx
          go_wp2
          go_ret
          exact ⟨retB (allLow_no hlt (by rw [← HC.out]; exact HL.out)).symm, HB.out _⟩
      · have hd := decode_high s pos hlt (by rw [hb]; omega)
        have hnx := fun ty => run_next_any (P := Try.prog) w s pos ty hlt
        obtain ⟨x, hx⟩ : ∃ x : Int, x = ((Utf8.decode s pos).1 : Int) := ⟨_, rfl⟩
        obtain ⟨p2, hp2⟩ : ∃ p2 : Nat, p2 = pos + (Utf8.decode s pos).2 := ⟨_, rfl⟩
        rw [← hx, ← hp2] at hnx
        have e1 : decide (x < 97) = false := by simp; omega
        have e2 : decide (122 < x) = true := by simp; omega
        have HL : Hid (¬ Low (byteAt s pos)) := hideP (fun h => by rw [← hc] at h; have := h.2; omega)
        clear hx hp2 hd hb hc hasc hip
        go_wp2
        go_ret
        exact ⟨retB (allLow_no hlt HL.out).symm, HB.out _⟩
    · have hnx := fun ty => run_next_end (P := Try.prog) w s pos ty hlt
      clear hip
      go_wp2
      go_ret
      exact ⟨retB (decide_eq_true (fun i hi => HJ.out i (by omega))).symm, HB.out _⟩
end Go.Proofs.Ytejigikcpmhhoaa
