/-
  ParseLen: the law's own walk.
-/
import Derived.Test.YtkimbgmjhclghaaDoorSpe
import Derived.Test.YtkimbgmjhclghaaDoorSpf
import Derived.Test.YtkimbgmjhclghaaDoorImp
namespace Go.Proofs.YtkimbgmjhclghaaDoor
open Go.RowKit
set_option linter.unusedVariables false
set_option linter.unusedSimpArgs false

theorem tail_list (s : ByteArray) (i : Nat) : (s.extract i s.size).data.toList = s.data.toList.drop i := by
  obtain ⟨⟨l⟩⟩ := s
  rw [ByteArray.data_extract]
  simp only [Array.toList_extract, List.extract_eq_take_drop]
  show (l.drop i).take (l.length - i) = l.drop i
  rw [List.take_of_length_le]
  simp

theorem tail_byte (s : ByteArray) (i x : Nat) : byteAt (s.extract i s.size) x = byteAt s (i + x) := by
  unfold byteAt
  rw [tail_list]
  simp only [List.getD_eq_getElem?_getD, List.getElem?_drop]

theorem tail_size (s : ByteArray) (i : Nat) : (s.extract i s.size).size = s.size - i := by
  have := congrArg List.length (tail_list s i)
  rw [Array.length_toList, List.length_drop, Array.length_toList] at this
  exact this

theorem tail_tail (s : ByteArray) (i j : Nat) : ((s.extract i s.size).extract j (s.extract i s.size).size).toList = (s.extract (i + j) s.size).toList := by
  rw [ByteArray.toList_eq, ByteArray.toList_eq, tail_list, tail_list, tail_list, List.drop_drop]

theorem tail_zero (s : ByteArray) : s.extract 0 s.size = s := by
  have := tail_list s 0
  rw [List.drop_zero] at this
  obtain ⟨⟨l⟩⟩ := s
  cases hx : (ByteArray.mk ⟨l⟩).extract 0 (ByteArray.mk ⟨l⟩).size with
  | mk d =>
    rw [hx] at this
    obtain ⟨m⟩ := d
    simp at this
    rw [this]

set_option maxRecDepth 100000 in
theorem specNone_any (s : ByteArray) (w : World) (h0 : s.size = 0) :
    Calls Tryd.prog 10 #[.string s] w fun e w' => e = .returned (.tuple #[.int .i64 0, .bool false]) ∧ Below w.heap.size w w' := by
  obtain rfl : s = ⟨#[]⟩ := by
    obtain ⟨⟨l⟩⟩ := s
    have : l.length = 0 := h0
    rw [List.length_eq_zero_iff.1 this]
  clear h0
  go_enter Tryd.func10, Tryd.ntmps10
  go_wp2_with fail
  go_loop [4, 8] (fun s4 s8 => s4 = .int .i64 0 ∧ s8 = .int .i64 0) (fun _ _ => 0)
  case atStart => exact ⟨rfl, rfl⟩
  case round =>
    obtain ⟨rfl, rfl⟩ := hrel
    go_wp2
    go_ret2
    exact ⟨rfl, Below.refl _ _⟩

theorem both_any (s : ByteArray) (hs : s.size ≤ 9223372036854775807) : ∃ V B,
    (∀ w, Calls Tryd.prog 10 #[.string s] w fun e w' => e = .returned (.tuple #[.int .i64 V, .bool B]) ∧ Below w.heap.size w w') ∧
    (∀ w, Units w → Calls Tryd.prog 9 #[.string s] w fun e w' => e = .returned (.tuple #[.int .i64 V, .bool B]) ∧ Below w.heap.size w w') := by
  by_cases h0 : s.size = 0
  · refine ⟨0, false, fun w => specNone_any s w h0, fun w hU => ?_⟩
    obtain ⟨z1, z2⟩ := parse_none false ⟨0, 0, 1, 0⟩ (s.extract 0 s.size).toList (.inl rfl)
    exact implParse_any s s false ⟨0, 0, 1, 0⟩ 0 false w hU (by omega) (fun w => sign_none s w h0) (by rw [h0]; rfl) z2.symm z1.symm
  have h0' : 0 < s.size := by omega
  have hsz := tail_size s 1
  have hfun : byteAt (s.extract 1 s.size) = fun x => byteAt s (1 + x) := funext fun x => tail_byte s 1 x
  by_cases h1 : byteAt s 0 = 45
  · refine ⟨_, _, fun w => specMinus_any s (dec (fun x => byteAt s (1 + x)) (s.size - 1 - 0) 0 0 1 0 false) _ _ w hs h0' h1 rfl rfl rfl, fun w hU => ?_⟩
    refine implParse_any s (s.extract 1 s.size) true (dec (fun x => byteAt s (1 + x)) (s.size - 1 - 0) 0 0 1 0 false) _ _ w hU (by omega) (fun w => ?_) (by rw [hsz, hfun]; rfl) ?_ ?_
    · have := sign_at s (byteAt s 0) w h0' rfl hs
      rw [if_pos (Or.inl h1), show decide (byteAt s 0 = 45) = true by simp [h1]] at this
      exact this
    · rw [tail_tail]
      rfl
    · rw [tail_tail]
      rfl
  by_cases h2 : byteAt s 0 = 43
  · refine ⟨_, _, fun w => specPlus_any s (dec (fun x => byteAt s (1 + x)) (s.size - 1 - 0) 0 0 1 0 false) _ _ w hs h0' h2 rfl rfl rfl, fun w hU => ?_⟩
    refine implParse_any s (s.extract 1 s.size) false (dec (fun x => byteAt s (1 + x)) (s.size - 1 - 0) 0 0 1 0 false) _ _ w hU (by omega) (fun w => ?_) (by rw [hsz, hfun]; rfl) ?_ ?_
    · have := sign_at s (byteAt s 0) w h0' rfl hs
      rw [if_pos (Or.inr h2), show decide (byteAt s 0 = 45) = false by simp [h1]] at this
      exact this
    · rw [tail_tail]
      rfl
    · rw [tail_tail]
      rfl
  · have hf0 : (fun x => byteAt s (0 + x)) = byteAt s := funext fun x => by rw [Nat.zero_add]
    refine ⟨_, _, fun w => specBare_any s (dec (fun x => byteAt s (0 + x)) (s.size - 0 - 0) 0 0 1 0 false) _ _ w hs h0' h1 h2 rfl rfl rfl, fun w hU => ?_⟩
    refine implParse_any s s false (dec (fun x => byteAt s (0 + x)) (s.size - 0 - 0) 0 0 1 0 false) _ _ w hU hs (fun w => ?_) (by rw [hf0]; rfl) ?_ ?_
    · have := sign_at s (byteAt s 0) w h0' rfl hs
      rw [if_neg (fun h => h.elim h1 h2), show decide (byteAt s 0 = 45) = false by simp [h1]] at this
      exact this
    · rw [Nat.zero_add]
      rfl
    · rw [Nat.zero_add]
      rfl

theorem law_any (s : ByteArray) (w : World) (hs : s.size ≤ 9223372036854775807) (hU : Units w) :
    Calls Tryd.prog 4 #[.string s] w fun e w' => e = .returned (.bool true) ∧ Below w.heap.size w w' := by
  by_cases hbig : s.size ≤ 1048576
  · obtain ⟨V, B, C1, C2⟩ := both_any s hs
    have D1 := hideP C1
    have D2 := hideP C2
    have HU := hideP hU
    clear C1 C2 hU
    cases B
    all_goals
      go_enter Tryd.func4, Tryd.ntmps4
      go_wp2_with fail
      refine (D1.out _).mono ?_
      rintro e w1 ⟨rfl, hb1⟩
      have HW1 := hideP hb1
      clear hb1
      go_wp2_with fail
      refine (D2.out _ (HU.out.kept HW1.out)).mono ?_
      rintro e w2 ⟨rfl, hb2⟩
      have HW2 := hideP (HW1.out.trans (hb2.mono HW1.out.size))
      clear hb2
      go_wp2
      go_ret
      exact ⟨rfl, HW2.out⟩
  · clear hU
    go_enter Tryd.func4, Tryd.ntmps4
    go_wp2
    go_ret
    exact ⟨rfl, Below.refl _ _⟩
end Go.Proofs.YtkimbgmjhclghaaDoor
