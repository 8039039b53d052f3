/-
  The specification's ShowPattern.
-/
import Derived.Test.YtejigikcpmhhoaaShw
import Derived.Test.YtejigikcpmhhoaaOks
import Derived.Laws.BytesArg
namespace Go.Proofs.Ytejigikcpmhhoaa
open Go.RowKit
set_option linter.unusedVariables false
set_option linter.unusedSimpArgs false

theorem conv_one (w : World) (x : Int) : (convert 22 9 (.slice (some ⟨w.heap.size, 0, none⟩) 1 1)).run Try.prog (w.alloc (.cells #[.int .u8 x] 5)) = .ok (.string (strOfNums [x])) (w.alloc (.cells #[.int .u8 x] 5)) := by
  refine run_convert_bytes_arg (w.alloc (.cells #[.int .u8 x] 5)) 22 5 Try.underlying22 Try.underlying5 w.heap.size 0 1 1 [x] rfl ?_ 9 Try.underlying9
  intro i hi
  have h0 : i = 0 := by omega
  subst h0
  simp

theorem digit_text {z : Int} (h : 0 < z) (h9 : z ≤ 9) : strOfNums [48 + z] = ⟨(digB z).toArray⟩ := by
  simp only [strOfNums, digB, h, if_true]
  have e : (48 + z).toNat = 48 + z.toNat := by omega
  simp [e]

set_option maxRecDepth 100000 in
set_option maxHeartbeats 2000000 in
theorem decimal_any (z : Int) (hz : 0 < z) (hz9 : z ≤ 9) (w : World) : Calls Try.prog 42 #[.int .u64 z] w fun e w' => e = .returned (.string ⟨(digB z).toArray⟩) ∧ Below w.heap.size w w' := by
  have h9 : decide (9 < z) = false := by simp; omega
  have HT : Hid (strOfNums [48 + z] = ⟨(digB z).toArray⟩) := hideP (digit_text hz hz9)
  have hcv := conv_one w (48 + z)
  go_enter Try.func42, Try.ntmps42
  go_wp2
  go_loopw [0, 3] (fun d s wr => d = .int .u64 z ∧ s = .string ⟨#[]⟩ ∧ wr = w) (fun _ _ _ => 0)
  case atStart => exact ⟨rfl, rfl, rfl⟩
  case round =>
    obtain ⟨rfl, rfl, hw⟩ := hrel
    subst hw
    go_wp2
    go_ret
    refine ⟨retS ?_, below1 _ _⟩
    rw [← HT.out]
    apply ByteArray.ext
    simp

theorem join_text (l m : List UInt8) : (⟨l.toArray⟩ : ByteArray) ++ (⟨m.toArray⟩ : ByteArray) = ⟨(l ++ m).toArray⟩ := by
  apply ByteArray.ext
  simp

theorem let_text {s : ByteArray} {k : Nat} (h : k < s.size) : s.extract k (k + 1) = ⟨(letB s k).toArray⟩ := by
  apply ByteArray.ext
  apply Array.toList_inj.1
  have e := toList_extract s k (k + 1)
  rw [ByteArray.toList_eq] at e
  rw [e]
  have h2 : k < s.data.toList.length := by simpa using h
  simp only [letB, h, if_true]
  rw [List.drop_take, show k + 1 - k = 1 by omega, List.drop_eq_getElem_cons h2]
  simp [List.getD, List.getElem?_eq_getElem h2]

set_option maxHeartbeats 4000000 in
theorem specShow_any {v : Value} {s : ByteArray} {zs : List Int} {w : World} (h : Row w v zs) (hl : zs.length ≤ 1048576) (hs : s.size ≤ 9223372036854775807) :
    Calls Try.prog 22 #[patV s v] w fun e w' => e = .returned (.string (showT s zs)) ∧ Below w.heap.size w w' := by
  obtain ⟨ao, n, cap, rfl, hn, hr⟩ := id h
  have HX := hideP h
  have HR : Hid (0 < n → ∃ b off, ao = some ⟨b, off, none⟩ ∧ b < w.heap.size ∧ ∀ i, i < n → w.cell? ⟨b, off + i, none⟩ = some (.int .i64 (zs.getD i 0))) := hr
  have HN := hideP hn
  have hnl : n ≤ 1048576 := by omega
  clear h hn hr
  obtain ⟨pb, hpb⟩ : ∃ b, b = patB s zs := ⟨_, rfl⟩
  have c1 : Hid (∀ W, Below w.heap.size w W → Calls Try.prog 16 #[patV s (.slice ao n cap)] W fun e w' => e = .returned (.bool pb) ∧ Below W.heap.size W w') := hideP (fun W hW => by rw [hpb]; exact specPatternOk_any (HX.out.below hW) hl hs)
  have HP := hideP hpb
  clear hpb HX hl
  cases pb
  · go_enter Try.func22, Try.ntmps22
    go_wp2_with fail
    refine (c1.out _ (below1 _ _)).mono ?_
    rintro e w1 ⟨rfl, hb1⟩
    have B1 : Hid (Below w.heap.size w w1) := below_more (below1 _ _) hb1 (by simp)
    clear hb1
    go_wp2
    go_ret
    exact ⟨retS (showT_no HP.out.symm).symm, B1⟩
  · have hpp : PatP s zs := of_decide_eq_true HP.out.symm
    have h20 : s.size ≤ 20 := hpp.1
    have hns : n = s.size + 1 := by rw [← HN.out]; exact hpp.2.2.1
    have HM : Hid (∀ j, j < n → 0 ≤ zs.getD j 0 ∧ zs.getD j 0 ≤ 9) := hideP (fun j hj => hpp.2.2.2 j (by rw [HN.out]; exact hj))
    have hns1 : n ≤ s.size + 1 := by omega
    have hns2 : s.size + 1 ≤ n := by omega
    have HNS := hideP hns
    clear hpp hns
    go_enter Try.func22, Try.ntmps22
    go_wp2_with fail
    refine (c1.out _ (below1 _ _)).mono ?_
    rintro e w1 ⟨rfl, hb1⟩
    have hz1 : w.heap.size < w1.heap.size := by have := hb1.size; simp at this; omega
    have q0 : w1.cell? ⟨w.heap.size, 0, none⟩ = some (.string s) := by rw [(bcell hb1).1 _ _ (by simp)]; simp [go_sem]
    have q1 : w1.cell? ⟨w.heap.size, 1, none⟩ = some (.slice ao n cap) := by rw [(bcell hb1).1 _ _ (by simp)]; simp [go_sem]
    have B1 : Hid (Below w.heap.size w w1) := below_more (below1 _ _) hb1 (by simp)
    clear hb1
    go_wp2
    go_loopw [3, 4] (fun t i wr => ∃ (k : Nat) (T : ByteArray), k ≤ n ∧ i = .int .i64 k ∧ t = .string T ∧ T.size ≤ 2 * k ∧ Hid (T = ⟨(shw s zs k).toArray⟩) ∧ Hid (Below w1.heap.size w1 wr)) (fun _ i _ => n - (intOf i).toNat)
    case atStart => exact ⟨0, ⟨#[]⟩, by omega, rfl, rfl, by decide, hideP rfl, hideP (Below.refl _ _)⟩
    case round =>
      obtain ⟨k, T, hk, rfl, rfl, hTs, HT, HI⟩ := hrel
      have hwz : w.heap.size < wr.heap.size := Nat.lt_of_lt_of_le hz1 HI.out.size
      have r0 : wr.cell? ⟨w.heap.size, 0, none⟩ = some (.string s) := (HI.out.cell (p := ⟨w.heap.size, 0, none⟩) hz1).trans q0
      have r1 : wr.cell? ⟨w.heap.size, 1, none⟩ = some (.slice ao n cap) := (HI.out.cell (p := ⟨w.heap.size, 1, none⟩) hz1).trans q1
      by_cases hkn : k < n
      · have hki : (k : Int) ≤ (s.size : Int) := by omega
        have hkni : (k : Int) < (n : Int) := by omega
        obtain ⟨b, off, rfl, hb, hc⟩ := HR (by omega)
        obtain ⟨z, hz⟩ : ∃ z, z = zs.getD k 0 := ⟨_, rfl⟩
        have hcell : wr.cell? ⟨b, off + k, none⟩ = some (.int .i64 z) := by
          rw [hz]
          exact (HI.out.cell (p := ⟨b, off + k, none⟩) (Nat.lt_trans hb hz1)).trans ((B1.out.cell (p := ⟨b, off + k, none⟩) hb).trans (hc k hkn))
        have hz9 : 0 ≤ z ∧ z ≤ 9 := by rw [hz]; exact HM.out k hkn
        have HZ := hideP hz
        clear hz hc
        obtain ⟨hz0, hz9⟩ := hz9
        by_cases hpos : 0 < z
        · have HD : Hid (T ++ ⟨(digB z).toArray⟩ = ⟨(shw s zs k ++ digB (zs.getD k 0)).toArray⟩) := hideP (by rw [HT.out, join_text, ← HZ.out])
          have hds : (⟨(digB z).toArray⟩ : ByteArray).size ≤ 1 := digB_len z
          obtain ⟨D, hD⟩ : ∃ D : ByteArray, D = ⟨(digB z).toArray⟩ := ⟨_, rfl⟩
          have c2 : Hid (∀ W, Calls Try.prog 42 #[.int .u64 z] W fun e w' => e = .returned (.string D) ∧ Below W.heap.size W w') := hideP (fun W => by rw [hD]; exact decimal_any z hpos hz9 W)
          rw [← hD] at hds HD
          clear hD
          go_wp2_with fail
          refine (c2.out _).mono ?_
          rintro e w2 ⟨rfl, hb2⟩
          have H2 : Hid (Below w1.heap.size w1 w2) := hideP (HI.out.trans (hb2.mono HI.out.size))
          have hwz2 : w.heap.size < w2.heap.size := Nat.lt_of_lt_of_le hz1 H2.out.size
          have s0 : w2.cell? ⟨w.heap.size, 0, none⟩ = some (.string s) := (H2.out.cell (p := ⟨w.heap.size, 0, none⟩) hz1).trans q0
          clear hb2 hcell r0 r1 HI
          obtain ⟨T2, hT2⟩ : ∃ T2, T2 = T ++ D := ⟨_, rfl⟩
          have hts2 : T2.size ≤ 2 * k + 1 := by rw [hT2, ByteArray.size_append]; omega
          have hsum : ¬ 9223372036854775807 < T.size + D.size := by omega
          rw [← hT2] at HD
          have HT2 := hideP hT2
          by_cases hks : k < s.size
          · have hksi : (k : Int) < (s.size : Int) := by omega
            obtain ⟨L, hL⟩ : ∃ L, L = s.extract k (k + 1) := ⟨_, rfl⟩
            have HL : Hid (T2 ++ L = ⟨(shw s zs (k + 1)).toArray⟩) := hideP (by rw [HD.out, hL, let_text hks, join_text]; simp only [shw, List.append_assoc])
            have hls : L.size ≤ 1 := by rw [hL, size_extract s k (k + 1) (by omega)]; omega
            have hsz3 : (T2 ++ L).size ≤ 2 * (k + 1) := by rw [ByteArray.size_append]; omega
            have HSZ := hideP hsz3
            have hsum2 : ¬ 9223372036854775807 < T2.size + L.size := by omega
            have hT2b := hT2.symm
            have hLb := hL.symm
            clear hT2 hL hsz3
            go_wp2
            go_roundw
            case rel => exact ⟨k + 1, T2 ++ L, by omega, by go_num, rfl, HSZ.out, HL, H2⟩
            case measure => simp [intOf]; omega
          · have hksi : ¬ ((k : Int) < (s.size : Int)) := by omega
            have hT2b := hT2.symm
            have HL : Hid (T2 = ⟨(shw s zs (k + 1)).toArray⟩) := hideP (by rw [HD.out]; simp only [shw, let_none hks, List.append_nil])
            clear hT2
            go_wp2
            go_roundw
            case rel => exact ⟨k + 1, T2, by omega, by go_num, rfl, by omega, HL, H2⟩
            case measure => simp [intOf]; omega
        · obtain rfl : z = 0 := by omega
          have HD : Hid (T = ⟨(shw s zs k ++ digB (zs.getD k 0)).toArray⟩) := hideP (by rw [HT.out, ← HZ.out]; simp [digB])
          by_cases hks : k < s.size
          · have hksi : (k : Int) < (s.size : Int) := by omega
            obtain ⟨L, hL⟩ : ∃ L, L = s.extract k (k + 1) := ⟨_, rfl⟩
            have HL : Hid (T ++ L = ⟨(shw s zs (k + 1)).toArray⟩) := hideP (by rw [HD.out, hL, let_text hks, join_text]; simp only [shw, List.append_assoc])
            have hls : L.size ≤ 1 := by rw [hL, size_extract s k (k + 1) (by omega)]; omega
            have hsz3 : (T ++ L).size ≤ 2 * (k + 1) := by rw [ByteArray.size_append]; omega
            have HSZ := hideP hsz3
            have hsum2 : ¬ 9223372036854775807 < T.size + L.size := by omega
            have hLb := hL.symm
            clear hL hsz3
            go_wp2
            go_roundw
            case rel => exact ⟨k + 1, T ++ L, by omega, by go_num, rfl, HSZ.out, HL, HI⟩
            case measure => simp [intOf]; omega
          · have hksi : ¬ ((k : Int) < (s.size : Int)) := by omega
            have HL : Hid (T = ⟨(shw s zs (k + 1)).toArray⟩) := hideP (by rw [HD.out]; simp only [shw, let_none hks, List.append_nil])
            go_wp2
            go_roundw
            case rel => exact ⟨k + 1, T, by omega, by go_num, rfl, by omega, HL, HI⟩
            case measure => simp [intOf]; omega
      · have hki : ¬ ((k : Int) ≤ (s.size : Int)) := by omega
        obtain rfl : k = n := by omega
        have HF : Hid (Below w.heap.size w wr) := hideP (B1.out.trans (HI.out.mono (Below.size B1.out)))
        have HR2 : Hid (showT s zs = T) := hideP (by rw [showT_yes HP.out.symm, ← HNS.out]; exact HT.out.symm)
        go_wp2
        go_ret
        exact ⟨retS HR2.out.symm, HF⟩
end Go.Proofs.Ytejigikcpmhhoaa
