/-
  FnLenBack: the law's walk.
-/
import Derived.Test.YtkimbgmjhclghaaDoorSho
import Derived.Test.YtkimbgmjhclghaaDoorDraw
namespace Go.Proofs.YtkimbgmjhclghaaDoor
open Go.RowKit
set_option linter.unusedVariables false
set_option linter.unusedSimpArgs false

theorem drawShow_any (ao : Option Addr) (len cap : Nat) (w : World) (hB : Bytes w ao len cap) :
    Calls Tryd.prog 6 #[.slice ao len cap] w fun e w' => ∃ x : Int, e = .returned (.int .i64 x) ∧ I64 x ∧ Below w.heap.size w w' := by
  have HB := hideP hB
  clear hB
  go_enter Tryd.func6, Tryd.ntmps6
  go_wp2_with fail
  refine (new_any ao len cap w HB.out).mono ?_
  rintro e w1 ⟨rfl, hc⟩
  have HC := hideP hc
  clear hc
  go_wp2_with fail
  refine (drawLen_any ao len cap w w1 HB.out HC.out).mono ?_
  rintro e w2 ⟨x, rfl, hx, hc⟩
  have HC2 := hideP hc
  have HX := hideP hx
  clear hc hx
  go_wp2
  go_ret
  obtain ⟨_, _, _, _, _, hbel⟩ := HC2.out
  exact ⟨x, rfl, HX.out, hbel⟩

theorem lawFits_any (x : Int) (w : World) (h1 : -9223372036854775808 ≤ x) (h2 : x ≤ 9223372036854775807) :
    Calls Tryd.prog 8 #[.int .i64 x] w fun e w' => e = .returned (.bool (decide (-1073741823 ≤ x ∧ x ≤ 1073741823))) ∧ w' = w := by
  by_cases h : -1073741823 ≤ x
  · by_cases h' : x ≤ 1073741823
    · rw [show decide (-1073741823 ≤ x ∧ x ≤ 1073741823) = true by simp [h, h']]
      go_enter Tryd.func8, Tryd.ntmps8
      go_wp2
      go_ret
      exact ⟨rfl, rfl⟩
    · rw [show decide (-1073741823 ≤ x ∧ x ≤ 1073741823) = false by simp [h, h']]
      go_enter Tryd.func8, Tryd.ntmps8
      go_wp2
      go_ret
      exact ⟨rfl, rfl⟩
  · rw [show decide (-1073741823 ≤ x ∧ x ≤ 1073741823) = false by simp [h]]
    go_enter Tryd.func8, Tryd.ntmps8
    go_wp2
    go_ret
    exact ⟨rfl, rfl⟩

/-- What the law needs to know of the text of a length: its size and last bytes, that it is read again, and what is read without the last digit. -/
structure Back (x : Int) (s : ByteArray) (n c : Nat) (z : Int) : Prop where
  size : s.size = n
  least : 5 ≤ n
  most : n ≤ 100
  name : ((s.extract (n - 2) n).toList == [112, 116]) = true
  byte : byteAt s (n - 4) = c
  shows : ∀ w, Pows w → Names w → Calls Tryd.prog 7 #[.int .i64 x] w fun e w' => e = .returned (.string s) ∧ Below w.heap.size w w'
  reads : ∀ w, Units w → Calls Tryd.prog 9 #[.string s] w fun e w' => e = .returned (.tuple #[.int .i64 x, .bool true]) ∧ Below w.heap.size w w'
  again : c ≠ 46 → z ≠ x ∧ ∀ w, Units w → Calls Tryd.prog 9 #[.string (s.extract 0 (n - 3) ++ ⟨#[112, 116]⟩)] w fun e w' => e = .returned (.tuple #[.int .i64 z, .bool true]) ∧ Below w.heap.size w w'

theorem sgn_abs (x : Int) : sgn (decide (x < 0)) x.natAbs = x := by
  unfold sgn
  by_cases h : x < 0
  · simp only [h, decide_true, if_true]; omega
  · simp only [h, decide_false, Bool.false_eq_true, if_false]; omega

theorem head_list (s : ByteArray) (i : Nat) : (s.extract 0 i).data.toList = s.data.toList.take i := by
  rw [ByteArray.data_extract]
  simp only [Array.toList_extract, List.extract_eq_take_drop, Nat.sub_zero, List.drop_zero]

/-- The text of a sign, digits, a dot, digits and the unit. -/
theorem full_list {neg : Bool} {A B : List UInt8} {s0 : ByteArray} (h : s0.data.toList = Txt neg A B) : (s0 ++ ⟨#[112, 116]⟩ : ByteArray).data.toList = (if neg then [45] else []) ++ (A ++ (46 :: (B ++ [112, 116]))) := by
  rw [append_list, h]
  unfold Txt
  cases neg <;> simp

theorem back_any (x : Int) (hx : -1073741823 ≤ x ∧ x ≤ 1073741823) : ∃ s n c z, Back x s n c z := by
  obtain ⟨neg, hneg⟩ : ∃ neg, neg = decide (x < 0) := ⟨_, rfl⟩
  obtain ⟨a, ha⟩ : ∃ a, a = x.natAbs := ⟨_, rfl⟩
  have hxa : x = sgn neg a := by rw [hneg, ha, sgn_abs]
  have ha1 : a ≤ 1073741823 := by omega
  have hn0 : neg = true → 0 < a := fun h => by rw [hneg] at h; simp at h; omega
  clear hneg ha
  obtain ⟨p, hp⟩ := shown_ex (eOf neg) a (eOf_le neg)
  obtain ⟨s0, A, B, hl0, dA, dB, A0, A5, hBp, hval, hshow⟩ := showDecimal_any neg a p ha1 hn0 hp
  have hfull := full_list hl0
  obtain ⟨sg, hsg⟩ : ∃ sg : List UInt8, sg = if neg then [45] else [] := ⟨_, rfl⟩
  have hsg1 : sg.length ≤ 1 := by rw [hsg]; cases neg <;> decide
  have hp1 := hp.1
  have hp5 := hp.2.1
  have hsz : (s0 ++ ⟨#[112, 116]⟩ : ByteArray).size = sg.length + A.length + p + 3 := by
    rw [size_list, hfull, ← hsg]
    simp only [List.length_append, List.length_cons, List.length_nil]
    omega
  have hs0 : s0.size ≤ 100 := by
    have : s0.size = (Txt neg A B).length := by rw [size_list, hl0]
    rw [this]
    unfold Txt
    rw [← hsg]
    simp only [List.length_append, List.length_cons]
    omega
  refine ⟨s0 ++ ⟨#[112, 116]⟩, _, byteAt (s0 ++ ⟨#[112, 116]⟩) ((s0 ++ ⟨#[112, 116]⟩ : ByteArray).size - 4), sgn neg (rd (numOf (eOf neg) a (10 ^ p) / 10) (10 ^ (p - 1))), rfl, by omega, by omega, ?_, rfl, ?_, ?_, ?_⟩
  · rw [ByteArray.toList_eq, tail_list, hfull, ← hsg, hsz, show sg ++ (A ++ (46 :: (B ++ [112, 116]))) = (sg ++ (A ++ (46 :: B))) ++ [112, 116] by simp, show sg.length + A.length + p + 3 - 2 = (sg ++ (A ++ (46 :: B))).length by simp only [List.length_append, List.length_cons]; omega, List.drop_left]
    rfl
  · intro w hP hO
    exact showLen_in x s0 w hx hs0 hP hO (fun w h => by rw [hxa]; exact hshow w h)
  · intro w hU
    have := parse_text (s0 ++ ⟨#[112, 116]⟩) neg A B a hfull dA A0 dB (by omega) (by rw [hval, hBp]; exact hp.2.2.1) ha1 w hU
    rw [hxa]
    exact this
  · intro hc
    have hp2 : 2 ≤ p := by
      by_cases h : p = 1
      · exfalso
        apply hc
        have hsz1 : (s0 ++ ⟨#[112, 116]⟩ : ByteArray).size - 4 = (sg ++ A).length := by rw [hsz, List.length_append]; omega
        rw [hsz1, byte_mid (pre := sg ++ A) (post := B ++ [112, 116]) (c := 46) (by rw [hfull, ← hsg]; simp)]
        rfl
      · omega
    obtain ⟨z1, z2⟩ := last_off (eOf_le neg) hp hp2
    refine ⟨fun h => z1 (sgn_inj (h.trans hxa)), fun w hU => ?_⟩
    have hBne : B ≠ [] := fun h => by rw [h] at hBp; simp at hBp; omega
    obtain ⟨B', b, hB⟩ : ∃ B' b, B = B' ++ [b] := ⟨B.dropLast, B.getLast hBne, (List.dropLast_concat_getLast hBne).symm⟩
    have hB'p : B'.length = p - 1 := by
      have := congrArg List.length hB
      rw [List.length_append, List.length_singleton] at this
      omega
    have dB' : DigL B' := fun c hc => dB c (by rw [hB]; exact List.mem_append_left _ hc)
    have db := dB b (by rw [hB]; exact List.mem_append_right _ List.mem_cons_self)
    have hv : valL 0 (A ++ B') = numOf (eOf neg) a (10 ^ p) / 10 := by
      rw [← hval, hB, ← List.append_assoc, valL_append 0 (A ++ B') [b], valL_one]
      omega
    have hlist : ((s0 ++ ⟨#[112, 116]⟩ : ByteArray).extract 0 ((s0 ++ ⟨#[112, 116]⟩ : ByteArray).size - 3) ++ ⟨#[112, 116]⟩ : ByteArray).data.toList = (if neg then [45] else []) ++ (A ++ (46 :: (B' ++ [112, 116]))) := by
      rw [append_list, head_list, hfull, ← hsg, hB, hsz, show sg ++ (A ++ (46 :: (B' ++ [b] ++ [112, 116]))) = (sg ++ (A ++ (46 :: B'))) ++ [b, 112, 116] by simp, show sg.length + A.length + p + 3 - 3 = (sg ++ (A ++ (46 :: B'))).length by simp only [List.length_append, List.length_cons]; omega, List.take_left]
      simp
    exact parse_text _ neg A B' _ hlist dA A0 dB' (by omega) (by rw [hv, hB'p]) (by omega) w hU

theorem bigLen_any (ao : Option Addr) (len cap : Nat) (w : World) (hl : len ≤ 9223372036854775807) : Calls Tryd.prog 5 #[.slice ao len cap] w fun e w' => e = .returned (.bool (decide (1048576 < len))) ∧ w' = w := by
  by_cases h : 1048576 < len
  · rw [show decide (1048576 < len) = true by simp [h]]
    have h' : (1048576 : Int) < (len : Int) := by omega
    go_enter Tryd.func5, Tryd.ntmps5
    go_wp2
    go_ret
    exact ⟨rfl, rfl⟩
  · rw [show decide (1048576 < len) = false by simp [h]]
    have h' : ¬ (1048576 : Int) < (len : Int) := by omega
    go_enter Tryd.func5, Tryd.ntmps5
    go_wp2
    go_ret
    exact ⟨rfl, rfl⟩

set_option maxRecDepth 100000 in
set_option maxHeartbeats 4000000 in
theorem lawBack_any (ao : Option Addr) (len cap : Nat) (w : World) (hl : len ≤ 9223372036854775807) (hB : len ≤ 1048576 → Bytes w ao len cap) (hU : Units w) (hP : Pows w) (hO : Names w) :
    Calls Tryd.prog 3 #[.slice ao len cap] w fun e w' => e = .returned (.bool true) ∧ Below w.heap.size w w' := by
  have BG := hideP (fun w => bigLen_any ao len cap w hl)
  have HU := hideP hU
  have HP := hideP hP
  have HO := hideP hO
  by_cases hbig : 1048576 < len
  · rw [show decide (1048576 < len) = true by simp [hbig]] at BG
    clear hB hU hP hO hl hbig
    go_enter Tryd.func3, Tryd.ntmps3
    go_wp2_with fail
    refine (BG.out _).mono ?_
    rintro e w1 ⟨rfl, rfl⟩
    go_wp2
    go_ret
    exact ⟨rfl, Below.refl _ _⟩
  rw [show decide (1048576 < len) = false by simp [hbig]] at BG
  have HB := hideP (hB (by omega))
  clear hB hU hP hO hl hbig
  go_enter Tryd.func3, Tryd.ntmps3
  go_wp2_with fail
  refine (BG.out _).mono ?_
  rintro e w1 ⟨rfl, rfl⟩
  clear BG
  go_wp2_with fail
  refine (drawShow_any ao len cap _ HB.out).mono ?_
  rintro e w2 ⟨x, rfl, hx, hb2⟩
  have HW2 := hideP hb2
  have HX := hideP hx
  clear hb2 hx HB
  by_cases hf : -1073741823 ≤ x ∧ x ≤ 1073741823
  · obtain ⟨s, n, c, z, K⟩ := back_any x hf
    have HS := hideP K.shows
    have HR := hideP K.reads
    have HA := hideP K.again
    have HN := hideP K.name
    have F := hideP (fun w => lawFits_any x w HX.out.1 HX.out.2)
    rw [show decide (-1073741823 ≤ x ∧ x ≤ 1073741823) = true by simp [hf]] at F
    have hsz : s.size = n := K.size
    have n5 : 5 ≤ n := K.least
    have n9 : n ≤ 100 := K.most
    have hb : ∀ h, ((s[n - 4]'h).toNat : Int) = (c : Int) := fun h => by rw [byteAt_get s (n - 4) h, K.byte]
    have HBY := hideP hb
    clear K hf hb
    go_wp2_with fail
    refine (HS.out _ (HP.out.kept HW2.out) (HO.out.kept HW2.out)).mono ?_
    rintro e w3 ⟨rfl, hb3⟩
    have HW3 := hideP (HW2.out.trans (hb3.mono HW2.out.size))
    clear hb3
    go_wp2_with fail
    refine (F.out _).mono ?_
    rintro e w4 ⟨rfl, rfl⟩
    go_wp2_with fail
    refine (HR.out _ (HU.out.kept HW3.out)).mono ?_
    rintro e w5 ⟨rfl, hb5⟩
    have HW5 := hideP (HW3.out.trans (hb5.mono HW3.out.size))
    clear hb5
    have hlt : n - 4 < s.size := by omega
    have hb : ((s[n - 4]'hlt).toNat : Int) = (c : Int) := HBY.out hlt
    have hnm := HN.out
    have n5d : decide ((n : Int) < 5) = false := by simp; omega
    clear HBY HN
    by_cases hc : c = 46
    · have hb1 : (((s[n - 4]'hlt).toNat : Int) == 46) = true := by rw [hb, hc]; rfl
      have hb2 : (((s[n - 4]'hlt).toNat : Int) != 46) = false := by rw [hb, hc]; rfl
      clear hb hc HA
      go_wp2
      go_ret
      exact ⟨rfl, HW5.out⟩
    · obtain ⟨hz, ha⟩ := HA.out hc
      have HZ := hideP ha
      have hb1 : (((s[n - 4]'hlt).toNat : Int) == 46) = false := by rw [hb]; simp; omega
      have hb2 : (((s[n - 4]'hlt).toNat : Int) != 46) = true := by rw [hb]; simp; omega
      have z1 : (z == x) = false := by simp [hz]
      have z2 : (z != x) = true := by simp [hz]
      clear hb hc HA hz ha
      go_wp2_with fail
      refine (HZ.out _ (HU.out.kept HW5.out)).mono ?_
      rintro e w6 ⟨rfl, hb6⟩
      have HW6 := hideP (HW5.out.trans (hb6.mono HW5.out.size))
      clear hb6
      go_wp2
      go_ret
      exact ⟨rfl, HW6.out⟩
  · have HS := hideP (fun w => showLen_out x w HX.out.1 HX.out.2 hf)
    have F := hideP (fun w => lawFits_any x w HX.out.1 HX.out.2)
    rw [show decide (-1073741823 ≤ x ∧ x ≤ 1073741823) = false by simp only [hf, decide_false]] at F
    clear hf
    go_wp2_with fail
    refine (HS.out _).mono ?_
    rintro e w3 ⟨rfl, hb3⟩
    have HW3 := hideP (HW2.out.trans (hb3.mono HW2.out.size))
    clear hb3
    go_wp2_with fail
    refine (F.out _).mono ?_
    rintro e w4 ⟨rfl, rfl⟩
    go_wp2
    go_ret
    exact ⟨rfl, HW3.out⟩
end Go.Proofs.YtkimbgmjhclghaaDoor
