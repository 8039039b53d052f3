/-
  The law of patterns that are shown and read again.
-/
import Derived.Test.YtejigikcpmhhoaaPba
namespace Go.Proofs.Ytejigikcpmhhoaa
open Go.RowKit
set_option linter.unusedVariables false
set_option linter.unusedSimpArgs false

set_option maxRecDepth 100000 in
set_option maxHeartbeats 4000000 in
theorem lawBack_any (ao : Option Addr) (len cap : Nat) (w : World) (hB : len ≤ 1048576 → Bytes w ao len cap) (hl : len ≤ 9223372036854775807) :
    Calls Try.prog 3 #[.slice ao len cap] w fun e w' => e = .returned (.bool true) ∧ Below w.heap.size w w' := by
  by_cases hbig : len ≤ 1048576
  rotate_left
  · have c0 := fun W => big_any ao len cap W true (by simp; omega) hl
    go_enter Try.func3, Try.ntmps3
    go_wp2_with fail
    refine (c0 _).mono ?_
    rintro e w1 ⟨rfl, hw⟩
    have hw2 := hw.symm
    subst hw2
    go_wp2
    go_ret
    exact ⟨rfl, Below.refl _ _⟩
  have c0 := hideP (fun W => big_any ao len cap W false (by simp; omega) hl)
  have HB := hideP (hB hbig)
  clear hB
  go_enter Try.func3, Try.ntmps3
  go_wp2_with fail
  refine (c0.out _).mono ?_
  rintro e w0 ⟨rfl, hw⟩
  have hw2 := hw.symm
  subst hw2
  go_wp2_with fail
  refine (drawShow_any ao len cap _ HB.out).mono ?_
  rintro e w1 ⟨L, v, zs, rfl, hL, hz, hr1, hb1⟩
  obtain ⟨a1, n1, k1, rfl⟩ : ∃ a n c, v = .slice a n c := by obtain ⟨a, c, rfl⟩ := hr1.shape; exact ⟨_, _, _, rfl⟩
  have R1 := hideP (hr1.below (below1 w1 (.cells #[.string L, .slice a1 n1 k1] 26)))
  have B1 := hideP (below_more hb1 (below1 w1 (.cells #[.string L, .slice a1 n1 k1] 26)) hb1.size)
  have P1 := hideP (BK.new w1 L (.slice a1 n1 k1))
  clear hr1 hb1
  go_wp2_with fail
  generalize hPP : w1.heap.size = P at P1 ⊢
  clear hPP
  generalize (w1.alloc (.cells #[.string L, .slice a1 n1 k1] 26)) = W1 at R1 B1 P1 ⊢
  have c1 := hideP (fun W => implRead_any ⟨#[49, 97]⟩ W (by decide))
  refine (c1.out _).mono ?_
  rintro e w2 ⟨v2, rfl, ho2, hb2⟩
  rw [live_read]
  generalize rdS ⟨#[49, 97]⟩ = L2
  obtain ⟨a2, n2, k2, rfl⟩ : ∃ a n c, v2 = .slice a n c := by obtain ⟨a, c, rfl⟩ := (row_of_own ho2 rfl).shape; exact ⟨_, _, _, rfl⟩
  have bb2 := below_more hb2 (below1 w2 (.cells #[.string L2, .slice a2 n2 k2] 26)) hb2.size
  have R2 := hideP (R1.out.below bb2)
  have B2 := hideP (below_more B1.out bb2 B1.out.size)
  have P2 := hideP (P1.out.below bb2)
  have p0 := (two_at (P1.out.below hb2)).1
  have p1 := (two_at (P1.out.below hb2)).2.1
  have pz := (two_at (P1.out.below hb2)).2.2
  clear ho2 hb2 c1 R1 B1 P1 bb2
  go_wp2_with fail
  clear p0 p1 pz
  generalize (w2.alloc (.cells #[.string L2, .slice a2 n2 k2] 26)) = W2 at R2 B2 P2 ⊢
  refine (implShow_any R2.out (by omega) (by omega)).mono ?_
  rintro e w3 ⟨rfl, hb3⟩
  have R3 := hideP (R2.out.below hb3)
  have B3 := hideP (below_more B2.out hb3 B2.out.size)
  have P3 := hideP (P2.out.below hb3)
  clear hb3 R2 B2 P2
  obtain ⟨p0, p1, pz⟩ := two_at P3.out
  obtain ⟨S, hS⟩ : ∃ S, S = showT L zs := ⟨_, rfl⟩
  rw [← hS]
  have HS := hideP hS
  clear hS
  obtain ⟨pb, hpb⟩ : ∃ b, b = patB L zs := ⟨_, rfl⟩
  have c4 : Hid (∀ W, Below w3.heap.size w3 W → Calls Try.prog 12 #[patV L (.slice a1 n1 k1)] W fun e w' => e = .returned (.bool pb) ∧ Below W.heap.size W w') := hideP (fun W hW => by rw [hpb]; exact implPatternOk_any (R3.out.below hW) (by omega) (by omega))
  have HPB := hideP hpb
  clear hpb
  go_wp2_with fail
  refine (c4.out _ (Below.refl _ _)).mono ?_
  rintro e w4 ⟨rfl, hb4⟩
  have R4 := hideP (R3.out.below hb4)
  have B4 := hideP (below_more B3.out hb4 B3.out.size)
  have P4 := hideP (P3.out.below hb4)
  clear hb4 R3 B3 P3 p0 p1 pz c4
  obtain ⟨p0, p1, pz⟩ := two_at P4.out
  cases pb
  · have hS0 : S = ⟨#[]⟩ := by rw [HS.out, showT_no HPB.out.symm]
    subst hS0
    go_wp2
    go_ret
    exact ⟨rfl, B4.out⟩
  obtain ⟨s0, s1, s2⟩ := read_some (read_show HPB.out.symm)
  rw [← HS.out] at s0 s1 s2
  have hSs : S.size ≤ 42 := by rw [HS.out]; exact show_size
  have c5 : Hid (∀ W, Calls Try.prog 10 #[.string S] W fun e w' => ∃ v, e = .returned (.tuple #[patV L v, .bool true]) ∧ w'.ownsRow W.heap.size 2 1 v zs.length (zs.map (Value.int .i64)) ∧ Below W.heap.size W w') := hideP (fun W => by have := implRead_any S W (by omega); rw [s0, s1, s2] at this; exact this)
  clear s0 s1 s2
  go_wp2_with fail
  refine (c5.out _).mono ?_
  rintro e w5 ⟨v5, rfl, ho5, hb5⟩
  have hr5 := row_of_own ho5 rfl
  obtain ⟨a5, n5, k5, rfl⟩ : ∃ a n c, v5 = .slice a n c := by obtain ⟨a, c, rfl⟩ := hr5.shape; exact ⟨_, _, _, rfl⟩
  have bb := below_more hb5 (below1 w5 (.cells #[.string L, .slice a5 n5 k5] 26)) hb5.size
  have Q5 := hideP (hr5.below (below1 w5 (.cells #[.string L, .slice a5 n5 k5] 26)))
  have R5 := hideP (R4.out.below bb)
  have B5 := hideP (below_more B4.out bb B4.out.size)
  have P5 := hideP (P4.out.below bb)
  have U5 := hideP (BK.new w5 L (.slice a5 n5 k5))
  clear ho5 hb5 hr5 bb R4 B4 P4 p0 p1 pz c5
  go_wp2_with fail
  generalize hUU : w5.heap.size = U at U5 ⊢
  clear hUU
  generalize (w5.alloc (.cells #[.string L, .slice a5 n5 k5] 26)) = W5 at R5 B5 P5 U5 Q5 ⊢
  have c6 : Hid (∀ W, Below W5.heap.size W5 W → Calls Try.prog 11 #[patV L (.slice a5 n5 k5)] W fun e w' => e = .returned (.string S) ∧ Below W.heap.size W w') := hideP (fun W hW => by rw [HS.out]; exact implShow_any (Q5.out.below hW) (by omega) (by omega))
  refine (c6.out _ (Below.refl _ _)).mono ?_
  rintro e w6 ⟨rfl, hb6⟩
  have Q6 := hideP (Q5.out.below hb6)
  have R6 := hideP (R5.out.below hb6)
  have B6 := hideP (below_more B5.out hb6 B5.out.size)
  have P6 := hideP (P5.out.below hb6)
  have U6 := hideP (U5.out.below hb6)
  clear hb6 R5 B5 P5 U5 Q5 c6
  obtain ⟨p0, p1, pz⟩ := two_at P6.out
  obtain ⟨u0, u1, uz⟩ := two_at U6.out
  have hSl : 0 < S.size := by rw [HS.out]; exact show_long HPB.out.symm
  have hSe : S.toList.isEmpty = false := by rw [ne_empty]; exact decide_eq_false (by omega)
  have bL : (L.toList == L.toList) = true := by simp
  have nL : (L.toList != L.toList) = false := by simp
  have nS : (S.toList != S.toList) = false := by simp
  go_wp2_with fail
  have c7 : Hid (∀ W (x y : Value) (ys : List Int), Row W x ys → Row W y ys → ys.length ≤ 1048576 → Calls Try.prog 13 #[x, y] W fun e w' => e = .returned (.bool true) ∧ Below W.heap.size W w') := hideP (fun W x y ys hx hy hl => by have := sameInts_any hx hy hl; rw [show decide (ys = ys) = true by simp] at this; exact this)
  refine (c7.out _ _ _ zs Q6.out R6.out (by omega)).mono ?_
  rintro e w7 ⟨rfl, hb7⟩
  have B7 := hideP (below_more B6.out hb7 B6.out.size)
  clear hb7 R6 B6 P6 U6 Q6 p0 p1 pz u0 u1 uz
  go_wp2_with fail
  refine (drawRead_any ao len cap _ (HB.out.kept B7.out)).mono ?_
  rintro e w8 ⟨T, rfl, hT, hb8⟩
  have B8 := hideP (below_more B7.out hb8 B7.out.size)
  clear hb8 B7
  obtain ⟨A, hA⟩ : ∃ A, A = rdS T := ⟨_, rfl⟩
  obtain ⟨M, hM⟩ : ∃ M, M = rdM T := ⟨_, rfl⟩
  obtain ⟨fb, hfb⟩ : ∃ b, b = rdB T := ⟨_, rfl⟩
  have hMl := (rdM_len T).1
  have hAl := (rdM_len T).2
  rw [← hA] at hAl
  rw [← hM] at hMl
  have c9 : Hid (∀ W, Calls Try.prog 10 #[.string T] W fun e w' => ∃ v, e = .returned (.tuple #[patV A v, .bool fb]) ∧ w'.ownsRow W.heap.size 2 1 v M.length (M.map (Value.int .i64)) ∧ Below W.heap.size W w') := hideP (fun W => by rw [hA, hM, hfb]; exact implRead_any T W (by omega))
  have HPA : Hid (fb = true → patB A M = true) := hideP (fun h => by
    rw [hfb] at h
    unfold rdB at h
    cases hr : readR T with
    | none => rw [hr] at h; cases h
    | some x =>
      obtain ⟨x1, x2⟩ := x
      obtain ⟨y0, y1, y2⟩ := read_some hr
      rw [hA, hM, y0, y1]
      exact readR_pat hr)
  clear hA hM hfb
  go_wp2_with fail
  refine (c9.out _).mono ?_
  rintro e w9 ⟨v9, rfl, ho9, hb9⟩
  have hr9 := row_of_own ho9 rfl
  obtain ⟨a9, n9, k9, rfl⟩ : ∃ a n c, v9 = .slice a n c := by obtain ⟨a, c, rfl⟩ := hr9.shape; exact ⟨_, _, _, rfl⟩
  have bb := below_more hb9 (below1 w9 (.cells #[.string A, .slice a9 n9 k9] 26)) hb9.size
  have Q9 := hideP (hr9.below (below1 w9 (.cells #[.string A, .slice a9 n9 k9] 26)))
  have B9 := hideP (below_more B8.out bb B8.out.size)
  have U9 := hideP (BK.new w9 A (.slice a9 n9 k9))
  clear ho9 hb9 hr9 bb B8 c9
  cases fb
  · go_wp2
    go_ret
    exact ⟨rfl, B9.out⟩
  have hpA := HPA.out rfl
  obtain ⟨s0, s1, s2⟩ := read_some (read_show hpA)
  obtain ⟨S2, hS2⟩ : ∃ S2, S2 = showT A M := ⟨_, rfl⟩
  rw [← hS2] at s0 s1 s2
  have hS2s : S2.size ≤ 42 := by rw [hS2]; exact show_size
  have c11 : Hid (∀ W, Calls Try.prog 10 #[.string S2] W fun e w' => ∃ v, e = .returned (.tuple #[patV A v, .bool true]) ∧ w'.ownsRow W.heap.size 2 1 v M.length (M.map (Value.int .i64)) ∧ Below W.heap.size W w') := hideP (fun W => by have := implRead_any S2 W (by omega); rw [s0, s1, s2] at this; exact this)
  have HS2 := hideP hS2
  clear s0 s1 s2 hpA hS2
  go_wp2_with fail
  generalize hVV : w9.heap.size = V at U9 ⊢
  clear hVV
  generalize (w9.alloc (.cells #[.string A, .slice a9 n9 k9] 26)) = W9 at Q9 B9 U9 ⊢
  have c10 : Hid (∀ W, Below W9.heap.size W9 W → Calls Try.prog 11 #[patV A (.slice a9 n9 k9)] W fun e w' => e = .returned (.string S2) ∧ Below W.heap.size W w') := hideP (fun W hW => by rw [HS2.out]; exact implShow_any (Q9.out.below hW) (by omega) (by omega))
  refine (c10.out _ (Below.refl _ _)).mono ?_
  rintro e w10 ⟨rfl, hb10⟩
  have Q10 := hideP (Q9.out.below hb10)
  have B10 := hideP (below_more B9.out hb10 B9.out.size)
  have U10 := hideP (U9.out.below hb10)
  clear hb10 Q9 B9 U9 c10
  go_wp2_with fail
  refine (c11.out _).mono ?_
  rintro e w11 ⟨v11, rfl, ho11, hb11⟩
  have hr11 := row_of_own ho11 rfl
  obtain ⟨a11, n11, k11, rfl⟩ : ∃ a n c, v11 = .slice a n c := by obtain ⟨a, c, rfl⟩ := hr11.shape; exact ⟨_, _, _, rfl⟩
  have bb := below_more hb11 (below1 w11 (.cells #[.string A, .slice a11 n11 k11] 26)) hb11.size
  have Q11 := hideP (hr11.below (below1 w11 (.cells #[.string A, .slice a11 n11 k11] 26)))
  have R11 := hideP (Q10.out.below bb)
  have B11 := hideP (below_more B10.out bb B10.out.size)
  have U11 := hideP (U10.out.below bb)
  have V11 := hideP (BK.new w11 A (.slice a11 n11 k11))
  have u0 := (two_at U11.out).1
  have u1 := (two_at U11.out).2.1
  have uz := (two_at U11.out).2.2
  have bA : (A.toList == A.toList) = true := by simp
  clear ho11 hb11 hr11 bb Q10 B10 U10 c11
  go_wp2_with fail
  refine (c7.out _ _ _ M R11.out Q11.out (by omega)).mono ?_
  rintro e w12 ⟨rfl, hb12⟩
  have B12 := hideP (below_more B11.out hb12 B11.out.size)
  clear hb12
  go_wp2
  go_ret
  exact ⟨rfl, B12.out⟩
end Go.Proofs.Ytejigikcpmhhoaa
