/-
  The walk of FnTokensBack.
-/
import Derived.Test.YtkiiiahljlkjnaaRtp
import Derived.Test.YtkiiiahljlkjnaaShi
import Derived.Test.YtkiiiahljlkjnaaNal
namespace Go.Proofs.Ytkiiiahljlkjnaa
open Go.RowKit
set_option linter.unusedVariables false
set_option linter.unusedSimpArgs false

theorem emp_list : ByteArray.empty.toList.isEmpty = true := by rw [ByteArray.toList_eq]; rfl
theorem shape_ok {s : ByteArray} {st : Int} {x : Sc} (h : Shape s st x) : tokB x.c x.h x.n = true := by
  rcases h with ⟨q, hq, e⟩ | ⟨e1, e2, e3, e4⟩ | ⟨e0, e1, e2, e3, e4⟩ | ⟨b, hb, e1, e2, e3, e4, n0, n6, n3, n8, n9, n15⟩
  · obtain ⟨e1, e2, hn⟩ := nmS_name s hq
    rw [← e] at e1 e2 hn
    have hz : x.n.size ≤ 40 := by
      rcases hn with ⟨e3, _⟩ | ⟨l, e3, _, e5, _⟩ | ⟨b, e3, _⟩
      · rw [e3, tx_size]; simp
      · rw [e3, tx_size]; exact e5
      · rw [e3, tx_size]; simp
    rw [tokB_name e1, e2]
    simp [hz]
  · rw [tokB_name e1, e2, e3]
    decide
  · rw [e1, e2, e3, tokB_else emp_list (by decide) (by decide) (by decide)]
    decide
  · have hr := cat_range (b : Int)
    rw [e3, tokB_else emp_list (by rw [e1]; exact n0) (by rw [e1]; omega) (by rw [e1]; omega), e1, e2]
    simp
    omega
theorem tks_ok (s : ByteArray) : ∀ f a st, s.size - a ≤ f → a ≤ s.size → ∀ t ∈ (tks PL s a st).1, tokB t.c t.h t.s = true
  | f, a, st, hf, has, t, ht => by
    obtain ⟨q1, n, q2, q3, q4⟩ := nxt_place PL s (s.size - a) a st has (Nat.le_refl _)
    have sh := nxt_shape s (s.size - a) a st (Nat.le_refl _) has
    rw [tks_step has] at ht
    by_cases k0 : (nxt PL s a st).k = 0
    · rw [if_pos k0] at ht
      simp at ht
    have q5 := q4 k0
    rw [if_neg k0] at ht
    by_cases k2 : (nxt PL s a st).k = 2
    · rw [if_pos k2] at ht
      simp at ht
    rw [if_neg k2, q2, Int.toNat_natCast] at ht
    rcases List.mem_cons.1 ht with rfl | ht
    · exact shape_ok (sh (by omega))
    · cases f with
      | zero => omega
      | succ f => exact tks_ok s f n _ (by omega) q3 t ht
theorem tks_bad (zs : List Int) (s : ByteArray) : ∀ f a st, s.size - a ≤ f → a ≤ s.size → -1 ≤ (tks zs s a st).2
  | f, a, st, hf, has => by
    obtain ⟨q1, n, q2, q3, q4⟩ := nxt_place zs s (s.size - a) a st has (Nat.le_refl _)
    rw [tks_step has]
    by_cases k0 : (nxt zs s a st).k = 0
    · rw [if_pos k0]; simp
    have q5 := q4 k0
    rw [if_neg k0]
    by_cases k2 : (nxt zs s a st).k = 2
    · rw [if_pos k2]
      simp only
      omega
    rw [if_neg k2, q2, Int.toNat_natCast]
    cases f with
    | zero => omega
    | succ f => exact tks_bad zs s f n _ (by omega) q3
theorem tokB_size {c h : Int} {n : ByteArray} (hk : tokB c h n = true) : n.size ≤ 40 := by
  by_cases hc : c = 0
  · rw [tokB_name hc] at hk
    exact (of_decide_eq_true hk).2
  · cases hs : n.toList.isEmpty with
    | false => rw [tokB_full hc hs] at hk; cases hk
    | true =>
      have h0 : n.toList = [] := by simpa using hs
      rw [ByteArray.toList_eq] at h0
      have h1 : n.size = 0 := by
        have := congrArg List.length h0
        simpa using this
      omega
theorem weight_le : ∀ (T : List Tk), (∀ t ∈ T, tokB t.c t.h t.s = true) → weight T ≤ 41 * T.length
  | [], _ => by simp [weight]
  | t :: T, h => by
    have h1 := weight_le T (fun u hu => h u (List.mem_cons_of_mem _ hu))
    have h2 := tokB_size (h t (by simp))
    simp only [weight, List.length_cons, List.map_cons, List.sum_cons] at h1 ⊢
    omega
theorem PL_ok : catsB PL = true := catsB_yes PL_length (fun j hj => by rw [PL_at hj]; exact cat_range _)
theorem one_a : tokS PL ⟨#[97]⟩ = ([⟨4, 97, ByteArray.empty⟩], -1) := by
  have hz : (⟨#[97]⟩ : ByteArray).size = 1 := rfl
  have hb : byteAt ⟨#[97]⟩ 0 = 97 := rfl
  have hc : catOf ((97 : Nat) : Int) = 4 := by decide
  have e : nxt PL ⟨#[97]⟩ 0 0 = ⟨1, 4, 97, ByteArray.empty, 1, 1⟩ := by
    rw [nxt_step (by rw [hz]; decide), catP, hb, hc, if_neg (by decide), if_neg (by decide), if_neg (by decide), if_neg (by decide), if_neg (by decide), if_neg (by decide)]
    rfl
  unfold tokS
  rw [if_pos ⟨PL_ok, by rw [hz]; decide⟩]
  refine tks_take (y := ⟨1, 4, 97, ByteArray.empty, 1, 1⟩) (q := 1) (by omega) e rfl rfl rfl ?_
  rw [tks_step (by rw [hz]; exact Nat.le_refl _), nxt_end (by rw [hz]; omega)]
  rfl
theorem rowB {W : World} {g : Nat} {zs : List Int} (h : Blk W g zs) (hl : zs.length = 256) : Row W (.slice (some ⟨g, 0, none⟩) 256 256) zs :=
  ⟨_, 256, 256, rfl, hl, fun _ => ⟨g, 0, rfl, h.lt, fun i hi => by rw [Nat.zero_add]; exact h.cell i (by omega)⟩⟩
/-- What is shown and scanned again. -/
theorem show_back {s : ByteArray} (hs : s.size ≤ 65536) (hb : (tks PL s 0 0).2 = -1) (hl : (tks PL s 0 0).1.length ≤ 20000) (hz : (showAll (tks PL s 0 0).1).length ≤ 65536) : tokS PL ⟨(showAll (tks PL s 0 0).1).toArray⟩ = ((tks PL s 0 0).1, -1) := by
  have hok := tks_ok s s.size 0 0 (by omega) (by omega)
  have e : showAll (tks PL s 0 0).1 = (tks PL s 0 0).1.flatMap showT := okAll_yes hl (fun k hk => by
    have := hok _ (List.getElem_mem (l := (tks PL s 0 0).1) (n := k) hk)
    rw [List.getD_eq_getElem?_getD, List.getElem?_eq_getElem hk]
    exact this)
  have h := back s s.size 0 0 (by omega) (by omega) hb [] 0 (fun h => by cases h)
  rw [List.nil_append] at h
  rw [e] at hz ⊢
  unfold tokS
  rw [if_pos ⟨PL_ok, by show (tx _).size ≤ _; rw [tx_size]; exact hz⟩]
  exact h

set_option maxRecDepth 20000 in
set_option maxHeartbeats 16000000 in
theorem tokensBack_any (ao : Option Addr) (len cap : Nat) (w : World) (hB : len ≤ 1048576 → Bytes w ao len cap) (hl1 : len ≤ 9223372036854775807) :
    Calls Try.prog 3 #[.slice ao len cap] w fun e w' => e = .returned (.bool true) ∧ Below w.heap.size w w' := by
  have HB := hideP hB
  have CB1 := hideP (big_any ao len cap w hl1)
  obtain ⟨b1, hb1⟩ : ∃ b, b = decide (1048576 < len) := ⟨_, rfl⟩
  rw [← hb1] at CB1
  have HB1 := hideP hb1
  clear hB hb1
  have CP : Hid (∀ W, Calls Try.prog 10 #[] W fun e w' => e = .returned (.slice (some ⟨W.heap.size, 0, none⟩) 256 256) ∧ Row w' (.slice (some ⟨W.heap.size, 0, none⟩) 256 256) PL ∧ Below W.heap.size W w') := hideP (fun W => (implPlainCats_any W).mono (fun e w' hh => ⟨hh.1, rowB hh.2.1 PL_length, hh.2.2⟩))
  have CT : Hid (∀ W g S, Row W (.slice (some ⟨g, 0, none⟩) 256 256) PL → Calls Try.prog 9 #[.slice (some ⟨g, 0, none⟩) 256 256, .string S] W fun e w' => (∃ t c', e = .returned (.tuple #[.slice t (tokS PL S).1.length c', .int .i64 (tokS PL S).2]) ∧ w'.ownsRow W.heap.size 34 3 (.slice t (tokS PL S).1.length c') (tokS PL S).1.length (flat (tokS PL S).1)) ∧ Below W.heap.size W w') := hideP (fun W g S hW => (implTokenize_any hW).mono (fun e w' hh => by
    obtain ⟨⟨u, rfl, ho⟩, hb⟩ := hh
    obtain ⟨a, c', rfl⟩ := ownG_shape ho
    exact ⟨⟨a, c', rfl, ho⟩, hb⟩))
  go_enter Try.func3, Try.ntmps3
  go_wp2_with fail
  refine CB1.out.mono ?_
  rintro e w' ⟨rfl, hw⟩
  have hw2 := hw.symm
  subst hw2
  cases b1 with
  | true =>
    go_wp2
    go_ret
    exact ⟨rfl, Below.refl _ _⟩
  | false =>
  have HLE : Hid (len ≤ 1048576) := hideP (by have h := HB1.out; simp at h; omega)
  go_wp2_with fail
  refine (drawTok_any ao len cap w (HB.out HLE.out)).mono ?_
  rintro e w1 ⟨⟨g, n, c, zs, s, rfl, _, hs⟩, hbw1⟩
  have D1 := hideP hbw1
  clear hbw1 CB1 HB HLE HB1
  -- the first scan
  go_wp2_with fail
  refine (CP.out w1).mono ?_
  rintro e w2 ⟨rfl, r2, hbw2⟩
  have R2 := hideP r2
  have D2 := hideP (below_more D1.out hbw2 D1.out.size)
  clear r2 hbw2
  obtain ⟨T, hT⟩ : ∃ T, T = (tokS PL s).1 := ⟨_, rfl⟩
  obtain ⟨r, hr⟩ : ∃ r, r = (tokS PL s).2 := ⟨_, rfl⟩
  obtain ⟨m, hm⟩ : ∃ m, m = T.length := ⟨_, rfl⟩
  have hml : m ≤ 65536 := by rw [hm, hT]; exact tokS_len PL s
  have CT1 := hideP (CT.out w2 w1.heap.size s R2.out)
  rw [← hT, ← hr, ← hm] at CT1
  have hr2 : -2 ≤ r := by
    rw [hr]
    unfold tokS
    split
    · have := tks_bad PL s s.size 0 0 (by omega) (by omega)
      omega
    · simp
  have HT := hideP hT
  have HR := hideP hr
  have HM := hideP hm
  clear hT hr hm
  go_wp2_with fail
  refine CT1.out.mono ?_
  rintro e w3 ⟨⟨t, c2, rfl, ho3⟩, hbw3⟩
  have O3 := hideP ho3
  have D3 := hideP (below_more D2.out hbw3 D2.out.size)
  clear ho3 hbw3 CT1 R2
  -- a letter alone
  go_wp2_with fail
  refine (CP.out w3).mono ?_
  rintro e w4 ⟨rfl, r4, hbw4⟩
  have R4 := hideP r4
  have B34 := hideP hbw4
  have D4 := hideP (below_more D3.out hbw4 D3.out.size)
  clear r4 hbw4
  have CT2 := hideP (CT.out w4 w3.heap.size ⟨#[97]⟩ R4.out)
  rw [one_a] at CT2
  go_wp2_with fail
  refine CT2.out.mono ?_
  rintro e w5 ⟨⟨t5, c5, rfl, _⟩, hbw5⟩
  have B35 := hideP (below_more B34.out hbw5 B34.out.size)
  have D5 := hideP (below_more D4.out hbw5 D4.out.size)
  clear hbw5 CT2 R4 B34
  have hr3 : decide (-2 ≤ r) = true := by simp; omega
  by_cases k1 : r = -1
  · subst k1
    by_cases k2 : 20000 < m
    · have k3 : (20000 : Int) < (m : Int) := by omega
      have k4 : decide ((20000 : Int) < (m : Int)) = true := by simp; omega
      go_wp2
      go_ret
      exact ⟨rfl, D5.out⟩
    have k3 : ¬ (20000 : Int) < (m : Int) := by omega
    have k4 : decide ((20000 : Int) < (m : Int)) = false := by simp; omega
    have HOK : Hid (s.size ≤ 65536 ∧ T = (tks PL s 0 0).1 ∧ (tks PL s 0 0).2 = -1) := hideP (by
      have h1 := HR.out
      have h2 := HT.out
      unfold tokS at h1 h2
      by_cases hok : catsB PL = true ∧ s.size ≤ 65536
      · rw [if_pos hok] at h1 h2
        exact ⟨hok.2, h2, h1.symm⟩
      · rw [if_neg hok] at h1
        simp at h1)
    have HTL : Hid ((tks PL s 0 0).1.length ≤ 20000) := hideP (by rw [← HOK.out.2.1, ← HM.out]; omega)
    have HWT : Hid (weight T ≤ 1048576) := hideP (by
      have h1 := weight_le T (fun u hu => tks_ok s s.size 0 0 (by omega) (by omega) u (by rw [← HOK.out.2.1]; exact hu))
      rw [← HM.out] at h1
      omega)
    have T5 : Hid (TRow w5 (.slice t m c2) T) := hideP (own_n (own_below O3.out B35.out)).row
    have CSH := hideP (implShow_any T5.out HWT.out)
    obtain ⟨S, hS⟩ : ∃ S : ByteArray, S = ⟨(showAll T).toArray⟩ := ⟨_, rfl⟩
    rw [← hS] at CSH
    have HSS := hideP hS
    clear hS
    go_wp2_with fail
    refine CSH.out.mono ?_
    rintro e w6 ⟨rfl, hbw6⟩
    have D6 := hideP (below_more D5.out hbw6 D5.out.size)
    have T6 := hideP (T5.out.below hbw6)
    clear hbw6 CSH T5
    by_cases k5 : (65536 : Int) < (S.size : Int)
    · go_wp2
      go_ret
      exact ⟨rfl, D6.out⟩
    have k6 : decide ((65536 : Int) < (S.size : Int)) = false := by simp; omega
    have BK : Hid (tokS PL S = (T, -1)) := hideP (by
      have hz : (showAll T).length ≤ 65536 := by
        have : S.size = (showAll T).length := by rw [HSS.out]; simp [ByteArray.size]
        omega
      have h := show_back HOK.out.1 HOK.out.2.2 HTL.out (by rw [← HOK.out.2.1]; exact hz)
      rw [← HOK.out.2.1] at h
      rw [HSS.out]
      exact h)
    go_wp2_with fail
    refine (CP.out w6).mono ?_
    rintro e w7 ⟨rfl, r7, hbw7⟩
    have R7 := hideP r7
    have D7 := hideP (below_more D6.out hbw7 D6.out.size)
    have T7 := hideP (T6.out.below hbw7)
    clear r7 hbw7 T6
    have CT3 := hideP (CT.out w7 w6.heap.size S R7.out)
    rw [BK.out] at CT3
    simp only [← HM.out] at CT3
    go_wp2_with fail
    refine CT3.out.mono ?_
    rintro e w8 ⟨⟨t8, c8, rfl, ho8⟩, hbw8⟩
    have D8 := hideP (below_more D7.out hbw8 D7.out.size)
    have T8 := hideP (T7.out.below hbw8)
    have V8 : Hid (TRow w8 (.slice t8 m c8) T) := hideP (own_n ho8).row
    clear ho8 hbw8 CT3 R7 T7
    have CSA := hideP (sameTokens_same T8.out V8.out (by rw [← HM.out]; omega))
    go_wp2_with fail
    refine CSA.out.mono ?_
    rintro e w9 ⟨rfl, hbw9⟩
    have D9 := hideP (below_more D8.out hbw9 D8.out.size)
    clear hbw9
    go_wp2
    go_ret
    exact ⟨rfl, D9.out⟩
  · have k2 : (r == -1) = false := by simp [k1]
    have k3 : decide (r = -1) = false := by simp [k1]
    have k4 : (r != -1) = true := by simp [k1]
    go_wp2
    go_ret
    exact ⟨rfl, D5.out⟩
end Go.Proofs.Ytkiiiahljlkjnaa
