/-
  LineOf: the program.
-/
import Derived.Test.YtdgfnceipginkaaIln
import Derived.Test.YtdgfnceipginkaaSln
import Derived.Test.YtdgfnceipginkaaBsr
namespace Go.Proofs.Ytdgfnceipginkaa
open Go.RowKit
set_option linter.unusedVariables false
set_option linter.unusedSimpArgs false

theorem nn_own {w : World} {base n : Nat} {v : Value} {xs : List Nd} (h : w.ownsRow base 48 15 v n (flatN xs)) (hn : xs.length = n := by rfl) : NN 0 w v xs := by
  have hc := own_cap h
  rcases h.2 with ⟨rfl, h0⟩ | ⟨g, cap, cur, rfl, hb, hg, _⟩
  · exact .inl ⟨rfl, List.eq_nil_of_length_eq_zero (by omega)⟩
  · subst hn
    exact .inr ⟨g, 0, cap, rfl, (hc _ _ _ rfl).1, Nat.zero_le _, fun _ => (Array.getElem?_eq_some_iff.1 hg).1, fun j u hj => by rw [Nat.zero_add]; exact (own_cell h hj).1⟩
theorem ts_mem {ts : List Tn} {F : List Int} {m : Nat} {x : Int} (h : ts.map (fun t => t.1) = F) (hl : ts.length = m) : (∀ p, p < m → (ts.getD p Tn.none).1 ≠ x) → x ∉ F := fun hn hx => by
  obtain ⟨p, hp, hpe⟩ := List.mem_iff_getElem.1 hx
  have hpl : p < ts.length := by have := congrArg List.length h; rw [List.length_map] at this; omega
  refine hn p (by omega) ?_
  rw [ts_get h hpl]
  simp [List.getD, List.getElem?_eq_getElem hp, hpe]
theorem ts_in {ts : List Tn} {F : List Int} {m : Nat} {k : Nat} {x : Int} (h : ts.map (fun t => t.1) = F) (hl : ts.length = m) (hk : k < m) (hx : (ts.getD k Tn.none).1 = x) : x ∈ F := by
  rw [← h, ← hx, show ts.getD k Tn.none = ts[k]'(by omega) by simp [List.getD, List.getElem?_eq_getElem (show k < ts.length by omega)]]
  exact List.mem_map_of_mem (List.getElem_mem _)

set_option maxRecDepth 20000 in
set_option maxHeartbeats 8000000 in
theorem implLO_any {v : Value} {xs : List Nd} {w : World} (S : Sy) (f t : Int) (h : NRow 0 w v xs) (hs : xs.length ≤ 1048576) (hcp : ∀ a n c, v = .slice a n c → n ≤ c ∧ c ≤ 9223372036854775807) (hNN : NN 0 w v xs) :
    Calls Try.prog 8 #[v, syV S, .int .i64 f, .int .i64 t] w fun e W' => (∃ u, e = .returned u ∧ W'.ownsRow w.heap.size 48 15 u (lnL xs S f t).length (flatN (lnL xs S f t))) ∧ Below w.heap.size w W' := by
  have PC : Hid (∀ W, Below w.heap.size w W → Calls Try.prog 18 #[v, syV S] W (ParR xs S W)) := hideP (fun W hW => par_any S (SRow.below ndStable h hW) hs hcp (hNN.bel hW))
  have hsy : ∃ cs : Array Value, syV S = .agg cs ∧ cs.size = 23 := ⟨_, rfl, rfl⟩
  obtain ⟨cs, hcs, hsz⟩ := hsy
  rw [hcs] at PC ⊢
  obtain ⟨va, vn, vc, rfl, _⟩ := h
  obtain ⟨LN, hLN⟩ : ∃ LN, LN = lnL xs S f t := ⟨_, rfl⟩
  rw [← hLN]
  have HLN := hideP hLN
  clear hcs hs hcp hLN hNN
  have hG0 := heap_alloc_new w (.cells cs 33)
  have B0 := hideP (below1 w (.cells cs 33))
  go_enter Try.func8, Try.ntmps8
  go_upto_region 1 with fail
  generalize World.alloc _ _ = W0 at B0 hG0 ⊢
  go_wp2_with (refine wpList_load_row rfl 33 _ rfl w.heap.size rfl cs 33 (0, 0) hG0 _ Try.underlying33 rfl (by rw [hsz]; kernel_rfl) ?_)
  refine (PC.out W0 B0.out).mono ?_
  rintro e w1 ⟨⟨p, ok, rfl, hno, hyes⟩, hb1⟩
  have B1 : Hid (Below w.heap.size w w1) := hideP (below_more B0.out hb1 B0.out.size)
  clear hb1 hG0 PC
  cases ok with
  | false =>
    have HE : Hid (LN = []) := hideP (by
      rw [HLN.out]
      unfold lnL
      rw [if_neg]
      rintro ⟨_, h2, _⟩
      rw [hno rfl] at h2
      simp at h2)
    clear hno hyes
    have OE : Hid ((w1.alloc (.cells #[] 48)).ownsRow w.heap.size 48 15 (.slice (some ⟨w1.heap.size, 0, none⟩) 0 0) 0 []) := hideP ⟨rfl, .inr ⟨_, _, _, rfl, B1.out.size, heap_alloc_new w1 _, Nat.le_refl _, by unfold maxLen; omega, rfl, rfl⟩⟩
    have BE : Hid (Below w.heap.size w (w1.alloc (.cells #[] 48))) := hideP (B1.out.alloc B1.out.size _)
    go_wp2
    go_ret
    exact ⟨⟨_, rfl, by rw [HE.out]; exact OE.out⟩, BE.out⟩
  | true =>
    obtain ⟨PB, L, ts, nv, B, ic, sv, g, m, c, rfl, hPB, hPO⟩ := hyes rfl
    have HPO := hideP hPO
    have hm : m ≤ 5001 := by
      have h1 := congrArg List.length hPO.tf
      rw [List.length_map, hPO.tl, List.length_cons] at h1
      have h2 := bl_len5 xs S
      omega
    have TN : Hid (∀ (x : Int) W, Below w1.heap.size w1 W → Calls Try.prog 19 #[.pointer (some ⟨PB, 0, none⟩), .int .i64 x] W fun e w' => FndP ts m x e ∧ Below W.heap.size W w') := hideP (fun x W hW => turnNumbered_any x ((World.cell?_of_block (a := ⟨PB, 26, none⟩) (hW.block PB hPO.par.lt)).trans hPO.par.c26) (ownG_below hPO.trn hW) hPO.tl hm (fun p q h1 h2 => ts_sorted hPO.tf p q h1 (by rw [hPO.tl]; exact h2)))
    have LC : Hid (∀ (i j : Nat) W, Below w1.heap.size w1 W → i < j → j < m → (ts.getD i Tn.none).1 = f → (ts.getD j Tn.none).1 = t → Calls Try.prog 20 #[.pointer (some ⟨PB, 0, none⟩), .int .i64 (i : Int), .int .i64 (j : Int)] W fun e w' => (∃ u, e = .returned u ∧ w'.ownsRow W.heap.size 48 15 u LN.length (flatN LN)) ∧ Below W.heap.size W w') := hideP (fun i j W hW hij hj hi ht => by
      have hlt : f < t := by
        have h1 := ts_sorted hPO.tf i j hij (by rw [hPO.tl]; exact hj)
        rw [hi, ht] at h1
        exact h1
      have hfm := ts_in hPO.tf hPO.tl (show i < m by omega) hi
      have htm := ts_in hPO.tf hPO.tl hj ht
      have hf1 : f = -1 ∨ f ∈ blL xs S := by simpa using hfm
      have hf0 : -1 ≤ f := by
        rcases hf1 with h | h
        · omega
        · obtain ⟨_, _, _, b2, rfl, _, _⟩ := bl_mem h
          omega
      have ht1 : t ∈ blL xs S := by
        rcases List.mem_cons.1 htm with h | h
        · omega
        · exact h
      have hE : LN = lineZ S (its L) (rowL xs S) (f + 1).toNat t.toNat := by
        rw [HLN.out]
        unfold lnL
        rw [if_pos ⟨hf1, ht1, hlt⟩]
        exact (lineZ_fst hPO.hd S (rowL xs S) _ _).symm
      rw [hE]
      have hPO2 : ParO xs S 0 W PB L ts nv B ic sv g m c := ⟨hPO.ok, hPO.lst, hPO.hd, hPO.ok3, hPO.few, hPO.par.keep (hW.block PB hPO.par.lt), ownG_mono (ownG_below hPO.nds hW) (Nat.zero_le _), ownG_mono (ownG_below hPO.itm hW) (Nat.zero_le _), hPO.tl, hPO.tf, ownG_mono (ownG_below hPO.trn hW) (Nat.zero_le _), fun t ht => (hPO.shw t ht).keep (KeepH.below hW)⟩
      exact line_any hPO2 i j hij hj hm _ _ (by omega) (by omega) (by omega))
    have HNO : Hid (f ∉ -1 :: blL xs S ∨ t ∉ -1 :: blL xs S ∨ ¬ f < t → LN = []) := hideP (fun h => by
      rw [HLN.out]
      unfold lnL
      rw [if_neg]
      rintro ⟨h1, h2, h3⟩
      rcases h with h | h | h
      · exact h (by simpa using h1)
      · exact h (List.mem_cons_of_mem _ h2)
      · exact h h3)
    clear hno hyes hPO hPB
    go_wp2_with fail
    refine (TN.out f w1 (Below.refl _ _)).mono ?_
    rintro e w2 ⟨⟨k1, ok1, rfl, hy1, hn1⟩, hb2⟩
    have B2 := hideP hb2
    have BW2 : Hid (Below w.heap.size w w2) := hideP (below_more B1.out hb2 B1.out.size)
    have HY1 := hideP hy1
    have HN1 := hideP hn1
    clear hb2 hy1 hn1
    go_wp2_with fail
    refine (TN.out t w2 B2.out).mono ?_
    rintro e w3 ⟨⟨k2, ok2, rfl, hy2, hn2⟩, hb3⟩
    have B3 : Hid (Below w1.heap.size w1 w3) := hideP (below_more B2.out hb3 B2.out.size)
    have BW3 : Hid (Below w.heap.size w w3) := hideP (below_more BW2.out hb3 BW2.out.size)
    have HY2 := hideP hy2
    have HN2 := hideP hn2
    clear hb3 hy2 hn2
    cases ok1 with
    | false =>
      have HE : Hid (LN = []) := hideP (HNO.out (.inl (ts_mem HPO.out.tf HPO.out.tl (HN1.out rfl))))
      have OE : Hid ((w3.alloc (.cells #[] 48)).ownsRow w.heap.size 48 15 (.slice (some ⟨w3.heap.size, 0, none⟩) 0 0) 0 []) := hideP ⟨rfl, .inr ⟨_, _, _, rfl, BW3.out.size, heap_alloc_new w3 _, Nat.le_refl _, by unfold maxLen; omega, rfl, rfl⟩⟩
      have BE : Hid (Below w.heap.size w (w3.alloc (.cells #[] 48))) := hideP (BW3.out.alloc BW3.out.size _)
      go_wp2
      go_ret
      exact ⟨⟨_, rfl, by rw [HE.out]; exact OE.out⟩, BE.out⟩
    | true =>
      cases ok2 with
      | false =>
        have HE : Hid (LN = []) := hideP (HNO.out (.inr (.inl (ts_mem HPO.out.tf HPO.out.tl (HN2.out rfl)))))
        have OE : Hid ((w3.alloc (.cells #[] 48)).ownsRow w.heap.size 48 15 (.slice (some ⟨w3.heap.size, 0, none⟩) 0 0) 0 []) := hideP ⟨rfl, .inr ⟨_, _, _, rfl, BW3.out.size, heap_alloc_new w3 _, Nat.le_refl _, by unfold maxLen; omega, rfl, rfl⟩⟩
        have BE : Hid (Below w.heap.size w (w3.alloc (.cells #[] 48))) := hideP (BW3.out.alloc BW3.out.size _)
        go_wp2
        go_ret
        exact ⟨⟨_, rfl, by rw [HE.out]; exact OE.out⟩, BE.out⟩
      | true =>
        by_cases hk : k1 < k2
        · have hki : ¬ (k1 : Int) ≥ (k2 : Int) := by omega
          have hkd : decide ((k2 : Int) ≤ (k1 : Int)) = false := decide_eq_false (by omega)
          have hkd2 : decide (k2 ≤ k1) = false := decide_eq_false (by omega)
          have LC2 := hideP (LC.out k1 k2 w3 B3.out hk (HY2.out rfl).1 (HY1.out rfl).2 (HY2.out rfl).2)
          go_wp2_with fail
          refine LC2.out.mono ?_
          rintro e w4 ⟨⟨u, rfl, hu⟩, hb4⟩
          have OU := hideP (ownG_mono hu BW3.out.size)
          have BU : Hid (Below w.heap.size w w4) := hideP (below_more BW3.out hb4 BW3.out.size)
          clear hu hb4
          go_wp2
          go_ret
          exact ⟨⟨_, rfl, OU.out⟩, BU.out⟩
        · have hki : (k1 : Int) ≥ (k2 : Int) := by omega
          have hkd : decide ((k2 : Int) ≤ (k1 : Int)) = true := decide_eq_true (by omega)
          have hkd2 : decide (k2 ≤ k1) = true := decide_eq_true (by omega)
          have HE : Hid (LN = []) := hideP (HNO.out (.inr (.inr (by
            have h1 := (HY1.out rfl).2
            have h2 := (HY2.out rfl).2
            by_cases hkk : k2 = k1
            · rw [hkk, h1] at h2; omega
            · have h3 := ts_sorted HPO.out.tf k2 k1 (by omega) (by rw [HPO.out.tl]; exact (HY1.out rfl).1)
              omega))))
          have OE : Hid ((w3.alloc (.cells #[] 48)).ownsRow w.heap.size 48 15 (.slice (some ⟨w3.heap.size, 0, none⟩) 0 0) 0 []) := hideP ⟨rfl, .inr ⟨_, _, _, rfl, BW3.out.size, heap_alloc_new w3 _, Nat.le_refl _, by unfold maxLen; omega, rfl, rfl⟩⟩
          have BE : Hid (Below w.heap.size w (w3.alloc (.cells #[] 48))) := hideP (BW3.out.alloc BW3.out.size _)
          go_wp2
          go_ret
          exact ⟨⟨_, rfl, by rw [HE.out]; exact OE.out⟩, BE.out⟩
end Go.Proofs.Ytdgfnceipginkaa
