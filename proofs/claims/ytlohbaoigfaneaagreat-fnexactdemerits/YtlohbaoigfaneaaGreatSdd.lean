import Derived.Test.YtlohbaoigfaneaaGreatLmp
import Derived.Test.YtlohbaoigfaneaaGreatSln
import Derived.Test.YtlohbaoigfaneaaGreatOld
import Derived.Test.YtlohbaoigfaneaaGreatIdq
namespace Go.Proofs.YtlohbaoigfaneaaGreat
open Go.RowKit
set_option linter.unusedVariables false
set_option linter.unusedSimpArgs false
theorem IntsL.row {w : World} {P : Nat} {zs : List Int} (h : IntsL w P 2 zs) (hl : zs.length = 4) : Row w (.slice (some ⟨P, 0, none⟩) 4 4) zs :=
 ⟨_, 4, 4, rfl, hl, fun _ => ⟨P, 0, rfl, h.lt, fun i hi => by rw [Nat.zero_add]; exact h.cell i (by omega)⟩⟩
theorem rows_line {xs : List Nd} {S : Sy} (h : listB xs = true) (hS : syB S = true) {a b : Nat} (hN : (rowI xs S).length ≤ 2003) (hb : b < (rowI xs S).length) (hab : a ≤ b) (w : World) {base : Nat} {u : Value} (hu : w.ownsRow base 61 15 u (lineZ S (rowI xs S) (rowL xs S) a b).length (flatN (lineZ S (rowI xs S) (rowL xs S) a b))) :
 Calls Tryz.prog 24 #[u] w fun e w' => (∃ P M, e = .returned (.agg #[.int .i64 ((linH S (rowI xs S) a b).getD 0 0), .slice (some ⟨P, 0, none⟩) 4 4, .slice (some ⟨M, 0, none⟩) 4 4]) ∧ IntsL w' P 2 (Shr.pl4 (linH S (rowI xs S) a b)) ∧ IntsL w' M 2 (Shr.mi4 (linH S (rowI xs S) a b))) ∧ Below w.heap.size w w' := by
 have hok := (line_ok h hS rfl hb hab).1
 have hlen := lineZ_len (S := S) (rowI xs S) h a b
 have hall : AllOk9 (lineZ S (rowI xs S) (rowL xs S) a b) := allOk9 (by omega) hok
 have hnd : ∀ i, i < (lineZ S (rowI xs S) (rowL xs S) a b).length → NdIn ((lineZ S (rowI xs S) (rowL xs S) a b).getD i Nd.none) := fun i hi => good_in (okL_good hok _ (getD_mem hi))
 have hr := rowTo_in _ hnd (starts (lineZ S (rowI xs S) (rowL xs S) a b) ((lineZ S (rowI xs S) (rowL xs S) a b).length + 1) 0) (fun p hp => starts_lt _ _ _ p hp)
 have hc := starts_count (xs := lineZ S (rowI xs S) (rowL xs S) a b) ((lineZ S (rowI xs S) (rowL xs S) a b).length + 1) 0
 have hn := hr.n
 have hw1 := hr.w1
 have hw2 := hr.w2
 have key := l9Measure_any (SRow.mono ndStable (own_NRow hu rfl) (Nat.zero_le _)) hall hnd _ rfl hr.ok
 rw [line_gsZ h hS rfl (by omega) hb hab _ rfl hr.ok (by omega) (by omega)] at key
 exact key
theorem kk_mem {K : List Int} {j : Nat} (h : j < K.length) : K.getD j 0 ∈ K := getD_mem h
set_option maxRecDepth 20000 in
set_option maxHeartbeats 16000000 in
theorem specDem_any {v u : Value} {xs : List Nd} {bs : List Int} {w : World} (S : Sy) (h : NRow 0 w v xs) (hs : xs.length ≤ 1048576) (hcp : ∀ a n c, v = .slice a n c → n ≤ c ∧ c ≤ 9223372036854775807) (hb : Row w u bs) (hbl : bs.length ≤ 1048576) :
 Calls Tryz.prog 7 #[v, syV S, u] w fun e w' => e = .returned (.tuple #[.int .i64 (demR S (rowI xs S) (blL xs S) bs).1, .bool (demR S (rowI xs S) (blL xs S) bs).2]) ∧ Below w.heap.size w w' := by
 have BC : Hid (∀ W, Below w.heap.size w W → Calls Tryz.prog 20 #[v, syV S] W fun e W' => (∃ r u, e = .returned (.tuple #[r, u]) ∧ W'.ownsRow W.heap.size 2 1 u (blL xs S).length ((blL xs S).map (Value.int .i64)) ∧ (blL xs S ≠ [] → listB xs = true ∧ Rws W.heap.size W' r (rowL xs S))) ∧ Below W.heap.size W W') := hideP (fun W hW => specBreaks_any S (SRow.below ndStable h hW) hs hcp)
 obtain ⟨cs, hcs, hsz, hget⟩ := sy_cells S
 have PC : Hid (∀ (y : Nd) X, Calls Tryz.prog 22 #[.agg y.cells.toArray, .agg cs] X fun e w' => e = .returned (.int .i64 (prcI S.hy y)) ∧ Below X.heap.size X w') := hideP (fun y X => by rw [← hcs]; exact l9Price_any S y X)
 have TC : Hid (∀ (k : Nat) X, Calls Tryz.prog 26 #[.agg cs, .int .i64 (k : Int)] X fun e w' => e = .returned (.int .i64 (tgtI S (k : Int))) ∧ Below X.heap.size X w') := hideP (fun k X => by rw [← hcs]; exact l9Target_any S k X)
 have HCS := hideP hcs
 rw [hcs] at BC ⊢
 obtain ⟨va, vn, vc, rfl, _⟩ := h
 obtain ⟨R, hR⟩ : ∃ R, R = demR S (rowI xs S) (blL xs S) bs := ⟨_, rfl⟩
 rw [← hR]
 obtain ⟨K, hK⟩ : ∃ K, K = blL xs S := ⟨_, rfl⟩
 obtain ⟨Y, hY⟩ : ∃ Y, Y = rowI xs S := ⟨_, rfl⟩
 rw [← hK] at BC
 have HRY : Hid (R = demR S Y K bs) := hideP (by rw [hR, hY, hK])
 have HK := hideP hK
 have HY := hideP hY
 have hK5 : K.length ≤ 5000 := by rw [hK]; exact bl_len5 xs S
 obtain ⟨nk, hnk⟩ : ∃ n, n = K.length := ⟨_, rfl⟩
 rw [← hnk] at BC hK5
 have HNK := hideP hnk
 obtain ⟨ua, n, uc, rfl, hun, hur⟩ := hb
 have UR : Hid (0 < n → ∃ b off, ua = some ⟨b, off, none⟩ ∧ b < w.heap.size ∧ ∀ i, i < n → w.cell? ⟨b, off + i, none⟩ = some (.int .i64 (bs.getD i 0))) := hideP hur
 have UN := hideP hun
 have hn : n ≤ 1048576 := by omega
 have KP : Hid ((-1 :: K).Pairwise (· < ·)) := hideP (by rw [hK]; exact bl_sorted xs S)
 clear hcs hs hcp hR hK hY hnk hun hur hbl hget
 have hG0 := heap_alloc_new w (.cells cs 35)
 have B0 := hideP (below1 w (.cells cs 35))
 have hz0 : w.heap.size < (w.alloc (.cells cs 35)).heap.size := by simp
 go_enter Tryz.func7, Tryz.ntmps7
 go_upto_region 1 with fail
 generalize World.alloc _ _ = W0 at B0 hG0 hz0 ⊢
 have HG0 := hideP hG0
 go_wp2_with (refine wpList_load_row rfl 35 _ rfl w.heap.size rfl cs 35 (0, 0) hG0 _ Tryz.underlying35 rfl (by rw [hsz]; kernel_rfl) ?_)
 refine (BC.out W0 B0.out).mono ?_
 rintro e w1 ⟨⟨r, uu, rfl, hu, hRW⟩, hb1⟩
 have B1 : Hid (Below w.heap.size w w1) := hideP (below_more B0.out hb1 B0.out.size)
 have G1 : Hid (w1.heap[w.heap.size]? = some (.cells cs 35 (0, 0))) := hideP ((hb1.block _ hz0).trans hG0)
 have U1 := hideP hu
 have hzw : w.heap.size < w1.heap.size := Nat.lt_of_lt_of_le hz0 hb1.size
 have HRW := hideP hRW
 obtain ⟨ka, kc, rfl⟩ := ownG_shape hu
 clear hb1 hG0 BC hu hRW hz0
 have IN : Hid (∀ X, Below w1.heap.size w1 X → ∀ x : Int, Calls Tryz.prog 21 #[.slice ka nk kc, .int .i64 x] X fun e w' => e = .returned (.bool (decide (x ∈ K))) ∧ w' = X) := hideP (fun X hX x => by
  have h1 := own1_below U1.out hX
  rw [HNK.out] at h1 ⊢
  exact l9In_any x h1 (by rw [← HNK.out]; exact hK5))
 obtain ⟨T, hT⟩ : ∃ T, T = decide (nk = 0 ∨ n = 0 ∨ nk < n ∨ bs.getD (n - 1) 0 ≠ K.getD (nk - 1) 0) := ⟨_, rfl⟩
 have HT := hideP hT
 clear hT
 have UL : Hid (0 < n → ∃ b off, ua = some ⟨b, off, none⟩ ∧ b < w1.heap.size ∧ ∀ X, Below w1.heap.size w1 X → ∀ i, i < n → X.cell? ⟨b, off + i, none⟩ = some (.int .i64 (bs.getD i 0))) := hideP (fun h0 => by
  obtain ⟨b, off, e1, e2, e3⟩ := UR.out h0
  exact ⟨b, off, e1, Nat.lt_of_lt_of_le e2 B1.out.size, fun X hX i hi => ((below_more B1.out hX B1.out.size).cell (p := ⟨b, off + i, none⟩) e2).trans (e3 i hi)⟩)
 have KL : Hid (0 < nk → ∃ g, ka = some ⟨g, 0, none⟩ ∧ g < w1.heap.size ∧ ∀ X, Below w1.heap.size w1 X → ∀ i, i < nk → X.cell? ⟨g, i, none⟩ = some (.int .i64 (K.getD i 0))) := hideP (fun h0 => by
  obtain ⟨g, e1, e2⟩ := ints_cell U1.out HNK.out 0 h0
  subst e1
  refine ⟨g, rfl, World.block_lt_of_cell? w1 _ e2, fun X hX i hi => ?_⟩
  obtain ⟨g2, e3, e4⟩ := ints_cell (own1_below U1.out hX) HNK.out i hi
  cases e3
  exact e4)
 go_upto_region 2 with fail
 go_cut [52] (fun s52 wc => s52 = .bool T ∧ wc = w1.drew)
 case first =>
  by_cases h1 : nk = 0
  ·subst h1
   have HE : Hid (true = T) := hideP (by rw [HT.out]; simp)
   go_region
   go_wp2_with fail
   go_meet
   case rel => exact ⟨by rw [HE.out], rfl⟩
  ·have h1a : ¬ (nk : Int) = 0 := by omega
   have h1b : ((nk : Int) == 0) = false := by simpa using h1
   have h1c : (nk == 0) = false := by simpa using h1
   by_cases h2 : n = 0
   ·subst h2
    have HE : Hid (true = T) := hideP (by rw [HT.out]; simp)
    go_region
    go_wp2_with fail
    go_meet
    case rel => exact ⟨by rw [HE.out], rfl⟩
   ·have h2a : ¬ (n : Int) = 0 := by omega
    have h2b : ((n : Int) == 0) = false := by simpa using h2
    have h2c : (n == 0) = false := by simpa using h2
    by_cases h3 : nk < n
    ·have h3a : (nk : Int) < (n : Int) := by omega
     have HE : Hid (true = T) := hideP (by rw [HT.out]; simp [h3])
     go_region
     go_wp2_with fail
     go_meet
     case rel => exact ⟨by rw [HE.out], rfl⟩
    ·have h3a : ¬ (nk : Int) < (n : Int) := by omega
     have h3b : decide ((nk : Int) < (n : Int)) = false := decide_eq_false h3a
     have h3c : decide (nk < n) = false := decide_eq_false h3
     obtain ⟨b, off, rfl, hb, hc⟩ := UL.out (by omega)
     obtain ⟨kg, rfl, hkg, hkc⟩ := KL.out (by omega)
     obtain ⟨n1, hn1⟩ : ∃ m, m = n - 1 := ⟨_, rfl⟩
     obtain ⟨k1, hk1⟩ : ∃ m, m = nk - 1 := ⟨_, rfl⟩
     have w1a : IntKind.i64.wrap ((n : Int) - 1) = (n1 : Int) := by rw [IntKind.wrap_i64]; omega
     have w1b : IntKind.i64.wrap ((nk : Int) - 1) = (k1 : Int) := by rw [IntKind.wrap_i64]; omega
     have hn1n : (n1 : Int) < (n : Int) := by omega
     have hk1n : (k1 : Int) < (nk : Int) := by omega
     have d0 := hc w1.drew (Below.drew (Below.refl _ _)) n1 (by omega)
     have d1 := hkc w1.drew (Below.drew (Below.refl _ _)) k1 (by omega)
     have d2 := hc w1 (Below.refl _ _) n1 (by omega)
     have d3 := hkc w1 (Below.refl _ _) k1 (by omega)
     obtain ⟨y1, hy1⟩ : ∃ y, y = bs.getD n1 0 := ⟨_, rfl⟩
     obtain ⟨y2, hy2⟩ : ∃ y, y = K.getD k1 0 := ⟨_, rfl⟩
     rw [← hy1] at d0 d2
     rw [← hy2] at d1 d3
     have HE : Hid ((y1 != y2) = T) := hideP (by
      rw [HT.out, hy1, hy2, hn1, hk1]
      by_cases h9 : bs.getD (n - 1) 0 = K.getD (nk - 1) 0
      ·rw [show (bs.getD (n - 1) 0 != K.getD (nk - 1) 0) = false from (bne_eq_false_iff_eq ..).2 h9]
       exact (decide_eq_false (fun q => q.elim h1 (fun q => q.elim h2 (fun q => q.elim h3 (fun q => q h9))))).symm
      ·rw [show (bs.getD (n - 1) 0 != K.getD (nk - 1) 0) = true from (bne_iff_ne ..).2 h9]
       exact (decide_eq_true (.inr (.inr (.inr h9)))).symm)
     clear hy1 hy2 hn1 hk1 hc hkc
     by_cases h4 : y1 = y2
     ·have h4b : (y1 != y2) = false := by simp [h4]
      have h4c : (y1 == y2) = true := by simp [h4]
      rw [h4b] at HE
      subst h4
      go_region
      go_wp2_with fail
      go_meet
      case rel => exact ⟨by rw [HE.out], rfl⟩
     ·have h4b : (y1 != y2) = true := by simpa using h4
      have h4c : (y1 == y2) = false := by simpa using h4
      rw [h4b] at HE
      go_region
      go_wp2_with fail
      go_meet
      case rel => exact ⟨by rw [HE.out], rfl⟩
 case rest =>
  obtain ⟨rfl, rfl⟩ := hcut
  cases T with
  | true =>
   have HE : Hid (R = (0, false)) := hideP (by
    rw [HRY.out]
    have h1 := of_decide_eq_true HT.out.symm
    refine demR_pre KP.out ?_
    rcases h1 with h1 | h1 | h1 | h1
    ·exact .inl (List.eq_nil_of_length_eq_zero (by rw [← HNK.out]; exact h1))
    ·exact .inr (.inl (List.eq_nil_of_length_eq_zero (by rw [UN.out]; exact h1)))
    ·exact .inr (.inr (.inl (by rw [← HNK.out, UN.out]; exact h1)))
    ·exact .inr (.inr (.inr (by rw [← HNK.out, UN.out]; exact h1))))
   go_wp2
   go_ret2
   exact ⟨by rw [HE.out]; rfl, Below.drew B1.out⟩
  | false =>
   have hT4 := of_decide_eq_false HT.out.symm
   have hnk0 : 0 < nk := by
    have : ¬ nk = 0 := fun q => hT4 (.inl q)
    omega
   have hn0 : 0 < n := by
    have : ¬ n = 0 := fun q => hT4 (.inr (.inl q))
    omega
   have hnnk : n ≤ nk := by
    have : ¬ nk < n := fun q => hT4 (.inr (.inr (.inl q)))
    omega
   have HLE : Hid (bs.getD (n - 1) 0 = K.getD (nk - 1) 0) := hideP (Decidable.not_not.1 (fun q => hT4 (.inr (.inr (.inr q)))))
   clear hT4 HT
   have hKne : K ≠ [] := List.length_pos_iff.1 (by rw [← HNK.out]; exact hnk0)
   have hlB : listB xs = true := (HRW.out hKne).1
   have hRw := (HRW.out hKne).2
   have hcond : syB S = true ∧ (its xs).length ≤ 2000 := by
    have hm := kk_mem (K := K) (j := 0) (by rw [← HNK.out]; exact hnk0)
    rw [HK.out] at hm
    exact ⟨(bl_mem hm).2.1, (bl_mem hm).2.2.1⟩
   obtain ⟨hsY, hits⟩ := hcond
   obtain ⟨N, hN⟩ : ∃ N, N = Y.length := ⟨_, rfl⟩
   have hN3 : N ≤ 2003 := by rw [hN, HY.out]; exact rowI_few hits
   have KM : Hid (∀ x : Int, x ∈ K → ∃ b : Nat, x = (b : Int) ∧ b < N) := hideP (fun x hx => by
    rw [HK.out] at hx
    obtain ⟨_, _, _, b, e, hb, _⟩ := bl_mem hx
    exact ⟨b, e, by rw [hN, HY.out]; exact hb⟩)
   have HD1 : Heads W0.heap.size w1 r Y := by rw [HY.out]; exact heads_row hlB hRw
   have HDX : Hid (∀ X, Below w1.heap.size w1 X → Heads W0.heap.size X r Y) := hideP (fun X hX => HD1.abv ⟨hX.size, fun b _ hb => hX.block b hb⟩)
   have RWX : Hid (∀ X, Below w1.heap.size w1 X → Rws W0.heap.size X r (rowL xs S)) := hideP (fun X hX => hRw.abv ⟨hX.size, fun b _ hb => hX.block b hb⟩)
   obtain ⟨rb, ro, rc, rb2, ro2, rn2, rc2, hr9, -⟩ := heads_at HD1 hN.symm (show 0 < N by rw [hN, HY.out]; unfold rowI; simp)
   subst hr9
   have LC : Hid (∀ X, Below w1.heap.size w1 X → ∀ (a b : Nat) (f : Int), f + 1 = (a : Int) → a ≤ b → b < N → Calls Tryz.prog 25 #[.slice (some ⟨rb, ro, none⟩) N rc, .agg cs, .int .i64 f, .int .i64 (b : Int)] X fun e w' => (∃ u, e = .returned u ∧ w'.ownsRow X.heap.size 61 15 u (lineZ S (rowI xs S) (rowL xs S) a b).length (flatN (lineZ S (rowI xs S) (rowL xs S) a b))) ∧ Below X.heap.size X w') := hideP (fun X hX a b f hf hab hb => by
    rw [← HCS.out]
    have h8 := HDX.out X hX
    rw [HY.out] at h8
    exact l9Line_any S a b f hf (RWX.out X hX) h8 rfl (rowI_len S hlB) (fun i hi => row_item S hlB hi) (fun i => row_seg hlB i) (by rw [← HY.out, ← hN]; exact hN3) hab (by rw [← HY.out, ← hN]; exact hb))
   have MC : Hid (∀ X (base : Nat) (u : Value) (a b : Nat), a ≤ b → b < N → X.ownsRow base 61 15 u (lineZ S (rowI xs S) (rowL xs S) a b).length (flatN (lineZ S (rowI xs S) (rowL xs S) a b)) → Calls Tryz.prog 24 #[u] X fun e w' => (∃ P M, e = .returned (.agg #[.int .i64 ((linH S Y a b).getD 0 0), .slice (some ⟨P, 0, none⟩) 4 4, .slice (some ⟨M, 0, none⟩) 4 4]) ∧ IntsL w' P 2 (Shr.pl4 (linH S Y a b)) ∧ IntsL w' M 2 (Shr.mi4 (linH S Y a b))) ∧ Below X.heap.size X w') := hideP (fun X base u a b hab hb hu => by
    rw [HY.out]
    exact rows_line hlB hsY (by rw [← HY.out, ← hN]; exact hN3) (by rw [← HY.out, ← hN]; exact hb) hab X hu)
   have BD : Hid (∀ X (a b k P M : Nat), a ≤ b → b < N → IntsL X P 2 (Shr.pl4 (linH S Y a b)) → IntsL X M 2 (Shr.mi4 (linH S Y a b)) → Calls Tryz.prog 23 #[.agg #[.int .i64 ((linH S Y a b).getD 0 0), .slice (some ⟨P, 0, none⟩) 4 4, .slice (some ⟨M, 0, none⟩) 4 4], .int .i64 (tgtI S (k : Int))] X fun e w' => e = .returned (.tuple #[.int .i64 (fB (linH S Y a b) (tgtI S (k : Int))), .int .i64 (fC (linH S Y a b) (tgtI S (k : Int)))]) ∧ Below X.heap.size X w') := hideP (fun X a b k P M hab hb hP hM => by
    have ht : 0 ≤ tgtI S (k : Int) ∧ tgtI S (k : Int) ≤ 1073741823 := by
     obtain ⟨s1, s2, _⟩ := sy_wd hsY
     unfold tgtI
     split <;> omega
    have hv := row_vin (ys := Y) hlB hsY (by rw [HY.out])
    have hm := mea_in (ys := Y) (N := N) hsY (fun i hi => hv i (by rw [← hN]; exact hi)) (by omega) hb hab _ ht
    obtain ⟨m1, m2, m3, m4, m5⟩ := hm
    have h0 := linX_in (ys := Y) (N := N) hsY (fun i hi => hv i (by rw [← hN]; exact hi)) (by omega) hb hab 0
    rw [← linH_get (ys := Y) (N := N) hsY (fun i hi => hv i (by rw [← hN]; exact hi)) (by omega) hb hab 0 (by omega)] at h0
    exact Shr.l9Bad_any _ _ _ _ _ _ _ (hP.row rfl) (hM.row rfl) rfl rfl rfl (by omega) ht (by omega) (by omega))
   have NX : Hid (∀ X (bv : Value) (L : List Int) (lo : Nat) (f : Int) (t : Nat) (dm cw bd cl : Int), Below w1.heap.size w1 X → f < (N : Int) → t < N → L.length ≤ 5000 → X.ownsRow lo 2 1 bv L.length (L.map (Value.int .i64)) → Calls Tryz.prog 27 #[.slice (some ⟨rb, ro, none⟩) N rc, .agg cs, .agg #[bv, .int .i64 dm, .int .i64 cw], .int .i64 f, .int .i64 (t : Int), .int .i64 bd, .int .i64 cl] X fun e w' => (∃ bv', e = .returned (.agg #[bv', .int .i64 (wrap64 (dm + demI S bd (prT S Y (t : Int)) (hyI Y f && hyI Y (t : Int)) cl cw)), .int .i64 cl]) ∧ w'.ownsRow X.heap.size 2 1 bv' (L.length + 1) ((L ++ [(t : Int)]).map (Value.int .i64))) ∧ Below X.heap.size X w') := hideP (fun X bv L lo f t dm cw bd cl hX hf ht hL hb => by
    rw [← HCS.out]
    exact l9Next_any S (HDX.out X hX) hN.symm (by omega) f t hf ht L hb hL dm cw bd cl)
   obtain ⟨kg, rfl, hkg, hkc⟩ := KL.out hnk0
   have OFX : Hid (∀ X, Below w1.heap.size w1 X → X.heap[w.heap.size]? = some (.cells cs 35 (0, 0)) ∧ (∀ i, i < nk → X.cell? ⟨kg, i, none⟩ = some (.int .i64 (K.getD i 0)))) := hideP (fun X hX => ⟨(hX.block _ hzw).trans G1.out, hkc X hX⟩)
   have HN := hideP hN
   clear KL hkc HRW hRw hits hN
   obtain ⟨ub, uo, rfl, hub, hbc⟩ := UL.out hn0
   have UX := hideP hbc
   clear hbc UL UR
   go_upto_region 5 with fail
   obtain ⟨WB, hWB⟩ : ∃ A, A = w1.heap.size := ⟨_, rfl⟩
   obtain ⟨w2, hw2⟩ : ∃ X, X = (w1.alloc (.cells #[.slice none 0 0, .int .i64 0, .int .i64 2] 57)).drew := ⟨_, rfl⟩
   have B2 : Hid (Below w1.heap.size w1 w2) := hideP (by rw [hw2]; exact Below.drew (below1 w1 _))
   have A2 : Hid (w2.heap[WB]? = some (.cells #[.slice none 0 0, .int .i64 0, .int .i64 2] 57 (0, 0))) := hideP (by rw [hw2, hWB]; exact heap_alloc_new w1 _)
   have hWB1 : w1.heap.size ≤ WB := by rw [hWB]; exact Nat.le_refl _
   rw [← hw2, ← hWB]
   have HWB := hideP hWB
   clear hw2 hWB
   go_wp2_with fail
   go_loopw [11, 12] (fun s11 s12 wr => ∃ (k : Nat) (f cw dm : Int) (bv : Value), k ≤ n ∧ s12 = .int .i64 (k : Int) ∧ s11 = .int .i64 f ∧ (-1 ≤ f ∧ f < (N : Int)) ∧ Hid (demL S Y K bs (-1) 0 2 0 = demL S Y K (bs.drop k) f k cw dm) ∧ Hid (wr.heap[WB]? = some (.cells #[bv, .int .i64 dm, .int .i64 cw] 57 (0, 0))) ∧ Hid (wr.ownsRow w1.heap.size 2 1 bv k ((bs.take k).map (Value.int .i64))) ∧ Hid (Below w1.heap.size w1 wr)) (fun _ s12 _ => n - (intOf s12).toNat)
   case atStart => exact ⟨0, -1, 2, 0, .slice none 0 0, by omega, rfl, rfl, ⟨by omega, by omega⟩, hideP rfl, A2, hideP ⟨rfl, .inl ⟨rfl, rfl⟩⟩, B2⟩
   case round =>
    obtain ⟨k, f, cw, dm, bv, hk, rfl, rfl, ⟨hf1, hf2⟩, HD, HA, HO, HB⟩ := hrel
    by_cases hkn : k < n
    ·have hki : (k : Int) < (n : Int) := by omega
     obtain ⟨x, hx⟩ : ∃ x, x = bs.getD k 0 := ⟨_, rfl⟩
     have hcell : wr.cell? ⟨ub, uo + k, none⟩ = some (.int .i64 x) := by rw [hx]; exact UX.out wr HB.out k hkn
     have hubr : ub < wr.heap.size := Nat.lt_of_lt_of_le hub HB.out.size
     have HDK : Hid (bs.drop k = x :: bs.drop (k + 1)) := hideP (by rw [hx]; exact drop_get (by rw [UN.out]; exact hkn))
     have HTK : Hid (bs.take (k + 1) = bs.take k ++ [x]) := hideP (by rw [hx]; exact take_snoc bs k 0 (by rw [UN.out]; exact hkn))
     clear hx
     go_upto_region 10 with fail
     by_cases hxf : x ≤ f
     ·have HE : Hid (R = (0, false)) := hideP (by rw [HRY.out, demR_none (by rw [HD.out, HDK.out]; exact demL_no (by by_cases q : okI S Y K f x = true; exact absurd (okI_iff.1 q).1 (by omega); simpa using q))])
      clear HD HDK HTK HA HO
      have BW := below_more B1.out HB.out B1.out.size
      have BWH := hideP BW
      clear BW
      go_wp2
      go_ret2
      exact ⟨by rw [HE.out]; rfl, BWH.out⟩
     ·have hxf2 : ¬ x ≤ f := hxf
      have hxfb : decide (x ≤ f) = false := decide_eq_false hxf
      go_wp2_with fail
      refine (IN.out wr HB.out x).mono ?_
      rintro e w3 ⟨rfl, hw3⟩
      have hw3' := hw3.symm
      subst hw3'
      by_cases hxm : x ∈ K
      ·have hxmb : decide (x ∈ K) = true := decide_eq_true hxm
       rw [hxmb]
       clear hxmb
       obtain ⟨b, rfl, hbN⟩ := KM.out x hxm
       have HXM := hideP hxm
       obtain ⟨a, ha⟩ : ∃ a : Nat, f + 1 = (a : Int) := ⟨(f + 1).toNat, by omega⟩
       have hab : a ≤ b := by omega
       have hfa := ha
       have HFA := hideP ha
       clear ha hcell hxm
       obtain ⟨wo, rfl⟩ : ∃ X, X = wr := ⟨_, rfl⟩
       have WO : Hid (∀ X, Below wo.heap.size wo X → Below w1.heap.size w1 X) := hideP (fun X hX => below_more HB.out hX HB.out.size)
       have HBR := hideP hxf
       go_wp2_with fail
       go_loopw [14] (fun s14 wr2 => ∃ j : Nat, j ≤ nk ∧ s14 = .int .i64 (j : Int) ∧ Hid (∀ i, i < j → f < K.getD i 0 → K.getD i 0 < (b : Int) → prT S Y (K.getD i 0) ≠ -10000) ∧ Hid (Below wo.heap.size wo wr2)) (fun s14 _ => nk - (intOf s14).toNat)
       case atStart => exact ⟨0, by omega, rfl, hideP (fun i hi => by omega), hideP (Below.refl _ _)⟩
       case round =>
        obtain ⟨j, hj, rfl, HQ, HBB⟩ := hrel
        obtain ⟨wr2, rfl⟩ : ∃ X, X = wr := ⟨_, rfl⟩
        by_cases hjk : j < nk
        ·have hji : (j : Int) < (nk : Int) := by omega
         obtain ⟨kj, hkj, hkjN⟩ := KM.out _ (kk_mem (K := K) (j := j) (by rw [← HNK.out]; exact hjk))
         have HKJ := hideP hkj
         have hq0 := (OFX.out wr2 (WO.out wr2 HBB.out)).2 j hjk
         rw [hkj] at hq0
         have hq1 : wr2.drew.cell? ⟨kg, j, none⟩ = some (.int .i64 (kj : Int)) := hq0
         have hkgl : kg < wr2.heap.size := World.block_lt_of_cell? wr2 _ hq0
         obtain ⟨y, hy⟩ : ∃ y, y = (Y.getD kj It.none).1 := ⟨_, rfl⟩
         have HPJ : Hid (prT S Y (kj : Int) = prcI S.hy y) := hideP (by unfold prT; rw [Int.toNat_natCast, hy])
         obtain ⟨b3, o3, c3, b2, off2, n2, cap2, e9, hb3, hc3, hn2, hb2, hr3⟩ := heads_at (HDX.out wo HB.out) HN.out.symm hkjN
         simp only [Value.slice.injEq, Option.some.injEq, Addr.mk.injEq, true_and, and_true] at e9
         obtain ⟨⟨rfl, rfl⟩, rfl⟩ := e9
         rw [← hy] at hr3
         have HRX : Hid (∀ X, Below wo.heap.size wo X → X.cell? ⟨rb, ro + kj, none⟩ = some (.slice (some ⟨b2, off2, none⟩) n2 cap2) ∧ X.rangeAt b2 off2 y.cells) := hideP (fun X hX => ⟨(hX.cell (p := ⟨rb, ro + kj, none⟩) hb3).trans hc3, fun i z hz => (hX.cell (p := ⟨b2, off2 + i, none⟩) hb2).trans (hr3 i z hz)⟩)
         obtain ⟨pe, hpe⟩ : ∃ p, p = (prcI S.hy y == -10000) := ⟨_, rfl⟩
         have HPE : Hid ((prcI S.hy y == -10000) = pe) := hideP hpe.symm
         have hkji : (kj : Int) < (N : Int) := by omega
         have hn2i : (0 : Int) < (n2 : Int) := by omega
         clear hkj hy hc3 hr3 hb3 hb2 hpe
         go_upto_region 15 with fail
         go_cut [106] (fun s106 wc => s106 = .bool (decide (f < (kj : Int)) && decide ((kj : Int) < (b : Int)) && pe) ∧ Hid (Below wo.heap.size wo wc))
         case first =>
          by_cases g1 : f < (kj : Int)
          ·have g1b : (kj : Int) > f := g1
           have g1c : decide (f < (kj : Int)) = true := decide_eq_true g1
           by_cases g2 : (kj : Int) < (b : Int)
           ·have g2b : kj < b := by omega
            have g2c : decide ((kj : Int) < (b : Int)) = true := decide_eq_true g2
            have g2d : decide (kj < b) = true := decide_eq_true g2b
            have HE : Hid (pe = (decide (f < (kj : Int)) && decide ((kj : Int) < (b : Int)) && pe)) := hideP (by rw [g1c, g2c]; rfl)
            clear hq0 hq1
            refine wp_noPanic ?_
            refine wp_region_held_drew (S := fun X => Below wo.heap.size wo X) (by kernel_rfl) (Below.drew HBB.out) (fun hS => ?_)
            obtain ⟨v0, hv0⟩ : ∃ X, X = wr2.drew := ⟨_, rfl⟩
            rw [← hv0] at hS ⊢
            clear hv0
            refine tkS (i := 0) (v := .slice (some ⟨kg, 0, none⟩) nk kc) rfl hS ?_
            try simp only [Act.put, List.getElem_toArray, List.getElem_cons_zero, List.getElem_cons_succ, List.setIfInBounds_toArray, List.set_cons_zero, List.set_cons_succ]
            refine tkS (i := 1) (v := .int .i64 (j : Int)) rfl hS ?_
            try simp only [Act.put, List.getElem_toArray, List.getElem_cons_zero, List.getElem_cons_succ, List.setIfInBounds_toArray, List.set_cons_zero, List.set_cons_succ]
            refine tkS (i := 2) (v := .pointer (some ⟨kg, j, none⟩)) rfl hS ?_
            try simp only [Act.put, List.getElem_toArray, List.getElem_cons_zero, List.getElem_cons_succ, List.setIfInBounds_toArray, List.set_cons_zero, List.set_cons_succ]
            refine tkS (i := 3) (v := .int .i64 (kj : Int)) rfl hS ?_ (hr := fun wx hx => by have hq := (OFX.out wx (WO.out wx hx)).2 j hjk; rw [HKJ.out] at hq; go_simp)
            try simp only [Act.put, List.getElem_toArray, List.getElem_cons_zero, List.getElem_cons_succ, List.setIfInBounds_toArray, List.set_cons_zero, List.set_cons_succ]
            refine tkS (i := 4) (v := .int .i64 f) rfl hS ?_
            try simp only [Act.put, List.getElem_toArray, List.getElem_cons_zero, List.getElem_cons_succ, List.setIfInBounds_toArray, List.set_cons_zero, List.set_cons_succ]
            refine tkS (i := 5) (v := .bool true) rfl hS ?_
            try simp only [Act.put, List.getElem_toArray, List.getElem_cons_zero, List.getElem_cons_succ, List.setIfInBounds_toArray, List.set_cons_zero, List.set_cons_succ]
            refine tkS (i := 6) (v := .bool true) rfl hS ?_
            try simp only [Act.put, List.getElem_toArray, List.getElem_cons_zero, List.getElem_cons_succ, List.setIfInBounds_toArray, List.set_cons_zero, List.set_cons_succ]
            refine tkS (i := 7) (v := .slice (some ⟨kg, 0, none⟩) nk kc) rfl hS ?_
            try simp only [Act.put, List.getElem_toArray, List.getElem_cons_zero, List.getElem_cons_succ, List.setIfInBounds_toArray, List.set_cons_zero, List.set_cons_succ]
            refine tkS (i := 8) (v := .int .i64 (j : Int)) rfl hS ?_
            try simp only [Act.put, List.getElem_toArray, List.getElem_cons_zero, List.getElem_cons_succ, List.setIfInBounds_toArray, List.set_cons_zero, List.set_cons_succ]
            refine tkS (i := 9) (v := .pointer (some ⟨kg, j, none⟩)) rfl hS ?_
            try simp only [Act.put, List.getElem_toArray, List.getElem_cons_zero, List.getElem_cons_succ, List.setIfInBounds_toArray, List.set_cons_zero, List.set_cons_succ]
            refine tkS (i := 10) (v := .int .i64 (kj : Int)) rfl hS ?_ (hr := fun wx hx => by have hq := (OFX.out wx (WO.out wx hx)).2 j hjk; rw [HKJ.out] at hq; go_simp)
            try simp only [Act.put, List.getElem_toArray, List.getElem_cons_zero, List.getElem_cons_succ, List.setIfInBounds_toArray, List.set_cons_zero, List.set_cons_succ]
            refine tkS (i := 11) (v := .int .i64 (b : Int)) rfl hS ?_
            try simp only [Act.put, List.getElem_toArray, List.getElem_cons_zero, List.getElem_cons_succ, List.setIfInBounds_toArray, List.set_cons_zero, List.set_cons_succ]
            refine tkS (i := 12) (v := .bool true) rfl hS ?_
            try simp only [Act.put, List.getElem_toArray, List.getElem_cons_zero, List.getElem_cons_succ, List.setIfInBounds_toArray, List.set_cons_zero, List.set_cons_succ]
            refine tkS (i := 13) (v := .bool true) rfl hS ?_
            try simp only [Act.put, List.getElem_toArray, List.getElem_cons_zero, List.getElem_cons_succ, List.setIfInBounds_toArray, List.set_cons_zero, List.set_cons_succ]
            refine tkS (i := 14) (v := .bool true) rfl hS ?_
            try simp only [Act.put, List.getElem_toArray, List.getElem_cons_zero, List.getElem_cons_succ, List.setIfInBounds_toArray, List.set_cons_zero, List.set_cons_succ]
            refine tkS (i := 15) (v := .slice (some ⟨rb, ro, none⟩) N rc) rfl hS ?_
            try simp only [Act.put, List.getElem_toArray, List.getElem_cons_zero, List.getElem_cons_succ, List.setIfInBounds_toArray, List.set_cons_zero, List.set_cons_succ]
            refine tkS (i := 16) (v := .slice (some ⟨kg, 0, none⟩) nk kc) rfl hS ?_
            try simp only [Act.put, List.getElem_toArray, List.getElem_cons_zero, List.getElem_cons_succ, List.setIfInBounds_toArray, List.set_cons_zero, List.set_cons_succ]
            refine tkS (i := 17) (v := .int .i64 (j : Int)) rfl hS ?_
            try simp only [Act.put, List.getElem_toArray, List.getElem_cons_zero, List.getElem_cons_succ, List.setIfInBounds_toArray, List.set_cons_zero, List.set_cons_succ]
            refine tkS (i := 18) (v := .pointer (some ⟨kg, j, none⟩)) rfl hS ?_
            try simp only [Act.put, List.getElem_toArray, List.getElem_cons_zero, List.getElem_cons_succ, List.setIfInBounds_toArray, List.set_cons_zero, List.set_cons_succ]
            refine tkS (i := 19) (v := .int .i64 (kj : Int)) rfl hS ?_ (hr := fun wx hx => by have hq := (OFX.out wx (WO.out wx hx)).2 j hjk; rw [HKJ.out] at hq; go_simp)
            try simp only [Act.put, List.getElem_toArray, List.getElem_cons_zero, List.getElem_cons_succ, List.setIfInBounds_toArray, List.set_cons_zero, List.set_cons_succ]
            refine tkS (i := 20) (v := .pointer (some ⟨rb, ro + kj, none⟩)) rfl hS ?_
            try simp only [Act.put, List.getElem_toArray, List.getElem_cons_zero, List.getElem_cons_succ, List.setIfInBounds_toArray, List.set_cons_zero, List.set_cons_succ]
            refine tkS (i := 21) (v := .slice (some ⟨b2, off2, none⟩) n2 cap2) rfl hS ?_ (hr := fun wx hx => by have hq := (HRX.out wx hx).1; go_simp)
            try simp only [Act.put, List.getElem_toArray, List.getElem_cons_zero, List.getElem_cons_succ, List.setIfInBounds_toArray, List.set_cons_zero, List.set_cons_succ]
            refine tkS (i := 22) (v := .pointer (some ⟨b2, off2, none⟩)) rfl hS ?_
            try simp only [Act.put, List.getElem_toArray, List.getElem_cons_zero, List.getElem_cons_succ, List.setIfInBounds_toArray, List.set_cons_zero, List.set_cons_succ]
            refine tkS (i := 23) (v := .agg y.cells.toArray) rfl hS ?_ (hr := fun wx hx => load_nd rfl rfl wx (HRX.out wx hx).2)
            try simp only [Act.put, List.getElem_toArray, List.getElem_cons_zero, List.getElem_cons_succ, List.setIfInBounds_toArray, List.set_cons_zero, List.set_cons_succ]
            refine tkS (i := 24) (v := .agg cs) rfl hS ?_ (hr := fun wx hx => load_sz hsz rfl rfl wx (OFX.out wx (WO.out wx hx)).1)
            try simp only [Act.put, List.getElem_toArray, List.getElem_cons_zero, List.getElem_cons_succ, List.setIfInBounds_toArray, List.set_cons_zero, List.set_cons_succ]
            refine rdS (i := 25) rfl (fun K hK => ?_)
            go_simp
            go_at_call 22
            refine (PC.out y v0).mono ?_
            rintro e v1 ⟨rfl, hb⟩
            have p1 : Below wo.heap.size wo v1 := below_more hS hb hS.size
            clear hb
            refine hK.out _ _ p1 (fun _ => ?_)
            try simp only [Act.put, List.getElem_toArray, List.getElem_cons_zero, List.getElem_cons_succ, List.setIfInBounds_toArray, List.set_cons_zero, List.set_cons_succ]
            clear hK K
            refine tkS (i := 26) (v := .bool pe) rfl p1 ?_ (hr := fun wx hx => by have hq := HPE.out; go_simp)
            try simp only [Act.put, List.getElem_toArray, List.getElem_cons_zero, List.getElem_cons_succ, List.setIfInBounds_toArray, List.set_cons_zero, List.set_cons_succ]
            refine tkS (i := 27) (v := .bool pe) rfl p1 ?_
            try simp only [Act.put, List.getElem_toArray, List.getElem_cons_zero, List.getElem_cons_succ, List.setIfInBounds_toArray, List.set_cons_zero, List.set_cons_succ]
            refine wpAnyH_done (by kernel_rfl) ?_ _
            go_wp2_with fail
            go_meet
            case rel => exact ⟨by rw [← HE.out], hideP p1⟩
           ·have g2b : ¬ kj < b := by omega
            have g2c : decide ((kj : Int) < (b : Int)) = false := decide_eq_false g2
            have g2d : decide (kj < b) = false := decide_eq_false g2b
            have HE : Hid (false = (decide (f < (kj : Int)) && decide ((kj : Int) < (b : Int)) && pe)) := hideP (by rw [g1c, g2c]; rfl)
            go_region
            go_wp2_with fail
            go_meet
            case rel => exact ⟨by rw [← HE.out], hideP (Below.drew HBB.out)⟩
          ·have g1b : ¬ (kj : Int) > f := g1
           have g1c : decide (f < (kj : Int)) = false := decide_eq_false g1
           have HE : Hid (false = (decide (f < (kj : Int)) && decide ((kj : Int) < (b : Int)) && pe)) := hideP (by rw [g1c]; rfl)
           go_region
           go_wp2_with fail
           go_meet
           case rel => exact ⟨by rw [← HE.out], hideP (Below.drew HBB.out)⟩
         case rest =>
          obtain ⟨rfl, HBC⟩ := hcut
          obtain ⟨tt, htt⟩ : ∃ t, t = (decide (f < (kj : Int)) && decide ((kj : Int) < (b : Int)) && pe) := ⟨_, rfl⟩
          rw [← htt]
          have HTT := hideP htt
          clear htt hq0 hq1
          cases tt with
          | true =>
           have HE : Hid (R = (0, false)) := hideP (by
            have h1 := HTT.out.symm
            simp only [Bool.and_eq_true, decide_eq_true_eq] at h1
            obtain ⟨⟨h1, h2⟩, h3⟩ := h1
            rw [← HPE.out, beq_iff_eq, ← HPJ.out] at h3
            rw [HRY.out, demR_none (by
             rw [HD.out, HDK.out]
             refine demL_no ?_
             by_cases q : okI S Y K f (b : Int) = true
             ·exact absurd h3 ((okI_iff.1 q).2.2 (kj : Int) (by rw [← HKJ.out]; exact kk_mem (by rw [← HNK.out]; exact hjk)) h1 h2)
             ·simpa using q)])
           have BWH := hideP (below_more B1.out (WO.out wc HBC.out) B1.out.size)
           clear HD HDK HTK HA HO HQ
           go_wp2
           go_ret2
           exact ⟨by rw [HE.out]; rfl, BWH.out⟩
          | false =>
           have HQ2 : Hid (∀ i, i < j + 1 → f < K.getD i 0 → K.getD i 0 < (b : Int) → prT S Y (K.getD i 0) ≠ -10000) := hideP (fun i hi h1 h2 h3 => by
            by_cases hij : i < j
            ·exact HQ.out i hij h1 h2 h3
            ·obtain rfl : i = j := by omega
             rw [HKJ.out] at h1 h2 h3
             rw [HPJ.out] at h3
             have h4 := HTT.out
             rw [← HPE.out, decide_eq_true h1, decide_eq_true h2, h3] at h4
             exact absurd h4 (by decide))
           go_wp2_with fail
           go_roundw
           case rel => exact ⟨j + 1, by omega, by go_num, HQ2, HBC⟩
           case measure => simp [intOf]; omega
        ·obtain rfl : j = nk := by omega
         have hji : ¬ (j : Int) < (j : Int) := by omega
         have HOK : Hid (okI S Y K f (b : Int) = true) := hideP (okI_iff.2 ⟨by omega, HXM.out, fun k hk h1 h2 => by
          obtain ⟨i, hi, rfl⟩ := List.mem_iff_getElem.1 hk
          have h3 := HQ.out i (by rw [HNK.out]; exact hi)
          rw [List.getD_eq_getElem?_getD, List.getElem?_eq_getElem hi] at h3
          exact h3 h1 h2⟩)
         have hwbl : WB < wo.heap.size := (Array.getElem?_eq_some_iff.1 HA.out).1
         clear HQ
         go_upto_region 17 with fail
         obtain ⟨bd, hbd⟩ : ∃ x, x = fB (linH S Y a b) (tgtI S (k : Int)) := ⟨_, rfl⟩
         obtain ⟨cl, hcl⟩ : ∃ x, x = fC (linH S Y a b) (tgtI S (k : Int)) := ⟨_, rfl⟩
         have HBD := hideP hbd
         have HCL := hideP hcl
         clear hbd hcl
         go_cut [15, 16] (fun s15 s16 wc => s15 = .int .i64 bd ∧ s16 = .int .i64 cl ∧ Hid (Below wo.heap.size wo wc))
         case first =>
          refine wp_noPanic ?_
          refine wp_region_held_drew (S := fun X => Below wo.heap.size wo X) (by kernel_rfl) (Below.drew HBB.out) (fun hS => ?_)
          obtain ⟨v0, hv0⟩ : ∃ X, X = wr2.drew := ⟨_, rfl⟩
          rw [← hv0] at hS ⊢
          clear hv0
          refine tkS (i := 0) (v := .slice (some ⟨rb, ro, none⟩) N rc) rfl hS ?_
          try simp only [Act.put, List.getElem_toArray, List.getElem_cons_zero, List.getElem_cons_succ, List.setIfInBounds_toArray, List.set_cons_zero, List.set_cons_succ]
          refine tkS (i := 1) (v := .agg cs) rfl hS ?_ (hr := fun wx hx => load_sz hsz rfl rfl wx (OFX.out wx (WO.out wx hx)).1)
          try simp only [Act.put, List.getElem_toArray, List.getElem_cons_zero, List.getElem_cons_succ, List.setIfInBounds_toArray, List.set_cons_zero, List.set_cons_succ]
          refine tkS (i := 2) (v := .int .i64 f) rfl hS ?_
          try simp only [Act.put, List.getElem_toArray, List.getElem_cons_zero, List.getElem_cons_succ, List.setIfInBounds_toArray, List.set_cons_zero, List.set_cons_succ]
          refine tkS (i := 3) (v := .int .i64 (b : Int)) rfl hS ?_
          try simp only [Act.put, List.getElem_toArray, List.getElem_cons_zero, List.getElem_cons_succ, List.setIfInBounds_toArray, List.set_cons_zero, List.set_cons_succ]
          refine tkS (i := 6) (v := .agg cs) rfl hS ?_ (hr := fun wx hx => load_sz hsz rfl rfl wx (OFX.out wx (WO.out wx hx)).1)
          try simp only [Act.put, List.getElem_toArray, List.getElem_cons_zero, List.getElem_cons_succ, List.setIfInBounds_toArray, List.set_cons_zero, List.set_cons_succ]
          refine tkS (i := 7) (v := .int .i64 (k : Int)) rfl hS ?_
          try simp only [Act.put, List.getElem_toArray, List.getElem_cons_zero, List.getElem_cons_succ, List.setIfInBounds_toArray, List.set_cons_zero, List.set_cons_succ]
          refine rdS (i := 4) rfl (fun K hK => ?_)
          go_simp
          go_at_call 25
          refine (LC.out v0 (WO.out v0 hS) a b f hfa hab hbN).mono ?_
          rintro e v1 ⟨⟨u1, rfl, hu1⟩, hb⟩
          have p1 : Below wo.heap.size wo v1 := below_more hS hb hS.size
          clear hb
          refine hK.out _ _ p1 (fun _ => ?_)
          try simp only [Act.put, List.getElem_toArray, List.getElem_cons_zero, List.getElem_cons_succ, List.setIfInBounds_toArray, List.set_cons_zero, List.set_cons_succ]
          clear hK K
          refine rdS (i := 5) rfl (fun K hK => ?_)
          go_simp
          go_at_call 24
          refine (MC.out v1 _ u1 a b hab hbN hu1).mono ?_
          rintro e v2 ⟨⟨P, M, rfl, hP, hM⟩, hb⟩
          have p2 : Below wo.heap.size wo v2 := below_more p1 hb p1.size
          clear hb hu1
          refine hK.out _ _ p2 (fun _ => ?_)
          try simp only [Act.put, List.getElem_toArray, List.getElem_cons_zero, List.getElem_cons_succ, List.setIfInBounds_toArray, List.set_cons_zero, List.set_cons_succ]
          clear hK K
          refine rdS (i := 8) rfl (fun K hK => ?_)
          go_simp
          go_at_call 26
          refine (TC.out k v2).mono ?_
          rintro e v3 ⟨rfl, hb⟩
          have p3 : Below wo.heap.size wo v3 := below_more p2 hb p2.size
          have hP3 := hP.below hb
          have hM3 := hM.below hb
          clear hb hP hM
          refine hK.out _ _ p3 (fun _ => ?_)
          try simp only [Act.put, List.getElem_toArray, List.getElem_cons_zero, List.getElem_cons_succ, List.setIfInBounds_toArray, List.set_cons_zero, List.set_cons_succ]
          clear hK K
          refine rdS (i := 9) rfl (fun K hK => ?_)
          go_simp
          go_at_call 23
          refine (BD.out v3 a b k P M hab hbN hP3 hM3).mono ?_
          rintro e v4 ⟨rfl, hb⟩
          have p4 : Below wo.heap.size wo v4 := below_more p3 hb p3.size
          clear hb hP3 hM3
          refine hK.out _ _ p4 (fun _ => ?_)
          try simp only [Act.put, List.getElem_toArray, List.getElem_cons_zero, List.getElem_cons_succ, List.setIfInBounds_toArray, List.set_cons_zero, List.set_cons_succ]
          clear hK K
          refine tkS (i := 10) (v := .tuple #[.int .i64 (fB (linH S Y a b) (tgtI S (k : Int))), .int .i64 (fC (linH S Y a b) (tgtI S (k : Int)))]) rfl p4 ?_
          try simp only [Act.put, List.getElem_toArray, List.getElem_cons_zero, List.getElem_cons_succ, List.setIfInBounds_toArray, List.set_cons_zero, List.set_cons_succ]
          refine tkS (i := 11) (v := .int .i64 (fB (linH S Y a b) (tgtI S (k : Int)))) rfl p4 ?_
          try simp only [Act.put, List.getElem_toArray, List.getElem_cons_zero, List.getElem_cons_succ, List.setIfInBounds_toArray, List.set_cons_zero, List.set_cons_succ]
          refine tkS (i := 12) (v := .int .i64 (fC (linH S Y a b) (tgtI S (k : Int)))) rfl p4 ?_
          try simp only [Act.put, List.getElem_toArray, List.getElem_cons_zero, List.getElem_cons_succ, List.setIfInBounds_toArray, List.set_cons_zero, List.set_cons_succ]
          refine tkS (i := 13) (v := .int .i64 (fB (linH S Y a b) (tgtI S (k : Int)))) rfl p4 ?_
          try simp only [Act.put, List.getElem_toArray, List.getElem_cons_zero, List.getElem_cons_succ, List.setIfInBounds_toArray, List.set_cons_zero, List.set_cons_succ]
          refine tkS (i := 14) (v := .int .i64 (fC (linH S Y a b) (tgtI S (k : Int)))) rfl p4 ?_
          try simp only [Act.put, List.getElem_toArray, List.getElem_cons_zero, List.getElem_cons_succ, List.setIfInBounds_toArray, List.set_cons_zero, List.set_cons_succ]
          refine wpAnyH_done (by kernel_rfl) ?_ _
          go_wp2_with fail
          go_meet
          case rel => exact ⟨by rw [HBD.out], by rw [HCL.out], hideP p4⟩
         case rest =>
          obtain ⟨rfl, rfl, HBC⟩ := hcut
          have hlk : (bs.take k).length = k := by rw [List.length_take, UN.out]; omega
          have A7 : Hid (wc.heap[WB]? = some (.cells #[bv, .int .i64 dm, .int .i64 cw] 57 (0, 0))) := hideP ((HBC.out.block WB hwbl).trans HA.out)
          have O7 : Hid (wc.ownsRow w1.heap.size 2 1 bv (bs.take k).length ((bs.take k).map (Value.int .i64))) := hideP (by rw [hlk]; exact own1_below HO.out HBC.out)
          have B7 : Hid (Below w1.heap.size w1 wc) := hideP (WO.out wc HBC.out)
          have q0 : wc.cell? ⟨WB, 0, none⟩ = some bv := by rw [cell_of_row _ _ _ _ _ _ A7.out]; rfl
          have q1 : wc.cell? ⟨WB, 1, none⟩ = some (.int .i64 dm) := by rw [cell_of_row _ _ _ _ _ _ A7.out]; rfl
          have q2 : wc.cell? ⟨WB, 2, none⟩ = some (.int .i64 cw) := by rw [cell_of_row _ _ _ _ _ _ A7.out]; rfl
          have hG7 := (OFX.out wc B7.out).1
          have hwbc : WB < wc.heap.size := (Array.getElem?_eq_some_iff.1 A7.out).1
          have NX7 := hideP (NX.out wc bv (bs.take k) _ f b dm cw bd cl B7.out hf2 hbN (by omega) O7.out)
          have HLK := hideP hlk
          clear hlk HA HO HBB
          go_upto_region 18 with fail
          go_wp2_with (refine wpList_load_row rfl 35 _ rfl w.heap.size rfl cs 35 (0, 0) hG7 _ Tryz.underlying35 rfl (by rw [hsz]; kernel_rfl) ?_)
          refine NX7.out.mono ?_
          rintro e w8 ⟨⟨bv9, rfl, ho8⟩, hb8⟩
          obtain ⟨a8, c8, rfl⟩ := ownG_shape ho8
          rw [HLK.out] at ho8 ⊢
          obtain ⟨bv2, hbv2⟩ : ∃ v, v = Value.slice a8 (k + 1) c8 := ⟨_, rfl⟩
          have B8 : Hid (Below w1.heap.size w1 w8) := hideP (below_more B7.out hb8 B7.out.size)
          have A8 : Hid (w8.heap[WB]? = some (.cells #[bv, .int .i64 dm, .int .i64 cw] 57 (0, 0))) := hideP ((hb8.block WB hwbc).trans A7.out)
          have O8 : Hid (w8.ownsRow wc.heap.size 2 1 bv2 (k + 1) ((bs.take (k + 1)).map (Value.int .i64))) := hideP (by rw [HTK.out, hbv2]; exact ho8)
          obtain ⟨dn, hdn⟩ : ∃ d, d = wrap64 (dm + demI S bd (prT S Y (b : Int)) (hyI Y f && hyI Y (b : Int)) cl cw) := ⟨_, rfl⟩
          rw [← hdn]
          have HLC : Hid (cl = lcI S Y f (b : Int) k) := hideP (by rw [HCL.out]; unfold lcI; rw [HFA.out, Int.toNat_natCast, Int.toNat_natCast])
          have HDN : Hid (dn = nxD S Y f (b : Int) k cw dm) := hideP (by
           rw [hdn]
           unfold nxD
           rw [← HLC.out, HBD.out]
           unfold lbI
           rw [HFA.out, Int.toNat_natCast, Int.toNat_natCast])
          have HD8 : Hid (demL S Y K bs (-1) 0 2 0 = demL S Y K (bs.drop (k + 1)) (b : Int) (k + 1) cl dn) := hideP (by rw [HD.out, HDK.out, demL_ok HOK.out, HLC.out, HDN.out])
          clear hb8 ho8 hdn q0 q1 q2 hG7 HD HDK HTK
          have z0 : w8.cell? ⟨WB, 0, none⟩ = some bv := by rw [cell_of_row _ _ _ _ _ _ A8.out]; rfl
          have z1 : w8.cell? ⟨WB, 1, none⟩ = some (.int .i64 dm) := by rw [cell_of_row _ _ _ _ _ _ A8.out]; rfl
          have z2 : w8.cell? ⟨WB, 2, none⟩ = some (.int .i64 cw) := by rw [cell_of_row _ _ _ _ _ _ A8.out]; rfl
          have fz : ∀ j, w8.frozen? ⟨WB, j, none⟩ = false := fun j => frozen_of_row _ _ j _ 57 A8.out
          go_upto_region 19 with fail
          obtain ⟨X, hX⟩ : ∃ X, X = ((w8.setCell ⟨WB, 0, none⟩ (.slice a8 (k + 1) c8)).setCell ⟨WB, 1, none⟩ (.int .i64 dn)).setCell ⟨WB, 2, none⟩ (.int .i64 cl) := ⟨_, rfl⟩
          have FX : Fr WB w8 X := by rw [hX]; exact (((Fr.refl WB w8).set 0 _).set 1 _).set 2 _
          have AX : Hid (X.heap[WB]? = some (.cells #[.slice a8 (k + 1) c8, .int .i64 dn, .int .i64 cl] 57 (0, 0))) := hideP (by rw [hX]; exact heap_setCell_same _ _ 2 _ 57 _ (heap_setCell_same _ _ 1 _ 57 _ (heap_setCell_same _ _ 0 _ 57 _ A8.out)))
          have BX : Hid (Below w1.heap.size w1 X) := hideP (by rw [hX]; exact ((B8.out.setCell hWB1 _).setCell hWB1 _).setCell hWB1 _)
          have OX : Hid (X.ownsRow w1.heap.size 2 1 (.slice a8 (k + 1) c8) (k + 1) ((bs.take (k + 1)).map (Value.int .i64))) := hideP (by rw [← hbv2]; exact ownG_mono (own_heap O8.out (fun g e => FX.2.2.2.2 g (World.ownsRow.lt O8.out g e).2 (by have := (World.ownsRow.lt O8.out g e).1; omega))) B7.out.size)
          rw [← hX]
          clear hX z0 z1 z2 fz FX
          go_wp2_with fail
          go_roundw
          case rel => exact ⟨k + 1, (b : Int), cl, dn, .slice a8 (k + 1) c8, by omega, by go_num, rfl, ⟨by omega, by omega⟩, HD8, AX, OX, BX⟩
          case measure => simp [intOf]; omega
      ·have hxmb : decide (x ∈ K) = false := decide_eq_false hxm
       rw [hxmb]
       have HE : Hid (R = (0, false)) := hideP (by rw [HRY.out, demR_none (by rw [HD.out, HDK.out]; exact demL_no (by by_cases q : okI S Y K f x = true; exact absurd (okI_iff.1 q).2.1 hxm; simpa using q))])
       clear HD HDK HTK HA HO hxmb hxm
       have BW := below_more B1.out HB.out B1.out.size
       have BWH := hideP BW
       clear BW
       go_wp2
       go_ret2
       exact ⟨by rw [HE.out]; rfl, BWH.out⟩
    ·obtain rfl : k = n := by omega
     have hki : ¬ (k : Int) < (k : Int) := by omega
     have HDF : Hid (demL S Y K bs (-1) 0 2 0 = some (f, dm)) := hideP (by rw [HD.out, List.drop_eq_nil_of_le (by rw [UN.out]; exact Nat.le_refl _)]; rfl)
     have HE : Hid (R = (dm, true)) := hideP (by
      rw [HRY.out, demR_some HDF.out, if_pos]
      refine ⟨hKne, ?_⟩
      have h1 := (demL_sorted HDF.out).2.2
      have hbne : bs ≠ [] := List.length_pos_iff.1 (by rw [UN.out]; exact hn0)
      rw [h1, last_get _ _ hbne, last_get _ _ hKne, UN.out, ← HNK.out, HLE.out])
     have q1 : wr.cell? ⟨WB, 1, none⟩ = some (.int .i64 dm) := by rw [cell_of_row _ _ _ _ _ _ HA.out]; rfl
     have BWH := hideP (below_more B1.out HB.out B1.out.size)
     clear HD HDF HA HO
     go_wp2
     go_ret2
     exact ⟨by rw [HE.out]; rfl, BWH.out⟩
end Go.Proofs.YtlohbaoigfaneaaGreat
