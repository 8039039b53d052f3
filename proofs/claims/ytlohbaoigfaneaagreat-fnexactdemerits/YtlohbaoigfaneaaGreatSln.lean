import Derived.Test.YtlohbaoigfaneaaGreatTns
import Derived.Test.YtlohbaoigfaneaaGreatPay
import Derived.Test.YtlohbaoigfaneaaGreatApl
import Derived.Test.YtlohbaoigfaneaaGreatInts
import Derived.Deep.DeepCutAuto
namespace Go.Proofs.YtlohbaoigfaneaaGreat
open Go.RowKit
set_option linter.unusedVariables false
set_option linter.unusedSimpArgs false
theorem ints_cell {w : World} {base n : Nat} {ua : Option Addr} {uc : Nat} {L : List Int} (h : w.ownsRow base 2 1 (.slice ua n uc) n (L.map (Value.int .i64))) (hn : n = L.length) : ∀ k, k < n → ∃ g, ua = some ⟨g, 0, none⟩ ∧ w.cell? ⟨g, k, none⟩ = some (.int .i64 (L.getD k 0)) := fun k hk => by
 have hc := fun (g : Nat) (cap : Nat) (e : ua = some ⟨g, 0, none⟩) => (by subst e; exact World.ownsRow.cellAt h k (by omega) : w.cell? ⟨g, k, none⟩ = (L.map (Value.int .i64))[k]?)
 rcases h.2 with ⟨e, h0⟩ | ⟨g, cap, cur, e, _⟩
 ·omega
 ·have e2 : ua = some ⟨g, 0, none⟩ := by simp only [Value.slice.injEq] at e; exact e.1
  refine ⟨g, e2, (hc g cap e2).trans ?_⟩
  rw [hn] at hk
  simp [List.getD, List.getElem?_eq_getElem hk]
set_option maxRecDepth 20000 in
set_option maxHeartbeats 4000000 in
theorem l9Times_any {w : World} {base : Nat} {u : Value} {L : List Int} (x : Int) (h : w.ownsRow base 2 1 u L.length (L.map (Value.int .i64))) (hl : L.length ≤ 5000) :
 Calls Tryz.prog 57 #[u, .int .i64 x] w fun e w' => e = .returned (.int .i64 ((L.count x : Nat) : Int)) ∧ w' = w := by
 obtain ⟨ua, uc, rfl⟩ := ownG_shape h
 obtain ⟨n, hn⟩ : ∃ n, n = L.length := ⟨_, rfl⟩
 rw [← hn] at h hl ⊢
 have HN := hideP hn
 have HC := hideP (ints_cell h hn)
 clear h hn
 go_enter Tryz.func57, Tryz.ntmps57
 go_wp2
 go_loopw [5, 6] (fun s5 s6 wr => ∃ (k c : Nat), k ≤ n ∧ c ≤ k ∧ s6 = .int .i64 (k : Int) ∧ s5 = .int .i64 (c : Int) ∧ Hid (c = (L.take k).count x) ∧ wr = w) (fun _ s _ => n - (intOf s).toNat)
 case atStart => exact ⟨0, 0, by omega, by omega, rfl, rfl, hideP rfl, rfl⟩
 case round =>
  obtain ⟨k, c, hk, hck, rfl, rfl, HCT, hww⟩ := hrel
  subst hww
  by_cases hkn : k < n
  ·have hki : (k : Int) < (n : Int) := by omega
   obtain ⟨g, rfl, hce⟩ := HC.out k hkn
   obtain ⟨y, hy⟩ : ∃ y, y = L.getD k 0 := ⟨_, rfl⟩
   rw [← hy] at hce
   have HS : Hid ((L.take (k + 1)).count x = c + if y = x then 1 else 0) := hideP (by
    have hkl : k < L.length := by rw [← HN.out]; exact hkn
    rw [HCT.out, List.take_add_one, List.getElem?_eq_getElem hkl, List.count_append, hy, show L.getD k 0 = L[k] by simp [List.getD, List.getElem?_eq_getElem hkl]]
    simp [List.count_singleton])
   clear hy
   by_cases hyx : y = x
   ·have hb : (y == x) = true := by simp [hyx]
    have HS2 : Hid ((L.take (k + 1)).count x = c + 1) := hideP (by rw [HS.out, if_pos hyx])
    clear hyx HS
    go_wp2
    go_roundw
    case rel => exact ⟨k + 1, c + 1, by omega, by omega, by go_num, by go_num, hideP HS2.out.symm, by first | rfl | trivial⟩
    case measure => simp [intOf]; omega
   ·have hb : (y == x) = false := by simp [hyx]
    have HS2 : Hid ((L.take (k + 1)).count x = c) := hideP (by rw [HS.out, if_neg hyx]; rfl)
    clear hyx HS
    go_wp2
    go_roundw
    case rel => exact ⟨k + 1, c, by omega, by omega, by go_num, rfl, hideP HS2.out.symm, by first | rfl | trivial⟩
    case measure => simp [intOf]; omega
  ·have hki : ¬ (k : Int) < (n : Int) := by omega
   obtain rfl : k = n := by omega
   have HE : Hid (L.count x = c) := hideP (by rw [HCT.out, List.take_of_length_le (by rw [← HN.out]; exact Nat.le_refl _)])
   clear HCT
   go_wp2
   go_ret
   exact ⟨by rw [HE.out]; rfl, by first | rfl | trivial⟩
set_option maxRecDepth 20000 in
set_option maxHeartbeats 4000000 in
theorem l9In_any {w : World} {base : Nat} {u : Value} {L : List Int} (x : Int) (h : w.ownsRow base 2 1 u L.length (L.map (Value.int .i64))) (hl : L.length ≤ 5000) :
 Calls Tryz.prog 21 #[u, .int .i64 x] w fun e w' => e = .returned (.bool (decide (x ∈ L))) ∧ w' = w := by
 have TC := hideP (l9Times_any x h hl)
 obtain ⟨ua, uc, rfl⟩ := ownG_shape h
 obtain ⟨c, hc⟩ : ∃ c, c = L.count x := ⟨_, rfl⟩
 rw [← hc] at TC
 have hd : decide (x ∈ L) = decide (0 < c) := by
  rw [hc]
  have := List.count_pos_iff (a := x) (l := L)
  by_cases hx : x ∈ L
  ·have h2 := this.2 hx
   rw [decide_eq_true hx, decide_eq_true (by omega)]
  ·have h2 : ¬ 0 < L.count x := fun h => hx (this.1 h)
   rw [decide_eq_false hx, decide_eq_false (by omega)]
 rw [hd]
 clear hd hc h
 go_enter Tryz.func21, Tryz.ntmps21
 go_wp2_with fail
 refine TC.out.mono ?_
 rintro e w1 ⟨rfl, hw⟩
 subst hw
 go_wp2
 go_ret
 exact ⟨rfl, rfl⟩
theorem sy_cells (S : Sy) : ∃ cs : Array Value, syV S = .agg cs ∧ cs.size = 23 ∧ ∀ (W : World) (G ty : Nat), W.heap[G]? = some (.cells cs ty (0, 0)) → ∀ j, j < 23 → W.cell? ⟨G, j, none⟩ = (syL S)[j]? :=
 ⟨_, rfl, rfl, fun W G ty h j hj => by rw [cell_of_row W G j _ ty _ h, ← Array.getElem?_toList]; rfl⟩
set_option maxRecDepth 100000 in
set_option maxHeartbeats 8000000 in
theorem l9Line_any {w : World} {lo N : Nat} {v : Value} {rows : List (List Nd)} {ys : List It} (S : Sy) (a b : Nat) (f : Int) (hf : f + 1 = (a : Int)) (h : Rws lo w v rows) (hh : Heads lo w v ys) (hy : ys.length = N) (hr : rows.length = N) (hrow : ∀ i, i < N → ∃ rest, rows.getD i [] = (ys.getD i It.none).1 :: rest) (hsg : ∀ i, (rows.getD i []).length ≤ 20003) (hN : N ≤ 2003) (hab : a ≤ b) (hb : b < N) :
 Calls Tryz.prog 25 #[v, syV S, .int .i64 f, .int .i64 (b : Int)] w fun e w' => (∃ u, e = .returned u ∧ w'.ownsRow w.heap.size 61 15 u (lineZ S ys rows a b).length (flatN (lineZ S ys rows a b))) ∧ Below w.heap.size w w' := by
 obtain ⟨cs, hcs, hsz, hget⟩ := sy_cells S
 rw [hcs]
 obtain ⟨ao, cap, rfl, _⟩ := h.is
 rw [hr] at h hh ⊢
 have hwr : IntKind.i64.wrap (f + 1) = (a : Int) := by rw [hf, IntKind.wrap_i64]; omega
 have HR := hideP h
 have HH := hideP hh
 have HY := hideP hy
 have HRR := hideP hr
 have HROW := hideP hrow
 have HSG := hideP hsg
 obtain ⟨LZ, hLZ⟩ : ∃ LZ, LZ = lineZ S ys rows a b := ⟨_, rfl⟩
 rw [← hLZ]
 have HLZ := hideP hLZ
 obtain ⟨s, hs⟩ : ∃ s, s = begI ys a b := ⟨_, rfl⟩
 have hsr : a ≤ s ∧ s ≤ b := by rw [hs]; exact begI_range _ _ _ hab
 obtain ⟨hs1, hs2⟩ := hsr
 have HS := hideP hs
 obtain ⟨W0, hW0⟩ : ∃ W0, W0 = w.alloc (.cells cs 35) := ⟨_, rfl⟩
 have hG0 : W0.heap[w.heap.size]? = some (.cells cs 35 (0, 0)) := by rw [hW0]; exact heap_alloc_new w _
 have B0 : Hid (Below w.heap.size w W0) := hideP (by rw [hW0]; exact below1 w _)
 have hZ0 : w.heap.size < W0.heap.size := (Array.getElem?_eq_some_iff.1 hG0).1
 have HC : Hid (∀ W, Below W0.heap.size W0 W → (W.cell? ⟨w.heap.size, 8, none⟩ = some (.int .i64 S.l0) ∧ W.cell? ⟨w.heap.size, 9, none⟩ = some (.int .i64 S.l1) ∧ W.cell? ⟨w.heap.size, 10, none⟩ = some (.int .i64 S.l2) ∧ W.cell? ⟨w.heap.size, 11, none⟩ = some (.int .i64 S.l3) ∧ W.cell? ⟨w.heap.size, 12, none⟩ = some (.int .i64 S.l4)) ∧ (W.cell? ⟨w.heap.size, 13, none⟩ = some (.int .i64 S.r0) ∧ W.cell? ⟨w.heap.size, 14, none⟩ = some (.int .i64 S.r1) ∧ W.cell? ⟨w.heap.size, 15, none⟩ = some (.int .i64 S.r2) ∧ W.cell? ⟨w.heap.size, 16, none⟩ = some (.int .i64 S.r3) ∧ W.cell? ⟨w.heap.size, 17, none⟩ = some (.int .i64 S.r4))) := hideP (fun W hW => by
  have hq := hget W w.heap.size 35 ((hW.block w.heap.size hZ0).trans hG0)
  exact ⟨⟨hq 8 (by omega), hq 9 (by omega), hq 10 (by omega), hq 11 (by omega), hq 12 (by omega)⟩, hq 13 (by omega), hq 14 (by omega), hq 15 (by omega), hq 16 (by omega), hq 17 (by omega)⟩)
 clear hcs hget hG0 h hh hy hr hrow hsg hLZ hs
 obtain ⟨⟨y8, y9, y10, y11, y12⟩, _⟩ := HC.out W0 (Below.refl _ _)
 go_enter Tryz.func25, Tryz.ntmps25
 go_upto_region 1 with fail
 rw [← hW0]
 clear hW0
 go_upto_region 2 with fail
 have hq1 := heap_alloc_new W0 (.cells #[.int .i64 3, .int .i64 0, .int .i64 0, .int .i64 0, .int .i64 0, .int .i64 0, .int .i64 0, .int .i64 0, .int .i64 S.l0, .int .i64 S.l1, .int .i64 S.l2, .int .i64 S.l3, .int .i64 S.l4, .string ⟨#[]⟩, .int .i64 0] 61)
 have O1 : Hid ((W0.alloc (.cells #[.int .i64 3, .int .i64 0, .int .i64 0, .int .i64 0, .int .i64 0, .int .i64 0, .int .i64 0, .int .i64 0, .int .i64 S.l0, .int .i64 S.l1, .int .i64 S.l2, .int .i64 S.l3, .int .i64 S.l4, .string ⟨#[]⟩, .int .i64 0] 61)).ownsRow W0.heap.size 61 15 (.slice (some ⟨W0.heap.size, 0, none⟩) 1 1) 1 (flatN [gapN S.l0 S.l1 S.l2 S.l3 S.l4])) := hideP ⟨rfl, .inr ⟨_, _, _, rfl, Nat.le_refl _, hq1, by omega, by unfold maxLen; omega, rfl, rfl⟩⟩
 have B1 : Hid (Below W0.heap.size W0 (W0.alloc (.cells #[.int .i64 3, .int .i64 0, .int .i64 0, .int .i64 0, .int .i64 0, .int .i64 0, .int .i64 0, .int .i64 0, .int .i64 S.l0, .int .i64 S.l1, .int .i64 S.l2, .int .i64 S.l3, .int .i64 S.l4, .string ⟨#[]⟩, .int .i64 0] 61))) := hideP (below1 _ _)
 obtain ⟨g1, hg1⟩ : ∃ g1, g1 = W0.heap.size := ⟨_, rfl⟩
 rw [← hg1] at O1
 rw [← hg1]
 generalize World.alloc _ _ = W1 at B1 O1 hq1 ⊢
 have HG1 := hideP hg1
 clear hq1 y8 y9 y10 y11 y12 hg1
 go_wp2
 go_loopw [10] (fun s10 wr => ∃ k : Nat, s10 = .int .i64 (k : Int) ∧ a ≤ k ∧ k ≤ b ∧ Hid (begI ys k b = s) ∧ Hid (Below W1.heap.size W1 wr)) (fun s _ => b - (intOf s).toNat)
 case atStart => exact ⟨a, rfl, Nat.le_refl _, hab, hideP HS.out.symm, hideP (Below.refl _ _)⟩
 case round =>
  obtain ⟨k, rfl, hk1, hk2, HB, HBr⟩ := hrel
  obtain ⟨t, ht⟩ : ∃ t, t = (decide (k < b) && discB (ys.getD k It.none).1) := ⟨_, rfl⟩
  have HT := hideP ht
  clear ht
  go_upto_region 3 with fail
  go_cut [29] from 18 to 30 (fun s29 wc => s29 = .bool t ∧ Hid (Below W1.heap.size W1 wc))
  case first =>
   by_cases hkb : k < b
   ·have hki : (k : Int) < (b : Int) := by omega
    have hkN : (k : Int) < (N : Int) := by omega
    have HBW : Hid (Below w.heap.size w wr) := hideP (below_more B0.out (below_more B1.out HBr.out B1.out.size) B0.out.size)
    obtain ⟨cap', b1, off, g, c, m, tl, hv, hlo, hbl, hu, hgl, hgs, hm0, hml, hrow, htl, hcs⟩ := rws_at (HR.out.abv (Abv.below HBW.out)) HRR.out (show k < N by omega) (HROW.out k (by omega))
    simp only [Value.slice.injEq] at hv
    obtain ⟨rfl, _, rfl⟩ := hv
    obtain ⟨x, hx⟩ : ∃ x, x = (ys.getD k It.none).1 := ⟨_, rfl⟩
    have DC : Hid (∀ W, Calls Tryz.prog 62 #[ndV x] W fun e w' => e = .returned (.bool (discB x)) ∧ Below W.heap.size W w') := hideP (fun W => specDisc_any x W)
    obtain ⟨d, hd⟩ : ∃ v, v = discB x := ⟨_, rfl⟩
    rw [← hd] at DC
    have HE : Hid (t = d) := hideP (by rw [HT.out, decide_eq_true hkb, ← hx, hd]; rfl)
    rw [← hx] at hcs
    clear hd hx hml hrow htl hlo hgl HT
    obtain ⟨kk, wd, ht, dp, sh, fo, ch, nn, gs, gp, gpo, gm, gmo, tx, kids⟩ := x
    simp only [Nd.cells] at hcs
    simp only [ndV] at DC
    have n100 : wr.cell? ⟨g, 0, none⟩ = some (.int .i64 kk) := hcs 0 (by omega)
    have n101 : wr.cell? ⟨g, 1, none⟩ = some (.int .i64 wd) := hcs 1 (by omega)
    have n102 : wr.cell? ⟨g, 2, none⟩ = some (.int .i64 ht) := hcs 2 (by omega)
    have n103 : wr.cell? ⟨g, 3, none⟩ = some (.int .i64 dp) := hcs 3 (by omega)
    have n104 : wr.cell? ⟨g, 4, none⟩ = some (.int .i64 sh) := hcs 4 (by omega)
    have n105 : wr.cell? ⟨g, 5, none⟩ = some (.int .i64 fo) := hcs 5 (by omega)
    have n106 : wr.cell? ⟨g, 6, none⟩ = some (.int .i64 ch) := hcs 6 (by omega)
    have n107 : wr.cell? ⟨g, 7, none⟩ = some (.int .i64 nn) := hcs 7 (by omega)
    have n108 : wr.cell? ⟨g, 8, none⟩ = some (.int .i64 gs) := hcs 8 (by omega)
    have n109 : wr.cell? ⟨g, 9, none⟩ = some (.int .i64 gp) := hcs 9 (by omega)
    have n110 : wr.cell? ⟨g, 10, none⟩ = some (.int .i64 gpo) := hcs 10 (by omega)
    have n111 : wr.cell? ⟨g, 11, none⟩ = some (.int .i64 gm) := hcs 11 (by omega)
    have n112 : wr.cell? ⟨g, 12, none⟩ = some (.int .i64 gmo) := hcs 12 (by omega)
    have n113 : wr.cell? ⟨g, 13, none⟩ = some (.string tx) := hcs 13 (by omega)
    have n114 : wr.cell? ⟨g, 14, none⟩ = some (.int .i64 kids) := hcs 14 (by omega)
    clear hcs
    go_wp2_with fail
    refine (DC.out _).mono ?_
    rintro e w7 ⟨rfl, hb7⟩
    have B7 : Hid (Below W1.heap.size W1 w7) := hideP (below_more HBr.out hb7 HBr.out.size)
    clear hb7
    go_wp2
    go_meet
    case rel => exact ⟨by rw [HE.out], B7⟩
   ·have hki : ¬ (k : Int) < (b : Int) := by omega
    have HE : Hid (t = false) := hideP (by rw [HT.out, decide_eq_false hkb]; rfl)
    go_wp2
    go_meet
    case rel => exact ⟨by rw [HE.out], HBr⟩
  case rest =>
   obtain ⟨rfl, HBC⟩ := hcut
   cases t with
   | true =>
    have hkb : k < b := by
     have h1 := HT.out
     simp only [Bool.true_eq, Bool.and_eq_true, decide_eq_true_eq] at h1
     exact h1.1
    have HST : Hid (begI ys (k + 1) b = s) := hideP (by
     have h1 := HT.out
     simp only [Bool.true_eq, Bool.and_eq_true] at h1
     rw [← HB.out, begI_step ys k b hkb, if_pos h1.2])
    clear HT
    go_wp2
    go_roundw
    case rel => exact ⟨k + 1, by go_num, by omega, by omega, HST, HBC⟩
    case measure => simp [intOf]; omega
   | false =>
    have hks : k = s := by
     have h1 := HT.out
     rw [← HB.out]
     by_cases hkb : k < b
     ·rw [begI_step ys k b hkb]
      rw [decide_eq_true hkb] at h1
      rw [if_neg (by simpa using h1.symm)]
     ·rw [show k = b by omega, begI_end]
    subst hks
    clear HT HB
    have OC : Hid (wc.ownsRow W0.heap.size 61 15 (.slice (some ⟨g1, 0, none⟩) 1 1) 1 (flatN [gapN S.l0 S.l1 S.l2 S.l3 S.l4])) := hideP (ownG_mono (ownG_below O1.out HBC.out) (Nat.le_of_eq HG1.out.symm))
    have BC : Hid (Below W0.heap.size W0 wc) := hideP (below_more B1.out HBC.out B1.out.size)
    go_wp2
    go_loopw [9, 10] (fun s9 s10 wr => ∃ j m : Nat, j ≤ b - k ∧ m ≤ 1 + j * 20003 ∧ s10 = .int .i64 ((k + j : Nat) : Int) ∧ Hid (wr.ownsRow W0.heap.size 61 15 s9 m (flatN (gapN S.l0 S.l1 S.l2 S.l3 S.l4 :: partL ys rows k j))) ∧ Hid (Below W0.heap.size W0 wr)) (fun _ s _ => b - (intOf s).toNat)
    case atStart => exact ⟨0, 1, by omega, by omega, rfl, OC, BC⟩
    case round =>
     obtain ⟨j, m, hj, hm, rfl, HO, HBq⟩ := hrel
     have HBW : Hid (Below w.heap.size w wr) := hideP (below_more B0.out HBq.out B0.out.size)
     obtain ⟨ua, uc, rfl⟩ := ownG_shape HO.out
     by_cases hjb : j < b - k
     ·have hki : ((k + j : Nat) : Int) < (b : Int) := by omega
      have hkN : ((k + j : Nat) : Int) < (N : Int) := by omega
      obtain ⟨cap', b1, off, g, c, m', tl, hv, hlo, hbl, hu, hgl, hgs, hm0, hml, hrw, htl, hcs⟩ := rws_at (HR.out.abv (Abv.below HBW.out)) HRR.out (show k + j < N by omega) (HROW.out (k + j) (by omega))
      simp only [Value.slice.injEq] at hv
      obtain ⟨rfl, _, rfl⟩ := hv
      have n100 : wr.cell? ⟨g, 0, none⟩ = some (.int .i64 (ys.getD (k + j) It.none).1.k) := hcs 0 (by omega)
      obtain ⟨xk, hxk⟩ : ∃ xk, xk = (ys.getD (k + j) It.none).1.k := ⟨_, rfl⟩
      rw [← hxk] at n100
      have hm3 : m' ≤ 20003 := by rw [← hml]; exact HSG.out _
      have HSC : Hid (partL ys rows k (j + 1) = partL ys rows k j ++ (if xk = 8 then [] else rows.getD (k + j) [])) := hideP (by rw [hxk]; exact partL_succ ys rows k j)
      have HML := hideP hml
      have HRW2 := hideP hrw
      have hni : (0 : Int) < (m' : Int) := by omega
      clear hxk htl hcs hml hrw hlo hgl
      by_cases h8 : xk = 8
      ·subst h8
       have HSC2 : Hid (partL ys rows k (j + 1) = partL ys rows k j) := hideP (by rw [HSC.out, if_pos rfl, List.append_nil])
       go_wp2
       go_roundw
       case rel => exact ⟨j + 1, m, by omega, by omega, congrArg _ (by push_cast; omega), hideP (by rw [HSC2.out]; exact HO.out), HBq⟩
       case measure => simp [intOf]; omega
      ·have hxb : (xk != 8) = true := by simp [h8]
       have hxe : (xk == 8) = false := by simp [h8]
       have HSC2 : Hid (partL ys rows k (j + 1) = partL ys rows k j ++ rows.getD (k + j) []) := hideP (by rw [HSC.out, if_neg h8])
       have hwr0 : W0.heap.size ≤ wr.heap.size := HBq.out.size
       clear HSC
       go_wp2_with (at_builtin; refine Hid.out ?_)
       refine hideP ?_
       refine wpList_appS rfl (.tmp 45) (.tmp 49) rfl W0.heap.size _ m _ rfl HO.out ⟨g, 0, none⟩ c m' (rows.getD (k + j) []) HML.out rfl (row_add HRW2.out) (by omega) hwr0 ?_
       intro v5 w5 ho5 hg5 hat5
       have O5 : Hid (w5.ownsRow W0.heap.size 61 15 v5 (m + m') (flatN (gapN S.l0 S.l1 S.l2 S.l3 S.l4 :: partL ys rows k (j + 1)))) := hideP (by rw [HSC2.out]; exact ho5)
       have B5 : Hid (Below W0.heap.size W0 w5) := hideP (Below.grown HBq.out hg5 hwr0 (fun q hq => (World.ownsRow.lt HO.out q hq).1))
       clear ho5 hg5 hat5
       go_wp2
       go_roundw
       case rel => exact ⟨j + 1, m + m', by omega, by omega, congrArg _ (by push_cast; omega), O5, B5⟩
       case measure => simp [intOf]; omega
     ·have hki : ¬ ((k + j : Nat) : Int) < (b : Int) := by omega
      have hkN : (b : Int) < (N : Int) := by omega
      obtain rfl : j = b - k := by omega
      obtain ⟨cap', b1, off, g, c, m', tl, hv, hlo, hbl, hu, hgl, hgs, hm0, hml, hrw, htl, hcs⟩ := rws_at (HR.out.abv (Abv.below HBW.out)) HRR.out hb (HROW.out b hb)
      simp only [Value.slice.injEq] at hv
      obtain ⟨rfl, _, rfl⟩ := hv
      obtain ⟨x, hx⟩ : ∃ x, x = (ys.getD b It.none).1 := ⟨_, rfl⟩
      rw [← hx] at hcs
      have HLX : Hid (LZ = (gapN S.l0 S.l1 S.l2 S.l3 S.l4 :: partL ys rows k (b - k)) ++ (if x.k = 8 then [chrN x] else []) ++ [gapN S.r0 S.r1 S.r2 S.r3 S.r4]) := hideP (by rw [HLZ.out, hx]; unfold lineZ tailL; rw [← HS.out])
      have hni : (0 : Int) < (m' : Int) := by omega
      have hmb : m ≤ 1 + 2003 * 20003 := Nat.le_trans hm (Nat.add_le_add_left (Nat.mul_le_mul_right _ (by omega)) _)
      obtain ⟨hC8, y13, y14, y15, y16, y17⟩ := HC.out wr HBq.out
      have hwz : w.heap.size < wr.heap.size := Nat.lt_of_lt_of_le hZ0 HBq.out.size
      clear hC8 hx hml hrw htl hlo hgl hm
      obtain ⟨kk, wd, ht, dp, sh, fo, ch, nn, gs, gp, gpo, gm, gmo, tx, kids⟩ := x
      simp only [Nd.cells] at hcs
      have n100 : wr.cell? ⟨g, 0, none⟩ = some (.int .i64 kk) := hcs 0 (by omega)
      by_cases h8 : kk = 8
      ·subst h8
       have n101 : wr.cell? ⟨g, 1, none⟩ = some (.int .i64 wd) := hcs 1 (by omega)
       have n102 : wr.cell? ⟨g, 2, none⟩ = some (.int .i64 ht) := hcs 2 (by omega)
       have n103 : wr.cell? ⟨g, 3, none⟩ = some (.int .i64 dp) := hcs 3 (by omega)
       have n104 : wr.cell? ⟨g, 4, none⟩ = some (.int .i64 sh) := hcs 4 (by omega)
       have n105 : wr.cell? ⟨g, 5, none⟩ = some (.int .i64 fo) := hcs 5 (by omega)
       have n106 : wr.cell? ⟨g, 6, none⟩ = some (.int .i64 ch) := hcs 6 (by omega)
       have n107 : wr.cell? ⟨g, 7, none⟩ = some (.int .i64 nn) := hcs 7 (by omega)
       have n108 : wr.cell? ⟨g, 8, none⟩ = some (.int .i64 gs) := hcs 8 (by omega)
       have n109 : wr.cell? ⟨g, 9, none⟩ = some (.int .i64 gp) := hcs 9 (by omega)
       have n110 : wr.cell? ⟨g, 10, none⟩ = some (.int .i64 gpo) := hcs 10 (by omega)
       have n111 : wr.cell? ⟨g, 11, none⟩ = some (.int .i64 gm) := hcs 11 (by omega)
       have n112 : wr.cell? ⟨g, 12, none⟩ = some (.int .i64 gmo) := hcs 12 (by omega)
       have n113 : wr.cell? ⟨g, 13, none⟩ = some (.string tx) := hcs 13 (by omega)
       have n114 : wr.cell? ⟨g, 14, none⟩ = some (.int .i64 kids) := hcs 14 (by omega)
       clear hcs
       have HLX2 : Hid (LZ = ((gapN S.l0 S.l1 S.l2 S.l3 S.l4 :: partL ys rows k (b - k)) ++ [⟨1, wd, ht, dp, sh, fo, ch, nn, gs, gp, gpo, gm, gmo, tx, kids⟩]) ++ [gapN S.r0 S.r1 S.r2 S.r3 S.r4]) := hideP (by rw [HLX.out, if_pos rfl]; rfl)
       clear HLX
       go_wp2_with (at_builtin; refine Hid.out ?_)
       refine hideP ?_
       have hqT := heap_alloc_new2 wr (.cells #[.int .i64 1, .int .i64 wd, .int .i64 ht, .int .i64 dp, .int .i64 sh, .int .i64 fo, .int .i64 ch, .int .i64 nn, .int .i64 gs, .int .i64 gp, .int .i64 gpo, .int .i64 gm, .int .i64 gmo, .string tx, .int .i64 kids] 61) (.cells #[.int .i64 1, .int .i64 wd, .int .i64 ht, .int .i64 dp, .int .i64 sh, .int .i64 fo, .int .i64 ch, .int .i64 nn, .int .i64 gs, .int .i64 gp, .int .i64 gpo, .int .i64 gm, .int .i64 gmo, .string tx, .int .i64 kids] 61)
       have HBT : Hid (Below W0.heap.size W0 ((wr.alloc (.cells #[.int .i64 1, .int .i64 wd, .int .i64 ht, .int .i64 dp, .int .i64 sh, .int .i64 fo, .int .i64 ch, .int .i64 nn, .int .i64 gs, .int .i64 gp, .int .i64 gpo, .int .i64 gm, .int .i64 gmo, .string tx, .int .i64 kids] 61)).alloc (.cells #[.int .i64 1, .int .i64 wd, .int .i64 ht, .int .i64 dp, .int .i64 sh, .int .i64 fo, .int .i64 ch, .int .i64 nn, .int .i64 gs, .int .i64 gp, .int .i64 gpo, .int .i64 gm, .int .i64 gmo, .string tx, .int .i64 kids] 61))) := hideP ((HBq.out.alloc HBq.out.size _).alloc (by have := HBq.out.size; simp; omega) _)
       have HOT := hideP (ownG_below HO.out (below2 wr (.cells #[.int .i64 1, .int .i64 wd, .int .i64 ht, .int .i64 dp, .int .i64 sh, .int .i64 fo, .int .i64 ch, .int .i64 nn, .int .i64 gs, .int .i64 gp, .int .i64 gpo, .int .i64 gm, .int .i64 gmo, .string tx, .int .i64 kids] 61) (.cells #[.int .i64 1, .int .i64 wd, .int .i64 ht, .int .i64 dp, .int .i64 sh, .int .i64 fo, .int .i64 ch, .int .i64 nn, .int .i64 gs, .int .i64 gp, .int .i64 gpo, .int .i64 gm, .int .i64 gmo, .string tx, .int .i64 kids] 61)))
       refine wpList_app1 rfl (.tmp 66) (.tmp 68) rfl W0.heap.size _ m _ rfl HOT.out (wr.heap.size + 1) ⟨1, wd, ht, dp, sh, fo, ch, nn, gs, gp, gpo, gm, gmo, tx, kids⟩ rfl hqT (by omega) HBT.out.size ?_
       intro vT wT hoT hgT haT
       obtain ⟨aT, cT, rfl⟩ := ownG_shape hoT
       have BT2 : Hid (Below W0.heap.size W0 wT) := hideP (Below.grown HBT.out hgT HBT.out.size (fun j hj => (World.ownsRow.lt HOT.out j hj).1))
       have OT2 := hideP hoT
       clear hoT hgT haT hqT y13 y14 y15 y16 y17 hwz n100 n101 n102 n103 n104 n105 n106 n107 n108 n109 n110 n111 n112 n113 n114 hu
       obtain ⟨hC8, y13, y14, y15, y16, y17⟩ := HC.out wT BT2.out
       have hwz : w.heap.size < wT.heap.size := Nat.lt_of_lt_of_le hZ0 BT2.out.size
       clear hC8
       go_wp2_with (at_builtin; refine Hid.out ?_)
       refine hideP ?_
       have hqF := heap_alloc_new wT (.cells #[.int .i64 3, .int .i64 0, .int .i64 0, .int .i64 0, .int .i64 0, .int .i64 0, .int .i64 0, .int .i64 0, .int .i64 S.r0, .int .i64 S.r1, .int .i64 S.r2, .int .i64 S.r3, .int .i64 S.r4, .string ⟨#[]⟩, .int .i64 0] 61)
       have HBF : Hid (Below W0.heap.size W0 (wT.alloc (.cells #[.int .i64 3, .int .i64 0, .int .i64 0, .int .i64 0, .int .i64 0, .int .i64 0, .int .i64 0, .int .i64 0, .int .i64 S.r0, .int .i64 S.r1, .int .i64 S.r2, .int .i64 S.r3, .int .i64 S.r4, .string ⟨#[]⟩, .int .i64 0] 61))) := hideP (BT2.out.alloc BT2.out.size _)
       have HOF := hideP (ownG_below OT2.out (below1 wT (.cells #[.int .i64 3, .int .i64 0, .int .i64 0, .int .i64 0, .int .i64 0, .int .i64 0, .int .i64 0, .int .i64 0, .int .i64 S.r0, .int .i64 S.r1, .int .i64 S.r2, .int .i64 S.r3, .int .i64 S.r4, .string ⟨#[]⟩, .int .i64 0] 61)))
       refine wpList_app1 rfl (.tmp 70) (.tmp 74) rfl W0.heap.size _ (m + 1) _ rfl HOF.out wT.heap.size (gapN S.r0 S.r1 S.r2 S.r3 S.r4) rfl hqF (by omega) HBF.out.size ?_
       intro vF wF hoF hgF haF
       have BF : Hid (Below w.heap.size w wF) := hideP (below_more B0.out (Below.grown HBF.out hgF HBF.out.size (fun j hj => (World.ownsRow.lt HOF.out j hj).1)) B0.out.size)
       have OF := hideP (ownG_mono hoF B0.out.size)
       clear hoF hgF haF hqF
       go_wp2
       go_ret
       exact ⟨⟨_, rfl, by rw [HLX2.out]; exact own_relen OF.out⟩, BF.out⟩
      ·have hxe : (kk == 8) = false := by simp [h8]
       have HLX2 : Hid (LZ = (gapN S.l0 S.l1 S.l2 S.l3 S.l4 :: partL ys rows k (b - k)) ++ [gapN S.r0 S.r1 S.r2 S.r3 S.r4]) := hideP (by rw [HLX.out, if_neg h8, List.append_nil])
       clear hcs HLX
       go_wp2_with (at_builtin; refine Hid.out ?_)
       refine hideP ?_
       have hqF := heap_alloc_new wr (.cells #[.int .i64 3, .int .i64 0, .int .i64 0, .int .i64 0, .int .i64 0, .int .i64 0, .int .i64 0, .int .i64 0, .int .i64 S.r0, .int .i64 S.r1, .int .i64 S.r2, .int .i64 S.r3, .int .i64 S.r4, .string ⟨#[]⟩, .int .i64 0] 61)
       have HBF : Hid (Below W0.heap.size W0 (wr.alloc (.cells #[.int .i64 3, .int .i64 0, .int .i64 0, .int .i64 0, .int .i64 0, .int .i64 0, .int .i64 0, .int .i64 0, .int .i64 S.r0, .int .i64 S.r1, .int .i64 S.r2, .int .i64 S.r3, .int .i64 S.r4, .string ⟨#[]⟩, .int .i64 0] 61))) := hideP (HBq.out.alloc HBq.out.size _)
       have HOF := hideP (ownG_below HO.out (below1 wr (.cells #[.int .i64 3, .int .i64 0, .int .i64 0, .int .i64 0, .int .i64 0, .int .i64 0, .int .i64 0, .int .i64 0, .int .i64 S.r0, .int .i64 S.r1, .int .i64 S.r2, .int .i64 S.r3, .int .i64 S.r4, .string ⟨#[]⟩, .int .i64 0] 61)))
       refine wpList_app1 rfl (.tmp 70) (.tmp 74) rfl W0.heap.size _ m _ rfl HOF.out wr.heap.size (gapN S.r0 S.r1 S.r2 S.r3 S.r4) rfl hqF (by omega) HBF.out.size ?_
       intro vF wF hoF hgF haF
       have BF : Hid (Below w.heap.size w wF) := hideP (below_more B0.out (Below.grown HBF.out hgF HBF.out.size (fun j hj => (World.ownsRow.lt HOF.out j hj).1)) B0.out.size)
       have OF := hideP (ownG_mono hoF B0.out.size)
       clear hoF hgF haF hqF
       go_wp2
       go_ret
       exact ⟨⟨_, rfl, by rw [HLX2.out]; exact own_relen OF.out⟩, BF.out⟩
end Go.Proofs.YtlohbaoigfaneaaGreat
