/-
  A line: the program.
-/
import Derived.Test.YtdgfnceipginkaaPge
import Derived.Test.YtdgfnceipginkaaApl
import Derived.Deep.DeepCutAuto
namespace Go.Proofs.Ytdgfnceipginkaa
open Go.RowKit
set_option linter.unusedVariables false
set_option linter.unusedSimpArgs false

theorem seg_at {xs L : List Nd} {S : Sy} (h : listB xs = true) (hL : L = xs.take (endK xs 0 (trm (its xs) (its xs).length)) ++ [penN 10000, gapN S.f0 S.f1 S.f2 S.f3 S.f4, penN (-10000)]) {k : Nat} (hk : k < (its L).length) :
    ∃ a, a < L.length ∧ (its L).getD k It.none = itAt L a ∧ (rowL xs S).getD k [] = itemAt L a := by
  have hk2 : k < (starts L (L.length + 1) 0).length := by simpa [its] using hk
  refine ⟨(starts L (L.length + 1) 0)[k], starts_lt L _ _ _ (List.getElem_mem _), ?_, ?_⟩
  · unfold its
    simp [List.getD, List.getElem?_map, List.getElem?_eq_getElem hk2]
  · rw [← rows_cut h hL]
    simp [List.getD, List.getElem?_map, List.getElem?_eq_getElem hk2]
theorem wp_appS {w : World} {o : Oper} {a : Act} {K : Act → World → Prop} {Q : Exit → Act → World → Prop} (s x : Operand)
    (ho : o.op = .call { callee := .builtin .append, args := #[s, x], argTypes := #[28, 28] })
    (base : Nat) (v : Value) (n : Nat) (xs : List Nd) (hs : a.eval s = v) (hown : w.ownsRow base 48 15 v n (flatN xs))
    (ad : Addr) (c m : Nat) (seg : List Nd) (hm : seg.length = m) (hx : a.eval x = .slice (some ad) m c) (hnews : ∀ j u, (flatN seg)[j]? = some u → w.cell? (ad.add j) = some u)
    (hn : n + m ≤ 100000000) (hbase : base ≤ w.heap.size)
    (h : ∀ v' w', w'.ownsRow base 48 15 v' (n + m) (flatN (xs ++ seg)) → w.grownBy w' v.ownBlock → K (a.put o.dst v') w') : o.wp Try.prog a w K Q := by
  obtain ⟨i0, hi, hz0, hz1, hz2⟩ := info_parts Try.info57c
  refine wp_append_at s x 28 ho base 48 i0 _ 15 128 Try.underlying28 hi hz0 hz1 hz2 rfl (by decide) v n (flatN xs) hs hown ad m c (flatN seg) hx (by rw [flatN_len, hm]) hnews (flatN_one _) (by unfold maxLen; omega) (by omega) hbase (fun v' w' h2 h3 _ h5 => h v' w' ?_ h3)
  rw [flatN_app]
  exact h2
theorem letN_any (fo ch wd ht dp : Int) (w : World) : Calls Try.prog 42 #[.agg #[.int .i64 fo, .int .i64 ch, .int .i64 wd, .int .i64 ht, .int .i64 dp]] w fun e w' => e = .returned (ndV ⟨1, wd, ht, dp, 0, fo, ch, 0, 0, 0, 0, 0, 0, ⟨#[]⟩, 0⟩) ∧ Below w.heap.size w w' :=
  (thg_1 wd ht dp 0 fo ch 0 0 0 0 0 0 0 ⟨#[]⟩).cn w

set_option maxRecDepth 100000 in
set_option maxHeartbeats 8000000 in
theorem line_any {xs L : List Nd} {S : Sy} {lo PB B ic g m c : Nat} {w : World} {ts : List Tn} {nv sv : Value} (hP : ParO xs S lo w PB L ts nv B ic sv g m c) (i j : Nat) (hij : i < j) (hj : j < m) (hm : m ≤ 5001) (a b : Nat) (ha : (ts.getD i Tn.none).1 + 1 = (a : Int)) (hb : (ts.getD j Tn.none).1 = (b : Int)) (hab : a ≤ b) :
    Calls Try.prog 20 #[.pointer (some ⟨PB, 0, none⟩), .int .i64 (i : Int), .int .i64 (j : Int)] w fun e w' => (∃ u, e = .returned u ∧ w'.ownsRow w.heap.size 48 15 u (lineZ S (its L) (rowL xs S) a b).length (flatN (lineZ S (its L) (rowL xs S) a b))) ∧ Below w.heap.size w w' := by
  have hob := hP.ok.1
  have hPl : PB < w.heap.size := hP.par.lt
  have hst := hP.par.sty
  have x8 : w.cell? ⟨PB, 8, none⟩ = some (.int .i64 S.l0) := hst 8 (by omega)
  have x9 : w.cell? ⟨PB, 9, none⟩ = some (.int .i64 S.l1) := hst 9 (by omega)
  have x10 : w.cell? ⟨PB, 10, none⟩ = some (.int .i64 S.l2) := hst 10 (by omega)
  have x11 : w.cell? ⟨PB, 11, none⟩ = some (.int .i64 S.l3) := hst 11 (by omega)
  have x12 : w.cell? ⟨PB, 12, none⟩ = some (.int .i64 S.l4) := hst 12 (by omega)
  have HPO := hideP hP
  have HST : Hid (∀ W, Below w.heap.size w W → W.cell? ⟨PB, 13, none⟩ = some (.int .i64 S.r0) ∧ W.cell? ⟨PB, 14, none⟩ = some (.int .i64 S.r1) ∧ W.cell? ⟨PB, 15, none⟩ = some (.int .i64 S.r2) ∧ W.cell? ⟨PB, 16, none⟩ = some (.int .i64 S.r3) ∧ W.cell? ⟨PB, 17, none⟩ = some (.int .i64 S.r4)) := hideP (fun W hW => by
    have hq : ∀ o, W.cell? ⟨PB, o, none⟩ = w.cell? ⟨PB, o, none⟩ := fun o => World.cell?_of_block (a := ⟨PB, o, none⟩) (hW.block PB hPl)
    exact ⟨(hq 13).trans (hst 13 (by omega)), (hq 14).trans (hst 14 (by omega)), (hq 15).trans (hst 15 (by omega)), (hq 16).trans (hst 16 (by omega)), (hq 17).trans (hst 17 (by omega))⟩)
  obtain ⟨gn, cn, hnv⟩ : ∃ gn cn, nv = .slice (some ⟨gn, 0, none⟩) L.length cn := by
    have hL3 : 0 < L.length := by rw [hP.lst]; simp
    rcases hP.nds.2 with ⟨_, h0⟩ | ⟨g', cap', cur, e, _⟩
    · omega
    · exact ⟨g', cap', e⟩
  subst hnv
  have hN3 := hP.few
  have hLN := hP.ok3.len
  have hgn := (World.ownsRow.lt hP.nds gn rfl).2
  have hgB := (World.ownsRow.lt hP.itm B rfl).2
  have hcn := ownG_cap hP.nds
  have hic := ownG_cap hP.itm
  have hcm : ∀ W, Below w.heap.size w W → W.cell? ⟨PB, 23, none⟩ = some (.slice (some ⟨gn, 0, none⟩) L.length cn) ∧ W.cell? ⟨PB, 24, none⟩ = some (.slice (some ⟨B, 0, none⟩) (its L).length ic) ∧ W.cell? ⟨PB, 26, none⟩ = some (.slice (some ⟨g, 0, none⟩) m c) := fun W hW =>
    ⟨(World.cell?_of_block (a := ⟨PB, 23, none⟩) (hW.block PB hPl)).trans hP.par.c23, (World.cell?_of_block (a := ⟨PB, 24, none⟩) (hW.block PB hPl)).trans hP.par.c24, (World.cell?_of_block (a := ⟨PB, 26, none⟩) (hW.block PB hPl)).trans hP.par.c26⟩
  have HCM := hideP hcm
  have hbN : b < (its L).length := by
    have hmj : ts.getD j Tn.none ∈ ts := by
      rw [show ts.getD j Tn.none = ts[j]'(by rw [hP.tl]; exact hj) by simp [List.getD, List.getElem?_eq_getElem (show j < ts.length by rw [hP.tl]; exact hj)]]
      exact List.getElem_mem _
    have h1 := turn_low (hP.shw _ hmj)
    rw [hb] at h1
    omega
  obtain ⟨s, hs⟩ : ∃ s, s = begI (its L) a b := ⟨_, rfl⟩
  have EC : Hid (∀ W, Below w.heap.size w W → Calls Try.prog 40 #[.pointer (some ⟨PB, 0, none⟩), .int .i64 (i : Int), .int .i64 (j : Int)] W fun e w' => e = .returned (.tuple #[.int .i64 (s : Int), .int .i64 (b : Int)]) ∧ w' = W) := hideP (fun W hW => by
    rw [hs]
    exact ends_any i j (hcm W hW).2.2 (ownG_below hP.trn hW) hP.tl hm (by omega) hij hj (fun t ht => (hP.shw t ht).keep (KeepH.below hW)) a b ha hb hab)
  have hsr : a ≤ s ∧ s ≤ b := by rw [hs]; exact begI_range _ _ _ hab
  obtain ⟨hs1, hs2⟩ := hsr
  have TJ : Hid (∀ W, Below w.heap.size w W → W.cell? ⟨g, j * 4 + 2, none⟩ = some (.pointer (ts.getD j Tn.none).2.2.1)) := hideP (fun W hW => (turn_cells (ownG_below hP.trn hW) hP.tl hj).2.2.1)
  have SJ : Hid (∀ W, Below w.heap.size w W → ShowN ((its L).getD b It.none).1 (ts.getD j Tn.none).2.2.1 W) := hideP (fun W hW => by
    have hmj : ts.getD j Tn.none ∈ ts := by
      rw [show ts.getD j Tn.none = ts[j]'(by rw [hP.tl]; exact hj) by simp [List.getD, List.getElem?_eq_getElem (show j < ts.length by rw [hP.tl]; exact hj)]]
      exact List.getElem_mem _
    rcases (hP.shw _ hmj).keep (KeepH.below hW) with h | ⟨k, q, h1, h2, h3⟩
    · rw [h] at hb
      exact absurd hb (by show ¬ ((-1 : Int) = (b : Int)); omega)
    · rw [h1] at hb ⊢
      have hkb : (k : Int) = (b : Int) := hb
      obtain rfl : k = b := by omega
      exact h3)
  obtain ⟨N, hNN⟩ : ∃ N, N = (its L).length := ⟨_, rfl⟩
  obtain ⟨n, hnn⟩ : ∃ n, n = L.length := ⟨_, rfl⟩
  have HIT : Hid (∀ W, Below w.heap.size w W → ItR W B (its L)) := hideP (fun W hW => by
    obtain ⟨g7, h7, _, _, hir⟩ := its_row (ownG_below hP.itm hW) rfl (by omega)
    obtain rfl : B = g7 := by simpa using h7
    exact hir)
  have HNC : Hid (∀ j u, (flatN L)[j]? = some u → w.cell? ⟨gn, 0 + j, none⟩ = some u) := hideP (fun j u hu => by
    have hl : j < L.length * 15 := by rw [← flatN_len]; exact (List.getElem?_eq_some_iff.1 hu).1
    rw [Nat.zero_add]
    exact (World.ownsRow.cellAt hP.nds j hl).trans hu)
  rw [← hNN, ← hnn] at HCM hcm
  rw [← hNN] at hN3 hbN hic
  rw [← hnn] at hLN hcn
  obtain ⟨hic1, hic2⟩ := hic
  obtain ⟨hcn1, hcn2⟩ := hcn
  have hic3 : ic ≤ 9223372036854775807 := by unfold maxLen at hic2; exact hic2
  have hcn3 : cn ≤ 9223372036854775807 := by unfold maxLen at hcn2; exact hcn2
  obtain ⟨LZ, hLZ⟩ : ∃ LZ, LZ = lineZ S (its L) (rowL xs S) a b := ⟨_, rfl⟩
  have HLZ : Hid (LZ = (gapN S.l0 S.l1 S.l2 S.l3 S.l4 :: partL (its L) (rowL xs S) s (b - s)) ++ tailL (its L) b ++ [gapN S.r0 S.r1 S.r2 S.r3 S.r4]) := hideP (by rw [hLZ, hs]; rfl)
  rw [← hLZ]
  have HN := hideP hNN
  have Hn := hideP hnn
  obtain ⟨qj, hqj⟩ : ∃ q, q = (ts.getD j Tn.none).2.2.1 := ⟨_, rfl⟩
  rw [← hqj] at TJ SJ
  have hjm : (j : Int) < (m : Int) := by omega
  have GC : Hid (∀ (z0 z1 z2 z3 z4 : Int) W, Calls Try.prog 39 #[.agg #[.int .i64 z0, .int .i64 z1, .int .i64 z2, .int .i64 z3, .int .i64 z4, .int .i64 0]] W fun e w' => e = .returned (ndV (gapN z0 z1 z2 z3 z4)) ∧ Below W.heap.size W w') := hideP (fun z0 z1 z2 z3 z4 W => gap_any z0 z1 z2 z3 z4 W)
  clear hP hst hqj hLZ hNN hnn hs ha hb hic2 hcn2 hcm hob
  go_enter Try.func20, Try.ntmps20
  go_wp2_with fail
  refine (GC.out _ _ _ _ _ _).mono ?_
  rintro e w1 ⟨rfl, hb1⟩
  have B1 := hideP hb1
  have hz1 : w.heap.size ≤ w1.heap.size := hb1.size
  clear hb1 x8 x9 x10 x11 x12
  simp only [ndV, gapN]
  go_wp2_with fail
  have hq2 := heap_alloc_new w1 (.cells #[.int .i64 3, .int .i64 0, .int .i64 0, .int .i64 0, .int .i64 0, .int .i64 0, .int .i64 0, .int .i64 0, .int .i64 S.l0, .int .i64 S.l1, .int .i64 S.l2, .int .i64 S.l3, .int .i64 S.l4, .string ⟨#[]⟩, .int .i64 0] 48)
  have B2 : Hid (Below w.heap.size w (w1.alloc (.cells #[.int .i64 3, .int .i64 0, .int .i64 0, .int .i64 0, .int .i64 0, .int .i64 0, .int .i64 0, .int .i64 0, .int .i64 S.l0, .int .i64 S.l1, .int .i64 S.l2, .int .i64 S.l3, .int .i64 S.l4, .string ⟨#[]⟩, .int .i64 0] 48))) := hideP (B1.out.alloc hz1 _)
  have O2 : Hid ((w1.alloc (.cells #[.int .i64 3, .int .i64 0, .int .i64 0, .int .i64 0, .int .i64 0, .int .i64 0, .int .i64 0, .int .i64 0, .int .i64 S.l0, .int .i64 S.l1, .int .i64 S.l2, .int .i64 S.l3, .int .i64 S.l4, .string ⟨#[]⟩, .int .i64 0] 48)).ownsRow w.heap.size 48 15 (.slice (some ⟨w1.heap.size, 0, none⟩) 1 1) 1 (flatN [gapN S.l0 S.l1 S.l2 S.l3 S.l4])) := hideP ⟨rfl, .inr ⟨_, _, _, rfl, hz1, hq2, by omega, by unfold maxLen; omega, rfl, rfl⟩⟩
  refine (EC.out _ B2.out).mono ?_
  rintro e w2 ⟨rfl, hw2⟩
  have hx := hw2.symm
  obtain ⟨g1, hg1⟩ : ∃ g1, g1 = w1.heap.size := ⟨_, rfl⟩
  rw [← hg1] at O2
  try rw [← hg1]
  rw [hx] at B2 O2
  clear hx hw2 hq2 hg1
  obtain ⟨c23, c24, c26⟩ := HCM.out w2 B2.out
  have hsb : (s : Int) ≤ (b : Int) := by omega
  have hbi : (b : Int) ≤ (ic : Int) := by omega
  have hsi : s < ic := by omega
  have hP2 : PB < w2.heap.size := Nat.lt_of_lt_of_le hPl B2.out.size
  clear c23 c26
  go_wp2
  obtain ⟨M, hM⟩ : ∃ M, M = b - s := ⟨_, rfl⟩
  rw [← hM]
  have hM2 : M ≤ 2003 := by omega
  have HM := hideP hM
  rw [← hM] at HLZ
  have hsM : s + M ≤ b := by omega
  clear hM c24
  go_loopw [7, 38] (fun s7 s38 wr => ∃ k m' : Nat, k ≤ M ∧ m' ≤ 1 + k * 20003 ∧ s38 = .int .i64 (k : Int) ∧ Hid (wr.ownsRow w.heap.size 48 15 s7 m' (flatN (gapN S.l0 S.l1 S.l2 S.l3 S.l4 :: partL (its L) (rowL xs S) s k))) ∧ Hid (Below w.heap.size w wr)) (fun _ s _ => M - (intOf s).toNat)
  case atStart => exact ⟨0, 1, by omega, by omega, rfl, O2, B2⟩
  case round =>
    obtain ⟨k, m', hk, hm', rfl, HO, HB⟩ := hrel
    obtain ⟨ua, uc, rfl⟩ := ownG_shape HO.out
    by_cases hkM : k < M
    · have hki : (k : Int) < (M : Int) := by omega
      have hidx : s + k < (its L).length := by rw [← HN.out]; omega
      obtain ⟨at_, hat, hia, hsg⟩ := seg_at HPO.out.ok.1 HPO.out.lst hidx
      have hit := HIT.out wr HB.out
      have k0 := hit.c0 (s + k) hidx
      have k1 := hit.c1 (s + k) hidx
      have k2 := hit.c2 (s + k) hidx
      have hk8 : ((its L).getD (s + k) It.none).1 = L.getD at_ Nd.none := by rw [hia]; rfl
      have hSC0 : partL (its L) (rowL xs S) s (k + 1) = partL (its L) (rowL xs S) s k ++ (if (L.getD at_ Nd.none).k = 8 then [] else itemAt L at_) := by
        have h := partL_succ (its L) (rowL xs S) s k
        rw [hk8, hsg] at h
        exact h
      rw [hia] at k0 k1 k2
      simp only [itAt] at k0 k1 k2
      clear hk8
      have hkk := HPO.out.ok3.kids at_ hat
      have htx := HPO.out.ok3.text
      rw [← Hn.out] at hat hkk
      obtain ⟨yn, hyn⟩ : ∃ y, y = L.getD at_ Nd.none := ⟨_, rfl⟩
      rw [← hyn] at k0 k2 hkk hSC0
      obtain ⟨kids, hkd⟩ : ∃ z, z = yn.kids := ⟨_, rfl⟩
      rw [← hkd] at k2 hkk
      obtain ⟨kn, rfl⟩ : ∃ kn : Nat, kids = (kn : Int) := ⟨kids.toNat, by omega⟩
      have hIL : (itemAt L at_).length = 1 + kn := by
        unfold itemAt
        rw [← hyn, ← hkd, List.length_take, List.length_drop, ← Hn.out]
        omega
      have HIL := hideP hIL
      have CN : Hid (∀ W, Below w.heap.size w W → Calls Try.prog 41 #[.slice (some ⟨gn, at_ * 15, none⟩) (1 + kn) (cn - at_)] W fun e w' => ∃ v', e = .returned v' ∧ w'.ownsRow W.heap.size 48 15 v' (1 + kn) (flatN (itemAt L at_)) ∧ Below W.heap.size W w') := hideP (fun W hW => by
        rw [← hIL]
        refine copyNodes_any (lo := 0) (.inr ⟨gn, at_ * 15, cn - at_, rfl, by omega, Nat.zero_le _, fun _ => Nat.lt_of_lt_of_le hgn hW.size, fun j u hu => ?_⟩) (by omega) (fun i hi => ?_)
        · have h1 := itemAt_flat HNC.out j u hu
          rw [Nat.zero_add] at h1
          exact (hW.cell (p := ⟨gn, at_ * 15 + j, none⟩) hgn).trans h1
        · have hm1 : (itemAt L at_).getD i Nd.none ∈ L := by
            rw [show (itemAt L at_).getD i Nd.none = (itemAt L at_)[i] by simp [List.getD, List.getElem?_eq_getElem hi]]
            have h2 := List.getElem_mem hi
            unfold itemAt at h2
            exact List.mem_of_mem_drop (List.mem_of_mem_take h2)
          obtain ⟨p, hp, hpe⟩ := List.mem_iff_getElem.1 hm1
          have h3 := htx p hp
          rw [show L.getD p Nd.none = L[p] by simp [List.getD, List.getElem?_eq_getElem hp], hpe] at h3
          omega)
      obtain ⟨c0, c1, c2, c3, c4, hsT, _⟩ := ask_hyph yn
      have hsh := thV_shape yn
      obtain ⟨vt, hvt⟩ : ∃ v, v = thV yn := ⟨_, rfl⟩
      obtain ⟨nb, hnb⟩ : ∃ b, b = (yn.k == 8) := ⟨_, rfl⟩
      rw [← hvt] at k0 hsT hsh
      rw [← hnb] at hsT
      rw [show (s + k) * 3 = s * 3 + k * 3 by omega] at k0 k1 k2
      have hPr : PB < wr.heap.size := Nat.lt_of_lt_of_le hPl HB.out.size
      have HSC0 := hideP hSC0
      have HNB := hideP hnb
      have hatn : at_ + 1 + kn ≤ n := by omega
      clear hit hvt hnb hyn hkd hia hsg hSC0 htx hIL hkk hidx
      cases nb with
      | true =>
        have HSC : Hid (partL (its L) (rowL xs S) s (k + 1) = partL (its L) (rowL xs S) s k) := hideP (by
          rw [HSC0.out, if_pos (by have h1 := HNB.out; simpa using h1.symm), List.append_nil])
        rcases hsh with rfl | ⟨Xi, q, rfl⟩
        all_goals
          go_wp2
          go_roundw
          case rel => exact ⟨k + 1, m', by omega, by omega, by go_num, hideP (by rw [HSC.out]; exact ownG_below HO.out (below2 _ _ _)), hideP (below_more HB.out (below2 _ _ _) HB.out.size)⟩
          case measure => simp [intOf]; omega
      | false =>
        have HSC : Hid (gapN S.l0 S.l1 S.l2 S.l3 S.l4 :: partL (its L) (rowL xs S) s (k + 1) = (gapN S.l0 S.l1 S.l2 S.l3 S.l4 :: partL (its L) (rowL xs S) s k) ++ itemAt L at_) := hideP (by
          rw [HSC0.out, if_neg (by have h1 := HNB.out; simpa using h1.symm)]
          rfl)
        rcases hsh with rfl | ⟨Xi, q, rfl⟩
        · go_wp2
          rename_i K10 hK10
          have HK10 := hideP hK10
          clear hK10
          refine wp_region_noPanic ?_
          obtain ⟨WW, hWW⟩ : ∃ WW, (wr.alloc (.cells #[.nilIface, .int .i64 (at_ : Int), .int .i64 ((at_ : Int) + 1 + (kn : Int))] 93)).alloc (.cells #[.int .i64 c0, .int .i64 c1, .int .i64 c2, .int .i64 c3, .int .i64 c4] 99) = WW := ⟨_, rfl⟩
          have hWB : Below wr.heap.size wr WW := by rw [← hWW]; exact below2 _ _ _
          have hWI : WW.heap[wr.heap.size]? = some (.cells #[.nilIface, .int .i64 (at_ : Int), .int .i64 ((at_ : Int) + 1 + (kn : Int))] 93 (0, 0)) := by rw [← hWW]; exact ((below1 _ _).block _ (by simp)).trans (heap_alloc_new _ _)
          have BWW : Hid (Below w.heap.size w WW) := hideP (below_more HB.out hWB HB.out.size)
          have y8 : WW.cell? ⟨PB, 23, none⟩ = some (.slice (some ⟨gn, 0, none⟩) n cn) := (HCM.out WW BWW.out).1
          have y1 : WW.cell? ⟨wr.heap.size, 1, none⟩ = some (.int .i64 (at_ : Int)) := by rw [cell_of_row _ _ _ _ 93 _ hWI]; rfl
          have y2 : WW.cell? ⟨wr.heap.size, 2, none⟩ = some (.int .i64 ((at_ : Int) + 1 + (kn : Int))) := by rw [cell_of_row _ _ _ _ 93 _ hWI]; rfl
          have HOW := hideP (ownG_below HO.out hWB)
          rw [hWW]
          clear hWW hWI hWB k0 k1 k2 hsT hP2
          refine wp_region_held_drew (S := fun X => X.cell? ⟨PB, 23, none⟩ = some (.slice (some ⟨gn, 0, none⟩) n cn) ∧ X.cell? ⟨wr.heap.size, 1, none⟩ = some (.int .i64 (at_ : Int)) ∧ X.cell? ⟨wr.heap.size, 2, none⟩ = some (.int .i64 ((at_ : Int) + 1 + (kn : Int)))) (by kernel_rfl) ⟨y8, y1, y2⟩ (fun hS => ?_)
          refine tkS (i := 0) (v := .slice ua m' uc) rfl hS ?_
          try simp only [Act.put, List.getElem_toArray, List.getElem_cons_zero, List.getElem_cons_succ, List.setIfInBounds_toArray, List.set_cons_zero, List.set_cons_succ]
          refine tkS (i := 1) (v := .pointer (some ⟨PB, 0, none⟩)) rfl hS ?_
          try simp only [Act.put, List.getElem_toArray, List.getElem_cons_zero, List.getElem_cons_succ, List.setIfInBounds_toArray, List.set_cons_zero, List.set_cons_succ]
          refine tkS (i := 2) (v := .pointer (some ⟨PB, 0, none⟩)) rfl hS ?_
          try simp only [Act.put, List.getElem_toArray, List.getElem_cons_zero, List.getElem_cons_succ, List.setIfInBounds_toArray, List.set_cons_zero, List.set_cons_succ]
          refine tkS (i := 3) (v := .pointer (some ⟨PB, 23, none⟩)) rfl hS ?_
          try simp only [Act.put, List.getElem_toArray, List.getElem_cons_zero, List.getElem_cons_succ, List.setIfInBounds_toArray, List.set_cons_zero, List.set_cons_succ]
          refine tkS (i := 4) (v := .slice (some ⟨gn, 0, none⟩) n cn) rfl hS ?_
          try simp only [Act.put, List.getElem_toArray, List.getElem_cons_zero, List.getElem_cons_succ, List.setIfInBounds_toArray, List.set_cons_zero, List.set_cons_succ]
          refine tkS (i := 5) (v := .pointer (some ⟨wr.heap.size, 1, none⟩)) rfl hS ?_
          try simp only [Act.put, List.getElem_toArray, List.getElem_cons_zero, List.getElem_cons_succ, List.setIfInBounds_toArray, List.set_cons_zero, List.set_cons_succ]
          refine tkS (i := 6) (v := .int .i64 (at_ : Int)) rfl hS ?_
          try simp only [Act.put, List.getElem_toArray, List.getElem_cons_zero, List.getElem_cons_succ, List.setIfInBounds_toArray, List.set_cons_zero, List.set_cons_succ]
          refine tkS (i := 7) (v := .pointer (some ⟨wr.heap.size, 2, none⟩)) rfl hS ?_
          try simp only [Act.put, List.getElem_toArray, List.getElem_cons_zero, List.getElem_cons_succ, List.setIfInBounds_toArray, List.set_cons_zero, List.set_cons_succ]
          refine tkS (i := 8) (v := .int .i64 ((at_ : Int) + 1 + (kn : Int))) rfl hS ?_
          try simp only [Act.put, List.getElem_toArray, List.getElem_cons_zero, List.getElem_cons_succ, List.setIfInBounds_toArray, List.set_cons_zero, List.set_cons_succ]
          refine tkS (i := 9) (v := .slice (some ⟨gn, at_ * 15, none⟩) (1 + kn) (cn - at_)) rfl hS ?_ (hr := fun wx hx => by obtain ⟨hx1, hx2, hx3⟩ := hx; go_simp; first | done | (rw [if_pos ⟨by omega, by omega⟩, if_pos (by omega), if_neg (by omega), show ((at_ : Int) + 1 + (kn : Int)).toNat - at_ = 1 + kn by omega]))
          try simp only [Act.put, List.getElem_toArray, List.getElem_cons_zero, List.getElem_cons_succ, List.setIfInBounds_toArray, List.set_cons_zero, List.set_cons_succ]
          refine rdS (i := 10) rfl (fun K hK => ?_)
          go_simp
          go_at_call 41
          refine (CN.out WW.drew (Below.drew BWW.out)).mono ?_
          rintro e w5 ⟨v5, rfl, ho5, hb5⟩
          obtain ⟨g5, c5, rfl⟩ : ∃ g5 c5, v5 = .slice (some ⟨g5, 0, none⟩) (1 + kn) c5 := by
            rcases ho5.2 with ⟨_, h0⟩ | ⟨g', cap', cur, e, _⟩
            · omega
            · exact ⟨g', cap', e⟩
          have B5 : Hid (Below w.heap.size w w5) := hideP (below_more (W := WW.drew) (Below.drew BWW.out) hb5 BWW.out.size)
          have O5 := hideP (ownG_below (w := WW.drew) HOW.out hb5)
          have A5 := hideP ho5
          have hS5 : (fun X : World => X.cell? ⟨PB, 23, none⟩ = some (.slice (some ⟨gn, 0, none⟩) n cn) ∧ X.cell? ⟨wr.heap.size, 1, none⟩ = some (.int .i64 (at_ : Int)) ∧ X.cell? ⟨wr.heap.size, 2, none⟩ = some (.int .i64 ((at_ : Int) + 1 + (kn : Int)))) w5 := by
            have hWs : wr.heap.size < WW.heap.size := World.block_lt_of_cell? WW _ y1
            exact ⟨(HCM.out w5 B5.out).1, (World.cell?_of_block (w := WW) (a := ⟨wr.heap.size, 1, none⟩) (hb5.block _ hWs)).trans y1, (World.cell?_of_block (w := WW) (a := ⟨wr.heap.size, 2, none⟩) (hb5.block _ hWs)).trans y2⟩
          clear ho5 hb5
          refine hK.out _ _ hS5 (fun _ => ?_)
          try simp only [Act.put, List.getElem_toArray, List.getElem_cons_zero, List.getElem_cons_succ, List.setIfInBounds_toArray, List.set_cons_zero, List.set_cons_succ]
          clear hK K
          refine rdS (i := 11) rfl (fun K hK => ?_)
          refine wp_appS _ _ rfl w.heap.size _ m' _ rfl O5.out ⟨g5, 0, none⟩ c5 (1 + kn) (itemAt L at_) HIL.out rfl (row_add A5.out) (by omega) B5.out.size ?_
          intro v6 w6 ho6 hg6
          obtain ⟨a6, c6, rfl⟩ := ownG_shape ho6
          have B6 : Hid (Below w.heap.size w w6) := hideP (Below.grown B5.out hg6 B5.out.size (fun q hq => (World.ownsRow.lt O5.out q hq).1))
          have hS6 : (fun X : World => X.cell? ⟨PB, 23, none⟩ = some (.slice (some ⟨gn, 0, none⟩) n cn) ∧ X.cell? ⟨wr.heap.size, 1, none⟩ = some (.int .i64 (at_ : Int)) ∧ X.cell? ⟨wr.heap.size, 2, none⟩ = some (.int .i64 ((at_ : Int) + 1 + (kn : Int)))) w6 := by
            have hne : (Value.slice ua m' uc).ownBlock ≠ some wr.heap.size := fun e => by
              have := (World.ownsRow.lt HO.out _ e).2
              omega
            have hWs : wr.heap.size < w5.heap.size := World.block_lt_of_cell? w5 _ hS5.2.1
            have hbk := hg6.block wr.heap.size hWs (fun e => hne e.symm)
            exact ⟨(HCM.out w6 B6.out).1, (World.cell?_of_block (w := w5) (a := ⟨wr.heap.size, 1, none⟩) hbk).trans hS5.2.1, (World.cell?_of_block (w := w5) (a := ⟨wr.heap.size, 2, none⟩) hbk).trans hS5.2.2⟩
          have O6 : Hid (w6.ownsRow w.heap.size 48 15 (.slice a6 (m' + (1 + kn)) c6) (m' + (1 + kn)) (flatN (gapN S.l0 S.l1 S.l2 S.l3 S.l4 :: partL (its L) (rowL xs S) s (k + 1)))) := hideP (by
            rw [HSC.out]
            exact ho6)
          clear ho6 hg6
          refine hK.out _ _ hS6 (fun _ => ?_)
          try simp only [Act.put, List.getElem_toArray, List.getElem_cons_zero, List.getElem_cons_succ, List.setIfInBounds_toArray, List.set_cons_zero, List.set_cons_succ]
          clear hK K
          refine tkS (i := 12) (v := .slice a6 (m' + (1 + kn)) c6) rfl hS6 ?_
          try simp only [Act.put, List.getElem_toArray, List.getElem_cons_zero, List.getElem_cons_succ, List.setIfInBounds_toArray, List.set_cons_zero, List.set_cons_succ]
          refine wpAnyH_done (by kernel_rfl) ?_ _
          clear hS hS5 hS6 y8 y1 y2
          refine HK10.out _ _ ?_
          go_wp2
          go_roundw
          case rel => exact ⟨k + 1, m' + (1 + kn), by omega, by omega, by go_num, O6, B6⟩
          case measure => simp [intOf]; omega

        · go_wp2
          rename_i K10 hK10
          have HK10 := hideP hK10
          clear hK10
          refine wp_region_noPanic ?_
          obtain ⟨WW, hWW⟩ : ∃ WW, (wr.alloc (.cells #[.iface Xi q, .int .i64 (at_ : Int), .int .i64 ((at_ : Int) + 1 + (kn : Int))] 93)).alloc (.cells #[.int .i64 c0, .int .i64 c1, .int .i64 c2, .int .i64 c3, .int .i64 c4] 99) = WW := ⟨_, rfl⟩
          have hWB : Below wr.heap.size wr WW := by rw [← hWW]; exact below2 _ _ _
          have hWI : WW.heap[wr.heap.size]? = some (.cells #[.iface Xi q, .int .i64 (at_ : Int), .int .i64 ((at_ : Int) + 1 + (kn : Int))] 93 (0, 0)) := by rw [← hWW]; exact ((below1 _ _).block _ (by simp)).trans (heap_alloc_new _ _)
          have BWW : Hid (Below w.heap.size w WW) := hideP (below_more HB.out hWB HB.out.size)
          have y8 : WW.cell? ⟨PB, 23, none⟩ = some (.slice (some ⟨gn, 0, none⟩) n cn) := (HCM.out WW BWW.out).1
          have y1 : WW.cell? ⟨wr.heap.size, 1, none⟩ = some (.int .i64 (at_ : Int)) := by rw [cell_of_row _ _ _ _ 93 _ hWI]; rfl
          have y2 : WW.cell? ⟨wr.heap.size, 2, none⟩ = some (.int .i64 ((at_ : Int) + 1 + (kn : Int))) := by rw [cell_of_row _ _ _ _ 93 _ hWI]; rfl
          have HOW := hideP (ownG_below HO.out hWB)
          rw [hWW]
          clear hWW hWI hWB k0 k1 k2 hsT hP2
          refine wp_region_held_drew (S := fun X => X.cell? ⟨PB, 23, none⟩ = some (.slice (some ⟨gn, 0, none⟩) n cn) ∧ X.cell? ⟨wr.heap.size, 1, none⟩ = some (.int .i64 (at_ : Int)) ∧ X.cell? ⟨wr.heap.size, 2, none⟩ = some (.int .i64 ((at_ : Int) + 1 + (kn : Int)))) (by kernel_rfl) ⟨y8, y1, y2⟩ (fun hS => ?_)
          refine tkS (i := 0) (v := .slice ua m' uc) rfl hS ?_
          try simp only [Act.put, List.getElem_toArray, List.getElem_cons_zero, List.getElem_cons_succ, List.setIfInBounds_toArray, List.set_cons_zero, List.set_cons_succ]
          refine tkS (i := 1) (v := .pointer (some ⟨PB, 0, none⟩)) rfl hS ?_
          try simp only [Act.put, List.getElem_toArray, List.getElem_cons_zero, List.getElem_cons_succ, List.setIfInBounds_toArray, List.set_cons_zero, List.set_cons_succ]
          refine tkS (i := 2) (v := .pointer (some ⟨PB, 0, none⟩)) rfl hS ?_
          try simp only [Act.put, List.getElem_toArray, List.getElem_cons_zero, List.getElem_cons_succ, List.setIfInBounds_toArray, List.set_cons_zero, List.set_cons_succ]
          refine tkS (i := 3) (v := .pointer (some ⟨PB, 23, none⟩)) rfl hS ?_
          try simp only [Act.put, List.getElem_toArray, List.getElem_cons_zero, List.getElem_cons_succ, List.setIfInBounds_toArray, List.set_cons_zero, List.set_cons_succ]
          refine tkS (i := 4) (v := .slice (some ⟨gn, 0, none⟩) n cn) rfl hS ?_
          try simp only [Act.put, List.getElem_toArray, List.getElem_cons_zero, List.getElem_cons_succ, List.setIfInBounds_toArray, List.set_cons_zero, List.set_cons_succ]
          refine tkS (i := 5) (v := .pointer (some ⟨wr.heap.size, 1, none⟩)) rfl hS ?_
          try simp only [Act.put, List.getElem_toArray, List.getElem_cons_zero, List.getElem_cons_succ, List.setIfInBounds_toArray, List.set_cons_zero, List.set_cons_succ]
          refine tkS (i := 6) (v := .int .i64 (at_ : Int)) rfl hS ?_
          try simp only [Act.put, List.getElem_toArray, List.getElem_cons_zero, List.getElem_cons_succ, List.setIfInBounds_toArray, List.set_cons_zero, List.set_cons_succ]
          refine tkS (i := 7) (v := .pointer (some ⟨wr.heap.size, 2, none⟩)) rfl hS ?_
          try simp only [Act.put, List.getElem_toArray, List.getElem_cons_zero, List.getElem_cons_succ, List.setIfInBounds_toArray, List.set_cons_zero, List.set_cons_succ]
          refine tkS (i := 8) (v := .int .i64 ((at_ : Int) + 1 + (kn : Int))) rfl hS ?_
          try simp only [Act.put, List.getElem_toArray, List.getElem_cons_zero, List.getElem_cons_succ, List.setIfInBounds_toArray, List.set_cons_zero, List.set_cons_succ]
          refine tkS (i := 9) (v := .slice (some ⟨gn, at_ * 15, none⟩) (1 + kn) (cn - at_)) rfl hS ?_ (hr := fun wx hx => by obtain ⟨hx1, hx2, hx3⟩ := hx; go_simp; first | done | (rw [if_pos ⟨by omega, by omega⟩, if_pos (by omega), if_neg (by omega), show ((at_ : Int) + 1 + (kn : Int)).toNat - at_ = 1 + kn by omega]))
          try simp only [Act.put, List.getElem_toArray, List.getElem_cons_zero, List.getElem_cons_succ, List.setIfInBounds_toArray, List.set_cons_zero, List.set_cons_succ]
          refine rdS (i := 10) rfl (fun K hK => ?_)
          go_simp
          go_at_call 41
          refine (CN.out WW.drew (Below.drew BWW.out)).mono ?_
          rintro e w5 ⟨v5, rfl, ho5, hb5⟩
          obtain ⟨g5, c5, rfl⟩ : ∃ g5 c5, v5 = .slice (some ⟨g5, 0, none⟩) (1 + kn) c5 := by
            rcases ho5.2 with ⟨_, h0⟩ | ⟨g', cap', cur, e, _⟩
            · omega
            · exact ⟨g', cap', e⟩
          have B5 : Hid (Below w.heap.size w w5) := hideP (below_more (W := WW.drew) (Below.drew BWW.out) hb5 BWW.out.size)
          have O5 := hideP (ownG_below (w := WW.drew) HOW.out hb5)
          have A5 := hideP ho5
          have hS5 : (fun X : World => X.cell? ⟨PB, 23, none⟩ = some (.slice (some ⟨gn, 0, none⟩) n cn) ∧ X.cell? ⟨wr.heap.size, 1, none⟩ = some (.int .i64 (at_ : Int)) ∧ X.cell? ⟨wr.heap.size, 2, none⟩ = some (.int .i64 ((at_ : Int) + 1 + (kn : Int)))) w5 := by
            have hWs : wr.heap.size < WW.heap.size := World.block_lt_of_cell? WW _ y1
            exact ⟨(HCM.out w5 B5.out).1, (World.cell?_of_block (w := WW) (a := ⟨wr.heap.size, 1, none⟩) (hb5.block _ hWs)).trans y1, (World.cell?_of_block (w := WW) (a := ⟨wr.heap.size, 2, none⟩) (hb5.block _ hWs)).trans y2⟩
          clear ho5 hb5
          refine hK.out _ _ hS5 (fun _ => ?_)
          try simp only [Act.put, List.getElem_toArray, List.getElem_cons_zero, List.getElem_cons_succ, List.setIfInBounds_toArray, List.set_cons_zero, List.set_cons_succ]
          clear hK K
          refine rdS (i := 11) rfl (fun K hK => ?_)
          refine wp_appS _ _ rfl w.heap.size _ m' _ rfl O5.out ⟨g5, 0, none⟩ c5 (1 + kn) (itemAt L at_) HIL.out rfl (row_add A5.out) (by omega) B5.out.size ?_
          intro v6 w6 ho6 hg6
          obtain ⟨a6, c6, rfl⟩ := ownG_shape ho6
          have B6 : Hid (Below w.heap.size w w6) := hideP (Below.grown B5.out hg6 B5.out.size (fun q hq => (World.ownsRow.lt O5.out q hq).1))
          have hS6 : (fun X : World => X.cell? ⟨PB, 23, none⟩ = some (.slice (some ⟨gn, 0, none⟩) n cn) ∧ X.cell? ⟨wr.heap.size, 1, none⟩ = some (.int .i64 (at_ : Int)) ∧ X.cell? ⟨wr.heap.size, 2, none⟩ = some (.int .i64 ((at_ : Int) + 1 + (kn : Int)))) w6 := by
            have hne : (Value.slice ua m' uc).ownBlock ≠ some wr.heap.size := fun e => by
              have := (World.ownsRow.lt HO.out _ e).2
              omega
            have hWs : wr.heap.size < w5.heap.size := World.block_lt_of_cell? w5 _ hS5.2.1
            have hbk := hg6.block wr.heap.size hWs (fun e => hne e.symm)
            exact ⟨(HCM.out w6 B6.out).1, (World.cell?_of_block (w := w5) (a := ⟨wr.heap.size, 1, none⟩) hbk).trans hS5.2.1, (World.cell?_of_block (w := w5) (a := ⟨wr.heap.size, 2, none⟩) hbk).trans hS5.2.2⟩
          have O6 : Hid (w6.ownsRow w.heap.size 48 15 (.slice a6 (m' + (1 + kn)) c6) (m' + (1 + kn)) (flatN (gapN S.l0 S.l1 S.l2 S.l3 S.l4 :: partL (its L) (rowL xs S) s (k + 1)))) := hideP (by
            rw [HSC.out]
            exact ho6)
          clear ho6 hg6
          refine hK.out _ _ hS6 (fun _ => ?_)
          try simp only [Act.put, List.getElem_toArray, List.getElem_cons_zero, List.getElem_cons_succ, List.setIfInBounds_toArray, List.set_cons_zero, List.set_cons_succ]
          clear hK K
          refine tkS (i := 12) (v := .slice a6 (m' + (1 + kn)) c6) rfl hS6 ?_
          try simp only [Act.put, List.getElem_toArray, List.getElem_cons_zero, List.getElem_cons_succ, List.setIfInBounds_toArray, List.set_cons_zero, List.set_cons_succ]
          refine wpAnyH_done (by kernel_rfl) ?_ _
          clear hS hS5 hS6 y8 y1 y2
          refine HK10.out _ _ ?_
          go_wp2
          go_roundw
          case rel => exact ⟨k + 1, m' + (1 + kn), by omega, by omega, by go_num, O6, B6⟩
          case measure => simp [intOf]; omega

    · have hki : ¬ (k : Int) < (M : Int) := by omega
      obtain rfl : k = M := by omega
      have hmb : m' ≤ 1 + 2003 * 20003 := Nat.le_trans hm' (Nat.add_le_add_left (Nat.mul_le_mul_right _ (by omega)) _)
      have t26 := (HCM.out wr HB.out).2.2
      have tj := TJ.out wr HB.out
      have hsn := SJ.out wr HB.out
      have hPr : PB < wr.heap.size := Nat.lt_of_lt_of_le hPl HB.out.size
      have hgr : g < wr.heap.size := World.block_lt_of_cell? wr _ tj
      have hfst := fst_get HPO.out.hd b
      obtain ⟨x, hx⟩ : ∃ x, x = ((its L).getD b It.none).1 := ⟨_, rfl⟩
      rw [← hx] at hsn
      by_cases h8 : x.k = 8
      · unfold ShowN at hsn
        rw [if_pos h8] at hsn
        obtain ⟨bq, rfl, hbq⟩ := hsn
        have q0 : wr.cell? ⟨bq, 0, none⟩ = some (.int .i64 x.fo) := by rw [cell_of_row wr bq 0 _ _ _ hbq]; rfl
        have q1 : wr.cell? ⟨bq, 1, none⟩ = some (.int .i64 x.ch) := by rw [cell_of_row wr bq 1 _ _ _ hbq]; rfl
        have q2 : wr.cell? ⟨bq, 2, none⟩ = some (.int .i64 x.wd) := by rw [cell_of_row wr bq 2 _ _ _ hbq]; rfl
        have q3 : wr.cell? ⟨bq, 3, none⟩ = some (.int .i64 x.ht) := by rw [cell_of_row wr bq 3 _ _ _ hbq]; rfl
        have q4 : wr.cell? ⟨bq, 4, none⟩ = some (.int .i64 x.dp) := by rw [cell_of_row wr bq 4 _ _ _ hbq]; rfl
        have hbl : bq < wr.heap.size := (Array.getElem?_eq_some_iff.1 hbq).1
        have HLX2 : Hid (LZ = ((gapN S.l0 S.l1 S.l2 S.l3 S.l4 :: partL (its L) (rowL xs S) s k) ++ [⟨1, x.wd, x.ht, x.dp, 0, x.fo, x.ch, 0, 0, 0, 0, 0, 0, ⟨#[]⟩, 0⟩]) ++ [gapN S.r0 S.r1 S.r2 S.r3 S.r4]) := hideP (by
          rw [HLZ.out]
          unfold tailL
          rw [← hx, if_pos h8]
          have h9 : ((rowI xs S).getD b It.none).1.k = 8 := by rw [← hfst, ← hx]; exact h8
          have h1 := row_hyph HPO.out.ok.1 h9
          rw [← hfst, ← hx] at h1
          rw [h1])
        have LC : Hid (∀ W, Calls Try.prog 42 #[.agg #[.int .i64 x.fo, .int .i64 x.ch, .int .i64 x.wd, .int .i64 x.ht, .int .i64 x.dp]] W fun e w' => e = .returned (ndV ⟨1, x.wd, x.ht, x.dp, 0, x.fo, x.ch, 0, 0, 0, 0, 0, 0, ⟨#[]⟩, 0⟩) ∧ Below W.heap.size W w') := hideP (fun W => letN_any _ _ _ _ _ W)
        obtain ⟨fo, hfo⟩ : ∃ z, z = x.fo := ⟨_, rfl⟩
        obtain ⟨ch, hch⟩ : ∃ z, z = x.ch := ⟨_, rfl⟩
        obtain ⟨wd, hwd⟩ : ∃ z, z = x.wd := ⟨_, rfl⟩
        obtain ⟨ht, hht⟩ : ∃ z, z = x.ht := ⟨_, rfl⟩
        obtain ⟨dp, hdp⟩ : ∃ z, z = x.dp := ⟨_, rfl⟩
        rw [← hfo, ← hch, ← hwd, ← hht, ← hdp] at HLX2 LC
        rw [← hfo] at q0
        rw [← hch] at q1
        rw [← hwd] at q2
        rw [← hht] at q3
        rw [← hdp] at q4
        clear hfo hch hwd hht hdp hx hfst hbq h8
        go_wp2_with fail
        refine (LC.out _).mono ?_
        rintro e w3 ⟨rfl, hb3⟩
        have B3 : Hid (Below w.heap.size w w3) := hideP (below_more HB.out hb3 HB.out.size)
        have O3 := hideP (ownG_below HO.out hb3)
        clear hb3 q0 q1 q2 q3 q4 hbl t26 tj hPr hgr
        simp only [ndV]
        go_wp2_with (at_builtin; refine Hid.out ?_)
        refine hideP ?_
        have hqT := heap_alloc_new w3 (.cells #[.int .i64 1, .int .i64 wd, .int .i64 ht, .int .i64 dp, .int .i64 0, .int .i64 fo, .int .i64 ch, .int .i64 0, .int .i64 0, .int .i64 0, .int .i64 0, .int .i64 0, .int .i64 0, .string ⟨#[]⟩, .int .i64 0] 48)
        have HBT : Hid (Below w.heap.size w (w3.alloc (.cells #[.int .i64 1, .int .i64 wd, .int .i64 ht, .int .i64 dp, .int .i64 0, .int .i64 fo, .int .i64 ch, .int .i64 0, .int .i64 0, .int .i64 0, .int .i64 0, .int .i64 0, .int .i64 0, .string ⟨#[]⟩, .int .i64 0] 48))) := hideP (B3.out.alloc B3.out.size _)
        have HOT := hideP (ownG_below O3.out (below1 w3 (.cells #[.int .i64 1, .int .i64 wd, .int .i64 ht, .int .i64 dp, .int .i64 0, .int .i64 fo, .int .i64 ch, .int .i64 0, .int .i64 0, .int .i64 0, .int .i64 0, .int .i64 0, .int .i64 0, .string ⟨#[]⟩, .int .i64 0] 48)))
        refine wpList_app1 rfl (.tmp 73) (.tmp 78) rfl w.heap.size _ m' _ rfl HOT.out w3.heap.size ⟨1, wd, ht, dp, 0, fo, ch, 0, 0, 0, 0, 0, 0, ⟨#[]⟩, 0⟩ rfl hqT (by omega) HBT.out.size ?_
        intro vT wT hoT hgT haT
        obtain ⟨aT, cT, rfl⟩ := ownG_shape hoT
        have BT : Hid (Below w.heap.size w wT) := hideP (Below.grown HBT.out hgT HBT.out.size (fun j hj => (World.ownsRow.lt HOT.out j hj).1))
        have OT := hideP hoT
        clear hoT hgT haT hqT
        obtain ⟨z13, z14, z15, z16, z17⟩ := HST.out wT BT.out
        have hPz : PB < wT.heap.size := Nat.lt_of_lt_of_le hPl BT.out.size
        go_wp2_with fail
        refine (GC.out _ _ _ _ _ _).mono ?_
        rintro e wG ⟨rfl, hbG⟩
        have BG : Hid (Below w.heap.size w wG) := hideP (below_more BT.out hbG BT.out.size)
        have OG := hideP (ownG_below OT.out hbG)
        clear hbG z13 z14 z15 z16 z17 hPz
        simp only [ndV, gapN]
        go_wp2_with (at_builtin; refine Hid.out ?_)
        refine hideP ?_
        have hqF := heap_alloc_new wG (.cells #[.int .i64 3, .int .i64 0, .int .i64 0, .int .i64 0, .int .i64 0, .int .i64 0, .int .i64 0, .int .i64 0, .int .i64 S.r0, .int .i64 S.r1, .int .i64 S.r2, .int .i64 S.r3, .int .i64 S.r4, .string ⟨#[]⟩, .int .i64 0] 48)
        have HBF : Hid (Below w.heap.size w (wG.alloc (.cells #[.int .i64 3, .int .i64 0, .int .i64 0, .int .i64 0, .int .i64 0, .int .i64 0, .int .i64 0, .int .i64 0, .int .i64 S.r0, .int .i64 S.r1, .int .i64 S.r2, .int .i64 S.r3, .int .i64 S.r4, .string ⟨#[]⟩, .int .i64 0] 48))) := hideP (BG.out.alloc BG.out.size _)
        have HOF := hideP (ownG_below OG.out (below1 wG (.cells #[.int .i64 3, .int .i64 0, .int .i64 0, .int .i64 0, .int .i64 0, .int .i64 0, .int .i64 0, .int .i64 0, .int .i64 S.r0, .int .i64 S.r1, .int .i64 S.r2, .int .i64 S.r3, .int .i64 S.r4, .string ⟨#[]⟩, .int .i64 0] 48)))
        refine wpList_app1 rfl (.tmp 80) (.tmp 88) rfl w.heap.size _ (m' + 1) _ rfl HOF.out wG.heap.size (gapN S.r0 S.r1 S.r2 S.r3 S.r4) rfl hqF (by omega) HBF.out.size ?_
        intro vF wF hoF hgF haF
        have BF : Hid (Below w.heap.size w wF) := hideP (Below.grown HBF.out hgF HBF.out.size (fun j hj => (World.ownsRow.lt HOF.out j hj).1))
        have OF := hideP hoF
        clear hoF hgF haF hqF
        go_wp2
        go_ret
        exact ⟨⟨_, rfl, by rw [HLX2.out]; exact own_relen OF.out⟩, BF.out⟩
      · unfold ShowN at hsn
        rw [if_neg h8] at hsn
        subst hsn
        have HLX2 : Hid (LZ = (gapN S.l0 S.l1 S.l2 S.l3 S.l4 :: partL (its L) (rowL xs S) s k) ++ [gapN S.r0 S.r1 S.r2 S.r3 S.r4]) := hideP (by
          rw [HLZ.out]
          unfold tailL
          rw [← hx, if_neg h8, List.append_nil])
        clear hx hfst h8
        go_upto_region 13 with fail
        clear t26 tj hPr hgr
        obtain ⟨z13, z14, z15, z16, z17⟩ := HST.out wr HB.out
        have hPz : PB < wr.heap.size := Nat.lt_of_lt_of_le hPl HB.out.size
        go_wp2_with fail
        refine (GC.out _ _ _ _ _ _).mono ?_
        rintro e wG ⟨rfl, hbG⟩
        have BG : Hid (Below w.heap.size w wG) := hideP (below_more HB.out hbG HB.out.size)
        have OG := hideP (ownG_below HO.out hbG)
        clear hbG z13 z14 z15 z16 z17 hPz
        simp only [ndV, gapN]
        go_wp2_with (at_builtin; refine Hid.out ?_)
        refine hideP ?_
        have hqF := heap_alloc_new wG (.cells #[.int .i64 3, .int .i64 0, .int .i64 0, .int .i64 0, .int .i64 0, .int .i64 0, .int .i64 0, .int .i64 0, .int .i64 S.r0, .int .i64 S.r1, .int .i64 S.r2, .int .i64 S.r3, .int .i64 S.r4, .string ⟨#[]⟩, .int .i64 0] 48)
        have HBF : Hid (Below w.heap.size w (wG.alloc (.cells #[.int .i64 3, .int .i64 0, .int .i64 0, .int .i64 0, .int .i64 0, .int .i64 0, .int .i64 0, .int .i64 0, .int .i64 S.r0, .int .i64 S.r1, .int .i64 S.r2, .int .i64 S.r3, .int .i64 S.r4, .string ⟨#[]⟩, .int .i64 0] 48))) := hideP (BG.out.alloc BG.out.size _)
        have HOF := hideP (ownG_below OG.out (below1 wG (.cells #[.int .i64 3, .int .i64 0, .int .i64 0, .int .i64 0, .int .i64 0, .int .i64 0, .int .i64 0, .int .i64 0, .int .i64 S.r0, .int .i64 S.r1, .int .i64 S.r2, .int .i64 S.r3, .int .i64 S.r4, .string ⟨#[]⟩, .int .i64 0] 48)))
        refine wpList_app1 rfl (.tmp 80) (.tmp 88) rfl w.heap.size _ m' _ rfl HOF.out wG.heap.size (gapN S.r0 S.r1 S.r2 S.r3 S.r4) rfl hqF (by omega) HBF.out.size ?_
        intro vF wF hoF hgF haF
        have BF : Hid (Below w.heap.size w wF) := hideP (Below.grown HBF.out hgF HBF.out.size (fun j hj => (World.ownsRow.lt HOF.out j hj).1))
        have OF := hideP hoF
        clear hoF hgF haF hqF
        go_wp2
        go_ret
        exact ⟨⟨_, rfl, by rw [HLX2.out]; exact own_relen OF.out⟩, BF.out⟩
end Go.Proofs.Ytdgfnceipginkaa
