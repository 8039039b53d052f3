import Derived.RangeFuncNested
import Derived.RangeFuncBound
import Derived.RangeFuncCalls
import Derived.RangeFuncLeaves
import Derived.Shelf.Abstract
import Derived.Shelf.RegionOpen
import Derived.WalkKit
import Derived.OwnWalkIn
import Derived.TacticsInMore
import Derived.LoopNIn
import Derived.LoopIn
import Derived.Maps.AppendAt
import Derived.Test.YtlohbaoigfaneaaGreatItx
import Derived.Test.YtlohbaoigfaneaaGreatBrk
import Derived.Test.YtlohbaoigfaneaaGreatLok
import Derived.Test.YtlohbaoigfaneaaGreatMak
import Derived.Test.YtlohbaoigfaneaaGreatAdl
import Derived.Test.YtlohbaoigfaneaaGreatItv
import Derived.Test.YtlohbaoigfaneaaGreatPft
import Derived.Deep.RegionWith
import Derived.Deep.RegionHeld3
namespace Go.Proofs.YtlohbaoigfaneaaGreat
open Go.RowKit Go.Shelf
set_option linter.unusedVariables false
set_option linter.unusedSimpArgs false
attribute [local go_sem] Oper.semAt_some
theorem made_ownedL {w : World} {base D n : Nat} (h : w.ownsRow base 118 10 (.slice (some ⟨D, 0, none⟩) n n) n (madeCells (Value.cells (.agg #[.int .i64 0, .int .i64 0, .int .i64 0, .int .i64 0, .int .i64 0, .int .i64 0, .int .i64 0, .int .i64 0, .int .i64 0, .int .i64 0])) (n * 10)).toList) : IntsL w D 118 (List.replicate (n * 10) 0) := by
 rw [made_piles] at h
 obtain ⟨hl, ⟨h, _⟩ | ⟨g, cap, cur, e, _, hb, hn, hm, hs, hx⟩⟩ := h
 ·simp at h
 ·simp only [Value.slice.injEq, Option.some.injEq, Addr.mk.injEq, and_true, true_and] at e
  obtain ⟨rfl, rfl⟩ := e
  unfold IntsL
  have e2 : cur.toList = (List.replicate (n * 10) (0 : Int)).map (Value.int .i64) := by
   rw [← hx, List.take_of_length_le (by rw [Array.length_toList, hs]; exact Nat.le_refl _)]
  have e3 : cur = ((List.replicate (n * 10) (0 : Int)).map (Value.int .i64)).toArray := by
   rw [← e2]
  rw [hb, e3]
theorem Tryz.info147i : (Tryz.prog.info? 118).map (fun i => (i.zero, i.size, i.bytes)) = some (some (.agg #[.int .i64 0, .int .i64 0, .int .i64 0, .int .i64 0, .int .i64 0, .int .i64 0, .int .i64 0, .int .i64 0, .int .i64 0, .int .i64 0]), 10, 80) := by kernel_rfl
theorem IntsL.belowE {w w' : World} {B T : Nat} {zs ys : List Int} (h : IntsL w B T zs) (e : ys = zs) (hb : Below w.heap.size w w') : IntsL w' B T ys := by
 rw [e]
 exact h.below hb
def padF (o : Nat) (ns : List Nd) (ps : List Nat) (zs : List Int) : List Int := ps.foldl (fun z p => pAdI o (ns.getD p Nd.none) z) zs
theorem padF_snoc (o : Nat) (ns : List Nd) (ps : List Nat) (zs : List Int) (p : Nat) : padF o ns (ps ++ [p]) zs = pAdI o (ns.getD p Nd.none) (padF o ns ps zs) := by simp [padF]
theorem padF_len (o : Nat) (ns : List Nd) : ∀ (ps : List Nat) (zs : List Int), (padF o ns ps zs).length = zs.length
 | [], _ => rfl
 | p :: ps, zs => by
  show (padF o ns ps (pAdI o (ns.getD p Nd.none) zs)).length = _
  rw [padF_len o ns ps, pAdI_len]
def insZ (xs : List Nd) (ys : List It) (N : Nat) : Nat → List Int
 | 0 => List.replicate (N * 10) 0
 | k + 1 => if (ys.getD k It.none).1.k = 11 then padF (k * 10) (segB xs (ys.getD k It.none)) (starts (segB xs (ys.getD k It.none)) ((segB xs (ys.getD k It.none)).length + 1) 0) (insZ xs ys N k) else insZ xs ys N k
theorem insZ_len (xs : List Nd) (ys : List It) (N : Nat) : ∀ k, (insZ xs ys N k).length = N * 10
 | 0 => by simp [insZ]
 | k + 1 => by
  rw [insZ]
  split
  ·rw [padF_len, insZ_len xs ys N k]
  ·exact insZ_len xs ys N k
theorem insZ_skip {xs : List Nd} {ys : List It} {N k : Nat} (h : ¬ (ys.getD k It.none).1.k = 11) : insZ xs ys N (k + 1) = insZ xs ys N k := by rw [insZ, if_neg h]
theorem insZ_note {xs sub : List Nd} {ys : List It} {N k : Nat} (h : (ys.getD k It.none).1.k = 11) (hs : segB xs (ys.getD k It.none) = sub) : insZ xs ys N (k + 1) = padF (k * 10) sub (starts sub (sub.length + 1) 0) (insZ xs ys N k) := by rw [insZ, if_pos h, hs]
set_option maxRecDepth 100000 in
set_option maxHeartbeats 8000000 in
theorem scrollX_in {v : Value} {xs : List Nd} {w : World} (S : Sh) (h : NRow 0 w v xs) (hs : xs.length ≤ 1048576) (hcp : ∀ a n c, v = .slice a n c → n ≤ c ∧ c ≤ 9223372036854775807) :
 CallsIn Fence.wide 6 Tryz.prog 43 #[v, shV S] w fun e W' => ((shB S && listB xs) = false → e = .returned (.tuple #[.pointer none, .bool false])) ∧ ((shB S && listB xs) = true → ∃ (C D : Nat) (ua : Option Addr) (uc : Nat), e = .returned (.tuple #[.pointer (some ⟨C, 0, none⟩), .bool (decide (((its xs).length : Int) ≤ 4000))]) ∧ W'.heap[C]? = some (.cells #[.int .i64 S.ht, .int .i64 S.dp, .int .i64 S.g0, .int .i64 S.g1, .int .i64 S.g2, .int .i64 S.g3, .int .i64 S.g4, .int .i64 S.nt, v, .slice ua (its xs).length uc, .slice (some ⟨D, 0, none⟩) (its xs).length (its xs).length] 128 (0, 0)) ∧ W'.ownsRow w.heap.size 186 3 (.slice ua (its xs).length uc) (its xs).length (flatI (its xs)) ∧ w.heap.size < C ∧ IntsL W' D 118 (insZ xs (its xs) (its xs).length (its xs).length)) ∧ Below w.heap.size w W' := by
 have LC : Hid (∀ W, Below w.heap.size w W → Calls Tryz.prog 66 #[v] W fun e w' => e = .returned (.bool (listB xs)) ∧ Below W.heap.size W w') := hideP (fun W hW => implListOk_any (SRow.below ndStable h hW) hs)
 have IC : Hid (listB xs = true → ∀ W, Below w.heap.size w W → Calls Tryz.prog 89 #[v] W fun e W' => (∃ u, e = .returned u ∧ W'.ownsRow W.heap.size 186 3 u (its xs).length (flatI (its xs))) ∧ Below W.heap.size W W') := hideP (fun ho W hW => callsIn_wide.1 (itemsOf_in (SRow.below ndStable h hW) hcp (allOk ho)))
 obtain ⟨S0, S1, S2, S3, S4, S5, S6, S7⟩ := S
 obtain ⟨sb, hsb⟩ : ∃ sb, sb = shB ⟨S0, S1, S2, S3, S4, S5, S6, S7⟩ := ⟨_, rfl⟩
 have SC : Hid (∀ W, Calls Tryz.prog 88 #[shV ⟨S0, S1, S2, S3, S4, S5, S6, S7⟩] W fun e w' => e = .returned (.bool sb) ∧ Below W.heap.size W w') := hideP (fun W => by rw [hsb]; exact implSheet_any _ W)
 rw [← hsb]
 have HN := hideP h
 obtain ⟨ao, n, cap, rfl, hl, hr⟩ := h
 have hcap := hcp _ _ _ rfl
 obtain ⟨hcap1, hcap2⟩ := hcap
 have hnm : n ≤ 1048576 := by rw [← hl]; exact hs
 have HL := hideP hl
 obtain ⟨ob, hob⟩ : ∃ ob, ob = listB xs := ⟨_, rfl⟩
 rw [← hob] at LC IC ⊢
 have HOB := hideP hob
 simp only [shV] at SC ⊢
 clear hob hr hl hcp hsb
 refine callsIn_of_wp_marks Tryz.func43 rfl trivial ?_ rfl
 simp only [Tryz.ntmps43, List.size_toArray, List.length_cons, List.length_nil, Nat.reduceAdd, Nat.reduceSub, Array.replicate_succ, Array.replicate_zero, List.push_toArray, List.append_toArray, List.nil_append, List.cons_append]
 gi_wp2_with fail
 refine ⟨trivial, CallsIn.mono (callsIn_wide.2 (SC.out _)) ?_⟩
 rintro e w1 ⟨rfl, hb1⟩
 have B1 : Hid (Below w.heap.size w w1) := hideP (below_more (below1 _ _) hb1 (by simp))
 have q1 : w1.heap[w.heap.size]? = some (.cells #[.int .i64 S0, .int .i64 S1, .int .i64 S2, .int .i64 S3, .int .i64 S4, .int .i64 S5, .int .i64 S6, .int .i64 S7] 45 (0, 0)) := (hb1.block _ (by simp)).trans (heap_alloc_new _ _)
 have Q1 := hideP q1
 clear hb1 q1
 cases sb with
 | false =>
  gi_wp2
  refine ⟨trivial, ?_⟩
  gi_wp2
  refine ⟨.tuple #[.pointer none, .bool false], by simp [results, Tryz.results43, go_sem], by simp, by simp, B1.out⟩
 | true =>
  gi_wp2_with fail
  refine ⟨trivial, CallsIn.mono (callsIn_wide.2 (LC.out _ B1.out)) ?_⟩
  rintro e w2 ⟨rfl, hb2⟩
  have B2 : Hid (Below w.heap.size w w2) := hideP (below_more B1.out hb2 B1.out.size)
  have q2 : w2.heap[w.heap.size]? = some (.cells #[.int .i64 S0, .int .i64 S1, .int .i64 S2, .int .i64 S3, .int .i64 S4, .int .i64 S5, .int .i64 S6, .int .i64 S7] 45 (0, 0)) := (hb2.block _ (Array.getElem?_eq_some_iff.1 Q1.out).1).trans Q1.out
  have Q2 := hideP q2
  have hw2 : w.heap.size < w2.heap.size := (Array.getElem?_eq_some_iff.1 q2).1
  clear hb2 q2 B1 Q1
  cases ob with
  | false =>
   gi_wp2
   refine ⟨.tuple #[.pointer none, .bool false], by simp [results, Tryz.results43, go_sem], by simp, by simp, B2.out⟩
  | true =>
   have AOK := hideP (allOk HOB.out.symm)
   have IC2 := hideP (IC.out rfl)
   clear LC SC IC
   have s0 : ∀ W, Below w2.heap.size w2 W → ∀ j, j < 8 → W.cell? ⟨w.heap.size, j, none⟩ = w2.cell? ⟨w.heap.size, j, none⟩ := fun W hW j _ => hW.cell (p := ⟨w.heap.size, j, none⟩) hw2
   have y0 : w2.cell? ⟨w.heap.size, 0, none⟩ = some (.int .i64 S0) := by rw [cell_of_row _ _ _ _ 45 _ Q2.out]; rfl
   have y1 : w2.cell? ⟨w.heap.size, 1, none⟩ = some (.int .i64 S1) := by rw [cell_of_row _ _ _ _ 45 _ Q2.out]; rfl
   have y2 : w2.cell? ⟨w.heap.size, 2, none⟩ = some (.int .i64 S2) := by rw [cell_of_row _ _ _ _ 45 _ Q2.out]; rfl
   have y3 : w2.cell? ⟨w.heap.size, 3, none⟩ = some (.int .i64 S3) := by rw [cell_of_row _ _ _ _ 45 _ Q2.out]; rfl
   have y4 : w2.cell? ⟨w.heap.size, 4, none⟩ = some (.int .i64 S4) := by rw [cell_of_row _ _ _ _ 45 _ Q2.out]; rfl
   have y5 : w2.cell? ⟨w.heap.size, 5, none⟩ = some (.int .i64 S5) := by rw [cell_of_row _ _ _ _ 45 _ Q2.out]; rfl
   have y6 : w2.cell? ⟨w.heap.size, 6, none⟩ = some (.int .i64 S6) := by rw [cell_of_row _ _ _ _ 45 _ Q2.out]; rfl
   have y7 : w2.cell? ⟨w.heap.size, 7, none⟩ = some (.int .i64 S7) := by rw [cell_of_row _ _ _ _ 45 _ Q2.out]; rfl
   gi_wp2_with fail
   rename_i K hKK
   have FIN : Hid (∀ (W : World) (C cB : Nat) (u : Value), (W.heap[C]? = some (.cells #[.int .i64 S0, .int .i64 S1, .int .i64 S2, .int .i64 S3, .int .i64 S4, .int .i64 S5, .int .i64 S6, .int .i64 S7, .slice ao n cap, u, .slice none 0 0] 128 (0, 0)) ∧ Boxed W cB 107 (.pointer (some ⟨C, 0, none⟩)) ∧ W.ownsRow w.heap.size 186 3 u (its xs).length (flatI (its xs)) ∧ Below w.heap.size w W ∧ C ≠ cB ∧ w.heap.size < C ∧ w.heap.size < cB ∧ u.ownBlock ≠ some C ∧ u.ownBlock ≠ some cB) → K ⟨#[.slice ao n cap, .agg #[.int .i64 S0, .int .i64 S1, .int .i64 S2, .int .i64 S3, .int .i64 S4, .int .i64 S5, .int .i64 S6, .int .i64 S7], undef, .pointer (some ⟨w.heap.size, 0, none⟩), .pointer none, .bool false, .pointer (some ⟨cB, 0, none⟩), undef, undef, undef, undef, undef, undef, .agg #[.int .i64 S0, .int .i64 S1, .int .i64 S2, .int .i64 S3, .int .i64 S4, .int .i64 S5, .int .i64 S6, .int .i64 S7], .bool true, .bool false, .bool false, .slice ao n cap, .bool true, .bool false, .bool false, .agg #[.int .i64 S0, .int .i64 S1, .int .i64 S2, .int .i64 S3, .int .i64 S4, .int .i64 S5, .int .i64 S6, .int .i64 S7], .slice ao n cap, .slice ao n cap, u, .agg #[.int .i64 S0, .int .i64 S1, .int .i64 S2, .int .i64 S3, .int .i64 S4, .int .i64 S5, .int .i64 S6, .int .i64 S7, .slice ao n cap, u, .slice none 0 0], .pointer (some ⟨C, 0, none⟩), undef, undef, undef, undef, undef, undef, undef, undef, undef, undef, undef, undef, undef, undef, undef, undef, undef, undef, undef, undef, undef, undef, undef, undef, undef, undef, undef, undef, undef, undef, undef, undef, undef, undef, undef, undef, undef, undef, undef, undef, undef, undef, undef, undef, undef, undef, undef, undef, undef, undef, undef, undef], []⟩ W) := hideP (by
   as_aux_lemma =>
    rintro W C cB u ⟨f1, f2, f3, f4, f5, f6, f7, f8, f9⟩
    have c0 := f2.cell
    have c9 : W.cell? ⟨C, 9, none⟩ = some u := by rw [cell_of_row _ _ _ _ 128 _ f1]; rfl
    have c10 : W.cell? ⟨C, 10, none⟩ = some (.slice none 0 0) := by rw [cell_of_row _ _ _ _ 128 _ f1]; rfl
    have cf : ∀ j, W.frozen? ⟨C, j, none⟩ = false := fun j => frozen_of_row _ _ j _ 128 f1
    obtain ⟨ua, uc, rfl⟩ := ownG_shape f3
    have hN20 : (its xs).length ≤ 20001 := its_le AOK.out
    have hub : ∀ g, (Value.slice ua (its xs).length uc).ownBlock = some g → g < W.heap.size := fun g hg => (World.ownsRow.lt f3 g hg).2
    have hCl : C < W.heap.size := (Array.getElem?_eq_some_iff.1 f1).1
    have hcBl : cB < W.heap.size := f2.lt
    have HF1 := hideP f1
    have HF2 := hideP f2
    have HF3 := hideP f3
    have HF4 := hideP f4
    refine hKK _ _ ?_
    clear hKK f1 f2 f3 f4
    obtain ⟨N, hN⟩ : ∃ N, N = (its xs).length := ⟨_, rfl⟩
    rw [← hN] at c9 hN20 hub HF1 HF3 f8 f9 ⊢
    have HN2 := hideP hN
    clear hN
    gi_wp2_with fail
    rename_i K4 hK4
    have HK4 := hideP hK4
    clear hK4
    refine wpIn_wide.2 ?_
    refine wp_region_noPanic ?_
    refine wp_region_held_drew (S := fun X => X.cell? ⟨cB, 0, none⟩ = some (.pointer (some ⟨C, 0, none⟩)) ∧ X.cell? ⟨C, 9, none⟩ = some (.slice ua N uc)) (by kernel_rfl) ⟨c0, c9⟩ ?_
    intro hS4
    refine wpAnyH_take (i := 0) (v := .pointer (some ⟨C, 0, none⟩)) rfl (by kernel_rfl) (by kernel_rfl) (by kernel_rfl) (fun _ _ _ h => h) (Or.inl ⟨by first | rfl | go_simp, fun wx hx => by obtain ⟨hx1, hx2⟩ := hx; go_simp⟩) hS4 ?_
    try simp only [Act.put, List.getElem_toArray, List.getElem_cons_zero, List.getElem_cons_succ, List.setIfInBounds_toArray, List.set_cons_zero, List.set_cons_succ]
    refine wpAnyH_take (i := 1) (v := .pointer (some ⟨C, 0, none⟩)) rfl (by kernel_rfl) (by kernel_rfl) (by kernel_rfl) (fun _ _ _ h => h) (Or.inl ⟨by first | rfl | go_simp, fun wx hx => by obtain ⟨hx1, hx2⟩ := hx; go_simp⟩) hS4 ?_
    try simp only [Act.put, List.getElem_toArray, List.getElem_cons_zero, List.getElem_cons_succ, List.setIfInBounds_toArray, List.set_cons_zero, List.set_cons_succ]
    refine wpAnyH_take (i := 2) (v := .pointer (some ⟨C, 0, none⟩)) rfl (by kernel_rfl) (by kernel_rfl) (by kernel_rfl) (fun _ _ _ h => h) (Or.inl ⟨by first | rfl | go_simp, fun wx hx => by obtain ⟨hx1, hx2⟩ := hx; go_simp⟩) hS4 ?_
    try simp only [Act.put, List.getElem_toArray, List.getElem_cons_zero, List.getElem_cons_succ, List.setIfInBounds_toArray, List.set_cons_zero, List.set_cons_succ]
    refine wpAnyH_take (i := 3) (v := .pointer (some ⟨C, 9, none⟩)) rfl (by kernel_rfl) (by kernel_rfl) (by kernel_rfl) (fun _ _ _ h => h) (Or.inl ⟨by first | rfl | go_simp, fun wx hx => by obtain ⟨hx1, hx2⟩ := hx; go_simp⟩) hS4 ?_
    try simp only [Act.put, List.getElem_toArray, List.getElem_cons_zero, List.getElem_cons_succ, List.setIfInBounds_toArray, List.set_cons_zero, List.set_cons_succ]
    refine wpAnyH_take (i := 4) (v := .slice ua N uc) rfl (by kernel_rfl) (by kernel_rfl) (by kernel_rfl) (fun _ _ _ h => h) (Or.inl ⟨by first | rfl | go_simp, fun wx hx => by obtain ⟨hx1, hx2⟩ := hx; go_simp⟩) hS4 ?_
    try simp only [Act.put, List.getElem_toArray, List.getElem_cons_zero, List.getElem_cons_succ, List.setIfInBounds_toArray, List.set_cons_zero, List.set_cons_succ]
    refine wpAnyH_take (i := 5) (v := .int .i64 (N : Int)) rfl (by kernel_rfl) (by kernel_rfl) (by kernel_rfl) (fun _ _ _ h => h) (Or.inl ⟨by first | rfl | go_simp, fun wx hx => by obtain ⟨hx1, hx2⟩ := hx; go_simp⟩) hS4 ?_
    try simp only [Act.put, List.getElem_toArray, List.getElem_cons_zero, List.getElem_cons_succ, List.setIfInBounds_toArray, List.set_cons_zero, List.set_cons_succ]
    obtain ⟨i0, hi0, hz0, hz1, hz2⟩ := info_parts Tryz.info147i
    refine wpAnyH_ready (rs := [6]) (by kernel_rfl) (by simp) ?_
    refine AllReadyH.cons rfl (fun K' hK => ?_) AllReadyH.nil
    rw [if_pos (by first | rfl | go_simp)]
    refine wp_make_at _ _ 126 rfl w.heap.size 118 i0 _ 10 Tryz.underlying126 hi0 hz0 hz1 .i64 .i64 _ _ N rfl rfl rfl rfl (by rw [hz2]; omega) (by unfold maxLen; omega) (by have := HF4.out.size; exact this) ?_
    intro w5 ho5 hg5
    have hdz : W.drew.heap.size = W.heap.size := rfl
    rw [hdz] at ho5 ⊢
    obtain ⟨D, hD⟩ : ∃ D, D = W.heap.size := ⟨_, rfl⟩
    rw [← hD] at ho5 ⊢
    have HD := hideP hD
    have hDC : D ≠ C := by omega
    have hDcB : D ≠ cB := by omega
    have hDw : w.heap.size < D := by omega
    have hDu : (Value.slice ua N uc).ownBlock ≠ some D := fun e => by have := hub _ e; omega
    clear hD
    have hblk : ∀ q : Nat, q < W.heap.size → w5.heap[q]? = W.heap[q]? := fun q hq => hg5.block q hq (by simp)
    have I5 : IntsL w5 D 118 (insZ xs (its xs) N 0) := made_ownedL ho5
    have hDl : D < w5.heap.size := I5.lt
    have B5 : Below w.heap.size w w5 := ⟨hg5.os.trans HF4.out.os, hg5.tape.trans HF4.out.tape, hg5.output.trans HF4.out.output, Nat.le_trans HF4.out.size hg5.size, fun q hq => (hblk q (Nat.lt_of_lt_of_le hq HF4.out.size)).trans (HF4.out.block q hq)⟩
    have C5 : w5.heap[C]? = some (.cells #[.int .i64 S0, .int .i64 S1, .int .i64 S2, .int .i64 S3, .int .i64 S4, .int .i64 S5, .int .i64 S6, .int .i64 S7, .slice ao n cap, .slice ua N uc, .slice none 0 0] 128 (0, 0)) := (hblk C hCl).trans HF1.out
    have X5 : Boxed w5 cB 107 (.pointer (some ⟨C, 0, none⟩)) := (hblk cB hcBl).trans HF2.out
    have U5 : w5.ownsRow w.heap.size 186 3 (.slice ua N uc) N (flatI (its xs)) := ownG_kept (A := W.drew) (show W.drew.ownsRow w.heap.size 186 3 (.slice ua N uc) N (flatI (its xs)) from HF3.out) hg5 (fun r e => by cases e)
    have T5 : w5.cell? ⟨cB, 0, none⟩ = some (.pointer (some ⟨C, 0, none⟩)) ∧ w5.cell? ⟨C, 9, none⟩ = some (.slice ua N uc) := ⟨X5.cell, by rw [cell_of_row _ _ _ _ 128 _ C5]; rfl⟩
    have k10 : w5.cell? ⟨C, 10, none⟩ = some (.slice none 0 0) := by rw [cell_of_row _ _ _ _ 128 _ C5]; rfl
    have kf : ∀ j, w5.frozen? ⟨C, j, none⟩ = false := fun j => frozen_of_row _ _ j _ 128 C5
    have G1 : (w5.setCell ⟨C, 10, none⟩ (.slice (some ⟨D, 0, none⟩) N N)).heap[C]? = some (.cells #[.int .i64 S0, .int .i64 S1, .int .i64 S2, .int .i64 S3, .int .i64 S4, .int .i64 S5, .int .i64 S6, .int .i64 S7, .slice ao n cap, .slice ua N uc, .slice (some ⟨D, 0, none⟩) N N] 128 (0, 0)) := (heap_setCell_same w5 C 10 _ 128 _ C5).trans (by rfl)
    have G2 : Boxed (w5.setCell ⟨C, 10, none⟩ (.slice (some ⟨D, 0, none⟩) N N)) cB 107 (.pointer (some ⟨C, 0, none⟩)) := (Below.heap_setCell _ _ _ _ (Ne.symm f5)).trans X5
    have G3 : (w5.setCell ⟨C, 10, none⟩ (.slice (some ⟨D, 0, none⟩) N N)).ownsRow w.heap.size 186 3 (.slice ua N uc) N (flatI (its xs)) := ownG_other U5 f8 _ _
    have G4 : IntsL (w5.setCell ⟨C, 10, none⟩ (.slice (some ⟨D, 0, none⟩) N N)) D 118 (insZ xs (its xs) N 0) := (Below.heap_setCell _ _ _ _ (by simpa using hDC)).trans I5
    have G5 : Below w.heap.size w (w5.setCell ⟨C, 10, none⟩ (.slice (some ⟨D, 0, none⟩) N N)) := B5.setCell (p := ⟨C, 10, none⟩) (by simp; omega) _
    have T6 : (w5.setCell ⟨C, 10, none⟩ (.slice (some ⟨D, 0, none⟩) N N)).cell? ⟨cB, 0, none⟩ = some (.pointer (some ⟨C, 0, none⟩)) ∧ (w5.setCell ⟨C, 10, none⟩ (.slice (some ⟨D, 0, none⟩) N N)).cell? ⟨C, 9, none⟩ = some (.slice ua N uc) := ⟨G2.cell, by rw [cell_of_row _ _ _ _ 128 _ G1]; rfl⟩
    have HG1 := hideP G1
    have HG2 := hideP G2
    have HG3 := hideP G3
    have HG4 := hideP G4
    have HG5 := hideP G5
    clear G1 G2 G3 G4 G5 C5 X5 U5 B5 I5 ho5 hg5 hblk
    refine hK.out _ _ T5 (fun _ => ?_)
    try simp only [Act.put, List.getElem_toArray, List.getElem_cons_zero, List.getElem_cons_succ, List.setIfInBounds_toArray, List.set_cons_zero, List.set_cons_succ]
    clear hK K'
    refine wpAnyH_take (i := 7) (v := .pointer (some ⟨C, 0, none⟩)) rfl (by kernel_rfl) (by kernel_rfl) (by kernel_rfl) (fun _ _ _ h => h) (Or.inl ⟨by first | rfl | go_simp, fun wx hx => by obtain ⟨hx1, hx2⟩ := hx; go_simp⟩) T5 ?_
    try simp only [Act.put, List.getElem_toArray, List.getElem_cons_zero, List.getElem_cons_succ, List.setIfInBounds_toArray, List.set_cons_zero, List.set_cons_succ]
    refine wpAnyH_take (i := 8) (v := .pointer (some ⟨C, 10, none⟩)) rfl (by kernel_rfl) (by kernel_rfl) (by kernel_rfl) (fun _ _ _ h => h) (Or.inl ⟨by first | rfl | go_simp, fun wx hx => by obtain ⟨hx1, hx2⟩ := hx; go_simp⟩) T5 ?_
    try simp only [Act.put, List.getElem_toArray, List.getElem_cons_zero, List.getElem_cons_succ, List.setIfInBounds_toArray, List.set_cons_zero, List.set_cons_succ]
    refine wpAnyH_ready (rs := [9]) (by kernel_rfl) (by simp) ?_
    refine AllReadyH.cons rfl (fun K' hK => ?_) AllReadyH.nil
    rw [if_pos (by first | rfl | go_simp)]
    go_simp
    refine hK.out _ _ T6 (fun _ => ?_)
    try simp only [Act.put, List.getElem_toArray, List.getElem_cons_zero, List.getElem_cons_succ, List.setIfInBounds_toArray, List.set_cons_zero, List.set_cons_succ]
    clear hK K'
    refine wpAnyH_done (by kernel_rfl) ?_ _
    refine NoPanic.normal ?_
    simp only [Exit.then]
    refine HK4.out _ _ ?_
    obtain ⟨W6, hW6⟩ : ∃ W6, w5.setCell ⟨C, 10, none⟩ (.slice (some ⟨D, 0, none⟩) N N) = W6 := ⟨_, rfl⟩
    rw [hW6] at HG1 HG2 HG3 HG4 HG5 T6 ⊢
    clear HK4 hW6 T5 k10 kf hS4 c0 c9 c10 cf hdz HF1 HF2 HF3 HF4
    gi_wp2_with fail
    refine wpIn_loop (fun a X => ∃ (k : Nat) (rs : List Nat) (u : Temps), a = ⟨#[.slice ao n cap, .agg #[.int .i64 S0, .int .i64 S1, .int .i64 S2, .int .i64 S3, .int .i64 S4, .int .i64 S5, .int .i64 S6, .int .i64 S7], undef, .pointer (some ⟨w.heap.size, 0, none⟩), .pointer none, .bool false, .pointer (some ⟨cB, 0, none⟩), u.u7, u.u8, u.u9, u.u10, u.u11, u.u12, .agg #[.int .i64 S0, .int .i64 S1, .int .i64 S2, .int .i64 S3, .int .i64 S4, .int .i64 S5, .int .i64 S6, .int .i64 S7], .bool true, .bool false, .bool false, .slice ao n cap, .bool true, .bool false, .bool false, .agg #[.int .i64 S0, .int .i64 S1, .int .i64 S2, .int .i64 S3, .int .i64 S4, .int .i64 S5, .int .i64 S6, .int .i64 S7], .slice ao n cap, .slice ao n cap, .slice ua N uc, .agg #[.int .i64 S0, .int .i64 S1, .int .i64 S2, .int .i64 S3, .int .i64 S4, .int .i64 S5, .int .i64 S6, .int .i64 S7, .slice ao n cap, .slice ua N uc, .slice none 0 0], .pointer (some ⟨C, 0, none⟩), .pointer (some ⟨C, 0, none⟩), .pointer (some ⟨C, 0, none⟩), .pointer (some ⟨C, 0, none⟩), .pointer (some ⟨C, 9, none⟩), .slice ua N uc, .int .i64 (N : Int), .slice (some ⟨D, 0, none⟩) N N, .pointer (some ⟨C, 0, none⟩), .pointer (some ⟨C, 10, none⟩), .pointer (some ⟨C, 0, none⟩), .pointer (some ⟨C, 0, none⟩), .pointer (some ⟨C, 9, none⟩), .slice ua N uc, .int .i64 (N : Int), .int .i64 (k : Int), u.u42, u.u43, u.u44, u.u45, u.u46, u.u47, u.u48, u.u49, u.u50, u.u51, u.u52, u.u53, u.u54, u.u55, u.u56, u.u57, u.u58, u.u59, u.u60, u.u61, u.u62, u.u63, u.u64, u.u65, u.u66, u.u67, u.u68, u.u69, u.u70, u.u71, u.u72, u.u73, u.u74, u.u75, u.u76, u.u77, u.u78], marksOf rs⟩ ∧ k ≤ N ∧ Marks rs X ∧ (∀ r ∈ rs, W6.heap.size ≤ r) ∧ Fr D W6 X ∧ IntsL X D 118 (insZ xs (its xs) N k)) (fun a _ => N - (intOf (a.tmps.getD 41 undef)).toNat) ?_ ?_
    ·exact ⟨0, [], ⟨_, _, _, _, _, _, _, _, _, _, _, _, _, _, _, _, _, _, _, _, _, _, _, _, _, _, _, _, _, _, _, _, _, _, _, _, _, _, _, _, _, _, _⟩, rfl, Nat.zero_le _, ⟨List.nodup_nil, fun r h => (by cases h)⟩, fun r h => (by cases h), Fr.refl _ _, HG4.out⟩
    ·rintro a X ⟨k, rs, u, rfl, hk, hM, hrs, hF, hI⟩
     have HIN := hideP hI
     have HFR := hideP hF
     have HMR := hideP hM
     have HRS := hideP hrs
     have hX6 : W6.heap.size ≤ X.heap.size := hF.2.2.2.1
     by_cases hkN : k < N
     ·obtain ⟨g, rfl, hg1, hg2, hit6⟩ := its_row HG3.out HN2.out.symm (by omega)
      have hgD : g ≠ D := fun e => hDu (by simp [Value.ownBlock, e])
      have hit : ItR X g (its xs) := hit6.block (hF.2.2.2.2 g hg2 hgD)
      have hgX : g < X.heap.size := Nat.lt_of_lt_of_le hg2 hX6
      have hkl : k < (its xs).length := by rw [← HN2.out]; exact hkN
      have i0 := hit.c0 k hkl
      have i1 := hit.c1 k hkl
      have i2 := hit.c2 k hkl
      obtain ⟨y, hy⟩ : ∃ y, y = (its xs).getD k It.none := ⟨_, rfl⟩
      rw [← hy] at i0 i1 i2
      have HY := hideP hy
      obtain ⟨yn, ya, ye⟩ := y
      simp only at i0 i1 i2
      obtain ⟨n0, n1, n2, hnt, _⟩ := ask_note yn
      have hsh := thV_shape yn
      obtain ⟨vt, hvt⟩ : ∃ v, v = thV yn := ⟨_, rfl⟩
      obtain ⟨nb, hnb⟩ : ∃ b, b = (yn.k == 11) := ⟨_, rfl⟩
      rw [← hvt] at i0 hnt hsh
      rw [← hnb] at hnt
      have HNB := hideP hnb
      have HVT := hideP hvt
      have hki : (k : Int) < (N : Int) := by omega
      have hcX : Boxed X cB 107 (.pointer (some ⟨C, 0, none⟩)) := (hF.2.2.2.2 cB HG2.out.lt (Ne.symm hDcB)).trans HG2.out
      have HCX := hideP hcX
      clear hit hit6 hvt hnb hy hI hF hM hrs hcX
      cases nb with
      | false =>
       have HZ1 : Hid (insZ xs (its xs) N (k + 1) = insZ xs (its xs) N k) := hideP (insZ_skip (by rw [← HY.out]; simpa using HNB.out.symm))
       rcases hsh with rfl | ⟨Xi, q, rfl⟩
       all_goals
        gi_wp2
        refine ⟨⟨k + 1, rs, ⟨_, _, _, _, _, _, _, _, _, _, _, _, _, _, _, _, _, _, _, _, _, _, _, _, _, _, _, _, _, _, _, _, _, _, _, _, _, _, _, _, _, _, _⟩, rfl, by omega, Marks.below HMR.out ?_, HRS.out, HFR.out.below ?_, IntsL.belowE HIN.out HZ1.out ?_⟩, ?_⟩
        ·exact below3 _ _ _ _
        ·exact below3 _ _ _ _
        ·exact below3 _ _ _ _
        ·simp [intOf]; omega
      | true =>
       obtain ⟨at_, hat, hia⟩ := its_get hkl
       rw [← HY.out] at hia
       simp only [itAt, Prod.mk.injEq] at hia
       obtain ⟨_, rfl, hye⟩ := hia
       have hkk := AOK.out.kids at_ hat
       rw [HL.out] at hat hkk
       obtain ⟨kids, hkd⟩ : ∃ z, z = (xs.getD at_ Nd.none).kids := ⟨_, rfl⟩
       rw [← hkd] at hkk hye
       obtain ⟨kn, rfl⟩ : ∃ kn : Nat, kids = (kn : Int) := ⟨kids.toNat, by omega⟩
       subst hye
       have hsum : at_ + 1 + kn ≤ n := by omega
       have hn20 : n ≤ 20000 := by rw [← HL.out]; exact AOK.out.len
       have HKD := hideP hkd
       obtain ⟨b, off, hbo⟩ : ∃ b off, ao = some ⟨b, off, none⟩ ∧ b < w.heap.size ∧ ∀ j u, (flatN xs)[j]? = some u → w.cell? ⟨b, off + j, none⟩ = some u := by
        obtain ⟨ao', n', cap', e, hl', hr'⟩ := HN.out
        simp only [Value.slice.injEq] at e
        obtain ⟨rfl, rfl, rfl⟩ := e
        obtain ⟨b, off, e, _, hb, hc⟩ := hr' (by omega)
        exact ⟨b, off, e, hb, row_cells (fun i hi => hc i (by rw [← hl']; exact hi))⟩
       obtain ⟨rfl, hbw, hbc⟩ := hbo
       have HBC := hideP hbc
       clear hkk hkd hbc
       have hsh2 : ∃ Xi q, vt = .iface Xi q := by
        rcases hsh with h | h
        ·have h11 : yn.k = 11 := by simpa using HNB.out.symm
         have h2 := HVT.out
         rw [h] at h2
         simp [thV, h11] at h2
        ·exact h
       clear hsh
       obtain ⟨Xi, q, rfl⟩ := hsh2
       by_cases hca : cap = at_ + 1
       ·subst hca
        have HK0 : Hid (kn = 0) := hideP (by omega)
        gi_wp2_with fail
        refine ⟨trivial, CallsIn.mono (callsIn_wide.2 (eachItem_any _ _ _ _)) ?_⟩
        rintro e w2' ⟨rfl, rfl⟩
        gi_wp2_with fail
        obtain ⟨X3, hX3⟩ : ∃ X3, ((X.alloc (.cells #[.int .i64 (k : Int)] 3)).alloc (.cells #[.iface Xi q, .int .i64 (at_ : Int), .int .i64 ((at_ : Int) + 1 + (kn : Int))] 186)).alloc (.cells #[.int .i64 n0, .int .i64 n1, .int .i64 n2] 188) = X3 := ⟨_, rfl⟩
        have hX3s : X3.heap.size = X.heap.size + 3 := by rw [← hX3]; simp
        have hB3 : Below X.heap.size X X3 := by rw [← hX3]; exact below3 _ _ _ _
        have hab : Boxed X3 X.heap.size 3 (.int .i64 (k : Int)) := by rw [← hX3]; exact ((Boxed.new X 3 _).alloc _).alloc _
        rw [hX3]
        have hbs : X.heap.size + 1 + 1 + 1 = X3.heap.size := by omega
        try rw [hbs]
        obtain ⟨W0, hW0⟩ : ∃ W0, X3.alloc (.cells #[.slice (some ⟨b, off, none⟩) kn 0] 31) = W0 := ⟨_, rfl⟩
        have hW0s : W0.heap.size = X3.heap.size + 1 := by rw [← hW0]; simp
        have hB0 : Below X.heap.size X W0 := by rw [← hW0]; exact hB3.alloc (by omega) _
        have bS : W0.cell? ⟨X3.heap.size, 0, none⟩ = some (.slice (some ⟨b, off, none⟩) kn 0) := by rw [← hW0]; simp [go_sem]
        have hab0 : Boxed W0 X.heap.size 3 (.int .i64 (k : Int)) := by rw [← hW0]; exact hab.alloc _
        have hsz0 : W0.heap.size = X.heap.size + 4 := by omega
        obtain ⟨Bs, hBs⟩ : ∃ Bs, Bs = X3.heap.size := ⟨_, rfl⟩
        have hBsX : Bs = X.heap.size + 3 := by omega
        rw [hW0]
        rw [← hBs] at bS ⊢
        clear hW0 hX3 hbs hX3s hW0s hB3 hab hBs
        obtain ⟨sub, hsub⟩ : ∃ sub, sub = (xs.drop (at_ + 1)).take kn := ⟨_, rfl⟩
        have hsl : sub.length = kn := by rw [hsub, List.length_take, List.length_drop, HL.out]; omega
        have hsg : ∀ i, i < kn → sub.getD i Nd.none = xs.getD (at_ + 1 + i) Nd.none := fun i hi => by rw [hsub]; simp [List.getD, List.getElem?_take, List.getElem?_drop, hi]
        have hwW0 : ∀ q, q < w.heap.size → W0.heap[q]? = w.heap[q]? := fun q hq => by
         have h6 := HG5.out
         have e1 := hB0.block q (Nat.lt_of_lt_of_le hq (Nat.le_trans h6.size hX6))
         have e2 := HFR.out.2.2.2.2 q (Nat.lt_of_lt_of_le hq h6.size) (by omega)
         exact e1.trans (e2.trans (h6.block q hq))
        have HSR : Hid (Src sub (some ⟨b, off, none⟩) Bs b (off) 0 W0) := hideP (by
         refine ⟨by rw [hsl]; exact bS, fun _ => rfl, fun i hi => ⟨xs.getD (at_ + 1 + i) Nd.none, ⟨(hsg i (by omega)).symm, by rw [hsg i (by omega)]⟩, fun j hj => ?_⟩⟩
         have hi2 : at_ + 1 + i < xs.length := by rw [HL.out]; omega
         have h1 := flatN_get xs (at_ + 1 + i) hi2 j hj
         rw [List.getElem?_eq_getElem (show j < (xs.getD (at_ + 1 + i) Nd.none).cells.length from hj)] at h1 ⊢
         have h2 := HBC.out _ _ h1
         rw [show off + i * 15 + j = off + ((at_ + 1 + i) * 15 + j) by have := HK0.out; omega]
         exact (World.cell?_of_block (w := w) (a := ⟨b, off + ((at_ + 1 + i) * 15 + j), none⟩) (hwW0 b hbw)).trans h2)
        have hys2 : sub.length ≤ 20000 ∧ ∀ i, i < sub.length → 0 ≤ (sub.getD i Nd.none).kids ∧ (sub.getD i Nd.none).kids ≤ 20000 := ⟨by omega, fun i hi => by rw [hsg i (by omega)]; exact AOK.out.weak _ (by rw [HL.out]; omega)⟩
        have hord : ∀ i, i < sub.length → Ord (sub.getD i Nd.none) := fun i hi => by rw [hsg i (by omega)]; exact list_ord HOB.out.symm _ (by rw [HL.out]; omega)
        have HORD := hideP hord
        have hDX : D < X.heap.size := HIN.out.lt
        have hC6 : C < W6.heap.size := (Array.getElem?_eq_some_iff.1 HG1.out).1
        have hcB6 : cB < W6.heap.size := HG2.out.lt
        have hC0 : W0.heap[C]? = some (.cells #[.int .i64 S0, .int .i64 S1, .int .i64 S2, .int .i64 S3, .int .i64 S4, .int .i64 S5, .int .i64 S6, .int .i64 S7, .slice (some ⟨b, off, none⟩) n (at_ + 1), .slice (some ⟨g, 0, none⟩) N uc, .slice (some ⟨D, 0, none⟩) N N] 128 (0, 0)) := (hB0.block C (Nat.lt_of_lt_of_le hC6 hX6)).trans ((HFR.out.2.2.2.2 C hC6 (Ne.symm hDC)).trans HG1.out)
        have hcB0 : Boxed W0 cB 107 (.pointer (some ⟨C, 0, none⟩)) := (hB0.block cB (Nat.lt_of_lt_of_le hcB6 hX6)).trans HCX.out
        have HC0 := hideP hC0
        have HcB0 := hideP hcB0
        have HA0 := hideP hab0
        have hI0 : IntsL W0 D 118 (insZ xs (its xs) N k) := HIN.out.below hB0
        refine wpIn_rangeFunc_ownF (F := Fence.wide) (n := 6) rfl (by omega) (gf := 108) (lb := #[.pointer (some ⟨Bs, 0, none⟩)]) rfl trivial (enters_of Tryz.func108 (by kernel_rfl) rfl)
         (each_stops 5 (by omega) sub _ Bs b _ _ hys2.1 hys2.2 W0 HSR.out) (fun h1 h2 h => h2 (h1 h)) ?keepb (Below.refl _ _) (fun _ => rfl)
         (fun pre W => Fr D W0 W ∧ IntsL W D 118 (padF (k * 10) sub (pre.map (fun x => x.1.1)) (insZ xs (its xs) N k)))
         (fun _ _ _ => False) ?ownI (fun _ _ _ _ _ hs _ _ => hs) ?start ?a1y ?assign ?body ?done ?stop
        case assign =>
         intro l x W K hK
         simp [Item.encs]
         gi_wp2
         exact hK
        case start => exact ⟨Fr.refl _ _, hI0⟩
        case keepb =>
         intro W l o o' hl hlo hoc _ hsrc
         exact hsrc.kept (grownBy_putObj' W l o') (fun r e => by cases e; exact ⟨o, hlo, hoc⟩)
        case ownI =>
         rintro s A B row ⟨h1, h2⟩ hg hr
         have hb : ∀ q : Nat, q < W0.heap.size → B.heap[q]? = A.heap[q]? := fun q hq => hg.block q (Nat.lt_of_lt_of_le hq h1.2.2.2.1) (fun e => by have := (hr q e.symm).1; omega)
         refine ⟨⟨hg.os.trans h1.1, hg.tape.trans h1.2.1, hg.output.trans h1.2.2.1, Nat.le_trans h1.2.2.2.1 hg.size, fun q hq hn => (hb q hq).trans (h1.2.2.2.2 q hq hn)⟩, ?_⟩
         exact (hb D (by omega)).trans h2
        case stop =>
         rintro D' c pre W _ _ h _
         exact h.elim
        case done =>
         rintro D' its' W hD' hst ⟨hF', hI'⟩ hK
         have hXW : Fr D X W := ((Fr.refl D X).below hB0).trans hF'
         have HM' : Hid (Marks (D' :: rs) W) := hideP (by
          have hold := HMR.out
          refine ⟨List.nodup_cons.2 ⟨fun hm => ?_, hold.1⟩, fun r hr => ?_⟩
          ·have := (Array.getElem?_eq_some_iff.1 (hold.2 D' hm)).1
           omega
          ·rcases List.mem_cons.1 hr with rfl | hr
           ·exact hK
           ·have h1 := hold.2 r hr
            refine (hXW.2.2.2.2 r (Array.getElem?_eq_some_iff.1 h1).1 (fun e => ?_)).trans h1
            subst e
            have hz := HIN.out
            unfold IntsL at hz
            rw [hz] at h1
            cases h1)
         have HR' : Hid (∀ r ∈ D' :: rs, W6.heap.size ≤ r) := hideP (fun r hr => by
          rcases List.mem_cons.1 hr with rfl | hr
          ·omega
          ·exact HRS.out r hr)
         have HF2' : Hid (Fr D W6 W) := hideP (HFR.out.trans hXW)
         have HI2' : Hid (IntsL W D 118 (insZ xs (its xs) N (k + 1))) := hideP (by
          rw [insZ_note (sub := sub) (by rw [← HY.out]; simpa using HNB.out.symm) (by rw [← HY.out]; unfold segB; rw [if_pos (by simpa using HNB.out.symm), hsub]; simp only [Int.toNat_natCast]; congr 1; omega), ← hst]
          exact hI')
         clear hF' hI' hXW hK
         gi_wp2
         refine ⟨⟨k + 1, D' :: rs, ⟨_, _, _, _, _, _, _, _, _, _, _, _, _, _, _, _, _, _, _, _, _, _, _, _, _, _, _, _, _, _, _, _, _, _, _, _, _, _, _, _, _, _, _⟩, rfl, by omega, HM'.out, HR'.out, HF2'.out, HI2'.out⟩, ?_⟩
         simp [intOf]; omega
        case body =>
         rintro l pre x W ⟨hF', hI'⟩ hpl
         have hat2 := x.2.1
         obtain ⟨yy, hyk, hyq⟩ := x.2.2
         have hvx : x.1.2 = thV (sub.getD x.1.1 Nd.none) := by rw [hyq.2.2, hyk.1]
         have hox := HORD.out _ hat2
         obtain ⟨nd, hnd⟩ : ∃ nd, nd = sub.getD x.1.1 Nd.none := ⟨_, rfl⟩
         rw [← hnd] at hvx hox
         rw [hvx]
         have hPS := padF_snoc (k * 10) sub (pre.map (fun x => x.1.1)) (insZ xs (its xs) N k) x.1.1
         have hPM : (pre ++ [x]).map (fun x => x.1.1) = pre.map (fun x => x.1.1) ++ [x.1.1] := by simp
         obtain ⟨Q, hQ⟩ : ∃ Q, Q = padF (k * 10) sub (pre.map (fun x => x.1.1)) (insZ xs (its xs) N k) := ⟨_, rfl⟩
         have hQl : Q.length = N * 10 := by rw [hQ, padF_len, insZ_len]
         rw [← hQ, ← hnd] at hPS
         rw [← hQ] at hI'
         have HPS := hideP (show padF (k * 10) sub ((pre ++ [x]).map (fun x => x.1.1)) (insZ xs (its xs) N k) = pAdI (k * 10) nd Q by rw [hPM, hPS])
         have AC : Hid (∀ Y, IntsL Y D 118 Q → Calls Tryz.prog 90 #[.pointer (some ⟨D, k * 10, none⟩), thV nd] Y fun e w' => (∃ v, e = .returned v) ∧ IntsL w' D 118 (pAdI (k * 10) nd Q) ∧ Fr D Y w') := hideP (fun Y hY => paddL_any (k * 10) nd hY (by omega) hox)
         clear hPS hPM hQ hQl
         obtain ⟨Q2, hQ2⟩ : ∃ q, q = pAdI (k * 10) nd Q := ⟨_, rfl⟩
         rw [← hQ2] at AC HPS
         clear hQ2
         obtain ⟨vn, hvn⟩ : ∃ v, v = thV nd := ⟨_, rfl⟩
         rw [← hvn] at AC ⊢
         have HI' := hideP hI'
         have HF' := hideP hF'
         have g1 : W.cell? ⟨cB, 0, none⟩ = some (.pointer (some ⟨C, 0, none⟩)) := Boxed.cell ((hF'.2.2.2.2 cB HcB0.out.lt (Ne.symm hDcB)).trans HcB0.out)
         have hCW : W.heap[C]? = some (.cells #[.int .i64 S0, .int .i64 S1, .int .i64 S2, .int .i64 S3, .int .i64 S4, .int .i64 S5, .int .i64 S6, .int .i64 S7, .slice (some ⟨b, off, none⟩) n (at_ + 1), .slice (some ⟨g, 0, none⟩) N uc, .slice (some ⟨D, 0, none⟩) N N] 128 (0, 0)) := (hF'.2.2.2.2 C (Array.getElem?_eq_some_iff.1 HC0.out).1 (Ne.symm hDC)).trans HC0.out
         have g2 : W.cell? ⟨C, 10, none⟩ = some (.slice (some ⟨D, 0, none⟩) N N) := by rw [cell_of_row _ _ _ _ 128 _ hCW]; rfl
         have g3 : W.cell? ⟨X.heap.size, 0, none⟩ = some (.int .i64 (k : Int)) := Boxed.cell ((hF'.2.2.2.2 X.heap.size HA0.out.lt (by omega)).trans HA0.out)
         clear hvx hox hnd hvn hyk hyq hI' hF' hCW
         gi_wp2_with fail
         refine region_heldR (S := fun Y => Y.cell? ⟨cB, 0, none⟩ = some (.pointer (some ⟨C, 0, none⟩)) ∧ Y.cell? ⟨C, 10, none⟩ = some (.slice (some ⟨D, 0, none⟩) N N) ∧ Y.cell? ⟨X.heap.size, 0, none⟩ = some (.int .i64 (k : Int))) (by kernel_rfl) (plain_spec (by kernel_rfl)) (by rintro ⟨a, w, h⟩; exact h) ?_
         have hS : W.drew.cell? ⟨cB, 0, none⟩ = some (.pointer (some ⟨C, 0, none⟩)) ∧ W.drew.cell? ⟨C, 10, none⟩ = some (.slice (some ⟨D, 0, none⟩) N N) ∧ W.drew.cell? ⟨X.heap.size, 0, none⟩ = some (.int .i64 (k : Int)) := ⟨g1, g2, g3⟩
         refine wpAnyH_take (i := 0) (v := .pointer (some ⟨C, 0, none⟩)) rfl (by kernel_rfl) (by kernel_rfl) (by kernel_rfl) (fun _ _ _ h => h) (Or.inl ⟨by first | rfl | go_simp, fun wx hx => by obtain ⟨hx1, hx2, hx3⟩ := hx; go_simp⟩) hS ?_
         try simp only [Act.put, List.getElem_toArray, List.getElem_cons_zero, List.getElem_cons_succ, List.setIfInBounds_toArray, List.set_cons_zero, List.set_cons_succ]
         refine wpAnyH_take (i := 1) (v := .pointer (some ⟨C, 0, none⟩)) rfl (by kernel_rfl) (by kernel_rfl) (by kernel_rfl) (fun _ _ _ h => h) (Or.inl ⟨by first | rfl | go_simp, fun wx hx => by obtain ⟨hx1, hx2, hx3⟩ := hx; go_simp⟩) hS ?_
         try simp only [Act.put, List.getElem_toArray, List.getElem_cons_zero, List.getElem_cons_succ, List.setIfInBounds_toArray, List.set_cons_zero, List.set_cons_succ]
         refine wpAnyH_take (i := 2) (v := .pointer (some ⟨C, 10, none⟩)) rfl (by kernel_rfl) (by kernel_rfl) (by kernel_rfl) (fun _ _ _ h => h) (Or.inl ⟨by first | rfl | go_simp, fun wx hx => by obtain ⟨hx1, hx2, hx3⟩ := hx; go_simp⟩) hS ?_
         try simp only [Act.put, List.getElem_toArray, List.getElem_cons_zero, List.getElem_cons_succ, List.setIfInBounds_toArray, List.set_cons_zero, List.set_cons_succ]
         refine wpAnyH_take (i := 3) (v := .slice (some ⟨D, 0, none⟩) N N) rfl (by kernel_rfl) (by kernel_rfl) (by kernel_rfl) (fun _ _ _ h => h) (Or.inl ⟨by first | rfl | go_simp, fun wx hx => by obtain ⟨hx1, hx2, hx3⟩ := hx; go_simp⟩) hS ?_
         try simp only [Act.put, List.getElem_toArray, List.getElem_cons_zero, List.getElem_cons_succ, List.setIfInBounds_toArray, List.set_cons_zero, List.set_cons_succ]
         refine wpAnyH_take (i := 4) (v := .int .i64 (k : Int)) rfl (by kernel_rfl) (by kernel_rfl) (by kernel_rfl) (fun _ _ _ h => h) (Or.inl ⟨by first | rfl | go_simp, fun wx hx => by obtain ⟨hx1, hx2, hx3⟩ := hx; go_simp⟩) hS ?_
         try simp only [Act.put, List.getElem_toArray, List.getElem_cons_zero, List.getElem_cons_succ, List.setIfInBounds_toArray, List.set_cons_zero, List.set_cons_succ]
         refine wpAnyH_take (i := 5) (v := .pointer (some ⟨D, k * 10, none⟩)) rfl (by kernel_rfl) (by kernel_rfl) (by kernel_rfl) (fun _ _ _ h => h) (Or.inl ⟨by first | rfl | go_simp, fun wx hx => by obtain ⟨hx1, hx2, hx3⟩ := hx; go_simp⟩) hS ?_
         try simp only [Act.put, List.getElem_toArray, List.getElem_cons_zero, List.getElem_cons_succ, List.setIfInBounds_toArray, List.set_cons_zero, List.set_cons_succ]
         refine wpAnyH_take (i := 6) (v := vn) rfl (by kernel_rfl) (by kernel_rfl) (by kernel_rfl) (fun _ _ _ h => h) (Or.inl ⟨by first | rfl | go_simp, fun wx hx => by obtain ⟨hx1, hx2, hx3⟩ := hx; go_simp⟩) hS ?_
         try simp only [Act.put, List.getElem_toArray, List.getElem_cons_zero, List.getElem_cons_succ, List.setIfInBounds_toArray, List.set_cons_zero, List.set_cons_succ]
         refine wpAnyH_ready (rs := [7]) (by kernel_rfl) (by simp) ?_
         refine AllReadyH.cons rfl (fun K hK => ?_) AllReadyH.nil
         rw [if_pos (by first | rfl | go_simp)]
         go_wp2_with fail
         refine (AC.out _ (show IntsL W.drew D 118 Q from HI'.out)).mono ?_
         rintro e w9 ⟨⟨vr, rfl⟩, hi9, hf9⟩
         have hW9 : ∀ q : Nat, q < W.heap.size → q ≠ D → w9.heap[q]? = W.heap[q]? := fun q hq hn => hf9.2.2.2.2 q hq hn
         have T9 : w9.cell? ⟨cB, 0, none⟩ = some (.pointer (some ⟨C, 0, none⟩)) ∧ w9.cell? ⟨C, 10, none⟩ = some (.slice (some ⟨D, 0, none⟩) N N) ∧ w9.cell? ⟨X.heap.size, 0, none⟩ = some (.int .i64 (k : Int)) := ⟨(World.cell?_of_block (w := W) (a := ⟨cB, 0, none⟩) (hW9 cB (World.block_lt_of_cell? W _ g1) (Ne.symm hDcB))).trans g1, (World.cell?_of_block (w := W) (a := ⟨C, 10, none⟩) (hW9 C (World.block_lt_of_cell? W _ g2) (Ne.symm hDC))).trans g2, (World.cell?_of_block (w := W) (a := ⟨X.heap.size, 0, none⟩) (hW9 X.heap.size (World.block_lt_of_cell? W _ g3) (by omega))).trans g3⟩
         refine hK.out _ _ T9 (fun _ => ?_)
         try simp only [Act.put, List.getElem_toArray, List.getElem_cons_zero, List.getElem_cons_succ, List.setIfInBounds_toArray, List.set_cons_zero, List.set_cons_succ]
         clear hK K
         have D1 : Hid (KeepsOthers W w9) := hideP ⟨hf9.2.2.2.1, fun q o hq ho => by
          by_cases hqD : q = D
          ·subst hqD
           have hz := HI'.out
           unfold IntsL at hz
           rw [hz] at hq
           cases hq
           cases ho
          ·exact (hW9 q (Array.getElem?_eq_some_iff.1 hq).1 hqD).trans hq⟩
         have D2 : Hid (Src sub (some ⟨b, off, none⟩) Bs b (off) 0 W → Src sub (some ⟨b, off, none⟩) Bs b (off) 0 w9) := hideP (fun hsrc => by
          refine ⟨(World.cell?_of_block (w := W) (a := ⟨Bs, 0, none⟩) (hW9 Bs (World.block_lt_of_cell? W _ hsrc.box) (by omega))).trans hsrc.box, hsrc.some_, fun i hi => ?_⟩
          obtain ⟨y2, hk2, hc2⟩ := hsrc.at_ i hi
          have hbW : b < W.heap.size := by have h0 := hc2 0 (by omega); exact World.block_lt_of_cell? W _ (h0.trans (List.getElem?_eq_getElem (show 0 < y2.cells.length by exact (by decide : 0 < 15))))
          exact ⟨y2, hk2, fun j hj => (World.cell?_of_block (w := W) (a := ⟨b, off + i * 15 + j, none⟩) (hW9 b hbW (by omega))).trans (hc2 j hj)⟩)
         have D3 : Hid (Fr D W0 w9 ∧ IntsL w9 D 118 (padF (k * 10) sub ((pre ++ [x]).map (fun x => x.1.1)) (insZ xs (its xs) N k))) := hideP ⟨HF'.out.trans hf9, by rw [HPS.out]; exact hi9⟩
         clear hf9 hi9 hW9
         refine wpAnyH_done (by kernel_rfl) ?_ _
         gi_wp2
         exact ⟨D1.out, D2.out, D3.out⟩
       ·have hcl : at_ + 1 < cap := by omega
        have hca2 : ¬ at_ + 1 = cap := by omega
        gi_wp2_with fail
        refine ⟨trivial, CallsIn.mono (callsIn_wide.2 (eachItem_any _ _ _ _)) ?_⟩
        rintro e w2' ⟨rfl, rfl⟩
        gi_wp2_with fail
        obtain ⟨X3, hX3⟩ : ∃ X3, ((X.alloc (.cells #[.int .i64 (k : Int)] 3)).alloc (.cells #[.iface Xi q, .int .i64 (at_ : Int), .int .i64 ((at_ : Int) + 1 + (kn : Int))] 186)).alloc (.cells #[.int .i64 n0, .int .i64 n1, .int .i64 n2] 188) = X3 := ⟨_, rfl⟩
        have hX3s : X3.heap.size = X.heap.size + 3 := by rw [← hX3]; simp
        have hB3 : Below X.heap.size X X3 := by rw [← hX3]; exact below3 _ _ _ _
        have hab : Boxed X3 X.heap.size 3 (.int .i64 (k : Int)) := by rw [← hX3]; exact ((Boxed.new X 3 _).alloc _).alloc _
        rw [hX3]
        have hbs : X.heap.size + 1 + 1 + 1 = X3.heap.size := by omega
        try rw [hbs]
        obtain ⟨W0, hW0⟩ : ∃ W0, X3.alloc (.cells #[.slice (some ⟨b, off + (at_ + 1) * 15, none⟩) kn (cap - (at_ + 1))] 31) = W0 := ⟨_, rfl⟩
        have hW0s : W0.heap.size = X3.heap.size + 1 := by rw [← hW0]; simp
        have hB0 : Below X.heap.size X W0 := by rw [← hW0]; exact hB3.alloc (by omega) _
        have bS : W0.cell? ⟨X3.heap.size, 0, none⟩ = some (.slice (some ⟨b, off + (at_ + 1) * 15, none⟩) kn (cap - (at_ + 1))) := by rw [← hW0]; simp [go_sem]
        have hab0 : Boxed W0 X.heap.size 3 (.int .i64 (k : Int)) := by rw [← hW0]; exact hab.alloc _
        have hsz0 : W0.heap.size = X.heap.size + 4 := by omega
        obtain ⟨Bs, hBs⟩ : ∃ Bs, Bs = X3.heap.size := ⟨_, rfl⟩
        have hBsX : Bs = X.heap.size + 3 := by omega
        rw [hW0]
        rw [← hBs] at bS ⊢
        clear hW0 hX3 hbs hX3s hW0s hB3 hab hBs
        obtain ⟨sub, hsub⟩ : ∃ sub, sub = (xs.drop (at_ + 1)).take kn := ⟨_, rfl⟩
        have hsl : sub.length = kn := by rw [hsub, List.length_take, List.length_drop, HL.out]; omega
        have hsg : ∀ i, i < kn → sub.getD i Nd.none = xs.getD (at_ + 1 + i) Nd.none := fun i hi => by rw [hsub]; simp [List.getD, List.getElem?_take, List.getElem?_drop, hi]
        have hwW0 : ∀ q, q < w.heap.size → W0.heap[q]? = w.heap[q]? := fun q hq => by
         have h6 := HG5.out
         have e1 := hB0.block q (Nat.lt_of_lt_of_le hq (Nat.le_trans h6.size hX6))
         have e2 := HFR.out.2.2.2.2 q (Nat.lt_of_lt_of_le hq h6.size) (by omega)
         exact e1.trans (e2.trans (h6.block q hq))
        have HSR : Hid (Src sub (some ⟨b, off + (at_ + 1) * 15, none⟩) Bs b (off + (at_ + 1) * 15) (cap - (at_ + 1)) W0) := hideP (by
         refine ⟨by rw [hsl]; exact bS, fun _ => rfl, fun i hi => ⟨xs.getD (at_ + 1 + i) Nd.none, ⟨(hsg i (by omega)).symm, by rw [hsg i (by omega)]⟩, fun j hj => ?_⟩⟩
         have hi2 : at_ + 1 + i < xs.length := by rw [HL.out]; omega
         have h1 := flatN_get xs (at_ + 1 + i) hi2 j hj
         rw [List.getElem?_eq_getElem (show j < (xs.getD (at_ + 1 + i) Nd.none).cells.length from hj)] at h1 ⊢
         have h2 := HBC.out _ _ h1
         rw [show off + (at_ + 1) * 15 + i * 15 + j = off + ((at_ + 1 + i) * 15 + j) by omega]
         exact (World.cell?_of_block (w := w) (a := ⟨b, off + ((at_ + 1 + i) * 15 + j), none⟩) (hwW0 b hbw)).trans h2)
        have hys2 : sub.length ≤ 20000 ∧ ∀ i, i < sub.length → 0 ≤ (sub.getD i Nd.none).kids ∧ (sub.getD i Nd.none).kids ≤ 20000 := ⟨by omega, fun i hi => by rw [hsg i (by omega)]; exact AOK.out.weak _ (by rw [HL.out]; omega)⟩
        have hord : ∀ i, i < sub.length → Ord (sub.getD i Nd.none) := fun i hi => by rw [hsg i (by omega)]; exact list_ord HOB.out.symm _ (by rw [HL.out]; omega)
        have HORD := hideP hord
        have hDX : D < X.heap.size := HIN.out.lt
        have hC6 : C < W6.heap.size := (Array.getElem?_eq_some_iff.1 HG1.out).1
        have hcB6 : cB < W6.heap.size := HG2.out.lt
        have hC0 : W0.heap[C]? = some (.cells #[.int .i64 S0, .int .i64 S1, .int .i64 S2, .int .i64 S3, .int .i64 S4, .int .i64 S5, .int .i64 S6, .int .i64 S7, .slice (some ⟨b, off, none⟩) n cap, .slice (some ⟨g, 0, none⟩) N uc, .slice (some ⟨D, 0, none⟩) N N] 128 (0, 0)) := (hB0.block C (Nat.lt_of_lt_of_le hC6 hX6)).trans ((HFR.out.2.2.2.2 C hC6 (Ne.symm hDC)).trans HG1.out)
        have hcB0 : Boxed W0 cB 107 (.pointer (some ⟨C, 0, none⟩)) := (hB0.block cB (Nat.lt_of_lt_of_le hcB6 hX6)).trans HCX.out
        have HC0 := hideP hC0
        have HcB0 := hideP hcB0
        have HA0 := hideP hab0
        have hI0 : IntsL W0 D 118 (insZ xs (its xs) N k) := HIN.out.below hB0
        refine wpIn_rangeFunc_ownF (F := Fence.wide) (n := 6) rfl (by omega) (gf := 108) (lb := #[.pointer (some ⟨Bs, 0, none⟩)]) rfl trivial (enters_of Tryz.func108 (by kernel_rfl) rfl)
         (each_stops 5 (by omega) sub _ Bs b _ _ hys2.1 hys2.2 W0 HSR.out) (fun h1 h2 h => h2 (h1 h)) ?keepb (Below.refl _ _) (fun _ => rfl)
         (fun pre W => Fr D W0 W ∧ IntsL W D 118 (padF (k * 10) sub (pre.map (fun x => x.1.1)) (insZ xs (its xs) N k)))
         (fun _ _ _ => False) ?ownI (fun _ _ _ _ _ hs _ _ => hs) ?start ?a1z ?assign ?body ?done ?stop
        case assign =>
         intro l x W K hK
         simp [Item.encs]
         gi_wp2
         exact hK
        case start => exact ⟨Fr.refl _ _, hI0⟩
        case keepb =>
         intro W l o o' hl hlo hoc _ hsrc
         exact hsrc.kept (grownBy_putObj' W l o') (fun r e => by cases e; exact ⟨o, hlo, hoc⟩)
        case ownI =>
         rintro s A B row ⟨h1, h2⟩ hg hr
         have hb : ∀ q : Nat, q < W0.heap.size → B.heap[q]? = A.heap[q]? := fun q hq => hg.block q (Nat.lt_of_lt_of_le hq h1.2.2.2.1) (fun e => by have := (hr q e.symm).1; omega)
         refine ⟨⟨hg.os.trans h1.1, hg.tape.trans h1.2.1, hg.output.trans h1.2.2.1, Nat.le_trans h1.2.2.2.1 hg.size, fun q hq hn => (hb q hq).trans (h1.2.2.2.2 q hq hn)⟩, ?_⟩
         exact (hb D (by omega)).trans h2
        case stop =>
         rintro D' c pre W _ _ h _
         exact h.elim
        case done =>
         rintro D' its' W hD' hst ⟨hF', hI'⟩ hK
         have hXW : Fr D X W := ((Fr.refl D X).below hB0).trans hF'
         have HM' : Hid (Marks (D' :: rs) W) := hideP (by
          have hold := HMR.out
          refine ⟨List.nodup_cons.2 ⟨fun hm => ?_, hold.1⟩, fun r hr => ?_⟩
          ·have := (Array.getElem?_eq_some_iff.1 (hold.2 D' hm)).1
           omega
          ·rcases List.mem_cons.1 hr with rfl | hr
           ·exact hK
           ·have h1 := hold.2 r hr
            refine (hXW.2.2.2.2 r (Array.getElem?_eq_some_iff.1 h1).1 (fun e => ?_)).trans h1
            subst e
            have hz := HIN.out
            unfold IntsL at hz
            rw [hz] at h1
            cases h1)
         have HR' : Hid (∀ r ∈ D' :: rs, W6.heap.size ≤ r) := hideP (fun r hr => by
          rcases List.mem_cons.1 hr with rfl | hr
          ·omega
          ·exact HRS.out r hr)
         have HF2' : Hid (Fr D W6 W) := hideP (HFR.out.trans hXW)
         have HI2' : Hid (IntsL W D 118 (insZ xs (its xs) N (k + 1))) := hideP (by
          rw [insZ_note (sub := sub) (by rw [← HY.out]; simpa using HNB.out.symm) (by rw [← HY.out]; unfold segB; rw [if_pos (by simpa using HNB.out.symm), hsub]; simp only [Int.toNat_natCast]; congr 1; omega), ← hst]
          exact hI')
         clear hF' hI' hXW hK
         gi_wp2
         refine ⟨⟨k + 1, D' :: rs, ⟨_, _, _, _, _, _, _, _, _, _, _, _, _, _, _, _, _, _, _, _, _, _, _, _, _, _, _, _, _, _, _, _, _, _, _, _, _, _, _, _, _, _, _⟩, rfl, by omega, HM'.out, HR'.out, HF2'.out, HI2'.out⟩, ?_⟩
         simp [intOf]; omega
        case body =>
         rintro l pre x W ⟨hF', hI'⟩ hpl
         have hat2 := x.2.1
         obtain ⟨yy, hyk, hyq⟩ := x.2.2
         have hvx : x.1.2 = thV (sub.getD x.1.1 Nd.none) := by rw [hyq.2.2, hyk.1]
         have hox := HORD.out _ hat2
         obtain ⟨nd, hnd⟩ : ∃ nd, nd = sub.getD x.1.1 Nd.none := ⟨_, rfl⟩
         rw [← hnd] at hvx hox
         rw [hvx]
         have hPS := padF_snoc (k * 10) sub (pre.map (fun x => x.1.1)) (insZ xs (its xs) N k) x.1.1
         have hPM : (pre ++ [x]).map (fun x => x.1.1) = pre.map (fun x => x.1.1) ++ [x.1.1] := by simp
         obtain ⟨Q, hQ⟩ : ∃ Q, Q = padF (k * 10) sub (pre.map (fun x => x.1.1)) (insZ xs (its xs) N k) := ⟨_, rfl⟩
         have hQl : Q.length = N * 10 := by rw [hQ, padF_len, insZ_len]
         rw [← hQ, ← hnd] at hPS
         rw [← hQ] at hI'
         have HPS := hideP (show padF (k * 10) sub ((pre ++ [x]).map (fun x => x.1.1)) (insZ xs (its xs) N k) = pAdI (k * 10) nd Q by rw [hPM, hPS])
         have AC : Hid (∀ Y, IntsL Y D 118 Q → Calls Tryz.prog 90 #[.pointer (some ⟨D, k * 10, none⟩), thV nd] Y fun e w' => (∃ v, e = .returned v) ∧ IntsL w' D 118 (pAdI (k * 10) nd Q) ∧ Fr D Y w') := hideP (fun Y hY => paddL_any (k * 10) nd hY (by omega) hox)
         clear hPS hPM hQ hQl
         obtain ⟨Q2, hQ2⟩ : ∃ q, q = pAdI (k * 10) nd Q := ⟨_, rfl⟩
         rw [← hQ2] at AC HPS
         clear hQ2
         obtain ⟨vn, hvn⟩ : ∃ v, v = thV nd := ⟨_, rfl⟩
         rw [← hvn] at AC ⊢
         have HI' := hideP hI'
         have HF' := hideP hF'
         have g1 : W.cell? ⟨cB, 0, none⟩ = some (.pointer (some ⟨C, 0, none⟩)) := Boxed.cell ((hF'.2.2.2.2 cB HcB0.out.lt (Ne.symm hDcB)).trans HcB0.out)
         have hCW : W.heap[C]? = some (.cells #[.int .i64 S0, .int .i64 S1, .int .i64 S2, .int .i64 S3, .int .i64 S4, .int .i64 S5, .int .i64 S6, .int .i64 S7, .slice (some ⟨b, off, none⟩) n cap, .slice (some ⟨g, 0, none⟩) N uc, .slice (some ⟨D, 0, none⟩) N N] 128 (0, 0)) := (hF'.2.2.2.2 C (Array.getElem?_eq_some_iff.1 HC0.out).1 (Ne.symm hDC)).trans HC0.out
         have g2 : W.cell? ⟨C, 10, none⟩ = some (.slice (some ⟨D, 0, none⟩) N N) := by rw [cell_of_row _ _ _ _ 128 _ hCW]; rfl
         have g3 : W.cell? ⟨X.heap.size, 0, none⟩ = some (.int .i64 (k : Int)) := Boxed.cell ((hF'.2.2.2.2 X.heap.size HA0.out.lt (by omega)).trans HA0.out)
         clear hvx hox hnd hvn hyk hyq hI' hF' hCW
         gi_wp2_with fail
         refine region_heldR (S := fun Y => Y.cell? ⟨cB, 0, none⟩ = some (.pointer (some ⟨C, 0, none⟩)) ∧ Y.cell? ⟨C, 10, none⟩ = some (.slice (some ⟨D, 0, none⟩) N N) ∧ Y.cell? ⟨X.heap.size, 0, none⟩ = some (.int .i64 (k : Int))) (by kernel_rfl) (plain_spec (by kernel_rfl)) (by rintro ⟨a, w, h⟩; exact h) ?_
         have hS : W.drew.cell? ⟨cB, 0, none⟩ = some (.pointer (some ⟨C, 0, none⟩)) ∧ W.drew.cell? ⟨C, 10, none⟩ = some (.slice (some ⟨D, 0, none⟩) N N) ∧ W.drew.cell? ⟨X.heap.size, 0, none⟩ = some (.int .i64 (k : Int)) := ⟨g1, g2, g3⟩
         refine wpAnyH_take (i := 0) (v := .pointer (some ⟨C, 0, none⟩)) rfl (by kernel_rfl) (by kernel_rfl) (by kernel_rfl) (fun _ _ _ h => h) (Or.inl ⟨by first | rfl | go_simp, fun wx hx => by obtain ⟨hx1, hx2, hx3⟩ := hx; go_simp⟩) hS ?_
         try simp only [Act.put, List.getElem_toArray, List.getElem_cons_zero, List.getElem_cons_succ, List.setIfInBounds_toArray, List.set_cons_zero, List.set_cons_succ]
         refine wpAnyH_take (i := 1) (v := .pointer (some ⟨C, 0, none⟩)) rfl (by kernel_rfl) (by kernel_rfl) (by kernel_rfl) (fun _ _ _ h => h) (Or.inl ⟨by first | rfl | go_simp, fun wx hx => by obtain ⟨hx1, hx2, hx3⟩ := hx; go_simp⟩) hS ?_
         try simp only [Act.put, List.getElem_toArray, List.getElem_cons_zero, List.getElem_cons_succ, List.setIfInBounds_toArray, List.set_cons_zero, List.set_cons_succ]
         refine wpAnyH_take (i := 2) (v := .pointer (some ⟨C, 10, none⟩)) rfl (by kernel_rfl) (by kernel_rfl) (by kernel_rfl) (fun _ _ _ h => h) (Or.inl ⟨by first | rfl | go_simp, fun wx hx => by obtain ⟨hx1, hx2, hx3⟩ := hx; go_simp⟩) hS ?_
         try simp only [Act.put, List.getElem_toArray, List.getElem_cons_zero, List.getElem_cons_succ, List.setIfInBounds_toArray, List.set_cons_zero, List.set_cons_succ]
         refine wpAnyH_take (i := 3) (v := .slice (some ⟨D, 0, none⟩) N N) rfl (by kernel_rfl) (by kernel_rfl) (by kernel_rfl) (fun _ _ _ h => h) (Or.inl ⟨by first | rfl | go_simp, fun wx hx => by obtain ⟨hx1, hx2, hx3⟩ := hx; go_simp⟩) hS ?_
         try simp only [Act.put, List.getElem_toArray, List.getElem_cons_zero, List.getElem_cons_succ, List.setIfInBounds_toArray, List.set_cons_zero, List.set_cons_succ]
         refine wpAnyH_take (i := 4) (v := .int .i64 (k : Int)) rfl (by kernel_rfl) (by kernel_rfl) (by kernel_rfl) (fun _ _ _ h => h) (Or.inl ⟨by first | rfl | go_simp, fun wx hx => by obtain ⟨hx1, hx2, hx3⟩ := hx; go_simp⟩) hS ?_
         try simp only [Act.put, List.getElem_toArray, List.getElem_cons_zero, List.getElem_cons_succ, List.setIfInBounds_toArray, List.set_cons_zero, List.set_cons_succ]
         refine wpAnyH_take (i := 5) (v := .pointer (some ⟨D, k * 10, none⟩)) rfl (by kernel_rfl) (by kernel_rfl) (by kernel_rfl) (fun _ _ _ h => h) (Or.inl ⟨by first | rfl | go_simp, fun wx hx => by obtain ⟨hx1, hx2, hx3⟩ := hx; go_simp⟩) hS ?_
         try simp only [Act.put, List.getElem_toArray, List.getElem_cons_zero, List.getElem_cons_succ, List.setIfInBounds_toArray, List.set_cons_zero, List.set_cons_succ]
         refine wpAnyH_take (i := 6) (v := vn) rfl (by kernel_rfl) (by kernel_rfl) (by kernel_rfl) (fun _ _ _ h => h) (Or.inl ⟨by first | rfl | go_simp, fun wx hx => by obtain ⟨hx1, hx2, hx3⟩ := hx; go_simp⟩) hS ?_
         try simp only [Act.put, List.getElem_toArray, List.getElem_cons_zero, List.getElem_cons_succ, List.setIfInBounds_toArray, List.set_cons_zero, List.set_cons_succ]
         refine wpAnyH_ready (rs := [7]) (by kernel_rfl) (by simp) ?_
         refine AllReadyH.cons rfl (fun K hK => ?_) AllReadyH.nil
         rw [if_pos (by first | rfl | go_simp)]
         go_wp2_with fail
         refine (AC.out _ (show IntsL W.drew D 118 Q from HI'.out)).mono ?_
         rintro e w9 ⟨⟨vr, rfl⟩, hi9, hf9⟩
         have hW9 : ∀ q : Nat, q < W.heap.size → q ≠ D → w9.heap[q]? = W.heap[q]? := fun q hq hn => hf9.2.2.2.2 q hq hn
         have T9 : w9.cell? ⟨cB, 0, none⟩ = some (.pointer (some ⟨C, 0, none⟩)) ∧ w9.cell? ⟨C, 10, none⟩ = some (.slice (some ⟨D, 0, none⟩) N N) ∧ w9.cell? ⟨X.heap.size, 0, none⟩ = some (.int .i64 (k : Int)) := ⟨(World.cell?_of_block (w := W) (a := ⟨cB, 0, none⟩) (hW9 cB (World.block_lt_of_cell? W _ g1) (Ne.symm hDcB))).trans g1, (World.cell?_of_block (w := W) (a := ⟨C, 10, none⟩) (hW9 C (World.block_lt_of_cell? W _ g2) (Ne.symm hDC))).trans g2, (World.cell?_of_block (w := W) (a := ⟨X.heap.size, 0, none⟩) (hW9 X.heap.size (World.block_lt_of_cell? W _ g3) (by omega))).trans g3⟩
         refine hK.out _ _ T9 (fun _ => ?_)
         try simp only [Act.put, List.getElem_toArray, List.getElem_cons_zero, List.getElem_cons_succ, List.setIfInBounds_toArray, List.set_cons_zero, List.set_cons_succ]
         clear hK K
         have D1 : Hid (KeepsOthers W w9) := hideP ⟨hf9.2.2.2.1, fun q o hq ho => by
          by_cases hqD : q = D
          ·subst hqD
           have hz := HI'.out
           unfold IntsL at hz
           rw [hz] at hq
           cases hq
           cases ho
          ·exact (hW9 q (Array.getElem?_eq_some_iff.1 hq).1 hqD).trans hq⟩
         have D2 : Hid (Src sub (some ⟨b, off + (at_ + 1) * 15, none⟩) Bs b (off + (at_ + 1) * 15) (cap - (at_ + 1)) W → Src sub (some ⟨b, off + (at_ + 1) * 15, none⟩) Bs b (off + (at_ + 1) * 15) (cap - (at_ + 1)) w9) := hideP (fun hsrc => by
          refine ⟨(World.cell?_of_block (w := W) (a := ⟨Bs, 0, none⟩) (hW9 Bs (World.block_lt_of_cell? W _ hsrc.box) (by omega))).trans hsrc.box, hsrc.some_, fun i hi => ?_⟩
          obtain ⟨y2, hk2, hc2⟩ := hsrc.at_ i hi
          have hbW : b < W.heap.size := by have h0 := hc2 0 (by omega); exact World.block_lt_of_cell? W _ (h0.trans (List.getElem?_eq_getElem (show 0 < y2.cells.length by exact (by decide : 0 < 15))))
          exact ⟨y2, hk2, fun j hj => (World.cell?_of_block (w := W) (a := ⟨b, off + (at_ + 1) * 15 + i * 15 + j, none⟩) (hW9 b hbW (by omega))).trans (hc2 j hj)⟩)
         have D3 : Hid (Fr D W0 w9 ∧ IntsL w9 D 118 (padF (k * 10) sub ((pre ++ [x]).map (fun x => x.1.1)) (insZ xs (its xs) N k))) := hideP ⟨HF'.out.trans hf9, by rw [HPS.out]; exact hi9⟩
         clear hf9 hi9 hW9
         refine wpAnyH_done (by kernel_rfl) ?_ _
         gi_wp2
         exact ⟨D1.out, D2.out, D3.out⟩
     ·have hki : ¬ (k : Int) < (N : Int) := by omega
      obtain rfl : k = N := by omega
      have hCD : C ≠ D := Ne.symm hDC
      have hC6 : C < W6.heap.size := (Array.getElem?_eq_some_iff.1 HG1.out).1
      have hCX : X.heap[C]? = some (.cells #[.int .i64 S0, .int .i64 S1, .int .i64 S2, .int .i64 S3, .int .i64 S4, .int .i64 S5, .int .i64 S6, .int .i64 S7, .slice ao n cap, .slice ua k uc, .slice (some ⟨D, 0, none⟩) k k] 128 (0, 0)) := (hF.2.2.2.2 C hC6 hCD).trans HG1.out
      have hcX : Boxed X cB 107 (.pointer (some ⟨C, 0, none⟩)) := (hF.2.2.2.2 cB HG2.out.lt (Ne.symm hDcB)).trans HG2.out
      have z0 := hcX.cell
      have z9 : X.cell? ⟨C, 9, none⟩ = some (.slice ua k uc) := by rw [cell_of_row _ _ _ _ 128 _ hCX]; rfl
      have HCX := hideP hCX
      have HUX : Hid (X.ownsRow w.heap.size 186 3 (.slice ua k uc) k (flatI (its xs))) := hideP (by
       have h := HG3.out
       obtain ⟨h0, h | ⟨g, cap', cur, e, hg, hb, hr⟩⟩ := h
       ·exact ⟨h0, .inl h⟩
       ·refine ⟨h0, .inr ⟨g, cap', cur, e, hg, (hF.2.2.2.2 g (Array.getElem?_eq_some_iff.1 hb).1 ?_).trans hb, hr⟩⟩
        intro e2
        rw [e] at hDu
        exact hDu (by simp [Value.ownBlock, e2]))
      have HBX : Hid (Below w.heap.size w X) := hideP (by
       have b6 := HG5.out
       exact ⟨hF.1.trans b6.os, hF.2.1.trans b6.tape, hF.2.2.1.trans b6.output, Nat.le_trans b6.size hF.2.2.2.1, fun q hq => (hF.2.2.2.2 q (Nat.lt_of_lt_of_le hq b6.size) (by omega)).trans (b6.block q hq)⟩)
      have HW6 : Hid (w.heap.size ≤ W6.heap.size) := hideP HG5.out.size
      have HIX := hideP hI
      clear hI hF hM hrs hCX hcX HFR HIN HG1 HG2 HG3 HG4 HG5
      gi_wp2
      refine wpIn_wide.2 ?_
      go_region
      simp only [Exit.then]
      gi_wp2
      refine leaves_marks rs _ (show Marks rs X.drew from HMR.out) (fun w' hc => ?_)
      have hcell : ∀ (q : Nat) (o : Obj), X.heap[q]? = some o → o.isCells = true → w'.heap[q]? = some o := fun q o hq ho => (hc.2.2.2.2 q (fun hqr => by have h2 := HMR.out.2 q hqr; rw [hq] at h2; cases h2; cases ho)).trans hq
      refine ⟨.tuple #[.pointer (some ⟨C, 0, none⟩), .bool (decide ((k : Int) ≤ 4000))], by simp [results, Tryz.results43, go_sem], by simp, fun _ => ⟨C, D, ua, uc, ?_, ?_, ?_, f6, ?_⟩, ?_⟩
      ·rw [HN2.out]
      ·rw [← HN2.out]
       exact hcell C _ HCX.out rfl
      ·rw [← HN2.out]
       obtain ⟨h0, h | ⟨g, cap', cur, e, hg, hb, hr⟩⟩ := HUX.out
       ·exact ⟨h0, .inl h⟩
       ·exact ⟨h0, .inr ⟨g, cap', cur, e, hg, hcell g _ hb rfl, hr⟩⟩
      ·rw [← HN2.out]
       exact hcell D _ HIX.out rfl
      ·have b := HBX.out
       refine ⟨hc.1.trans b.os, hc.2.1.trans b.tape, hc.2.2.1.trans b.output, ?_, fun q hq => ?_⟩
       ·rw [hc.2.2.2.1]; exact b.size
       ·have h1 := b.block q hq
        refine (hc.2.2.2.2 q (fun hqr => ?_)).trans h1
        have h2 := HRS.out q hqr
        have h3 := HW6.out
        omega)
   clear hKK
   refine wpIn_wide.2 ?_
   have KS : Hid (∀ W', Below w2.heap.size w2 W' → (W'.cell? ⟨w.heap.size, 0, none⟩ = some (.int .i64 S0) ∧ W'.cell? ⟨w.heap.size, 1, none⟩ = some (.int .i64 S1) ∧ W'.cell? ⟨w.heap.size, 2, none⟩ = some (.int .i64 S2) ∧ W'.cell? ⟨w.heap.size, 3, none⟩ = some (.int .i64 S3) ∧ W'.cell? ⟨w.heap.size, 4, none⟩ = some (.int .i64 S4) ∧ W'.cell? ⟨w.heap.size, 5, none⟩ = some (.int .i64 S5) ∧ W'.cell? ⟨w.heap.size, 6, none⟩ = some (.int .i64 S6) ∧ W'.cell? ⟨w.heap.size, 7, none⟩ = some (.int .i64 S7))) := hideP (fun W' hW => ⟨(s0 W' hW 0 (by omega)).trans y0, (s0 W' hW 1 (by omega)).trans y1, (s0 W' hW 2 (by omega)).trans y2, (s0 W' hW 3 (by omega)).trans y3, (s0 W' hW 4 (by omega)).trans y4, (s0 W' hW 5 (by omega)).trans y5, (s0 W' hW 6 (by omega)).trans y6, (s0 W' hW 7 (by omega)).trans y7⟩)
   refine wp_region_noPanic ?_
   refine wp_region_held_drew (S := fun X => X.cell? ⟨w.heap.size, 0, none⟩ = some (.int .i64 S0) ∧ X.cell? ⟨w.heap.size, 1, none⟩ = some (.int .i64 S1) ∧ X.cell? ⟨w.heap.size, 2, none⟩ = some (.int .i64 S2) ∧ X.cell? ⟨w.heap.size, 3, none⟩ = some (.int .i64 S3) ∧ X.cell? ⟨w.heap.size, 4, none⟩ = some (.int .i64 S4) ∧ X.cell? ⟨w.heap.size, 5, none⟩ = some (.int .i64 S5) ∧ X.cell? ⟨w.heap.size, 6, none⟩ = some (.int .i64 S6) ∧ X.cell? ⟨w.heap.size, 7, none⟩ = some (.int .i64 S7)) (by kernel_rfl) ⟨y0, y1, y2, y3, y4, y5, y6, y7⟩ ?_
   intro hS
   clear s0 y0 y1 y2 y3 y4 y5 y6 y7
   refine wpAnyH_take (i := 0) (v := .agg #[.int .i64 S0, .int .i64 S1, .int .i64 S2, .int .i64 S3, .int .i64 S4, .int .i64 S5, .int .i64 S6, .int .i64 S7]) rfl (by kernel_rfl) (by kernel_rfl) (by kernel_rfl) (fun _ _ _ h => h) (Or.inl ⟨by first | rfl | go_simp, fun wx hx => by obtain ⟨hx1, hx2, hx3, hx4, hx5, hx6, hx7, hx8⟩ := hx; go_simp⟩) hS ?_
   try simp only [Act.put, List.getElem_toArray, List.getElem_cons_zero, List.getElem_cons_succ, List.setIfInBounds_toArray, List.set_cons_zero, List.set_cons_succ]
   refine wpAnyH_take (i := 1) (v := .slice ao n cap) rfl (by kernel_rfl) (by kernel_rfl) (by kernel_rfl) (fun _ _ _ h => h) (Or.inl ⟨by first | rfl | go_simp, fun wx hx => by obtain ⟨hx1, hx2, hx3, hx4, hx5, hx6, hx7, hx8⟩ := hx; go_simp⟩) hS ?_
   try simp only [Act.put, List.getElem_toArray, List.getElem_cons_zero, List.getElem_cons_succ, List.setIfInBounds_toArray, List.set_cons_zero, List.set_cons_succ]
   refine wpAnyH_take (i := 2) (v := .slice ao n cap) rfl (by kernel_rfl) (by kernel_rfl) (by kernel_rfl) (fun _ _ _ h => h) (Or.inl ⟨by first | rfl | go_simp, fun wx hx => by obtain ⟨hx1, hx2, hx3, hx4, hx5, hx6, hx7, hx8⟩ := hx; go_simp⟩) hS ?_
   try simp only [Act.put, List.getElem_toArray, List.getElem_cons_zero, List.getElem_cons_succ, List.setIfInBounds_toArray, List.set_cons_zero, List.set_cons_succ]
   refine wpAnyH_ready (rs := [3, 6]) (by kernel_rfl) (by simp) ?_
   refine AllReadyH.cons rfl (fun K' hK => ?_) (AllReadyH.cons rfl (fun K' hK => ?_) AllReadyH.nil)
   ·rw [if_pos (by first | rfl | go_simp)]
    go_wp2_with fail
    refine (IC2.out _ (Below.drew B2.out)).mono ?_
    rintro e w3 ⟨⟨u, rfl, hu3⟩, hb3⟩
    have hB3 : Below w2.heap.size w2 w3 := ⟨hb3.os, hb3.tape, hb3.output, hb3.size, fun q hq => hb3.block q hq⟩
    have S3' := KS.out w3 hB3
    have hsz3 : w2.heap.size ≤ w3.heap.size := hB3.size
    have hub : ∀ g, u.ownBlock = some g → w2.heap.size ≤ g ∧ g < w3.heap.size := fun g hg => World.ownsRow.lt hu3 g hg
    obtain ⟨ua, uc, rfl⟩ := ownG_shape hu3
    have HU3 := hideP (ownG_mono hu3 (base' := w.heap.size) (by first | omega | (simp; omega)))
    have HB3 := hideP hB3
    clear hu3
    clear hb3
    refine hK.out _ _ S3' (fun _ => ?_)
    try simp only [Act.put, List.getElem_toArray, List.getElem_cons_zero, List.getElem_cons_succ, List.setIfInBounds_toArray, List.set_cons_zero, List.set_cons_succ]
    clear hK K'
    refine wpAnyH_take (i := 4) (v := .agg #[.int .i64 S0, .int .i64 S1, .int .i64 S2, .int .i64 S3, .int .i64 S4, .int .i64 S5, .int .i64 S6, .int .i64 S7, .slice ao n cap, .slice ua (its xs).length uc, .slice none 0 0]) rfl (by kernel_rfl) (by kernel_rfl) (by kernel_rfl) (fun _ _ _ h => h) (Or.inl ⟨by first | rfl | go_simp, fun wx hx => by obtain ⟨hx1, hx2, hx3, hx4, hx5, hx6, hx7, hx8⟩ := hx; go_simp⟩) S3' ?_
    try simp only [Act.put, List.getElem_toArray, List.getElem_cons_zero, List.getElem_cons_succ, List.setIfInBounds_toArray, List.set_cons_zero, List.set_cons_succ]
    refine wpAnyH_ready (rs := [5, 6]) (by kernel_rfl) (by simp) ?_
    refine AllReadyH.cons rfl (fun K' hK => ?_) (AllReadyH.cons rfl (fun K' hK => ?_) AllReadyH.nil)
    ·rw [if_pos (by first | rfl | go_simp)]
     go_simp
     have hB4 : Below w2.heap.size w2 (w3.alloc (.cells #[.int .i64 S0, .int .i64 S1, .int .i64 S2, .int .i64 S3, .int .i64 S4, .int .i64 S5, .int .i64 S6, .int .i64 S7, .slice ao n cap, .slice ua (its xs).length uc, .slice none 0 0] 128)) := hB3.alloc hsz3 _
     refine hK.out _ _ (KS.out _ hB4) (fun _ => ?_)
     try simp only [Act.put, List.getElem_toArray, List.getElem_cons_zero, List.getElem_cons_succ, List.setIfInBounds_toArray, List.set_cons_zero, List.set_cons_succ]
     clear hK K'
     refine wpAnyH_ready (rs := [6]) (by kernel_rfl) (by simp) ?_
     refine AllReadyH.cons rfl (fun K' hK => ?_) AllReadyH.nil
     rw [if_pos (by first | rfl | go_simp)]
     go_simp
     have hB5 : Below w2.heap.size w2 ((w3.alloc (.cells #[.int .i64 S0, .int .i64 S1, .int .i64 S2, .int .i64 S3, .int .i64 S4, .int .i64 S5, .int .i64 S6, .int .i64 S7, .slice ao n cap, .slice ua (its xs).length uc, .slice none 0 0] 128)).alloc (.cells #[.pointer none] 107)) := hB4.alloc hB4.size _
     refine hK.out _ _ (KS.out _ hB5) (fun _ => ?_)
     try simp only [Act.put, List.getElem_toArray, List.getElem_cons_zero, List.getElem_cons_succ, List.setIfInBounds_toArray, List.set_cons_zero, List.set_cons_succ]
     clear hK K'
     refine wpAnyH_ready (rs := [7]) (by kernel_rfl) (by simp) ?_
     refine AllReadyH.cons rfl (fun K' hK => ?_) AllReadyH.nil
     rw [if_pos (by first | rfl | go_simp)]
     go_simp
     have hB6 : Below w2.heap.size w2 ((w3.alloc (.cells #[.int .i64 S0, .int .i64 S1, .int .i64 S2, .int .i64 S3, .int .i64 S4, .int .i64 S5, .int .i64 S6, .int .i64 S7, .slice ao n cap, .slice ua (its xs).length uc, .slice none 0 0] 128)).alloc (.cells #[.pointer (some ⟨w3.heap.size, 0, none⟩)] 107)) := hB4.alloc hB4.size _
     refine hK.out _ _ (KS.out _ hB6) (fun _ => ?_)
     try simp only [Act.put, List.getElem_toArray, List.getElem_cons_zero, List.getElem_cons_succ, List.setIfInBounds_toArray, List.set_cons_zero, List.set_cons_succ]
     clear hK K'
     refine wpAnyH_done (by kernel_rfl) ?_ _
     refine NoPanic.normal ?_
     refine FIN.out _ w3.heap.size (w3.heap.size + 1) _ ⟨?_, ?_, ?_, ?_, ?_, ?_, ?_, ?_, ?_⟩
     ·exact ((below1 _ _).block _ (by simp)).trans (heap_alloc_new _ _)
     ·have h := Boxed.new (w3.alloc (.cells #[.int .i64 S0, .int .i64 S1, .int .i64 S2, .int .i64 S3, .int .i64 S4, .int .i64 S5, .int .i64 S6, .int .i64 S7, .slice ao n cap, .slice ua (its xs).length uc, .slice none 0 0] 128)) 107 (.pointer (some ⟨w3.heap.size, 0, none⟩))
      rw [World.size_alloc] at h
      exact h
     ·exact (HU3.out.alloc _).alloc _
     ·exact B2.out.trans (hB6.mono B2.out.size)
     ·omega
     ·omega
     ·omega
     ·intro e; have := hub _ e; omega
     ·intro e; have := hub _ e; omega
    ·rw [if_pos (by first | rfl | go_simp)]
     go_simp
     have hB4 : Below w2.heap.size w2 (w3.alloc (.cells #[.pointer none] 107)) := hB3.alloc hsz3 _
     refine hK.out _ _ (KS.out _ hB4) (fun _ => ?_)
     try simp only [Act.put, List.getElem_toArray, List.getElem_cons_zero, List.getElem_cons_succ, List.setIfInBounds_toArray, List.set_cons_zero, List.set_cons_succ]
     clear hK K'
     refine wpAnyH_ready (rs := [5]) (by kernel_rfl) (by simp) ?_
     refine AllReadyH.cons rfl (fun K' hK => ?_) AllReadyH.nil
     rw [if_pos (by first | rfl | go_simp)]
     go_simp
     have hB5 : Below w2.heap.size w2 ((w3.alloc (.cells #[.pointer none] 107)).alloc (.cells #[.int .i64 S0, .int .i64 S1, .int .i64 S2, .int .i64 S3, .int .i64 S4, .int .i64 S5, .int .i64 S6, .int .i64 S7, .slice ao n cap, .slice ua (its xs).length uc, .slice none 0 0] 128)) := hB4.alloc hB4.size _
     refine hK.out _ _ (KS.out _ hB5) (fun _ => ?_)
     try simp only [Act.put, List.getElem_toArray, List.getElem_cons_zero, List.getElem_cons_succ, List.setIfInBounds_toArray, List.set_cons_zero, List.set_cons_succ]
     clear hK K'
     refine wpAnyH_ready (rs := [7]) (by kernel_rfl) (by simp) ?_
     refine AllReadyH.cons rfl (fun K' hK => ?_) AllReadyH.nil
     rw [if_pos (by first | rfl | go_simp)]
     go_simp
     have hB6 : Below w2.heap.size w2 ((w3.alloc (.cells #[.pointer (some ⟨w3.heap.size + 1, 0, none⟩)] 107)).alloc (.cells #[.int .i64 S0, .int .i64 S1, .int .i64 S2, .int .i64 S3, .int .i64 S4, .int .i64 S5, .int .i64 S6, .int .i64 S7, .slice ao n cap, .slice ua (its xs).length uc, .slice none 0 0] 128)) := (hB3.alloc hsz3 _).alloc (by have := hsz3; simp; omega) _
     refine hK.out _ _ (KS.out _ hB6) (fun _ => ?_)
     try simp only [Act.put, List.getElem_toArray, List.getElem_cons_zero, List.getElem_cons_succ, List.setIfInBounds_toArray, List.set_cons_zero, List.set_cons_succ]
     clear hK K'
     refine wpAnyH_done (by kernel_rfl) ?_ _
     refine NoPanic.normal ?_
     refine FIN.out _ (w3.heap.size + 1) w3.heap.size _ ⟨?_, ?_, ?_, ?_, ?_, ?_, ?_, ?_, ?_⟩
     ·have h := heap_alloc_new (w3.alloc (.cells #[.pointer (some ⟨w3.heap.size + 1, 0, none⟩)] 107)) (.cells #[.int .i64 S0, .int .i64 S1, .int .i64 S2, .int .i64 S3, .int .i64 S4, .int .i64 S5, .int .i64 S6, .int .i64 S7, .slice ao n cap, .slice ua (its xs).length uc, .slice none 0 0] 128)
      rw [World.size_alloc] at h
      exact h
     ·exact (Boxed.new w3 107 (.pointer (some ⟨w3.heap.size + 1, 0, none⟩))).alloc _
     ·exact (HU3.out.alloc _).alloc _
     ·exact B2.out.trans (hB6.mono B2.out.size)
     ·omega
     ·omega
     ·omega
     ·intro e; have := hub _ e; omega
     ·intro e; have := hub _ e; omega
   ·rw [if_pos (by first | rfl | go_simp)]
    go_simp
    have hB0 : Below w2.heap.size w2 (w2.alloc (.cells #[.pointer none] 107)).drew := Below.drew (below1 _ _)
    refine hK.out _ _ (KS.out _ hB0) (fun _ => ?_)
    try simp only [Act.put, List.getElem_toArray, List.getElem_cons_zero, List.getElem_cons_succ, List.setIfInBounds_toArray, List.set_cons_zero, List.set_cons_succ]
    clear hK K'
    refine wpAnyH_ready (rs := [3]) (by kernel_rfl) (by simp) ?_
    refine AllReadyH.cons rfl (fun K' hK => ?_) AllReadyH.nil
    rw [if_pos (by first | rfl | go_simp)]
    go_wp2_with fail
    refine (IC2.out _ (Below.trans B2.out (hB0.mono B2.out.size))).mono ?_
    rintro e w3 ⟨⟨u, rfl, hu3⟩, hb3⟩
    have hB3 : Below w2.heap.size w2 w3 := hB0.trans (hb3.mono hB0.size)
    have S3' := KS.out w3 hB3
    have hsz3 : w2.heap.size ≤ w3.heap.size := hB3.size
    have hub : ∀ g, u.ownBlock = some g → (w2.alloc (.cells #[.pointer none] 107)).drew.heap.size ≤ g ∧ g < w3.heap.size := fun g hg => World.ownsRow.lt hu3 g hg
    obtain ⟨ua, uc, rfl⟩ := ownG_shape hu3
    have HU3 := hideP (ownG_mono hu3 (base' := w.heap.size) (by first | omega | (simp; omega)))
    have HB3 := hideP hB3
    clear hu3
    have hcb3 : Boxed w3 w2.heap.size 107 (.pointer none) := (hb3.block _ (by show w2.heap.size < (w2.alloc _).heap.size; simp)).trans (Boxed.new w2 107 (.pointer none))
    have hcb3c := hcb3.cell
    have hcb3f := hcb3.frozen
    have hlt3 : w2.heap.size < w3.heap.size := hcb3.lt
    have HCB := hideP hcb3
    clear hb3 hcb3
    refine hK.out _ _ S3' (fun _ => ?_)
    try simp only [Act.put, List.getElem_toArray, List.getElem_cons_zero, List.getElem_cons_succ, List.setIfInBounds_toArray, List.set_cons_zero, List.set_cons_succ]
    clear hK K'
    refine wpAnyH_take (i := 4) (v := .agg #[.int .i64 S0, .int .i64 S1, .int .i64 S2, .int .i64 S3, .int .i64 S4, .int .i64 S5, .int .i64 S6, .int .i64 S7, .slice ao n cap, .slice ua (its xs).length uc, .slice none 0 0]) rfl (by kernel_rfl) (by kernel_rfl) (by kernel_rfl) (fun _ _ _ h => h) (Or.inl ⟨by first | rfl | go_simp, fun wx hx => by obtain ⟨hx1, hx2, hx3, hx4, hx5, hx6, hx7, hx8⟩ := hx; go_simp⟩) S3' ?_
    try simp only [Act.put, List.getElem_toArray, List.getElem_cons_zero, List.getElem_cons_succ, List.setIfInBounds_toArray, List.set_cons_zero, List.set_cons_succ]
    refine wpAnyH_ready (rs := [5]) (by kernel_rfl) (by simp) ?_
    refine AllReadyH.cons rfl (fun K' hK => ?_) AllReadyH.nil
    rw [if_pos (by first | rfl | go_simp)]
    go_simp
    have hB5 : Below w2.heap.size w2 (w3.alloc (.cells #[.int .i64 S0, .int .i64 S1, .int .i64 S2, .int .i64 S3, .int .i64 S4, .int .i64 S5, .int .i64 S6, .int .i64 S7, .slice ao n cap, .slice ua (its xs).length uc, .slice none 0 0] 128)) := hB3.alloc hsz3 _
    refine hK.out _ _ (KS.out _ hB5) (fun _ => ?_)
    try simp only [Act.put, List.getElem_toArray, List.getElem_cons_zero, List.getElem_cons_succ, List.setIfInBounds_toArray, List.set_cons_zero, List.set_cons_succ]
    clear hK K'
    refine wpAnyH_ready (rs := [7]) (by kernel_rfl) (by simp) ?_
    refine AllReadyH.cons rfl (fun K' hK => ?_) AllReadyH.nil
    rw [if_pos (by first | rfl | go_simp)]
    go_simp
    have hB6 : Below w2.heap.size w2 ((w3.setCell ⟨w2.heap.size, 0, none⟩ (.pointer (some ⟨w3.heap.size, 0, none⟩))).alloc (.cells #[.int .i64 S0, .int .i64 S1, .int .i64 S2, .int .i64 S3, .int .i64 S4, .int .i64 S5, .int .i64 S6, .int .i64 S7, .slice ao n cap, .slice ua (its xs).length uc, .slice none 0 0] 128)) := (hB3.setCell (p := ⟨w2.heap.size, 0, none⟩) (Nat.le_refl _) _).alloc (by simpa [World.setCell] using hsz3) _
    have hsc : (w3.setCell ⟨w2.heap.size, 0, none⟩ (.pointer (some ⟨w3.heap.size, 0, none⟩))).heap.size = w3.heap.size := by simp [World.setCell]
    refine hK.out _ _ (KS.out _ hB6) (fun _ => ?_)
    try simp only [Act.put, List.getElem_toArray, List.getElem_cons_zero, List.getElem_cons_succ, List.setIfInBounds_toArray, List.set_cons_zero, List.set_cons_succ]
    clear hK K'
    refine wpAnyH_done (by kernel_rfl) ?_ _
    refine NoPanic.normal ?_
    refine FIN.out _ w3.heap.size w2.heap.size _ ⟨?_, ?_, ?_, ?_, ?_, ?_, ?_, ?_, ?_⟩
    ·have h := heap_alloc_new (w3.setCell ⟨w2.heap.size, 0, none⟩ (.pointer (some ⟨w3.heap.size, 0, none⟩))) (.cells #[.int .i64 S0, .int .i64 S1, .int .i64 S2, .int .i64 S3, .int .i64 S4, .int .i64 S5, .int .i64 S6, .int .i64 S7, .slice ao n cap, .slice ua (its xs).length uc, .slice none 0 0] 128)
     rw [hsc] at h
     exact h
    ·exact (HCB.out.set _).alloc _
    ·refine World.ownsRow.alloc ?_ _
     refine HU3.out.kept (grownBy_setCell' w3 w2.heap.size _) (.inr (fun e => ?_))
     have h1 := (hub _ (by first | exact e | exact e.symm)).1
     have h2 : (w2.alloc (.cells #[.pointer none] 107)).drew.heap.size = w2.heap.size + 1 := by show (w2.alloc _).heap.size = _; simp
     omega
    ·exact B2.out.trans (hB6.mono B2.out.size)
    ·omega
    ·omega
    ·omega
    ·intro e; have := hub _ e; omega
    ·intro e
     have h1 := (hub _ e).1
     have h2 : (w2.alloc (.cells #[.pointer none] 107)).drew.heap.size = w2.heap.size + 1 := by show (w2.alloc _).heap.size = _; simp
     omega
end Go.Proofs.YtlohbaoigfaneaaGreat
