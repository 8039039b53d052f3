/-
  Proved: for every list of nodes, sheet and two numbers, laws.FnExactPageOf returns true and its arguments read behind the call as before it; no condition.
-/
import Derived.Test.YtjagagbelpihbaaPgl
import Derived.Test.YtjagagbelpihbaaSpf
import Derived.Deep.RegionHeld3
import Derived.Test.YtjagagbelpihbaaNdo
import Derived.Test.YtjagagbelpihbaaNdq
import Derived.Test.YtjagagbelpihbaaMkb
import Derived.Test.YtjagagbelpihbaaMkc
import Derived.Test.YtjagagbelpihbaaOw
import Derived.Test.YtjagagbelpihbaaLkH
namespace Go.Proofs.Ytjagagbelpihbaa
open Go.RowKit
set_option linter.unusedVariables false
set_option linter.unusedSimpArgs false

/-- A scroll in its memory, its nodes and its items. -/
structure ScrAt (w : World) (C : Nat) (g0 g1 g2 g3 g4 : Int) (b0 off n cap : Nat) (ua : Option Addr) (N uc : Nat) : Prop where
  cl : ∃ cs, w.heap[C]? = some (.cells cs 101 (0, 0))
  c2 : w.cell? ⟨C, 2, none⟩ = some (.int .i64 g0)
  c3 : w.cell? ⟨C, 3, none⟩ = some (.int .i64 g1)
  c4 : w.cell? ⟨C, 4, none⟩ = some (.int .i64 g2)
  c5 : w.cell? ⟨C, 5, none⟩ = some (.int .i64 g3)
  c6 : w.cell? ⟨C, 6, none⟩ = some (.int .i64 g4)
  c8 : w.cell? ⟨C, 8, none⟩ = some (.slice (some ⟨b0, off, none⟩) n cap)
  c9 : w.cell? ⟨C, 9, none⟩ = some (.slice ua N uc)

theorem flatN_append (a b : List Nd) : flatN (a ++ b) = flatN a ++ flatN b := by
  induction a with
  | nil => rfl
  | cons x a ih => rw [List.cons_append, flatN, flatN, ih, List.append_assoc]
theorem Try.info60i : (Try.prog.info? 60).map (fun i => (i.zero, i.size, i.bytes)) = some (some (ndV Nd.none), 15, 128) := by kernel_rfl
set_option maxRecDepth 200000 in
set_option maxHeartbeats 8000000 in
theorem page_any {w : World} {C b0 off n cap N uc base : Nat} {ua : Option Addr} {xs : List Nd} {g0 g1 g2 g3 g4 : Int} (a b : Nat) (hS : ScrAt w C g0 g1 g2 g3 g4 b0 off n cap ua N uc) (hr : w.ownsRow base 141 3 (.slice ua N uc) N (flatI (its xs)))
    (hN : (its xs).length = N) (hok : AllOk xs) (hn : xs.length = n) (hcap : n ≤ cap ∧ cap ≤ 9223372036854775807) (hb0 : b0 < w.heap.size) (hbc : ∀ j u, (flatN xs)[j]? = some u → w.cell? ⟨b0, off + j, none⟩ = some u) (hab : a ≤ b) (hbN : b ≤ N) (hN0 : 0 < N) :
    Calls Try.prog 50 #[.pointer (some ⟨C, 0, none⟩), .int .i64 (a : Int), .int .i64 (b : Int)] w fun e w' => (∃ u, e = .returned u ∧ w'.ownsRow w.heap.size 60 15 u (pageL xs (gapN g0 g1 g2 g3 g4) (((its xs).drop (begI (its xs) a b)).take (b - begI (its xs) a b))).length (flatN (pageL xs (gapN g0 g1 g2 g3 g4) (((its xs).drop (begI (its xs) a b)).take (b - begI (its xs) a b))))) ∧ Below w.heap.size w w' := by
  obtain ⟨PL, hPL⟩ : ∃ PL, PL = (pageL xs (gapN g0 g1 g2 g3 g4) (((its xs).drop (begI (its xs) a b)).take (b - begI (its xs) a b))) := ⟨_, rfl⟩
  rw [← hPL]
  have HPL := hideP hPL
  clear hPL
  have hN20 := its_le hok
  rw [hN] at hN20
  have hCl : C < w.heap.size := World.block_lt_of_cell? w _ hS.c9
  have BC : Hid (∀ W, Below w.heap.size w W → Calls Try.prog 72 #[.pointer (some ⟨C, 0, none⟩), .int .i64 (a : Int), .int .i64 (b : Int)] W fun e w' => (∃ g s ao c2, ua = some ⟨g, 0, none⟩ ∧ s = begI (its xs) a b ∧ a ≤ s ∧ s ≤ b ∧ e = .returned (.slice ao (b - s) c2) ∧ (s < b → ao = some ⟨g, s * 3, none⟩)) ∧ Below W.heap.size W w') := hideP (fun W hW => between_any a b ((hW.cell (p := ⟨C, 9, none⟩) hCl).trans hS.c9) (by
      obtain ⟨h0, h | ⟨g, cap', cur, e, hg, hb, hr'⟩⟩ := hr
      · exact ⟨h0, .inl h⟩
      · exact ⟨h0, .inr ⟨g, cap', cur, e, hg, (hW.block g (Array.getElem?_eq_some_iff.1 hb).1).trans hb, hr'⟩⟩) hN hN20 hab hbN hN0)
  obtain ⟨⟨ccs, hcl⟩, z2, z3, z4, z5, z6, z8, z9⟩ := hS
  have GC : Hid (∀ W, Calls Try.prog 71 #[.agg #[.int .i64 g0, .int .i64 g1, .int .i64 g2, .int .i64 g3, .int .i64 g4, .int .i64 0]] W fun e w' => e = .returned (ndV (gapN g0 g1 g2 g3 g4)) ∧ Below W.heap.size W w') := hideP (fun W => gap_any g0 g1 g2 g3 g4 W)
  have HZ8 := hideP z8
  have HBC := hideP hbc
  clear hbc
  obtain ⟨gI, eI, _, hgl0, hitw⟩ := its_row hr hN hN0
  have HITW0 := hideP hitw
  clear hr hcl hitw
  go_enter Try.func50, Try.ntmps50
  go_wp2_with fail
  refine (GC.out _).mono ?_
  rintro e w1 ⟨rfl, hb1⟩
  have B1 : Below w.heap.size w w1 := below_more (below1 _ _) hb1 (by simp)
  have q1 : w1.heap[w.heap.size]? = some (.cells #[] 60 (0, 0)) := (hb1.block _ (by simp)).trans (heap_alloc_new _ _)
  have HB1 := hideP B1
  have hsz1 : w.heap.size < w1.heap.size := (Array.getElem?_eq_some_iff.1 q1).1
  have HA1 : Hid (w1.ownsRow w.heap.size 60 15 (.slice (some ⟨w.heap.size, 0, none⟩) 0 0) 0 []) := hideP ⟨rfl, .inr ⟨_, _, _, rfl, by omega, q1, by omega, by unfold maxLen; omega, rfl, rfl⟩⟩
  clear hb1 q1 B1 z2 z3 z4 z5 z6 z8
  simp only [ndV, gapN]
  go_wp2_with fail
  have B2 : Below w.heap.size w (w1.alloc (.cells #[.int .i64 3, .int .i64 0, .int .i64 0, .int .i64 0, .int .i64 0, .int .i64 0, .int .i64 0, .int .i64 0, .int .i64 g0, .int .i64 g1, .int .i64 g2, .int .i64 g3, .int .i64 g4, .string ⟨#[]⟩, .int .i64 0] 60)) := HB1.out.alloc HB1.out.size _
  have HN1 : Hid ((w1.alloc (.cells #[.int .i64 3, .int .i64 0, .int .i64 0, .int .i64 0, .int .i64 0, .int .i64 0, .int .i64 0, .int .i64 0, .int .i64 g0, .int .i64 g1, .int .i64 g2, .int .i64 g3, .int .i64 g4, .string ⟨#[]⟩, .int .i64 0] 60)).ownsRow w.heap.size 60 15 (.slice (some ⟨w1.heap.size, 0, none⟩) 1 1) 1 (flatN [gapN g0 g1 g2 g3 g4])) := hideP ⟨rfl, .inr ⟨_, _, _, rfl, by omega, heap_alloc_new _ _, by omega, by unfold maxLen; omega, rfl, rfl⟩⟩
  have HA2 := hideP (HA1.out.alloc (.cells #[.int .i64 3, .int .i64 0, .int .i64 0, .int .i64 0, .int .i64 0, .int .i64 0, .int .i64 0, .int .i64 0, .int .i64 g0, .int .i64 g1, .int .i64 g2, .int .i64 g3, .int .i64 g4, .string ⟨#[]⟩, .int .i64 0] 60))
  refine (BC.out _ B2).mono ?_
  rintro e w3 ⟨⟨g, s, ao, c2, rfl, hs, has, hsb, rfl, hao⟩, hb3⟩
  have B3 : Hid (Below w.heap.size w w3) := hideP (below_more B2 hb3 B2.size)
  have A3 := hideP (ownG_below HA2.out hb3)
  have N3 := hideP (ownG_below HN1.out hb3)
  have hne3 : w.heap.size ≠ w1.heap.size := by omega
  have HSS := hideP hs
  obtain ⟨M, hM⟩ : ∃ M, M = b - s := ⟨_, rfl⟩
  rw [← hM]
  have HM := hideP hM
  obtain ⟨zs, hzs⟩ : ∃ zs, zs = ((its xs).drop s).take M := ⟨_, rfl⟩
  have hzl : zs.length = M := by rw [hzs, List.length_take, List.length_drop]; omega
  have HZS := hideP hzs
  have hMx : M ≤ 20001 := by omega
  obtain rfl : gI = g := by simpa using eI.symm
  have hgl := hgl0
  have HITW := HITW0
  clear hb3 B2 HA2 HN1 HA1 BC GC hs hM hzs
  go_wp2
  go_loopw [7, 8, 9, 28] (fun s7 s8 s9 s28 wr => ∃ k : Nat, k ≤ M ∧ s28 = .int .i64 k ∧ s9 = .bool (noteB (zs.take k)) ∧ (∃ m, wr.ownsRow w.heap.size 60 15 s7 m (flatN ((zs.take k).flatMap (segA xs))) ∧ m ≤ k * 20000) ∧ (∃ m, wr.ownsRow w.heap.size 60 15 s8 m (flatN (gapN g0 g1 g2 g3 g4 :: (zs.take k).flatMap (segB xs))) ∧ m ≤ 1 + k * 20000) ∧ (∀ q, s7.ownBlock = some q → s8.ownBlock ≠ some q) ∧ Below w.heap.size w wr) (fun _ _ _ s _ => M - (intOf s).toNat)
  case atStart => exact ⟨0, by omega, rfl, rfl, ⟨0, A3.out, by omega⟩, ⟨1, N3.out, by omega⟩, fun q e1 e2 => by simp [Value.ownBlock] at e1 e2; omega, B3.out⟩
  case round =>
    obtain ⟨k, hk, rfl, rfl, ⟨mA, hA, hmA⟩, ⟨mB, hBr, hmB⟩, hap, hB⟩ := hrel
    by_cases hkM : k < M
    · have hki : (k : Int) < (M : Int) := by omega
      obtain rfl := hao (by have := HM.out; omega)
      have hidx : s + k < (its xs).length := by have := HM.out; omega
      obtain ⟨at_, hat, hia⟩ := its_get hidx
      have hit : ItR wr gI (its xs) := HITW.out.block (hB.block gI hgl)
      have hglr : gI < wr.heap.size := Nat.lt_of_lt_of_le hgl hB.size
      have k0 := hit.c0 (s + k) hidx
      have k1 := hit.c1 (s + k) hidx
      have k2 := hit.c2 (s + k) hidx
      have hzk : zs.take (k + 1) = zs.take k ++ [(its xs).getD (s + k) It.none] := by
        rw [take_snoc zs k It.none (by omega), HZS.out]
        simp [List.getD, List.getElem?_take, List.getElem?_drop, hkM]
      rw [hia] at k0 k1 k2 hzk
      simp only [itAt] at k0 k1 k2
      have hkk := hok.kids at_ hat
      have hl20 := hok.len
      obtain ⟨yn, hyn⟩ : ∃ y, y = xs.getD at_ Nd.none := ⟨_, rfl⟩
      rw [← hyn] at k0 k2 hkk
      obtain ⟨kids, hkd⟩ : ∃ z, z = yn.kids := ⟨_, rfl⟩
      rw [← hkd] at k2 hkk
      obtain ⟨kn, rfl⟩ : ∃ kn : Nat, kids = (kn : Int) := ⟨kids.toNat, by omega⟩
      have HSEG : Hid (segA xs (itAt xs at_) = (if yn.k = 11 then [] else (xs.drop at_).take (1 + kn)) ∧ segB xs (itAt xs at_) = (if yn.k = 11 then (xs.drop (at_ + 1)).take kn else [])) := hideP (by
        unfold segA segB itAt
        simp only
        rw [← hyn, ← hkd]
        refine ⟨?_, ?_⟩
        · split
          · rfl
          · rw [show ((at_ : Int) + 1 + (kn : Int) - (at_ : Int)).toNat = 1 + kn by omega, Int.toNat_natCast]
        · split
          · rw [show ((at_ : Int) + 1 + (kn : Int) - (at_ : Int) - 1).toNat = kn by omega, Int.toNat_natCast]
          · rfl)
      obtain ⟨n0, n1, n2, hnt, _⟩ := ask_note yn
      have hsh := thV_shape yn
      obtain ⟨vt, hvt⟩ : ∃ v, v = thV yn := ⟨_, rfl⟩
      obtain ⟨nb, hnb⟩ : ∃ b, b = (yn.k == 11) := ⟨_, rfl⟩
      rw [← hvt] at k0 hnt hsh
      rw [← hnb] at hnt
      have HNB := hideP hnb
      have HVT := hideP hvt
      have HZK := hideP hzk
      have HA := hideP hA
      have HBR := hideP hBr
      have HAP := hideP hap
      have HB := hideP hB
      rw [show (s + k) * 3 = s * 3 + k * 3 by omega] at k0 k1 k2
      obtain ⟨uaA, ucA, rfl⟩ := ownG_shape hA
      obtain ⟨uaB, ucB, rfl⟩ := ownG_shape hBr
      have HYN : Hid (1 + (xs.getD at_ Nd.none).kids.toNat = 1 + kn) := hideP (by rw [← hyn, ← hkd]; omega)
      have HYN2 : Hid (xs.getD at_ Nd.none = yn) := hideP hyn.symm
      clear hit hvt hnb hzk hA hBr hap hB hkd hyn hia
      cases nb with
      | false =>
        rcases hsh with rfl | ⟨Xi, q, rfl⟩
        · go_wp2
          rename_i K10 hK10
          have HK10 := hideP hK10
          clear hK10
          refine wp_region_noPanic ?_
          obtain ⟨WW, hWW⟩ : ∃ WW, (wr.alloc (.cells #[.nilIface, .int .i64 (at_ : Int), .int .i64 ((at_ : Int) + 1 + (kn : Int))] 141)).alloc (.cells #[.int .i64 n0, .int .i64 n1, .int .i64 n2] 129) = WW := ⟨_, rfl⟩
          have hWB : Below wr.heap.size wr WW := by rw [← hWW]; exact below2 _ _ _
          have hWI : WW.heap[wr.heap.size]? = some (.cells #[.nilIface, .int .i64 (at_ : Int), .int .i64 ((at_ : Int) + 1 + (kn : Int))] 141 (0, 0)) := by rw [← hWW]; exact ((below1 _ _).block _ (by simp)).trans (heap_alloc_new _ _)
          have y8 : WW.cell? ⟨C, 8, none⟩ = some (.slice (some ⟨b0, off, none⟩) n cap) := (hWB.cell (p := ⟨C, 8, none⟩) (Nat.lt_of_lt_of_le hCl HB.out.size)).trans ((HB.out.cell (p := ⟨C, 8, none⟩) hCl).trans HZ8.out)
          have y1 : WW.cell? ⟨wr.heap.size, 1, none⟩ = some (.int .i64 (at_ : Int)) := by rw [cell_of_row _ _ _ _ 141 _ hWI]; rfl
          have y2 : WW.cell? ⟨wr.heap.size, 2, none⟩ = some (.int .i64 ((at_ : Int) + 1 + (kn : Int))) := by rw [cell_of_row _ _ _ _ 141 _ hWI]; rfl
          rw [hWW]
          clear hWW hWI
          refine wp_region_held_drew (S := fun X => X.cell? ⟨C, 8, none⟩ = some (.slice (some ⟨b0, off, none⟩) n cap) ∧ X.cell? ⟨wr.heap.size, 1, none⟩ = some (.int .i64 (at_ : Int)) ∧ X.cell? ⟨wr.heap.size, 2, none⟩ = some (.int .i64 ((at_ : Int) + 1 + (kn : Int)))) (by kernel_rfl) ⟨y8, y1, y2⟩ ?_
          intro hS4
          refine wpAnyH_take (i := 0) (v := .slice uaA mA ucA) rfl (by kernel_rfl) (by kernel_rfl) (by kernel_rfl) (fun _ _ _ h => h) (Or.inl ⟨by first | rfl | go_simp, fun wx hx => by obtain ⟨hx1, hx2, hx3⟩ := hx; go_simp⟩) hS4 ?_
          try simp only [Act.put, List.getElem_toArray, List.getElem_cons_zero, List.getElem_cons_succ, List.setIfInBounds_toArray, List.set_cons_zero, List.set_cons_succ]
          refine wpAnyH_take (i := 1) (v := .pointer (some ⟨C, 0, none⟩)) rfl (by kernel_rfl) (by kernel_rfl) (by kernel_rfl) (fun _ _ _ h => h) (Or.inl ⟨by first | rfl | go_simp, fun wx hx => by obtain ⟨hx1, hx2, hx3⟩ := hx; go_simp⟩) hS4 ?_
          try simp only [Act.put, List.getElem_toArray, List.getElem_cons_zero, List.getElem_cons_succ, List.setIfInBounds_toArray, List.set_cons_zero, List.set_cons_succ]
          refine wpAnyH_take (i := 2) (v := .pointer (some ⟨C, 0, none⟩)) rfl (by kernel_rfl) (by kernel_rfl) (by kernel_rfl) (fun _ _ _ h => h) (Or.inl ⟨by first | rfl | go_simp, fun wx hx => by obtain ⟨hx1, hx2, hx3⟩ := hx; go_simp⟩) hS4 ?_
          try simp only [Act.put, List.getElem_toArray, List.getElem_cons_zero, List.getElem_cons_succ, List.setIfInBounds_toArray, List.set_cons_zero, List.set_cons_succ]
          refine wpAnyH_take (i := 3) (v := .pointer (some ⟨C, 8, none⟩)) rfl (by kernel_rfl) (by kernel_rfl) (by kernel_rfl) (fun _ _ _ h => h) (Or.inl ⟨by first | rfl | go_simp, fun wx hx => by obtain ⟨hx1, hx2, hx3⟩ := hx; go_simp⟩) hS4 ?_
          try simp only [Act.put, List.getElem_toArray, List.getElem_cons_zero, List.getElem_cons_succ, List.setIfInBounds_toArray, List.set_cons_zero, List.set_cons_succ]
          refine wpAnyH_take (i := 4) (v := .slice (some ⟨b0, off, none⟩) n cap) rfl (by kernel_rfl) (by kernel_rfl) (by kernel_rfl) (fun _ _ _ h => h) (Or.inl ⟨by first | rfl | go_simp, fun wx hx => by obtain ⟨hx1, hx2, hx3⟩ := hx; go_simp⟩) hS4 ?_
          try simp only [Act.put, List.getElem_toArray, List.getElem_cons_zero, List.getElem_cons_succ, List.setIfInBounds_toArray, List.set_cons_zero, List.set_cons_succ]
          refine wpAnyH_take (i := 5) (v := .pointer (some ⟨wr.heap.size, 1, none⟩)) rfl (by kernel_rfl) (by kernel_rfl) (by kernel_rfl) (fun _ _ _ h => h) (Or.inl ⟨by first | rfl | go_simp, fun wx hx => by obtain ⟨hx1, hx2, hx3⟩ := hx; go_simp⟩) hS4 ?_
          try simp only [Act.put, List.getElem_toArray, List.getElem_cons_zero, List.getElem_cons_succ, List.setIfInBounds_toArray, List.set_cons_zero, List.set_cons_succ]
          refine wpAnyH_take (i := 6) (v := .int .i64 (at_ : Int)) rfl (by kernel_rfl) (by kernel_rfl) (by kernel_rfl) (fun _ _ _ h => h) (Or.inl ⟨by first | rfl | go_simp, fun wx hx => by obtain ⟨hx1, hx2, hx3⟩ := hx; go_simp⟩) hS4 ?_
          try simp only [Act.put, List.getElem_toArray, List.getElem_cons_zero, List.getElem_cons_succ, List.setIfInBounds_toArray, List.set_cons_zero, List.set_cons_succ]
          refine wpAnyH_take (i := 7) (v := .pointer (some ⟨wr.heap.size, 2, none⟩)) rfl (by kernel_rfl) (by kernel_rfl) (by kernel_rfl) (fun _ _ _ h => h) (Or.inl ⟨by first | rfl | go_simp, fun wx hx => by obtain ⟨hx1, hx2, hx3⟩ := hx; go_simp⟩) hS4 ?_
          try simp only [Act.put, List.getElem_toArray, List.getElem_cons_zero, List.getElem_cons_succ, List.setIfInBounds_toArray, List.set_cons_zero, List.set_cons_succ]
          refine wpAnyH_take (i := 8) (v := .int .i64 ((at_ : Int) + 1 + (kn : Int))) rfl (by kernel_rfl) (by kernel_rfl) (by kernel_rfl) (fun _ _ _ h => h) (Or.inl ⟨by first | rfl | go_simp, fun wx hx => by obtain ⟨hx1, hx2, hx3⟩ := hx; go_simp⟩) hS4 ?_
          try simp only [Act.put, List.getElem_toArray, List.getElem_cons_zero, List.getElem_cons_succ, List.setIfInBounds_toArray, List.set_cons_zero, List.set_cons_succ]
          refine wpAnyH_take (i := 9) (v := .slice (some ⟨b0, off + at_ * 15, none⟩) (1 + kn) (cap - at_)) rfl (by kernel_rfl) (by kernel_rfl) (by kernel_rfl) (fun _ _ _ h => h) (Or.inl ⟨by first | rfl | go_simp, fun wx hx => by obtain ⟨hx1, hx2, hx3⟩ := hx; go_simp; rw [if_pos ⟨by omega, by omega⟩, if_pos (by omega), if_neg (by omega), show ((at_ : Int) + 1 + (kn : Int)).toNat - at_ = 1 + kn by omega]⟩) hS4 ?_
          try simp only [Act.put, List.getElem_toArray, List.getElem_cons_zero, List.getElem_cons_succ, List.setIfInBounds_toArray, List.set_cons_zero, List.set_cons_succ]
          obtain ⟨i1, hi1, hy0, hy1, hy2⟩ := info_parts Try.info60i
          refine wpAnyH_ready (rs := [10]) (by kernel_rfl) (by simp) ?_
          refine AllReadyH.cons rfl (fun K' hK => ?_) AllReadyH.nil
          rw [if_pos (by first | rfl | go_simp)]
          refine wp_append_at _ _ 25 rfl w.heap.size 60 i1 (ndV Nd.none) 15 128 Try.underlying25 hi1 hy0 hy1 hy2 rfl (by decide) (.slice uaA mA ucA) mA _ rfl (show WW.drew.ownsRow _ _ _ _ _ _ from ownG_below HA.out (Below.drew hWB)) ⟨b0, off + at_ * 15, none⟩ (1 + kn) (cap - at_) (flatN ((xs.drop at_).take (1 + kn))) rfl (by rw [flatN_len, List.length_take, List.length_drop]; congr 1; omega) (fun j z hz => ?news) (flatN_one _) (by unfold maxLen; omega) (by omega) (by have h1 := HB.out.size; have h2 := hWB.size; exact Nat.le_trans h1 h2) ?_
          case news =>
            have hz2 : (flatN (itemAt xs at_))[j]? = some z := by
              unfold itemAt
              rw [HYN.out]
              exact hz
            have h1 := itemAt_flat HBC.out j z hz2
            have h2 : WW.cell? ⟨b0, off + at_ * 15 + j, none⟩ = some z := (hWB.cell (p := ⟨b0, off + at_ * 15 + j, none⟩) (Nat.lt_of_lt_of_le hb0 HB.out.size)).trans ((HB.out.cell (p := ⟨b0, off + at_ * 15 + j, none⟩) hb0).trans h1)
            by_cases hj : j = 0 <;> simp [Addr.add, hj] at h2 ⊢ <;> exact h2
          intro v5 w5 ho5 hg5 _ hat5
          have hWs : wr.heap.size < WW.heap.size := World.block_lt_of_cell? WW _ y1
          have hlo : ∀ q, (Value.slice uaA mA ucA).ownBlock = some q → w.heap.size ≤ q ∧ q < wr.heap.size := fun q e => World.ownsRow.lt HA.out q e
          have hb5 : ∀ q : Nat, q < WW.heap.size → (Value.slice uaA mA ucA).ownBlock ≠ some q → w5.heap[q]? = WW.heap[q]? := fun q hq hn => hg5.block q hq (fun e => hn e.symm)
          have hCw : C < WW.heap.size := World.block_lt_of_cell? WW _ y8
          have T5 : w5.cell? ⟨C, 8, none⟩ = some (.slice (some ⟨b0, off, none⟩) n cap) ∧ w5.cell? ⟨wr.heap.size, 1, none⟩ = some (.int .i64 (at_ : Int)) ∧ w5.cell? ⟨wr.heap.size, 2, none⟩ = some (.int .i64 ((at_ : Int) + 1 + (kn : Int))) := ⟨(World.cell?_of_block (w := WW) (a := ⟨C, 8, none⟩) (hb5 C hCw (fun e => by have := (hlo C e).1; omega))).trans y8, (World.cell?_of_block (w := WW) (a := ⟨wr.heap.size, 1, none⟩) (hb5 wr.heap.size hWs (fun e => by have := (hlo _ e).2; omega))).trans y1, (World.cell?_of_block (w := WW) (a := ⟨wr.heap.size, 2, none⟩) (hb5 wr.heap.size hWs (fun e => by have := (hlo _ e).2; omega))).trans y2⟩
          have B5 : Hid (Below w.heap.size w w5) := hideP (by
            have b := below_more HB.out hWB HB.out.size
            refine ⟨hg5.os.trans b.os, hg5.tape.trans b.tape, hg5.output.trans b.output, Nat.le_trans b.size hg5.size, fun q hq => (hb5 q (Nat.lt_of_lt_of_le hq b.size) (fun e => ?_)).trans (b.block q hq)⟩
            have := (hlo q e).1
            omega)
          have O5 := hideP ho5
          have N5 : Hid (w5.ownsRow w.heap.size 60 15 (.slice uaB mB ucB) mB (flatN (gapN g0 g1 g2 g3 g4 :: (zs.take k).flatMap (segB xs)))) := hideP (by
            have h := ownG_below HBR.out hWB
            obtain ⟨h0, h | ⟨gg, cap', cur, e, hgb, hb, hr'⟩⟩ := h
            · exact ⟨h0, .inl h⟩
            · refine ⟨h0, .inr ⟨gg, cap', cur, e, hgb, (hb5 gg (Array.getElem?_eq_some_iff.1 hb).1 (fun e2 => ?_)).trans hb, hr'⟩⟩
              exact HAP.out gg e2 (by rw [e]; rfl))
          have P5 : Hid (∀ q, v5.ownBlock = some q → (Value.slice uaB mB ucB).ownBlock ≠ some q) := hideP (fun q e1 e2 => by
            rcases hat5 with h | h
            · exact HAP.out q (h.symm.trans e1) e2
            · have h3 := Option.some.inj (h.symm.trans e1)
              have h4 := (World.ownsRow.lt HBR.out q e2).2
              have h5 : WW.drew.heap.size = WW.heap.size := rfl
              omega)
          clear ho5 hg5 hat5 hb5
          refine hK.out _ _ T5 (fun _ => ?_)
          try simp only [Act.put, List.getElem_toArray, List.getElem_cons_zero, List.getElem_cons_succ, List.setIfInBounds_toArray, List.set_cons_zero, List.set_cons_succ]
          clear hK K'
          refine wpAnyH_ready (rs := [11]) (by kernel_rfl) (by simp) ?_
          refine AllReadyH.cons rfl (fun K' hK => ?_) AllReadyH.nil
          rw [if_pos (by first | rfl | go_simp)]
          go_simp
          refine hK.out _ _ T5 (fun _ => ?_)
          try simp only [Act.put, List.getElem_toArray, List.getElem_cons_zero, List.getElem_cons_succ, List.setIfInBounds_toArray, List.set_cons_zero, List.set_cons_succ]
          clear hK K'
          refine wpAnyH_done (by kernel_rfl) ?_ _
          refine NoPanic.normal ?_
          refine HK10.out _ _ ?_
          have hnk : (yn.k == 11) = false := HNB.out.symm
          have hnk2 : ¬ yn.k = 11 := by simpa using hnk
          have HF1 : Hid (noteB (zs.take (k + 1)) = noteB (zs.take k)) := hideP (by rw [HZK.out]; unfold noteB; rw [List.any_append]; have e : (itAt xs at_).1 = yn := HYN2.out; simp only [List.any_cons, List.any_nil, e, hnk, Bool.or_false])
          have HF2 : Hid ((zs.take (k + 1)).flatMap (segA xs) = (zs.take k).flatMap (segA xs) ++ (xs.drop at_).take (1 + kn)) := hideP (by rw [HZK.out, List.flatMap_append]; simp [HSEG.out.1, hnk2])
          have HF3 : Hid ((zs.take (k + 1)).flatMap (segB xs) = (zs.take k).flatMap (segB xs)) := hideP (by rw [HZK.out, List.flatMap_append]; simp [HSEG.out.2, hnk2])
          clear hnk hnk2 HK10
          go_wp2
          go_roundw
          case rel =>
            refine ⟨k + 1, by omega, by go_num, by rw [HF1.out], ⟨mA + (1 + kn), ?_, by have h := Nat.succ_mul k 20000; rw [Nat.succ_eq_add_one] at h; omega⟩, ⟨mB, ?_, by have h := Nat.succ_mul k 20000; rw [Nat.succ_eq_add_one] at h; omega⟩, P5.out, B5.out⟩
            · rw [HF2.out, flatN_append]
              exact O5.out
            · rw [HF3.out]
              exact N5.out
          case measure => simp [intOf]; omega
        · go_wp2
          rename_i K10 hK10
          have HK10 := hideP hK10
          clear hK10
          refine wp_region_noPanic ?_
          obtain ⟨WW, hWW⟩ : ∃ WW, (wr.alloc (.cells #[.iface Xi q, .int .i64 (at_ : Int), .int .i64 ((at_ : Int) + 1 + (kn : Int))] 141)).alloc (.cells #[.int .i64 n0, .int .i64 n1, .int .i64 n2] 129) = WW := ⟨_, rfl⟩
          have hWB : Below wr.heap.size wr WW := by rw [← hWW]; exact below2 _ _ _
          have hWI : WW.heap[wr.heap.size]? = some (.cells #[.iface Xi q, .int .i64 (at_ : Int), .int .i64 ((at_ : Int) + 1 + (kn : Int))] 141 (0, 0)) := by rw [← hWW]; exact ((below1 _ _).block _ (by simp)).trans (heap_alloc_new _ _)
          have y8 : WW.cell? ⟨C, 8, none⟩ = some (.slice (some ⟨b0, off, none⟩) n cap) := (hWB.cell (p := ⟨C, 8, none⟩) (Nat.lt_of_lt_of_le hCl HB.out.size)).trans ((HB.out.cell (p := ⟨C, 8, none⟩) hCl).trans HZ8.out)
          have y1 : WW.cell? ⟨wr.heap.size, 1, none⟩ = some (.int .i64 (at_ : Int)) := by rw [cell_of_row _ _ _ _ 141 _ hWI]; rfl
          have y2 : WW.cell? ⟨wr.heap.size, 2, none⟩ = some (.int .i64 ((at_ : Int) + 1 + (kn : Int))) := by rw [cell_of_row _ _ _ _ 141 _ hWI]; rfl
          rw [hWW]
          clear hWW hWI
          refine wp_region_held_drew (S := fun X => X.cell? ⟨C, 8, none⟩ = some (.slice (some ⟨b0, off, none⟩) n cap) ∧ X.cell? ⟨wr.heap.size, 1, none⟩ = some (.int .i64 (at_ : Int)) ∧ X.cell? ⟨wr.heap.size, 2, none⟩ = some (.int .i64 ((at_ : Int) + 1 + (kn : Int)))) (by kernel_rfl) ⟨y8, y1, y2⟩ ?_
          intro hS4
          refine wpAnyH_take (i := 0) (v := .slice uaA mA ucA) rfl (by kernel_rfl) (by kernel_rfl) (by kernel_rfl) (fun _ _ _ h => h) (Or.inl ⟨by first | rfl | go_simp, fun wx hx => by obtain ⟨hx1, hx2, hx3⟩ := hx; go_simp⟩) hS4 ?_
          try simp only [Act.put, List.getElem_toArray, List.getElem_cons_zero, List.getElem_cons_succ, List.setIfInBounds_toArray, List.set_cons_zero, List.set_cons_succ]
          refine wpAnyH_take (i := 1) (v := .pointer (some ⟨C, 0, none⟩)) rfl (by kernel_rfl) (by kernel_rfl) (by kernel_rfl) (fun _ _ _ h => h) (Or.inl ⟨by first | rfl | go_simp, fun wx hx => by obtain ⟨hx1, hx2, hx3⟩ := hx; go_simp⟩) hS4 ?_
          try simp only [Act.put, List.getElem_toArray, List.getElem_cons_zero, List.getElem_cons_succ, List.setIfInBounds_toArray, List.set_cons_zero, List.set_cons_succ]
          refine wpAnyH_take (i := 2) (v := .pointer (some ⟨C, 0, none⟩)) rfl (by kernel_rfl) (by kernel_rfl) (by kernel_rfl) (fun _ _ _ h => h) (Or.inl ⟨by first | rfl | go_simp, fun wx hx => by obtain ⟨hx1, hx2, hx3⟩ := hx; go_simp⟩) hS4 ?_
          try simp only [Act.put, List.getElem_toArray, List.getElem_cons_zero, List.getElem_cons_succ, List.setIfInBounds_toArray, List.set_cons_zero, List.set_cons_succ]
          refine wpAnyH_take (i := 3) (v := .pointer (some ⟨C, 8, none⟩)) rfl (by kernel_rfl) (by kernel_rfl) (by kernel_rfl) (fun _ _ _ h => h) (Or.inl ⟨by first | rfl | go_simp, fun wx hx => by obtain ⟨hx1, hx2, hx3⟩ := hx; go_simp⟩) hS4 ?_
          try simp only [Act.put, List.getElem_toArray, List.getElem_cons_zero, List.getElem_cons_succ, List.setIfInBounds_toArray, List.set_cons_zero, List.set_cons_succ]
          refine wpAnyH_take (i := 4) (v := .slice (some ⟨b0, off, none⟩) n cap) rfl (by kernel_rfl) (by kernel_rfl) (by kernel_rfl) (fun _ _ _ h => h) (Or.inl ⟨by first | rfl | go_simp, fun wx hx => by obtain ⟨hx1, hx2, hx3⟩ := hx; go_simp⟩) hS4 ?_
          try simp only [Act.put, List.getElem_toArray, List.getElem_cons_zero, List.getElem_cons_succ, List.setIfInBounds_toArray, List.set_cons_zero, List.set_cons_succ]
          refine wpAnyH_take (i := 5) (v := .pointer (some ⟨wr.heap.size, 1, none⟩)) rfl (by kernel_rfl) (by kernel_rfl) (by kernel_rfl) (fun _ _ _ h => h) (Or.inl ⟨by first | rfl | go_simp, fun wx hx => by obtain ⟨hx1, hx2, hx3⟩ := hx; go_simp⟩) hS4 ?_
          try simp only [Act.put, List.getElem_toArray, List.getElem_cons_zero, List.getElem_cons_succ, List.setIfInBounds_toArray, List.set_cons_zero, List.set_cons_succ]
          refine wpAnyH_take (i := 6) (v := .int .i64 (at_ : Int)) rfl (by kernel_rfl) (by kernel_rfl) (by kernel_rfl) (fun _ _ _ h => h) (Or.inl ⟨by first | rfl | go_simp, fun wx hx => by obtain ⟨hx1, hx2, hx3⟩ := hx; go_simp⟩) hS4 ?_
          try simp only [Act.put, List.getElem_toArray, List.getElem_cons_zero, List.getElem_cons_succ, List.setIfInBounds_toArray, List.set_cons_zero, List.set_cons_succ]
          refine wpAnyH_take (i := 7) (v := .pointer (some ⟨wr.heap.size, 2, none⟩)) rfl (by kernel_rfl) (by kernel_rfl) (by kernel_rfl) (fun _ _ _ h => h) (Or.inl ⟨by first | rfl | go_simp, fun wx hx => by obtain ⟨hx1, hx2, hx3⟩ := hx; go_simp⟩) hS4 ?_
          try simp only [Act.put, List.getElem_toArray, List.getElem_cons_zero, List.getElem_cons_succ, List.setIfInBounds_toArray, List.set_cons_zero, List.set_cons_succ]
          refine wpAnyH_take (i := 8) (v := .int .i64 ((at_ : Int) + 1 + (kn : Int))) rfl (by kernel_rfl) (by kernel_rfl) (by kernel_rfl) (fun _ _ _ h => h) (Or.inl ⟨by first | rfl | go_simp, fun wx hx => by obtain ⟨hx1, hx2, hx3⟩ := hx; go_simp⟩) hS4 ?_
          try simp only [Act.put, List.getElem_toArray, List.getElem_cons_zero, List.getElem_cons_succ, List.setIfInBounds_toArray, List.set_cons_zero, List.set_cons_succ]
          refine wpAnyH_take (i := 9) (v := .slice (some ⟨b0, off + at_ * 15, none⟩) (1 + kn) (cap - at_)) rfl (by kernel_rfl) (by kernel_rfl) (by kernel_rfl) (fun _ _ _ h => h) (Or.inl ⟨by first | rfl | go_simp, fun wx hx => by obtain ⟨hx1, hx2, hx3⟩ := hx; go_simp; rw [if_pos ⟨by omega, by omega⟩, if_pos (by omega), if_neg (by omega), show ((at_ : Int) + 1 + (kn : Int)).toNat - at_ = 1 + kn by omega]⟩) hS4 ?_
          try simp only [Act.put, List.getElem_toArray, List.getElem_cons_zero, List.getElem_cons_succ, List.setIfInBounds_toArray, List.set_cons_zero, List.set_cons_succ]
          obtain ⟨i1, hi1, hy0, hy1, hy2⟩ := info_parts Try.info60i
          refine wpAnyH_ready (rs := [10]) (by kernel_rfl) (by simp) ?_
          refine AllReadyH.cons rfl (fun K' hK => ?_) AllReadyH.nil
          rw [if_pos (by first | rfl | go_simp)]
          refine wp_append_at _ _ 25 rfl w.heap.size 60 i1 (ndV Nd.none) 15 128 Try.underlying25 hi1 hy0 hy1 hy2 rfl (by decide) (.slice uaA mA ucA) mA _ rfl (show WW.drew.ownsRow _ _ _ _ _ _ from ownG_below HA.out (Below.drew hWB)) ⟨b0, off + at_ * 15, none⟩ (1 + kn) (cap - at_) (flatN ((xs.drop at_).take (1 + kn))) rfl (by rw [flatN_len, List.length_take, List.length_drop]; congr 1; omega) (fun j z hz => ?news) (flatN_one _) (by unfold maxLen; omega) (by omega) (by have h1 := HB.out.size; have h2 := hWB.size; exact Nat.le_trans h1 h2) ?_
          case news =>
            have hz2 : (flatN (itemAt xs at_))[j]? = some z := by
              unfold itemAt
              rw [HYN.out]
              exact hz
            have h1 := itemAt_flat HBC.out j z hz2
            have h2 : WW.cell? ⟨b0, off + at_ * 15 + j, none⟩ = some z := (hWB.cell (p := ⟨b0, off + at_ * 15 + j, none⟩) (Nat.lt_of_lt_of_le hb0 HB.out.size)).trans ((HB.out.cell (p := ⟨b0, off + at_ * 15 + j, none⟩) hb0).trans h1)
            by_cases hj : j = 0 <;> simp [Addr.add, hj] at h2 ⊢ <;> exact h2
          intro v5 w5 ho5 hg5 _ hat5
          have hWs : wr.heap.size < WW.heap.size := World.block_lt_of_cell? WW _ y1
          have hlo : ∀ q, (Value.slice uaA mA ucA).ownBlock = some q → w.heap.size ≤ q ∧ q < wr.heap.size := fun q e => World.ownsRow.lt HA.out q e
          have hb5 : ∀ q : Nat, q < WW.heap.size → (Value.slice uaA mA ucA).ownBlock ≠ some q → w5.heap[q]? = WW.heap[q]? := fun q hq hn => hg5.block q hq (fun e => hn e.symm)
          have hCw : C < WW.heap.size := World.block_lt_of_cell? WW _ y8
          have T5 : w5.cell? ⟨C, 8, none⟩ = some (.slice (some ⟨b0, off, none⟩) n cap) ∧ w5.cell? ⟨wr.heap.size, 1, none⟩ = some (.int .i64 (at_ : Int)) ∧ w5.cell? ⟨wr.heap.size, 2, none⟩ = some (.int .i64 ((at_ : Int) + 1 + (kn : Int))) := ⟨(World.cell?_of_block (w := WW) (a := ⟨C, 8, none⟩) (hb5 C hCw (fun e => by have := (hlo C e).1; omega))).trans y8, (World.cell?_of_block (w := WW) (a := ⟨wr.heap.size, 1, none⟩) (hb5 wr.heap.size hWs (fun e => by have := (hlo _ e).2; omega))).trans y1, (World.cell?_of_block (w := WW) (a := ⟨wr.heap.size, 2, none⟩) (hb5 wr.heap.size hWs (fun e => by have := (hlo _ e).2; omega))).trans y2⟩
          have B5 : Hid (Below w.heap.size w w5) := hideP (by
            have b := below_more HB.out hWB HB.out.size
            refine ⟨hg5.os.trans b.os, hg5.tape.trans b.tape, hg5.output.trans b.output, Nat.le_trans b.size hg5.size, fun q hq => (hb5 q (Nat.lt_of_lt_of_le hq b.size) (fun e => ?_)).trans (b.block q hq)⟩
            have := (hlo q e).1
            omega)
          have O5 := hideP ho5
          have N5 : Hid (w5.ownsRow w.heap.size 60 15 (.slice uaB mB ucB) mB (flatN (gapN g0 g1 g2 g3 g4 :: (zs.take k).flatMap (segB xs)))) := hideP (by
            have h := ownG_below HBR.out hWB
            obtain ⟨h0, h | ⟨gg, cap', cur, e, hgb, hb, hr'⟩⟩ := h
            · exact ⟨h0, .inl h⟩
            · refine ⟨h0, .inr ⟨gg, cap', cur, e, hgb, (hb5 gg (Array.getElem?_eq_some_iff.1 hb).1 (fun e2 => ?_)).trans hb, hr'⟩⟩
              exact HAP.out gg e2 (by rw [e]; rfl))
          have P5 : Hid (∀ q, v5.ownBlock = some q → (Value.slice uaB mB ucB).ownBlock ≠ some q) := hideP (fun q e1 e2 => by
            rcases hat5 with h | h
            · exact HAP.out q (h.symm.trans e1) e2
            · have h3 := Option.some.inj (h.symm.trans e1)
              have h4 := (World.ownsRow.lt HBR.out q e2).2
              have h5 : WW.drew.heap.size = WW.heap.size := rfl
              omega)
          clear ho5 hg5 hat5 hb5
          refine hK.out _ _ T5 (fun _ => ?_)
          try simp only [Act.put, List.getElem_toArray, List.getElem_cons_zero, List.getElem_cons_succ, List.setIfInBounds_toArray, List.set_cons_zero, List.set_cons_succ]
          clear hK K'
          refine wpAnyH_ready (rs := [11]) (by kernel_rfl) (by simp) ?_
          refine AllReadyH.cons rfl (fun K' hK => ?_) AllReadyH.nil
          rw [if_pos (by first | rfl | go_simp)]
          go_simp
          refine hK.out _ _ T5 (fun _ => ?_)
          try simp only [Act.put, List.getElem_toArray, List.getElem_cons_zero, List.getElem_cons_succ, List.setIfInBounds_toArray, List.set_cons_zero, List.set_cons_succ]
          clear hK K'
          refine wpAnyH_done (by kernel_rfl) ?_ _
          refine NoPanic.normal ?_
          refine HK10.out _ _ ?_
          have hnk : (yn.k == 11) = false := HNB.out.symm
          have hnk2 : ¬ yn.k = 11 := by simpa using hnk
          have HF1 : Hid (noteB (zs.take (k + 1)) = noteB (zs.take k)) := hideP (by rw [HZK.out]; unfold noteB; rw [List.any_append]; have e : (itAt xs at_).1 = yn := HYN2.out; simp only [List.any_cons, List.any_nil, e, hnk, Bool.or_false])
          have HF2 : Hid ((zs.take (k + 1)).flatMap (segA xs) = (zs.take k).flatMap (segA xs) ++ (xs.drop at_).take (1 + kn)) := hideP (by rw [HZK.out, List.flatMap_append]; simp [HSEG.out.1, hnk2])
          have HF3 : Hid ((zs.take (k + 1)).flatMap (segB xs) = (zs.take k).flatMap (segB xs)) := hideP (by rw [HZK.out, List.flatMap_append]; simp [HSEG.out.2, hnk2])
          clear hnk hnk2 HK10
          go_wp2
          go_roundw
          case rel =>
            refine ⟨k + 1, by omega, by go_num, by rw [HF1.out], ⟨mA + (1 + kn), ?_, by have h := Nat.succ_mul k 20000; rw [Nat.succ_eq_add_one] at h; omega⟩, ⟨mB, ?_, by have h := Nat.succ_mul k 20000; rw [Nat.succ_eq_add_one] at h; omega⟩, P5.out, B5.out⟩
            · rw [HF2.out, flatN_append]
              exact O5.out
            · rw [HF3.out]
              exact N5.out
          case measure => simp [intOf]; omega
      | true =>
        have hsh2 : ∃ Xi q, vt = .iface Xi q := by
          rcases hsh with h | h
          · have h11 : yn.k = 11 := by simpa using HNB.out.symm
            have h2 := HVT.out
            rw [h] at h2
            simp [thV, h11] at h2
          · exact h
        clear hsh
        obtain ⟨Xi, q, rfl⟩ := hsh2
        by_cases hca : cap = at_ + 1
        · subst hca
          go_wp2
          rename_i K9 hK9
          have HK9 := hideP hK9
          clear hK9
          refine wp_region_noPanic ?_
          obtain ⟨WW, hWW⟩ : ∃ WW, (wr.alloc (.cells #[.iface Xi q, .int .i64 (at_ : Int), .int .i64 ((at_ : Int) + 1 + (kn : Int))] 141)).alloc (.cells #[.int .i64 n0, .int .i64 n1, .int .i64 n2] 129) = WW := ⟨_, rfl⟩
          have hWB : Below wr.heap.size wr WW := by rw [← hWW]; exact below2 _ _ _
          have hWI : WW.heap[wr.heap.size]? = some (.cells #[.iface Xi q, .int .i64 (at_ : Int), .int .i64 ((at_ : Int) + 1 + (kn : Int))] 141 (0, 0)) := by rw [← hWW]; exact ((below1 _ _).block _ (by simp)).trans (heap_alloc_new _ _)
          have y8 : WW.cell? ⟨C, 8, none⟩ = some (.slice (some ⟨b0, off, none⟩) n (at_ + 1)) := (hWB.cell (p := ⟨C, 8, none⟩) (Nat.lt_of_lt_of_le hCl HB.out.size)).trans ((HB.out.cell (p := ⟨C, 8, none⟩) hCl).trans HZ8.out)
          have y1 : WW.cell? ⟨wr.heap.size, 1, none⟩ = some (.int .i64 (at_ : Int)) := by rw [cell_of_row _ _ _ _ 141 _ hWI]; rfl
          have y2 : WW.cell? ⟨wr.heap.size, 2, none⟩ = some (.int .i64 ((at_ : Int) + 1 + (kn : Int))) := by rw [cell_of_row _ _ _ _ 141 _ hWI]; rfl
          rw [hWW]
          clear hWW hWI
          refine wp_region_held_drew (S := fun X => X.cell? ⟨C, 8, none⟩ = some (.slice (some ⟨b0, off, none⟩) n (at_ + 1)) ∧ X.cell? ⟨wr.heap.size, 1, none⟩ = some (.int .i64 (at_ : Int)) ∧ X.cell? ⟨wr.heap.size, 2, none⟩ = some (.int .i64 ((at_ : Int) + 1 + (kn : Int)))) (by kernel_rfl) ⟨y8, y1, y2⟩ ?_
          intro hS4
          refine wpAnyH_take (i := 0) (v := .slice uaB mB ucB) rfl (by kernel_rfl) (by kernel_rfl) (by kernel_rfl) (fun _ _ _ h => h) (Or.inl ⟨by first | rfl | go_simp, fun wx hx => by obtain ⟨hx1, hx2, hx3⟩ := hx; go_simp⟩) hS4 ?_
          try simp only [Act.put, List.getElem_toArray, List.getElem_cons_zero, List.getElem_cons_succ, List.setIfInBounds_toArray, List.set_cons_zero, List.set_cons_succ]
          refine wpAnyH_take (i := 1) (v := .pointer (some ⟨C, 0, none⟩)) rfl (by kernel_rfl) (by kernel_rfl) (by kernel_rfl) (fun _ _ _ h => h) (Or.inl ⟨by first | rfl | go_simp, fun wx hx => by obtain ⟨hx1, hx2, hx3⟩ := hx; go_simp⟩) hS4 ?_
          try simp only [Act.put, List.getElem_toArray, List.getElem_cons_zero, List.getElem_cons_succ, List.setIfInBounds_toArray, List.set_cons_zero, List.set_cons_succ]
          refine wpAnyH_take (i := 2) (v := .pointer (some ⟨C, 0, none⟩)) rfl (by kernel_rfl) (by kernel_rfl) (by kernel_rfl) (fun _ _ _ h => h) (Or.inl ⟨by first | rfl | go_simp, fun wx hx => by obtain ⟨hx1, hx2, hx3⟩ := hx; go_simp⟩) hS4 ?_
          try simp only [Act.put, List.getElem_toArray, List.getElem_cons_zero, List.getElem_cons_succ, List.setIfInBounds_toArray, List.set_cons_zero, List.set_cons_succ]
          refine wpAnyH_take (i := 3) (v := .pointer (some ⟨C, 8, none⟩)) rfl (by kernel_rfl) (by kernel_rfl) (by kernel_rfl) (fun _ _ _ h => h) (Or.inl ⟨by first | rfl | go_simp, fun wx hx => by obtain ⟨hx1, hx2, hx3⟩ := hx; go_simp⟩) hS4 ?_
          try simp only [Act.put, List.getElem_toArray, List.getElem_cons_zero, List.getElem_cons_succ, List.setIfInBounds_toArray, List.set_cons_zero, List.set_cons_succ]
          refine wpAnyH_take (i := 4) (v := .slice (some ⟨b0, off, none⟩) n (at_ + 1)) rfl (by kernel_rfl) (by kernel_rfl) (by kernel_rfl) (fun _ _ _ h => h) (Or.inl ⟨by first | rfl | go_simp, fun wx hx => by obtain ⟨hx1, hx2, hx3⟩ := hx; go_simp⟩) hS4 ?_
          try simp only [Act.put, List.getElem_toArray, List.getElem_cons_zero, List.getElem_cons_succ, List.setIfInBounds_toArray, List.set_cons_zero, List.set_cons_succ]
          refine wpAnyH_take (i := 5) (v := .pointer (some ⟨wr.heap.size, 1, none⟩)) rfl (by kernel_rfl) (by kernel_rfl) (by kernel_rfl) (fun _ _ _ h => h) (Or.inl ⟨by first | rfl | go_simp, fun wx hx => by obtain ⟨hx1, hx2, hx3⟩ := hx; go_simp⟩) hS4 ?_
          try simp only [Act.put, List.getElem_toArray, List.getElem_cons_zero, List.getElem_cons_succ, List.setIfInBounds_toArray, List.set_cons_zero, List.set_cons_succ]
          refine wpAnyH_take (i := 6) (v := .int .i64 (at_ : Int)) rfl (by kernel_rfl) (by kernel_rfl) (by kernel_rfl) (fun _ _ _ h => h) (Or.inl ⟨by first | rfl | go_simp, fun wx hx => by obtain ⟨hx1, hx2, hx3⟩ := hx; go_simp⟩) hS4 ?_
          try simp only [Act.put, List.getElem_toArray, List.getElem_cons_zero, List.getElem_cons_succ, List.setIfInBounds_toArray, List.set_cons_zero, List.set_cons_succ]
          refine wpAnyH_take (i := 7) (v := .int .i64 ((at_ : Int) + 1)) rfl (by kernel_rfl) (by kernel_rfl) (by kernel_rfl) (fun _ _ _ h => h) (Or.inl ⟨by first | rfl | go_simp, fun wx hx => by obtain ⟨hx1, hx2, hx3⟩ := hx; go_simp; first | (go_num; done) | (go_bits; done) | (go_bits; trivial)⟩) hS4 ?_
          try simp only [Act.put, List.getElem_toArray, List.getElem_cons_zero, List.getElem_cons_succ, List.setIfInBounds_toArray, List.set_cons_zero, List.set_cons_succ]
          refine wpAnyH_take (i := 8) (v := .pointer (some ⟨wr.heap.size, 2, none⟩)) rfl (by kernel_rfl) (by kernel_rfl) (by kernel_rfl) (fun _ _ _ h => h) (Or.inl ⟨by first | rfl | go_simp, fun wx hx => by obtain ⟨hx1, hx2, hx3⟩ := hx; go_simp⟩) hS4 ?_
          try simp only [Act.put, List.getElem_toArray, List.getElem_cons_zero, List.getElem_cons_succ, List.setIfInBounds_toArray, List.set_cons_zero, List.set_cons_succ]
          refine wpAnyH_take (i := 9) (v := .int .i64 ((at_ : Int) + 1 + (kn : Int))) rfl (by kernel_rfl) (by kernel_rfl) (by kernel_rfl) (fun _ _ _ h => h) (Or.inl ⟨by first | rfl | go_simp, fun wx hx => by obtain ⟨hx1, hx2, hx3⟩ := hx; go_simp⟩) hS4 ?_
          try simp only [Act.put, List.getElem_toArray, List.getElem_cons_zero, List.getElem_cons_succ, List.setIfInBounds_toArray, List.set_cons_zero, List.set_cons_succ]
          refine wpAnyH_take (i := 10) (v := .slice (some ⟨b0, off, none⟩) kn (0)) rfl (by kernel_rfl) (by kernel_rfl) (by kernel_rfl) (fun _ _ _ h => h) (Or.inl ⟨by first | rfl | go_simp, fun wx hx => by obtain ⟨hx1, hx2, hx3⟩ := hx; go_simp; rw [if_pos ⟨by omega, by omega⟩, if_pos ⟨by omega, by omega⟩, show ((at_ : Int) + 1 + (kn : Int)).toNat - (at_ + 1) = kn by omega]⟩) hS4 ?_
          try simp only [Act.put, List.getElem_toArray, List.getElem_cons_zero, List.getElem_cons_succ, List.setIfInBounds_toArray, List.set_cons_zero, List.set_cons_succ]
          obtain ⟨i1, hi1, hy0, hy1, hy2⟩ := info_parts Try.info60i
          refine wpAnyH_ready (rs := [11]) (by kernel_rfl) (by simp) ?_
          refine AllReadyH.cons rfl (fun K' hK => ?_) AllReadyH.nil
          rw [if_pos (by first | rfl | go_simp)]
          refine wp_append_at _ _ 25 rfl w.heap.size 60 i1 (ndV Nd.none) 15 128 Try.underlying25 hi1 hy0 hy1 hy2 rfl (by decide) (.slice uaB mB ucB) mB _ rfl (show WW.drew.ownsRow _ _ _ _ _ _ from ownG_below HBR.out (Below.drew hWB)) ⟨b0, off, none⟩ kn (0) (flatN ((xs.drop (at_ + 1)).take kn)) rfl (by rw [flatN_len, List.length_take, List.length_drop]; congr 1; omega) (fun j z hz => ?newsNA) (flatN_one _) (by unfold maxLen; omega) (by omega) (by have h1 := HB.out.size; have h2 := hWB.size; exact Nat.le_trans h1 h2) ?_
          case newsNA =>
            have hk0 : kn = 0 := by omega
            subst hk0
            simp [flatN] at hz
          intro v5 w5 ho5 hg5 _ hat5
          have hWs : wr.heap.size < WW.heap.size := World.block_lt_of_cell? WW _ y1
          have hlo : ∀ q, (Value.slice uaB mB ucB).ownBlock = some q → w.heap.size ≤ q ∧ q < wr.heap.size := fun q e => World.ownsRow.lt HBR.out q e
          have hb5 : ∀ q : Nat, q < WW.heap.size → (Value.slice uaB mB ucB).ownBlock ≠ some q → w5.heap[q]? = WW.heap[q]? := fun q hq hn => hg5.block q hq (fun e => hn e.symm)
          have hCw : C < WW.heap.size := World.block_lt_of_cell? WW _ y8
          have T5 : w5.cell? ⟨C, 8, none⟩ = some (.slice (some ⟨b0, off, none⟩) n (at_ + 1)) ∧ w5.cell? ⟨wr.heap.size, 1, none⟩ = some (.int .i64 (at_ : Int)) ∧ w5.cell? ⟨wr.heap.size, 2, none⟩ = some (.int .i64 ((at_ : Int) + 1 + (kn : Int))) := ⟨(World.cell?_of_block (w := WW) (a := ⟨C, 8, none⟩) (hb5 C hCw (fun e => by have := (hlo C e).1; omega))).trans y8, (World.cell?_of_block (w := WW) (a := ⟨wr.heap.size, 1, none⟩) (hb5 wr.heap.size hWs (fun e => by have := (hlo _ e).2; omega))).trans y1, (World.cell?_of_block (w := WW) (a := ⟨wr.heap.size, 2, none⟩) (hb5 wr.heap.size hWs (fun e => by have := (hlo _ e).2; omega))).trans y2⟩
          have B5 : Hid (Below w.heap.size w w5) := hideP (by
            have b := below_more HB.out hWB HB.out.size
            refine ⟨hg5.os.trans b.os, hg5.tape.trans b.tape, hg5.output.trans b.output, Nat.le_trans b.size hg5.size, fun q hq => (hb5 q (Nat.lt_of_lt_of_le hq b.size) (fun e => ?_)).trans (b.block q hq)⟩
            have := (hlo q e).1
            omega)
          have O5 := hideP ho5
          have N5 : Hid (w5.ownsRow w.heap.size 60 15 (.slice uaA mA ucA) mA (flatN ((zs.take k).flatMap (segA xs)))) := hideP (by
            have h := ownG_below HA.out hWB
            obtain ⟨h0, h | ⟨gg, cap', cur, e, hgb, hb, hr'⟩⟩ := h
            · exact ⟨h0, .inl h⟩
            · refine ⟨h0, .inr ⟨gg, cap', cur, e, hgb, (hb5 gg (Array.getElem?_eq_some_iff.1 hb).1 (fun e2 => ?_)).trans hb, hr'⟩⟩
              exact HAP.out gg (by rw [e]; rfl) e2)
          have P5 : Hid (∀ q, (Value.slice uaA mA ucA).ownBlock = some q → v5.ownBlock ≠ some q) := hideP (fun q e1 e2 => by
            rcases hat5 with h | h
            · exact HAP.out q e1 (h.symm.trans e2)
            · have h3 := Option.some.inj (h.symm.trans e2)
              have h4 := (World.ownsRow.lt HA.out q e1).2
              have h5 : WW.drew.heap.size = WW.heap.size := rfl
              omega)
          clear ho5 hg5 hat5 hb5
          refine hK.out _ _ T5 (fun _ => ?_)
          try simp only [Act.put, List.getElem_toArray, List.getElem_cons_zero, List.getElem_cons_succ, List.setIfInBounds_toArray, List.set_cons_zero, List.set_cons_succ]
          clear hK K'
          refine wpAnyH_ready (rs := [12]) (by kernel_rfl) (by simp) ?_
          refine AllReadyH.cons rfl (fun K' hK => ?_) AllReadyH.nil
          rw [if_pos (by first | rfl | go_simp)]
          go_simp
          refine hK.out _ _ T5 (fun _ => ?_)
          try simp only [Act.put, List.getElem_toArray, List.getElem_cons_zero, List.getElem_cons_succ, List.setIfInBounds_toArray, List.set_cons_zero, List.set_cons_succ]
          clear hK K'
          refine wpAnyH_done (by kernel_rfl) ?_ _
          refine NoPanic.normal ?_
          refine HK9.out _ _ ?_
          have hnk : (yn.k == 11) = true := HNB.out.symm
          have hnk2 : yn.k = 11 := by simpa using hnk
          have HF1 : Hid (noteB (zs.take (k + 1)) = true) := hideP (by rw [HZK.out]; unfold noteB; rw [List.any_append]; have e : (itAt xs at_).1 = yn := HYN2.out; simp only [List.any_cons, List.any_nil, e, hnk, Bool.or_false, Bool.or_true])
          have HF2 : Hid ((zs.take (k + 1)).flatMap (segA xs) = (zs.take k).flatMap (segA xs)) := hideP (by rw [HZK.out, List.flatMap_append]; simp [HSEG.out.1, hnk2])
          have HF3 : Hid ((zs.take (k + 1)).flatMap (segB xs) = (zs.take k).flatMap (segB xs) ++ (xs.drop (at_ + 1)).take kn) := hideP (by rw [HZK.out, List.flatMap_append]; simp [HSEG.out.2, hnk2])
          clear hnk hnk2 HK9
          go_wp2
          go_roundw
          case rel =>
            refine ⟨k + 1, by omega, by go_num, by rw [HF1.out], ⟨mA, ?_, by have h := Nat.succ_mul k 20000; rw [Nat.succ_eq_add_one] at h; omega⟩, ⟨mB + kn, ?_, by have h := Nat.succ_mul k 20000; rw [Nat.succ_eq_add_one] at h; omega⟩, P5.out, B5.out⟩
            · rw [HF2.out]
              exact N5.out
            · rw [HF3.out, ← List.cons_append, flatN_append]
              exact O5.out
          case measure => simp [intOf]; omega
        · go_wp2
          rename_i K9 hK9
          have HK9 := hideP hK9
          clear hK9
          refine wp_region_noPanic ?_
          obtain ⟨WW, hWW⟩ : ∃ WW, (wr.alloc (.cells #[.iface Xi q, .int .i64 (at_ : Int), .int .i64 ((at_ : Int) + 1 + (kn : Int))] 141)).alloc (.cells #[.int .i64 n0, .int .i64 n1, .int .i64 n2] 129) = WW := ⟨_, rfl⟩
          have hWB : Below wr.heap.size wr WW := by rw [← hWW]; exact below2 _ _ _
          have hWI : WW.heap[wr.heap.size]? = some (.cells #[.iface Xi q, .int .i64 (at_ : Int), .int .i64 ((at_ : Int) + 1 + (kn : Int))] 141 (0, 0)) := by rw [← hWW]; exact ((below1 _ _).block _ (by simp)).trans (heap_alloc_new _ _)
          have y8 : WW.cell? ⟨C, 8, none⟩ = some (.slice (some ⟨b0, off, none⟩) n cap) := (hWB.cell (p := ⟨C, 8, none⟩) (Nat.lt_of_lt_of_le hCl HB.out.size)).trans ((HB.out.cell (p := ⟨C, 8, none⟩) hCl).trans HZ8.out)
          have y1 : WW.cell? ⟨wr.heap.size, 1, none⟩ = some (.int .i64 (at_ : Int)) := by rw [cell_of_row _ _ _ _ 141 _ hWI]; rfl
          have y2 : WW.cell? ⟨wr.heap.size, 2, none⟩ = some (.int .i64 ((at_ : Int) + 1 + (kn : Int))) := by rw [cell_of_row _ _ _ _ 141 _ hWI]; rfl
          rw [hWW]
          clear hWW hWI
          refine wp_region_held_drew (S := fun X => X.cell? ⟨C, 8, none⟩ = some (.slice (some ⟨b0, off, none⟩) n cap) ∧ X.cell? ⟨wr.heap.size, 1, none⟩ = some (.int .i64 (at_ : Int)) ∧ X.cell? ⟨wr.heap.size, 2, none⟩ = some (.int .i64 ((at_ : Int) + 1 + (kn : Int)))) (by kernel_rfl) ⟨y8, y1, y2⟩ ?_
          intro hS4
          refine wpAnyH_take (i := 0) (v := .slice uaB mB ucB) rfl (by kernel_rfl) (by kernel_rfl) (by kernel_rfl) (fun _ _ _ h => h) (Or.inl ⟨by first | rfl | go_simp, fun wx hx => by obtain ⟨hx1, hx2, hx3⟩ := hx; go_simp⟩) hS4 ?_
          try simp only [Act.put, List.getElem_toArray, List.getElem_cons_zero, List.getElem_cons_succ, List.setIfInBounds_toArray, List.set_cons_zero, List.set_cons_succ]
          refine wpAnyH_take (i := 1) (v := .pointer (some ⟨C, 0, none⟩)) rfl (by kernel_rfl) (by kernel_rfl) (by kernel_rfl) (fun _ _ _ h => h) (Or.inl ⟨by first | rfl | go_simp, fun wx hx => by obtain ⟨hx1, hx2, hx3⟩ := hx; go_simp⟩) hS4 ?_
          try simp only [Act.put, List.getElem_toArray, List.getElem_cons_zero, List.getElem_cons_succ, List.setIfInBounds_toArray, List.set_cons_zero, List.set_cons_succ]
          refine wpAnyH_take (i := 2) (v := .pointer (some ⟨C, 0, none⟩)) rfl (by kernel_rfl) (by kernel_rfl) (by kernel_rfl) (fun _ _ _ h => h) (Or.inl ⟨by first | rfl | go_simp, fun wx hx => by obtain ⟨hx1, hx2, hx3⟩ := hx; go_simp⟩) hS4 ?_
          try simp only [Act.put, List.getElem_toArray, List.getElem_cons_zero, List.getElem_cons_succ, List.setIfInBounds_toArray, List.set_cons_zero, List.set_cons_succ]
          refine wpAnyH_take (i := 3) (v := .pointer (some ⟨C, 8, none⟩)) rfl (by kernel_rfl) (by kernel_rfl) (by kernel_rfl) (fun _ _ _ h => h) (Or.inl ⟨by first | rfl | go_simp, fun wx hx => by obtain ⟨hx1, hx2, hx3⟩ := hx; go_simp⟩) hS4 ?_
          try simp only [Act.put, List.getElem_toArray, List.getElem_cons_zero, List.getElem_cons_succ, List.setIfInBounds_toArray, List.set_cons_zero, List.set_cons_succ]
          refine wpAnyH_take (i := 4) (v := .slice (some ⟨b0, off, none⟩) n cap) rfl (by kernel_rfl) (by kernel_rfl) (by kernel_rfl) (fun _ _ _ h => h) (Or.inl ⟨by first | rfl | go_simp, fun wx hx => by obtain ⟨hx1, hx2, hx3⟩ := hx; go_simp⟩) hS4 ?_
          try simp only [Act.put, List.getElem_toArray, List.getElem_cons_zero, List.getElem_cons_succ, List.setIfInBounds_toArray, List.set_cons_zero, List.set_cons_succ]
          refine wpAnyH_take (i := 5) (v := .pointer (some ⟨wr.heap.size, 1, none⟩)) rfl (by kernel_rfl) (by kernel_rfl) (by kernel_rfl) (fun _ _ _ h => h) (Or.inl ⟨by first | rfl | go_simp, fun wx hx => by obtain ⟨hx1, hx2, hx3⟩ := hx; go_simp⟩) hS4 ?_
          try simp only [Act.put, List.getElem_toArray, List.getElem_cons_zero, List.getElem_cons_succ, List.setIfInBounds_toArray, List.set_cons_zero, List.set_cons_succ]
          refine wpAnyH_take (i := 6) (v := .int .i64 (at_ : Int)) rfl (by kernel_rfl) (by kernel_rfl) (by kernel_rfl) (fun _ _ _ h => h) (Or.inl ⟨by first | rfl | go_simp, fun wx hx => by obtain ⟨hx1, hx2, hx3⟩ := hx; go_simp⟩) hS4 ?_
          try simp only [Act.put, List.getElem_toArray, List.getElem_cons_zero, List.getElem_cons_succ, List.setIfInBounds_toArray, List.set_cons_zero, List.set_cons_succ]
          refine wpAnyH_take (i := 7) (v := .int .i64 ((at_ : Int) + 1)) rfl (by kernel_rfl) (by kernel_rfl) (by kernel_rfl) (fun _ _ _ h => h) (Or.inl ⟨by first | rfl | go_simp, fun wx hx => by obtain ⟨hx1, hx2, hx3⟩ := hx; go_simp; first | (go_num; done) | (go_bits; done) | (go_bits; trivial)⟩) hS4 ?_
          try simp only [Act.put, List.getElem_toArray, List.getElem_cons_zero, List.getElem_cons_succ, List.setIfInBounds_toArray, List.set_cons_zero, List.set_cons_succ]
          refine wpAnyH_take (i := 8) (v := .pointer (some ⟨wr.heap.size, 2, none⟩)) rfl (by kernel_rfl) (by kernel_rfl) (by kernel_rfl) (fun _ _ _ h => h) (Or.inl ⟨by first | rfl | go_simp, fun wx hx => by obtain ⟨hx1, hx2, hx3⟩ := hx; go_simp⟩) hS4 ?_
          try simp only [Act.put, List.getElem_toArray, List.getElem_cons_zero, List.getElem_cons_succ, List.setIfInBounds_toArray, List.set_cons_zero, List.set_cons_succ]
          refine wpAnyH_take (i := 9) (v := .int .i64 ((at_ : Int) + 1 + (kn : Int))) rfl (by kernel_rfl) (by kernel_rfl) (by kernel_rfl) (fun _ _ _ h => h) (Or.inl ⟨by first | rfl | go_simp, fun wx hx => by obtain ⟨hx1, hx2, hx3⟩ := hx; go_simp⟩) hS4 ?_
          try simp only [Act.put, List.getElem_toArray, List.getElem_cons_zero, List.getElem_cons_succ, List.setIfInBounds_toArray, List.set_cons_zero, List.set_cons_succ]
          refine wpAnyH_take (i := 10) (v := .slice (some ⟨b0, off + (at_ + 1) * 15, none⟩) kn (cap - (at_ + 1))) rfl (by kernel_rfl) (by kernel_rfl) (by kernel_rfl) (fun _ _ _ h => h) (Or.inl ⟨by first | rfl | go_simp, fun wx hx => by obtain ⟨hx1, hx2, hx3⟩ := hx; go_simp; rw [if_pos ⟨by omega, by omega⟩, if_pos ⟨by omega, by omega⟩, show ((at_ : Int) + 1 + (kn : Int)).toNat - (at_ + 1) = kn by omega]⟩) hS4 ?_
          try simp only [Act.put, List.getElem_toArray, List.getElem_cons_zero, List.getElem_cons_succ, List.setIfInBounds_toArray, List.set_cons_zero, List.set_cons_succ]
          obtain ⟨i1, hi1, hy0, hy1, hy2⟩ := info_parts Try.info60i
          refine wpAnyH_ready (rs := [11]) (by kernel_rfl) (by simp) ?_
          refine AllReadyH.cons rfl (fun K' hK => ?_) AllReadyH.nil
          rw [if_pos (by first | rfl | go_simp)]
          refine wp_append_at _ _ 25 rfl w.heap.size 60 i1 (ndV Nd.none) 15 128 Try.underlying25 hi1 hy0 hy1 hy2 rfl (by decide) (.slice uaB mB ucB) mB _ rfl (show WW.drew.ownsRow _ _ _ _ _ _ from ownG_below HBR.out (Below.drew hWB)) ⟨b0, off + (at_ + 1) * 15, none⟩ kn (cap - (at_ + 1)) (flatN ((xs.drop (at_ + 1)).take kn)) rfl (by rw [flatN_len, List.length_take, List.length_drop]; congr 1; omega) (fun j z hz => ?newsNB) (flatN_one _) (by unfold maxLen; omega) (by omega) (by have h1 := HB.out.size; have h2 := hWB.size; exact Nat.le_trans h1 h2) ?_
          case newsNB =>
            have hz2 : (flatN (itemAt xs at_))[15 + j]? = some z := by
              have e : itemAt xs at_ = xs.getD at_ Nd.none :: (xs.drop (at_ + 1)).take kn := by
                unfold itemAt
                rw [HYN.out, List.drop_eq_getElem_cons hat, Nat.add_comm 1, List.take_succ_cons]
                simp [List.getD, List.getElem?_eq_getElem hat]
              rw [e, flatN, List.getElem?_append_right (by rw [cells_len]; omega), cells_len, Nat.add_sub_cancel_left]
              exact hz
            have h1 := itemAt_flat HBC.out (15 + j) z hz2
            have h2 : WW.cell? ⟨b0, off + (at_ + 1) * 15 + j, none⟩ = some z := by
              rw [show off + (at_ + 1) * 15 + j = off + at_ * 15 + (15 + j) by omega]
              exact (hWB.cell (p := ⟨b0, off + at_ * 15 + (15 + j), none⟩) (Nat.lt_of_lt_of_le hb0 HB.out.size)).trans ((HB.out.cell (p := ⟨b0, off + at_ * 15 + (15 + j), none⟩) hb0).trans h1)
            by_cases hj : j = 0 <;> simp [Addr.add, hj] at h2 ⊢ <;> exact h2
          intro v5 w5 ho5 hg5 _ hat5
          have hWs : wr.heap.size < WW.heap.size := World.block_lt_of_cell? WW _ y1
          have hlo : ∀ q, (Value.slice uaB mB ucB).ownBlock = some q → w.heap.size ≤ q ∧ q < wr.heap.size := fun q e => World.ownsRow.lt HBR.out q e
          have hb5 : ∀ q : Nat, q < WW.heap.size → (Value.slice uaB mB ucB).ownBlock ≠ some q → w5.heap[q]? = WW.heap[q]? := fun q hq hn => hg5.block q hq (fun e => hn e.symm)
          have hCw : C < WW.heap.size := World.block_lt_of_cell? WW _ y8
          have T5 : w5.cell? ⟨C, 8, none⟩ = some (.slice (some ⟨b0, off, none⟩) n cap) ∧ w5.cell? ⟨wr.heap.size, 1, none⟩ = some (.int .i64 (at_ : Int)) ∧ w5.cell? ⟨wr.heap.size, 2, none⟩ = some (.int .i64 ((at_ : Int) + 1 + (kn : Int))) := ⟨(World.cell?_of_block (w := WW) (a := ⟨C, 8, none⟩) (hb5 C hCw (fun e => by have := (hlo C e).1; omega))).trans y8, (World.cell?_of_block (w := WW) (a := ⟨wr.heap.size, 1, none⟩) (hb5 wr.heap.size hWs (fun e => by have := (hlo _ e).2; omega))).trans y1, (World.cell?_of_block (w := WW) (a := ⟨wr.heap.size, 2, none⟩) (hb5 wr.heap.size hWs (fun e => by have := (hlo _ e).2; omega))).trans y2⟩
          have B5 : Hid (Below w.heap.size w w5) := hideP (by
            have b := below_more HB.out hWB HB.out.size
            refine ⟨hg5.os.trans b.os, hg5.tape.trans b.tape, hg5.output.trans b.output, Nat.le_trans b.size hg5.size, fun q hq => (hb5 q (Nat.lt_of_lt_of_le hq b.size) (fun e => ?_)).trans (b.block q hq)⟩
            have := (hlo q e).1
            omega)
          have O5 := hideP ho5
          have N5 : Hid (w5.ownsRow w.heap.size 60 15 (.slice uaA mA ucA) mA (flatN ((zs.take k).flatMap (segA xs)))) := hideP (by
            have h := ownG_below HA.out hWB
            obtain ⟨h0, h | ⟨gg, cap', cur, e, hgb, hb, hr'⟩⟩ := h
            · exact ⟨h0, .inl h⟩
            · refine ⟨h0, .inr ⟨gg, cap', cur, e, hgb, (hb5 gg (Array.getElem?_eq_some_iff.1 hb).1 (fun e2 => ?_)).trans hb, hr'⟩⟩
              exact HAP.out gg (by rw [e]; rfl) e2)
          have P5 : Hid (∀ q, (Value.slice uaA mA ucA).ownBlock = some q → v5.ownBlock ≠ some q) := hideP (fun q e1 e2 => by
            rcases hat5 with h | h
            · exact HAP.out q e1 (h.symm.trans e2)
            · have h3 := Option.some.inj (h.symm.trans e2)
              have h4 := (World.ownsRow.lt HA.out q e1).2
              have h5 : WW.drew.heap.size = WW.heap.size := rfl
              omega)
          clear ho5 hg5 hat5 hb5
          refine hK.out _ _ T5 (fun _ => ?_)
          try simp only [Act.put, List.getElem_toArray, List.getElem_cons_zero, List.getElem_cons_succ, List.setIfInBounds_toArray, List.set_cons_zero, List.set_cons_succ]
          clear hK K'
          refine wpAnyH_ready (rs := [12]) (by kernel_rfl) (by simp) ?_
          refine AllReadyH.cons rfl (fun K' hK => ?_) AllReadyH.nil
          rw [if_pos (by first | rfl | go_simp)]
          go_simp
          refine hK.out _ _ T5 (fun _ => ?_)
          try simp only [Act.put, List.getElem_toArray, List.getElem_cons_zero, List.getElem_cons_succ, List.setIfInBounds_toArray, List.set_cons_zero, List.set_cons_succ]
          clear hK K'
          refine wpAnyH_done (by kernel_rfl) ?_ _
          refine NoPanic.normal ?_
          refine HK9.out _ _ ?_
          have hnk : (yn.k == 11) = true := HNB.out.symm
          have hnk2 : yn.k = 11 := by simpa using hnk
          have HF1 : Hid (noteB (zs.take (k + 1)) = true) := hideP (by rw [HZK.out]; unfold noteB; rw [List.any_append]; have e : (itAt xs at_).1 = yn := HYN2.out; simp only [List.any_cons, List.any_nil, e, hnk, Bool.or_false, Bool.or_true])
          have HF2 : Hid ((zs.take (k + 1)).flatMap (segA xs) = (zs.take k).flatMap (segA xs)) := hideP (by rw [HZK.out, List.flatMap_append]; simp [HSEG.out.1, hnk2])
          have HF3 : Hid ((zs.take (k + 1)).flatMap (segB xs) = (zs.take k).flatMap (segB xs) ++ (xs.drop (at_ + 1)).take kn) := hideP (by rw [HZK.out, List.flatMap_append]; simp [HSEG.out.2, hnk2])
          clear hnk hnk2 HK9
          go_wp2
          go_roundw
          case rel =>
            refine ⟨k + 1, by omega, by go_num, by rw [HF1.out], ⟨mA, ?_, by have h := Nat.succ_mul k 20000; rw [Nat.succ_eq_add_one] at h; omega⟩, ⟨mB + kn, ?_, by have h := Nat.succ_mul k 20000; rw [Nat.succ_eq_add_one] at h; omega⟩, P5.out, B5.out⟩
            · rw [HF2.out]
              exact N5.out
            · rw [HF3.out, ← List.cons_append, flatN_append]
              exact O5.out
          case measure => simp [intOf]; omega
    · have hki : ¬ (k : Int) < (M : Int) := by omega
      obtain rfl : k = M := by omega
      have hzt : zs.take k = zs := List.take_of_length_le (by omega)
      rw [hzt] at hA hBr
      have HNT : Hid (noteB (zs.take k) = noteB zs) := hideP (by rw [hzt])
      have HPZ : Hid (PL = pageL xs (gapN g0 g1 g2 g3 g4) zs) := hideP (by rw [HPL.out, HZS.out, ← HSS.out, ← HM.out])
      have hbound : PL.length ≤ 20001 := by rw [HPL.out]; exact page_bound hok _ _ _
      obtain ⟨uaA, ucA, rfl⟩ := ownG_shape hA
      obtain ⟨uaB, ucB, rfl⟩ := ownG_shape hBr
      obtain ⟨nb, hnb⟩ : ∃ nb, nb = noteB (zs.take k) := ⟨_, rfl⟩
      rw [← hnb]
      have HNB : Hid (nb = noteB zs) := hideP (by rw [hnb, hzt])
      have CC : Hid (∀ (V : Value) (W : World) (bs m : Nat), W.ownsRow bs 60 15 V m (flatN PL) → Calls Try.prog 38 #[V] W fun e w' => ∃ v', e = .returned v' ∧ w'.ownsRow W.heap.size 60 15 v' PL.length (flatN PL) ∧ Below W.heap.size W w') := hideP (fun V W bs m ho => copyNodes_any (nn_of ho) (by omega) (by rw [HPZ.out]; exact page_text hok (show (0 : Nat) ≤ 1000 by omega)))
      have HB9 := hideP hB
      have hB9s : w.heap.size ≤ wr.heap.size := hB.size
      have HAA := hideP hA
      have HBB := hideP hBr
      have hkm : k * 20000 ≤ 20001 * 20000 := Nat.mul_le_mul_right _ (by omega)
      have hmA2 : mA ≤ 400020000 := by omega
      have hmB2 : mB ≤ 400020001 := by omega
      clear hnb hzt hA hBr hB hap hkm hmA hmB HNT
      cases nb with
      | false =>
        have HA9 : Hid (wr.ownsRow w.heap.size 60 15 (.slice uaA mA ucA) mA (flatN PL)) := hideP (by
          have he : PL = zs.flatMap (segA xs) := by rw [HPZ.out]; unfold pageL; rw [if_neg (by rw [← HNB.out]; simp)]
          rw [he]
          exact HAA.out)
        go_wp2_with fail
        refine (CC.out _ _ _ _ HA9.out).mono ?_
        rintro e w5 ⟨v', rfl, ho5, hb5⟩
        have H5 := hideP (And.intro (ownG_mono ho5 HB9.out.size) (below_more HB9.out hb5 HB9.out.size))
        clear ho5 hb5
        go_wp2
        go_ret
        exact ⟨⟨_, rfl, H5.out.1⟩, H5.out.2⟩
      | true =>
        have hmB0 : 0 < mB := by have h := HBB.out.1; rw [flatN_len, List.length_cons] at h; omega
        obtain ⟨gB, rfl⟩ : ∃ gB, uaB = some ⟨gB, 0, none⟩ := by
          rcases HBB.out.2 with ⟨h0, h1⟩ | ⟨g', cap', cur, hv, _⟩
          · omega
          · simp only [Value.slice.injEq] at hv
            exact ⟨g', hv.1⟩
        obtain ⟨i1, hi1, hy0, hy1, hy2⟩ := info_parts Try.info60i
        go_wp2_with (at_builtin; refine Hid.out ?_)
        refine hideP ?_
        refine wpList_append_at rfl _ _ 25 rfl w.heap.size 60 i1 (ndV Nd.none) 15 128 Try.underlying25 hi1 hy0 hy1 hy2 rfl (by decide) (.slice uaA mA ucA) mA (flatN (zs.flatMap (segA xs))) rfl HAA.out ⟨gB, 0, none⟩ mB ucB (flatN (gapN g0 g1 g2 g3 g4 :: zs.flatMap (segB xs))) rfl HBB.out.1 (fun j z hz => ?news) (flatN_one _) (by unfold maxLen; omega) (by omega) hB9s ?_
        case news =>
          have hj : j < mB * 15 := by have h := (List.getElem?_eq_some_iff.1 hz).1; rw [HBB.out.1] at h; exact h
          have h := World.ownsRow.cellAt HBB.out j hj
          rw [hz] at h
          have he : ((⟨gB, 0, none⟩ : Addr).add j) = ⟨gB, j, none⟩ := by simp only [Addr.add]; split <;> simp_all
          rw [he]
          exact h
        intro v5 w5 ho5 hg5 hat5
        have HO5 : Hid (w5.ownsRow w.heap.size 60 15 v5 (mA + mB) (flatN PL)) := hideP (by
          rw [HPZ.out]
          unfold pageL
          rw [if_pos HNB.out.symm, flatN_append]
          exact ho5)
        have B5 : Hid (Below w.heap.size w w5) := hideP (Below.grown HB9.out hg5 hB9s (fun j hj => (World.ownsRow.lt HAA.out j hj).1))
        obtain ⟨a5, c5, rfl⟩ := ownG_shape ho5
        clear ho5 hg5 hat5
        go_wp2_with fail
        refine (CC.out _ _ _ _ HO5.out).mono ?_
        rintro e w6 ⟨v', rfl, ho6, hb6⟩
        have H6 := hideP (And.intro (ownG_mono ho6 B5.out.size) (below_more B5.out hb6 B5.out.size))
        clear ho6 hb6
        go_wp2
        go_ret
        exact ⟨⟨_, rfl, H6.out.1⟩, H6.out.2⟩
end Go.Proofs.Ytjagagbelpihbaa

namespace Go.Proofs.Ytjagagbelpihbaa
open Go.RowKit
set_option linter.unusedVariables false
set_option linter.unusedSimpArgs false

set_option maxRecDepth 20000 in
set_option maxHeartbeats 4000000 in
theorem page_none {w : World} {C uc : Nat} {ua : Option Addr} {g0 g1 g2 g3 g4 : Int} (z2 : w.cell? ⟨C, 2, none⟩ = some (.int .i64 g0)) (z3 : w.cell? ⟨C, 3, none⟩ = some (.int .i64 g1)) (z4 : w.cell? ⟨C, 4, none⟩ = some (.int .i64 g2)) (z5 : w.cell? ⟨C, 5, none⟩ = some (.int .i64 g3)) (z6 : w.cell? ⟨C, 6, none⟩ = some (.int .i64 g4))
    (hC : w.cell? ⟨C, 9, none⟩ = some (.slice ua 0 uc)) (hua : ua = none → uc = 0) (huo : ∀ p, ua = some p → ∃ g, p = ⟨g, 0, none⟩) :
    Calls Try.prog 50 #[.pointer (some ⟨C, 0, none⟩), .int .i64 0, .int .i64 0] w fun e w' => (∃ u, e = .returned u ∧ w'.ownsRow w.heap.size 60 15 u 0 []) ∧ Below w.heap.size w w' := by
  have hCl : C < w.heap.size := World.block_lt_of_cell? w _ hC
  have BC : Hid (∀ W, Below w.heap.size w W → Calls Try.prog 72 #[.pointer (some ⟨C, 0, none⟩), .int .i64 0, .int .i64 0] W fun e w' => (∃ ao c2, e = .returned (.slice ao 0 c2)) ∧ Below W.heap.size W w') := hideP (fun W hW => between_none ((hW.cell (p := ⟨C, 9, none⟩) hCl).trans hC) hua huo)
  have GC : Hid (∀ W, Calls Try.prog 71 #[.agg #[.int .i64 g0, .int .i64 g1, .int .i64 g2, .int .i64 g3, .int .i64 g4, .int .i64 0]] W fun e w' => e = .returned (ndV (gapN g0 g1 g2 g3 g4)) ∧ Below W.heap.size W w') := hideP (fun W => gap_any g0 g1 g2 g3 g4 W)
  have CC : Hid (∀ (V : Value) (W : World) (bs : Nat), W.ownsRow bs 60 15 V 0 [] → Calls Try.prog 38 #[V] W fun e w' => ∃ v', e = .returned v' ∧ w'.ownsRow W.heap.size 60 15 v' 0 [] ∧ Below W.heap.size W w') := hideP (fun V W bs ho => copyNodes_any (xs := []) (nn_of ho) (by simp) (fun i hi => by simp at hi))
  clear hua huo
  go_enter Try.func50, Try.ntmps50
  go_wp2_with fail
  refine (GC.out _).mono ?_
  rintro e w1 ⟨rfl, hb1⟩
  have B1 : Hid (Below w.heap.size w w1) := hideP (below_more (below1 _ _) hb1 (by simp))
  have q1 : w1.heap[w.heap.size]? = some (.cells #[] 60 (0, 0)) := (hb1.block _ (by simp)).trans (heap_alloc_new _ _)
  have HA1 : Hid (w1.ownsRow w.heap.size 60 15 (.slice (some ⟨w.heap.size, 0, none⟩) 0 0) 0 []) := hideP ⟨rfl, .inr ⟨_, _, _, rfl, by omega, q1, by omega, by unfold maxLen; omega, rfl, rfl⟩⟩
  clear hb1 q1 z2 z3 z4 z5 z6 GC
  simp only [ndV, gapN]
  go_wp2_with fail
  have B2 : Below w.heap.size w (w1.alloc (.cells #[.int .i64 3, .int .i64 0, .int .i64 0, .int .i64 0, .int .i64 0, .int .i64 0, .int .i64 0, .int .i64 0, .int .i64 g0, .int .i64 g1, .int .i64 g2, .int .i64 g3, .int .i64 g4, .string ⟨#[]⟩, .int .i64 0] 60)) := B1.out.alloc B1.out.size _
  have HA2 := hideP (HA1.out.alloc (.cells #[.int .i64 3, .int .i64 0, .int .i64 0, .int .i64 0, .int .i64 0, .int .i64 0, .int .i64 0, .int .i64 0, .int .i64 g0, .int .i64 g1, .int .i64 g2, .int .i64 g3, .int .i64 g4, .string ⟨#[]⟩, .int .i64 0] 60))
  refine (BC.out _ B2).mono ?_
  rintro e w3 ⟨⟨ao, c2, rfl⟩, hb3⟩
  have B3 : Hid (Below w.heap.size w w3) := hideP (below_more B2 hb3 B2.size)
  have A3 : Hid (w3.ownsRow w.heap.size 60 15 (.slice (some ⟨w.heap.size, 0, none⟩) 0 0) 0 []) := hideP (ownG_below HA2.out hb3)
  clear hb3 B2 HA2 HA1 BC
  go_wp2
  go_loopw [7, 8, 9, 28] (fun s7 s8 s9 s28 wr => s28 = .int .i64 0 ∧ s9 = .bool false ∧ s7 = .slice (some ⟨w.heap.size, 0, none⟩) 0 0 ∧ (∃ a n c, s8 = .slice a n c) ∧ wr = w3) (fun _ _ _ s _ => 0)
  case atStart => exact ⟨rfl, rfl, rfl, ⟨_, _, _, rfl⟩, rfl⟩
  case round =>
    obtain ⟨rfl, rfl, rfl, ⟨a8, n8, c8, rfl⟩, rfl⟩ := hrel
    go_wp2_with fail
    refine (CC.out _ _ _ A3.out).mono ?_
    rintro e w5 ⟨v', rfl, ho5, hb5⟩
    have H5 := hideP (And.intro (ownG_mono ho5 B3.out.size) (below_more B3.out hb5 B3.out.size))
    clear ho5 hb5
    go_wp2
    go_ret
    exact ⟨⟨_, rfl, H5.out.1⟩, H5.out.2⟩

set_option maxRecDepth 20000 in
set_option maxHeartbeats 4000000 in
theorem implPageOf_any {v : Value} {xs : List Nd} {w : World} {base : Nat} (S : Sh) (f t : Int) (ho : w.ownsRow base 60 15 v xs.length (flatN xs)) (hs : xs.length ≤ 1048576) :
    Calls Try.prog 29 #[v, shV S, .int .i64 f, .int .i64 t] w fun e W' => (∃ u, e = .returned u ∧ W'.ownsRow w.heap.size 60 15 u (pgL xs S f t).length (flatN (pgL xs S f t))) ∧ Below w.heap.size w W' := by
  have h0 : NRow 0 w v xs := SRow.mono ndStable (own_NRow ho rfl) (Nat.zero_le _)
  have SC : Hid (∀ W, Below w.heap.size w W → Calls Try.prog 45 #[v, shV S] W fun e W' => ((shB S && listB xs) = false → e = .returned (.tuple #[.pointer none, .bool false])) ∧ ((shB S && listB xs) = true → ∃ (C D : Nat) (ua : Option Addr) (uc : Nat), e = .returned (.tuple #[.pointer (some ⟨C, 0, none⟩), .bool (decide (((its xs).length : Int) ≤ 4000))]) ∧ W'.heap[C]? = some (.cells #[.int .i64 S.ht, .int .i64 S.dp, .int .i64 S.g0, .int .i64 S.g1, .int .i64 S.g2, .int .i64 S.g3, .int .i64 S.g4, .int .i64 S.nt, v, .slice ua (its xs).length uc, .slice (some ⟨D, 0, none⟩) (its xs).length (its xs).length] 101 (0, 0)) ∧ W'.ownsRow W.heap.size 141 3 (.slice ua (its xs).length uc) (its xs).length (flatI (its xs)) ∧ W.heap.size < C) ∧ Below W.heap.size W W') := hideP (fun W hW => callsIn_wide.1 (scrollOf_in S (SRow.below ndStable h0 hW) hs (own_cap ho)))
  obtain ⟨L, hL⟩ : ∃ L, L = pgL xs S f t := ⟨_, rfl⟩
  rw [← hL]
  have HLL := hideP hL
  have HO := hideP ho
  obtain ⟨va, vc, rfl⟩ := ownG_shape ho
  obtain ⟨sl, hsl⟩ : ∃ sl, sl = (shB S && listB xs) := ⟨_, rfl⟩
  rw [← hsl] at SC
  have HSL := hideP hsl
  clear hL h0 ho hsl
  obtain ⟨s0, s1, s2, s3, s4, s5, s6, s7⟩ := S
  simp only [shV] at SC ⊢
  have HNO : Hid (fitB xs ⟨s0, s1, s2, s3, s4, s5, s6, s7⟩ f t = false → L = []) := hideP (fun h => by rw [HLL.out]; unfold pgL; rw [if_neg (by rw [h]; simp)])
  go_enter Try.func29, Try.ntmps29
  go_wp2_with fail
  refine (SC.out _ (by first | exact Below.refl _ _ | exact below1 _ _)).mono ?_
  rintro e w2 ⟨hf, ht, hb2⟩
  have B2 : Hid (Below w.heap.size w w2) := hideP (by first | exact hb2 | exact below_more (below1 _ _) hb2 (by simp))
  have hsz : w.heap.size ≤ w2.heap.size := B2.out.size
  clear hb2 SC
  cases sl with
  | false =>
    obtain rfl := hf rfl
    have HE : Hid (L = []) := hideP (HNO.out (by
      have h := HSL.out
      unfold fitB
      cases h1 : listB xs
      · rfl
      · rw [h1, Bool.and_true] at h
        rw [← h]
        simp))
    clear hf ht
    go_wp2
    go_ret
    rw [HE.out]
    exact ⟨⟨_, rfl, ⟨rfl, .inr ⟨_, _, _, rfl, hsz, heap_alloc_new w2 _, Nat.zero_le _, by unfold maxLen; omega, rfl, rfl⟩⟩⟩, B2.out.alloc hsz _⟩
  | true =>
    obtain ⟨C, D, ua, uc, rfl, hC, hu, hlt⟩ := ht rfl
    obtain ⟨hsb, hlb⟩ : shB ⟨s0, s1, s2, s3, s4, s5, s6, s7⟩ = true ∧ listB xs = true := by
      have h := HSL.out.symm
      simpa [Bool.and_eq_true] using h
    have hok := allOk hlb
    obtain ⟨N, hN⟩ : ∃ N, N = (its xs).length := ⟨_, rfl⟩
    have hNN : (its xs).length = N := hN.symm
    have hu2 := ownG_mono (base' := w.heap.size) hu (by simp)
    simp only [hNN] at hC hu2 ⊢
    have HN := hideP hNN
    clear hf ht hN hu
    have k2 : w2.cell? ⟨C, 2, none⟩ = some (.int .i64 s2) := by rw [cell_of_row w2 _ _ _ _ _ hC]; rfl
    have k3 : w2.cell? ⟨C, 3, none⟩ = some (.int .i64 s3) := by rw [cell_of_row w2 _ _ _ _ _ hC]; rfl
    have k4 : w2.cell? ⟨C, 4, none⟩ = some (.int .i64 s4) := by rw [cell_of_row w2 _ _ _ _ _ hC]; rfl
    have k5 : w2.cell? ⟨C, 5, none⟩ = some (.int .i64 s5) := by rw [cell_of_row w2 _ _ _ _ _ hC]; rfl
    have k6 : w2.cell? ⟨C, 6, none⟩ = some (.int .i64 s6) := by rw [cell_of_row w2 _ _ _ _ _ hC]; rfl
    have k8 : w2.cell? ⟨C, 8, none⟩ = some (.slice va xs.length vc) := by rw [cell_of_row w2 _ _ _ _ _ hC]; rfl
    have k9 : w2.cell? ⟨C, 9, none⟩ = some (.slice ua N uc) := by rw [cell_of_row w2 _ _ _ _ _ hC]; rfl
    have hCl : C < w2.heap.size := (Array.getElem?_eq_some_iff.1 hC).1
    have HK := hideP (And.intro k2 (And.intro k3 (And.intro k4 (And.intro k5 (And.intro k6 (And.intro k8 k9))))))
    have HC := hideP hC
    have HU := hideP hu2
    clear k2 k3 k4 k5 k6 k8 k9 hC hu2 hlt
    by_cases h4 : N ≤ 4000
    · have h4b : decide ((N : Int) ≤ 4000) = true := decide_eq_true (by omega)
      rw [h4b]
      have EC : Hid (Calls Try.prog 49 #[.pointer (some ⟨C, 0, none⟩), .int .i64 f, .int .i64 t] w2 fun e w' => e = .returned (.bool (endsB (its xs) f t)) ∧ Below w2.heap.size w2 w') := hideP (ends_any f t HK.out.2.2.2.2.2.2 HU.out HN.out (by omega))
      obtain ⟨R, hR⟩ : ∃ R, R = endsB (its xs) f t := ⟨_, rfl⟩
      have hfit : fitB xs ⟨s0, s1, s2, s3, s4, s5, s6, s7⟩ f t = R := by
        unfold fitB
        rw [hlb, hsb, ← hR, decide_eq_true (by rw [HN.out]; exact h4)]
        simp
      rw [← hR] at EC
      have HFT := hideP hfit
      have HRR := hideP hR
      clear hR hfit h4b
      go_wp2_with fail
      refine EC.out.mono ?_
      rintro e w3 ⟨rfl, hb3⟩
      have B3 : Hid (Below w.heap.size w w3) := hideP (below_more B2.out hb3 hsz)
      have hsz3 : w.heap.size ≤ w3.heap.size := B3.out.size
      have U3 : Hid (w3.ownsRow w.heap.size 141 3 (.slice ua N uc) N (flatI (its xs))) := hideP (ownG_below HU.out hb3)
      have hC3 : w3.heap[C]? = w2.heap[C]? := hb3.block C hCl
      have HC3 : Hid (w3.cell? ⟨C, 2, none⟩ = some (.int .i64 s2) ∧ w3.cell? ⟨C, 3, none⟩ = some (.int .i64 s3) ∧ w3.cell? ⟨C, 4, none⟩ = some (.int .i64 s4) ∧ w3.cell? ⟨C, 5, none⟩ = some (.int .i64 s5) ∧ w3.cell? ⟨C, 6, none⟩ = some (.int .i64 s6) ∧ w3.cell? ⟨C, 8, none⟩ = some (.slice va xs.length vc) ∧ w3.cell? ⟨C, 9, none⟩ = some (.slice ua N uc)) := hideP (by
        obtain ⟨k2, k3, k4, k5, k6, k8, k9⟩ := HK.out
        exact ⟨(World.cell?_of_block (a := ⟨C, 2, none⟩) hC3).trans k2, (World.cell?_of_block (a := ⟨C, 3, none⟩) hC3).trans k3, (World.cell?_of_block (a := ⟨C, 4, none⟩) hC3).trans k4, (World.cell?_of_block (a := ⟨C, 5, none⟩) hC3).trans k5, (World.cell?_of_block (a := ⟨C, 6, none⟩) hC3).trans k6, (World.cell?_of_block (a := ⟨C, 8, none⟩) hC3).trans k8, (World.cell?_of_block (a := ⟨C, 9, none⟩) hC3).trans k9⟩)
      have HCB : Hid (∃ cs, w3.heap[C]? = some (.cells cs 101 (0, 0))) := hideP ⟨_, hC3.trans HC.out⟩
      have O3 : Hid (w3.ownsRow base 60 15 (.slice va xs.length vc) xs.length (flatN xs)) := hideP (ownG_below HO.out (below_more (Below.refl _ _) (B3.out.mono (Nat.le_refl _)) (Nat.le_refl _)))
      clear hb3 hC3 HK HC HU HO
      cases R with
      | false =>
        have HE : Hid (L = []) := hideP (HNO.out HFT.out)
        go_wp2
        go_ret
        rw [HE.out]
        exact ⟨⟨_, rfl, ⟨rfl, .inr ⟨_, _, _, rfl, hsz3, heap_alloc_new w3 _, Nat.zero_le _, by unfold maxLen; omega, rfl, rfl⟩⟩⟩, B3.out.alloc hsz3 _⟩
      | true =>
        have hin := HRR.out.symm
        unfold endsB at hin
        simp only [Bool.and_eq_true, decide_eq_true_eq, HN.out] at hin
        obtain ⟨⟨i1, i2, i3⟩, _⟩ := hin
        obtain ⟨a, rfl⟩ : ∃ a : Nat, f = (a : Int) := ⟨f.toNat, by omega⟩
        obtain ⟨b, rfl⟩ : ∃ b : Nat, t = (b : Int) := ⟨t.toNat, by omega⟩
        have HE : Hid (L = pageL xs (gapN s2 s3 s4 s5 s6) (((its xs).drop (begI (its xs) a b)).take (b - begI (its xs) a b))) := hideP (by rw [HLL.out]; unfold pgL; rw [if_pos HFT.out]; rfl)
        have PC : Hid (Calls Try.prog 50 #[.pointer (some ⟨C, 0, none⟩), .int .i64 (a : Int), .int .i64 (b : Int)] w3 fun e w' => (∃ u, e = .returned u ∧ w'.ownsRow w3.heap.size 60 15 u L.length (flatN L)) ∧ Below w3.heap.size w3 w') := hideP (by
          obtain ⟨c2, c3, c4, c5, c6, c8, c9⟩ := HC3.out
          by_cases hN0 : N = 0
          · subst hN0
            obtain rfl : a = 0 := by omega
            obtain rfl : b = 0 := by omega
            have hin : its xs = [] := List.eq_nil_of_length_eq_zero HN.out
            have hLe : L = [] := by rw [HE.out, hin]; rfl
            rw [hLe]
            refine page_none c2 c3 c4 c5 c6 c9 ?_ ?_
            · intro hua
              rcases U3.out.2 with ⟨h1, _⟩ | ⟨g, cap, cur, h1, _⟩
              · simp only [Value.slice.injEq] at h1
                exact h1.2.2
              · simp only [Value.slice.injEq] at h1
                rw [hua] at h1
                simp at h1
            · intro p hp
              rcases U3.out.2 with ⟨h1, _⟩ | ⟨g, cap, cur, h1, _⟩
              · simp only [Value.slice.injEq] at h1
                rw [hp] at h1
                simp at h1
              · simp only [Value.slice.injEq] at h1
                rw [hp] at h1
                exact ⟨g, by simpa using h1.1⟩
          · rw [HE.out]
            have hx0 : 0 < xs.length := by
              cases xs with
              | nil => exact absurd HN.out.symm (by simp [its, starts]; exact hN0)
              | cons x r => simp
            have O3' := O3.out
            rcases O3'.2 with ⟨h1, h2⟩ | ⟨g, cap, cur, h1, hg, hb, hcc, hmx, hcs, htk⟩
            · omega
            · simp only [Value.slice.injEq] at h1
              obtain ⟨rfl, _, rfl⟩ := h1
              exact page_any a b ⟨HCB.out, c2, c3, c4, c5, c6, c8, c9⟩ U3.out HN.out hok rfl ⟨hcc, by unfold maxLen at hmx; exact hmx⟩ (Array.getElem?_eq_some_iff.1 hb).1 (fun j u hu => by
                have hj : j < xs.length * 15 := by
                  have h := (List.getElem?_eq_some_iff.1 hu).1
                  rw [flatN_len] at h
                  exact h
                rw [Nat.zero_add, World.ownsRow.cellAt O3.out j hj]
                exact hu) (by omega) (by omega) (by omega))
        have j4 : (a : Int) ≤ 4000 ∧ (b : Int) ≤ 4000 := by omega
        clear HC3 HCB O3 U3 HE i1 i2 i3
        go_wp2_with fail
        refine PC.out.mono ?_
        rintro e w4 ⟨⟨u4, rfl, ho4⟩, hb4⟩
        have H4 := hideP (And.intro (ownG_mono ho4 hsz3) (below_more B3.out hb4 hsz3))
        clear ho4 hb4
        go_wp2
        go_ret
        exact ⟨⟨_, rfl, H4.out.1⟩, H4.out.2⟩
    · have h4b : decide ((N : Int) ≤ 4000) = false := decide_eq_false (by omega)
      rw [h4b]
      have HE : Hid (L = []) := hideP (HNO.out (by unfold fitB; rw [decide_eq_false (by rw [HN.out]; exact h4)]; simp))
      clear h4b
      go_wp2
      go_ret
      rw [HE.out]
      exact ⟨⟨_, rfl, ⟨rfl, .inr ⟨_, _, _, rfl, hsz, heap_alloc_new w2 _, Nat.zero_le _, by unfold maxLen; omega, rfl, rfl⟩⟩⟩, B2.out.alloc hsz _⟩
end Go.Proofs.Ytjagagbelpihbaa

namespace Go.Proofs.Ytjagagbelpihbaa
open Go.RowKit Go.Shelf
set_option linter.unusedVariables false
set_option linter.unusedSimpArgs false

theorem pgL_len (xs : List Nd) (S : Sh) (f t : Int) : (pgL xs S f t).length ≤ 20001 := by
  unfold pgL
  split
  · rename_i h
    unfold fitB at h
    simp only [Bool.and_eq_true] at h
    exact page_bound (allOk h.1.1.1) _ _ _
  · simp

set_option maxRecDepth 20000 in
set_option maxHeartbeats 8000000 in
theorem lawPO_any {v : Value} {xs : List Nd} {w : World} (S : Sh) (f t : Int) (h : NRow 0 w v xs) (hf : xs.length ≤ 9223372036854775807 ∧ ∀ i, i < xs.length → FnN (xs.getD i Nd.none)) :
    Calls Try.prog 7 #[v, shV S, .int .i64 f, .int .i64 t] w fun e w' => e = .returned (.bool true) ∧ Below w.heap.size w w' := by
  have HX := hideP h
  obtain ⟨ao, n, cap, rfl⟩ : ∃ a n c, v = .slice a n c := by obtain ⟨a, c, rfl⟩ := h.shape; exact ⟨_, _, _, rfl⟩
  have HF := hideP hf
  clear h hf
  have SH : Hid (∀ W, Calls Try.prog 28 #[shV S] W fun r w' => r = .returned (shV S) ∧ Below W.heap.size W w') := hideP (fun W => toSheet_any S W)
  obtain ⟨s0, s1, s2, s3, s4, s5, s6, s7⟩ := S
  simp only [shV] at SH ⊢
  go_enter Try.func7, Try.ntmps7
  go_wp2_with fail
  obtain ⟨W0, hW0⟩ : ∃ W0, W0 = w.alloc (.cells #[.int .i64 s0, .int .i64 s1, .int .i64 s2, .int .i64 s3, .int .i64 s4, .int .i64 s5, .int .i64 s6, .int .i64 s7] 49) := ⟨_, rfl⟩
  rw [← hW0]
  have hcl0 := heap_alloc_new w (.cells #[.int .i64 s0, .int .i64 s1, .int .i64 s2, .int .i64 s3, .int .i64 s4, .int .i64 s5, .int .i64 s6, .int .i64 s7] 49)
  rw [← hW0] at hcl0
  have B0 : Hid (Below w.heap.size w W0) := hideP (by rw [hW0]; exact below1 _ _)
  have hs0 : w.heap.size < W0.heap.size := (Array.getElem?_eq_some_iff.1 hcl0).1
  have HC : Hid (∀ W, Below W0.heap.size W0 W → W.cell? ⟨w.heap.size, 0, none⟩ = some (.int .i64 s0) ∧ W.cell? ⟨w.heap.size, 1, none⟩ = some (.int .i64 s1) ∧ W.cell? ⟨w.heap.size, 2, none⟩ = some (.int .i64 s2) ∧ W.cell? ⟨w.heap.size, 3, none⟩ = some (.int .i64 s3) ∧ W.cell? ⟨w.heap.size, 4, none⟩ = some (.int .i64 s4) ∧ W.cell? ⟨w.heap.size, 5, none⟩ = some (.int .i64 s5) ∧ W.cell? ⟨w.heap.size, 6, none⟩ = some (.int .i64 s6) ∧ W.cell? ⟨w.heap.size, 7, none⟩ = some (.int .i64 s7)) := hideP (fun W hW => by
    have hh := (hW.block w.heap.size hs0).trans hcl0
    refine ⟨?_, ?_, ?_, ?_, ?_, ?_, ?_, ?_⟩ <;> (rw [cell_of_row W _ _ _ _ _ hh]; rfl))
  have HX0 : Hid (NRow 0 W0 (.slice ao n cap) xs) := hideP (SRow.below ndStable HX.out B0.out)
  clear hW0 hcl0 hs0 HX
  refine (szNodeS_any HX0.out HF.out (by omega) (by omega)).mono ?_
  rintro e w1 ⟨⟨m, rfl, hml, hm⟩, hb1⟩
  have B1 : Hid (Below W0.heap.size W0 w1) := hb1
  have HM := hideP hm
  clear hb1 hm
  by_cases hneg : m < 0
  · go_wp2
    go_ret
    exact ⟨rfl, below_more B0.out B1.out B0.out.size⟩
  · have HS : Hid (xs.length ≤ 1048576) := hideP (HM.out (by omega)).1
    have HI : Hid ((pgL xs (⟨s0, s1, s2, s3, s4, s5, s6, s7⟩ : Sh) f t).length ≤ 1048576) := hideP (Nat.le_trans (pgL_len xs _ f t) (by omega))
    clear HM HF
    obtain ⟨ins, hins⟩ : ∃ ins, ins = pgL xs (⟨s0, s1, s2, s3, s4, s5, s6, s7⟩ : Sh) f t := ⟨_, rfl⟩
    rw [← hins] at HI
    have CS : Hid (∀ (V : Value) (W : World) (base : Nat), W.ownsRow base 60 15 V xs.length (flatN xs) → Calls Try.prog 27 #[V, .agg #[.int .i64 s0, .int .i64 s1, .int .i64 s2, .int .i64 s3, .int .i64 s4, .int .i64 s5, .int .i64 s6, .int .i64 s7], .int .i64 f, .int .i64 t] W fun e W' => (∃ u, e = .returned u ∧ W'.ownsRow W.heap.size 60 15 u ins.length (flatN ins)) ∧ Below W.heap.size W W') := hideP (fun V W base ho => by rw [hins]; exact specPageOf_any (⟨s0, s1, s2, s3, s4, s5, s6, s7⟩ : Sh) f t (SRow.mono ndStable (own_NRow ho rfl) (Nat.zero_le _)) HS.out (own_cap ho))
    have CI : Hid (∀ (V : Value) (W : World) (base : Nat), W.ownsRow base 60 15 V xs.length (flatN xs) → Calls Try.prog 29 #[V, .agg #[.int .i64 s0, .int .i64 s1, .int .i64 s2, .int .i64 s3, .int .i64 s4, .int .i64 s5, .int .i64 s6, .int .i64 s7], .int .i64 f, .int .i64 t] W fun e W' => (∃ u, e = .returned u ∧ W'.ownsRow W.heap.size 60 15 u ins.length (flatN ins)) ∧ Below W.heap.size W W') := hideP (fun V W base ho => by rw [hins]; exact implPageOf_any (⟨s0, s1, s2, s3, s4, s5, s6, s7⟩ : Sh) f t ho HS.out)
    have CE : Hid (∀ (V U : Value) (W : World) (b1 b2 : Nat), W.ownsRow b1 60 15 V ins.length (flatN ins) → W.ownsRow b2 60 15 U ins.length (flatN ins) → Calls Try.prog 12 #[V, U] W fun e w' => e = .returned (.bool true) ∧ Below W.heap.size W w') := hideP (fun V U W b1 b2 ho1 ho2 => eqNodeS_same (SRow.mono ndStable (own_NRow ho1 rfl) (Nat.zero_le _)) (SRow.mono ndStable (own_NRow ho2 rfl) (Nat.zero_le _)) HI.out)
    clear hins
    obtain ⟨r, hr⟩ : ∃ r, r = ins.length := ⟨_, rfl⟩
    rw [← hr] at CS CI CE HI
    have HRI := hideP hr
    obtain ⟨z, hz⟩ : ∃ z, z = xs.length := ⟨_, rfl⟩
    have CT : Hid (∀ W, Below W0.heap.size W0 W → Calls Try.prog 10 #[.slice ao n cap] W fun e w' => e = .returned (.slice (some ⟨W.heap.size, 0, none⟩) z z) ∧ w'.ownsRow W.heap.size 60 15 (.slice (some ⟨W.heap.size, 0, none⟩) z z) z (flatN xs) ∧ Below W.heap.size W w') := hideP (fun W hW => by rw [hz]; exact toNodeS_own (SRow.below ndStable HX0.out hW) HS.out)
    have CQ : Hid (∀ (V U : Value) (W : World) (b1 b2 : Nat), W.ownsRow b1 60 15 V z (flatN xs) → W.ownsRow b2 60 15 U z (flatN xs) → Calls Try.prog 12 #[V, U] W fun e w' => e = .returned (.bool true) ∧ Below W.heap.size W w') := hideP (fun V U W b1 b2 ho1 ho2 => eqNodeS_same (SRow.mono ndStable (own_NRow ho1 hz.symm) (Nat.zero_le _)) (SRow.mono ndStable (own_NRow ho2 hz.symm) (Nat.zero_le _)) HS.out)
    rw [← hz] at CS CI HS
    clear hz hr HX0
    go_wp2_with fail
    refine wp_region_held_drew (S := (fun x => x.cell? ⟨w.heap.size, 0, none⟩ = some (.int .i64 s0) ∧ x.cell? ⟨w.heap.size, 1, none⟩ = some (.int .i64 s1) ∧ x.cell? ⟨w.heap.size, 2, none⟩ = some (.int .i64 s2) ∧ x.cell? ⟨w.heap.size, 3, none⟩ = some (.int .i64 s3) ∧ x.cell? ⟨w.heap.size, 4, none⟩ = some (.int .i64 s4) ∧ x.cell? ⟨w.heap.size, 5, none⟩ = some (.int .i64 s5) ∧ x.cell? ⟨w.heap.size, 6, none⟩ = some (.int .i64 s6) ∧ x.cell? ⟨w.heap.size, 7, none⟩ = some (.int .i64 s7))) (by kernel_rfl) (HC.out _ (Below.drew B1.out)) (fun hS => ?_)
    refine wpAnyH_take (i := 0) (v := .slice ao n cap) rfl (by kernel_rfl) (by kernel_rfl) (by kernel_rfl) (fun _ _ _ h => h) (Or.inl ⟨by first | rfl | go_simp, fun wx hx => by obtain ⟨hx0, hx1, hx2, hx3, hx4, hx5, hx6, hx7⟩ := hx; go_simp⟩) hS ?_
    try simp only [Act.put, List.getElem_toArray, List.getElem_cons_zero, List.getElem_cons_succ, List.setIfInBounds_toArray, List.set_cons_zero, List.set_cons_succ]
    refine wpAnyH_take (i := 2) (v := (.agg #[.int .i64 s0, .int .i64 s1, .int .i64 s2, .int .i64 s3, .int .i64 s4, .int .i64 s5, .int .i64 s6, .int .i64 s7])) rfl (by kernel_rfl) (by kernel_rfl) (by kernel_rfl) (fun _ _ _ h => h) (Or.inl ⟨by first | rfl | go_simp, fun wx hx => by obtain ⟨hx0, hx1, hx2, hx3, hx4, hx5, hx6, hx7⟩ := hx; go_simp⟩) hS ?_
    try simp only [Act.put, List.getElem_toArray, List.getElem_cons_zero, List.getElem_cons_succ, List.setIfInBounds_toArray, List.set_cons_zero, List.set_cons_succ]
    refine wpAnyH_take (i := 4) (v := .int .i64 f) rfl (by kernel_rfl) (by kernel_rfl) (by kernel_rfl) (fun _ _ _ h => h) (Or.inl ⟨by first | rfl | go_simp, fun wx hx => by obtain ⟨hx0, hx1, hx2, hx3, hx4, hx5, hx6, hx7⟩ := hx; go_simp⟩) hS ?_
    try simp only [Act.put, List.getElem_toArray, List.getElem_cons_zero, List.getElem_cons_succ, List.setIfInBounds_toArray, List.set_cons_zero, List.set_cons_succ]
    refine wpAnyH_take (i := 5) (v := .int .i64 t) rfl (by kernel_rfl) (by kernel_rfl) (by kernel_rfl) (fun _ _ _ h => h) (Or.inl ⟨by first | rfl | go_simp, fun wx hx => by obtain ⟨hx0, hx1, hx2, hx3, hx4, hx5, hx6, hx7⟩ := hx; go_simp⟩) hS ?_
    try simp only [Act.put, List.getElem_toArray, List.getElem_cons_zero, List.getElem_cons_succ, List.setIfInBounds_toArray, List.set_cons_zero, List.set_cons_succ]
    refine wpAnyH_ready (rs := [1]) (by kernel_rfl) (by simp) ?_
    refine AllReadyH.cons rfl (fun K hK => ?_) AllReadyH.nil
    rw [if_pos (by first | rfl | go_simp)]
    go_wp2_with fail
    refine (CT.out _ (by first | exact Below.drew B1.out | exact B1.out)).mono ?_
    rintro e w2 ⟨rfl, ho2, hb2⟩
    have B2 : Hid (Below W0.heap.size W0 w2) := hideP (by first | exact below_more B1.out hb2 B1.out.size | exact below_more (Below.drew B1.out) hb2 B1.out.size)
    have O2 := hideP ho2
    clear ho2 hb2
    refine hK.out _ _ (HC.out _ B2.out) (fun hS1 => ?_)
    try simp only [Act.put, List.getElem_toArray, List.getElem_cons_zero, List.getElem_cons_succ, List.setIfInBounds_toArray, List.set_cons_zero, List.set_cons_succ]
    clear hK K
    refine wpAnyH_ready (rs := [3]) (by kernel_rfl) (by simp) ?_
    refine AllReadyH.cons rfl (fun K hK => ?_) AllReadyH.nil
    rw [if_pos (by first | rfl | go_simp)]
    go_wp2_with fail
    refine (SH.out _).mono ?_
    rintro e w2s ⟨rfl, hb2s⟩
    have B2s : Hid (Below W0.heap.size W0 w2s) := hideP (below_more B2.out hb2s B2.out.size)
    have O2s := hideP (own_below O2.out hb2s)
    clear hb2s O2
    refine hK.out _ _ (HC.out _ B2s.out) (fun hS2 => ?_)
    try simp only [Act.put, List.getElem_toArray, List.getElem_cons_zero, List.getElem_cons_succ, List.setIfInBounds_toArray, List.set_cons_zero, List.set_cons_succ]
    clear hK K
    refine wpAnyH_ready (rs := [6]) (by kernel_rfl) (by simp) ?_
    refine AllReadyH.cons rfl (fun K hK => ?_) AllReadyH.nil
    rw [if_pos (by first | rfl | go_simp)]
    go_wp2_with fail
    refine (CS.out _ _ _ O2s.out).mono ?_
    rintro e w3 ⟨⟨u0, rfl, ho3⟩, hb3⟩
    obtain ⟨au, cu, rfl, hu0⟩ := own_shape ho3
    have B3 : Hid (Below W0.heap.size W0 w3) := hideP (below_more B2s.out hb3 B2s.out.size)
    have U3 := hideP ho3
    clear ho3 hb3 O2s hu0
    refine hK.out _ _ (HC.out _ B3.out) (fun hS3 => ?_)
    try simp only [Act.put, List.getElem_toArray, List.getElem_cons_zero, List.getElem_cons_succ, List.setIfInBounds_toArray, List.set_cons_zero, List.set_cons_succ]
    clear hK K
    refine wpAnyH_ready (rs := [7]) (by kernel_rfl) (by simp) ?_
    refine AllReadyH.cons rfl (fun K hK => ?_) AllReadyH.nil
    rw [if_pos (by first | rfl | go_simp)]
    go_simp
    refine hK.out _ _ (HC.out _ B3.out) (fun _ => ?_)
    try simp only [Act.put, List.getElem_toArray, List.getElem_cons_zero, List.getElem_cons_succ, List.setIfInBounds_toArray, List.set_cons_zero, List.set_cons_succ]
    clear hK K
    refine wpAnyH_done (by kernel_rfl) ?_ _
    clear hS hS1 hS2 hS3
    go_wp2_with fail
    refine (CT.out w3 B3.out).mono ?_
    rintro e w4 ⟨rfl, ho4, hb4⟩
    have B4 : Hid (Below W0.heap.size W0 w4) := hideP (below_more B3.out hb4 B3.out.size)
    have X4 := hideP ho4
    have U4 := hideP (own_below U3.out hb4)
    have hlt : w3.heap.size < w4.heap.size := (World.ownsRow.lt ho4 _ rfl).2
    clear ho4 hb4
    obtain ⟨c0, c1, c2, c3, c4, c5, c6, c7⟩ := HC.out w4 B4.out
    go_wp2_with fail
    refine (SH.out _).mono ?_
    rintro e w4s ⟨rfl, hb4s⟩
    have B4s : Hid (Below W0.heap.size W0 w4s) := hideP (below_more B4.out hb4s B4.out.size)
    have X4s := hideP (own_below X4.out hb4s)
    have U4s := hideP (own_below U4.out hb4s)
    have hlt4 : w3.heap.size < w4s.heap.size := Nat.lt_of_lt_of_le hlt hb4s.size
    clear c0 c1 c2 c3 c4 c5 c6 c7 hb4s X4 U4
    go_wp2_with fail
    refine (CI.out _ _ _ X4s.out).mono ?_
    rintro e w5 ⟨⟨g0, rfl, ho5⟩, hb5⟩
    obtain ⟨ag, cg, rfl, hg0⟩ := own_shape ho5
    have B5 : Hid (Below W0.heap.size W0 w5) := hideP (below_more B4s.out hb5 B4s.out.size)
    have G5 := hideP ho5
    have X5 := hideP (own_below X4s.out hb5)
    have U5 := hideP (own_below U4s.out hb5)
    clear ho5 hb5 X4s U4s hg0
    go_wp2_with fail
    refine (CE.out _ _ _ _ _ G5.out U5.out).mono ?_
    rintro e w6 ⟨rfl, hb6⟩
    have B6 : Hid (Below W0.heap.size W0 w6) := hideP (below_more B5.out hb6 B5.out.size)
    have G6 := hideP (own_below G5.out hb6)
    have X6 := hideP (own_below X5.out hb6)
    have U6 := hideP (own_below U5.out hb6)
    clear hb6 G5 X5 U5
    go_wp2_with fail
    refine (CT.out w6 B6.out).mono ?_
    rintro e w7 ⟨rfl, ho7, hb7⟩
    have B7 : Hid (Below W0.heap.size W0 w7) := hideP (below_more B6.out hb7 B6.out.size)
    have Y7 := hideP ho7
    have G7 := hideP (own_below G6.out hb7)
    have X7 := hideP (own_below X6.out hb7)
    have U7 := hideP (own_below U6.out hb7)
    clear hb7 ho7 G6 X6 U6
    go_wp2_with fail
    refine (CQ.out _ _ _ _ _ X7.out Y7.out).mono ?_
    rintro e w8 ⟨rfl, hb8⟩
    have B8 : Hid (Below W0.heap.size W0 w8) := hideP (below_more B7.out hb8 B7.out.size)
    have G8 := hideP (own_below G7.out hb8)
    have X8 := hideP (own_below X7.out hb8)
    have U8 := hideP (own_below U7.out hb8)
    clear hb8 G7 X7 U7 Y7
    go_wp2_with fail
    refine (mark_own (k := 1) X8.out HS.out (by omega) (by omega)).mono ?_
    rintro e w9 ⟨rfl, ho9, hb9, hq9⟩
    have HBU : Hid (∀ b, (Value.slice au r cu).ownBlock = some b → b < w3.heap.size) := hideP (fun b e => (World.ownsRow.lt U3.out b e).2)
    have HBG : Hid (∀ b, (Value.slice ag r cg).ownBlock = some b → w3.heap.size < b) := hideP (fun b e => by have := (World.ownsRow.lt G8.out b e).1; omega)
    have B9 : Hid (Below W0.heap.size W0 w9) := hideP (B8.out.trans (hb9.mono (by have h1 := B3.out.size; have h2 := B8.out.size; omega)))
    have G9 := hideP (own_others G8.out hq9 (fun b e => by have h1 := HBG.out b e; show some w3.heap.size ≠ some b; intro e2; cases e2; omega))
    have U9 := hideP (own_others U8.out hq9 (fun b e => by have h1 := HBU.out b e; show some w3.heap.size ≠ some b; intro e2; cases e2; omega))
    clear hb9 hq9 ho9 G8 U8 X8 U3
    obtain ⟨kz, hkz⟩ : ∃ kz : Int, kz = ((1 + 15 * z : Nat) : Int) := ⟨_, rfl⟩
    rw [← hkz]
    have hkn : ¬ kz < 0 := by omega
    clear hkz
    go_wp2_with fail
    refine (CE.out _ _ _ _ _ G9.out U9.out).mono ?_
    rintro e w10 ⟨rfl, hb10⟩
    have B10 : Hid (Below W0.heap.size W0 w10) := hideP (below_more B9.out hb10 B9.out.size)
    have G10 := hideP (own_below G9.out hb10)
    have U10 := hideP (own_below U9.out hb10)
    clear hb10 G9 U9
    go_wp2_with fail
    refine (mark_own (k := 1) G10.out HI.out (by omega) (by omega)).mono ?_
    rintro e w11 ⟨rfl, ho11, hb11, hq11⟩
    have B11 : Hid (Below W0.heap.size W0 w11) := hideP (B10.out.trans (hb11.mono (by have h1 := B4s.out.size; have h2 := B10.out.size; omega)))
    have G11 := hideP ho11
    have U11 := hideP (own_others U10.out hq11 (fun b e e2 => by have h1 := HBU.out b e; have h2 := HBG.out b e2; omega))
    have CH : Hid (∀ (W : World) (base : Nat), W.ownsRow base 60 15 (.slice ag r cg) r (flatN (marksN 1 r)) → Calls Try.prog 30 #[.slice ag r cg, .int .i64 ((1 : Nat) : Int)] W fun e w' => e = .returned (.int .i64 ((1 + 15 * r : Nat) : Int)) ∧ Below W.heap.size W w') := hideP (fun W base ho => heldNodeS_any (SRow.mono ndStable (own_NRow ho (marksN_len 1 r)) (Nat.zero_le _)) HI.out (by omega) (by omega))
    obtain ⟨kr, hkr⟩ : ∃ kr : Int, kr = ((1 + 15 * r : Nat) : Int) := ⟨_, rfl⟩
    rw [← hkr] at CH
    rw [← hkr]
    have hkn2 : ¬ kr < 0 := by omega
    clear hkr hb11 hq11 ho11 G10 U10
    go_wp2_with fail
    refine (CH.out _ _ G11.out).mono ?_
    rintro e w12 ⟨rfl, hb12⟩
    have B12 : Hid (Below W0.heap.size W0 w12) := hideP (below_more B11.out hb12 B11.out.size)
    have G12 := hideP (own_below G11.out hb12)
    have U12 := hideP (own_below U11.out hb12)
    clear hb12 G11 U11
    go_wp2_with fail
    refine wp_region_held_drew (S := (fun x => x.cell? ⟨w.heap.size, 0, none⟩ = some (.int .i64 s0) ∧ x.cell? ⟨w.heap.size, 1, none⟩ = some (.int .i64 s1) ∧ x.cell? ⟨w.heap.size, 2, none⟩ = some (.int .i64 s2) ∧ x.cell? ⟨w.heap.size, 3, none⟩ = some (.int .i64 s3) ∧ x.cell? ⟨w.heap.size, 4, none⟩ = some (.int .i64 s4) ∧ x.cell? ⟨w.heap.size, 5, none⟩ = some (.int .i64 s5) ∧ x.cell? ⟨w.heap.size, 6, none⟩ = some (.int .i64 s6) ∧ x.cell? ⟨w.heap.size, 7, none⟩ = some (.int .i64 s7))) (by kernel_rfl) (HC.out _ (Below.drew B12.out)) (fun hS => ?_)
    refine wpAnyH_take (i := 0) (v := .slice ao n cap) rfl (by kernel_rfl) (by kernel_rfl) (by kernel_rfl) (fun _ _ _ h => h) (Or.inl ⟨by first | rfl | go_simp, fun wx hx => by obtain ⟨hx0, hx1, hx2, hx3, hx4, hx5, hx6, hx7⟩ := hx; go_simp⟩) hS ?_
    try simp only [Act.put, List.getElem_toArray, List.getElem_cons_zero, List.getElem_cons_succ, List.setIfInBounds_toArray, List.set_cons_zero, List.set_cons_succ]
    refine wpAnyH_take (i := 2) (v := (.agg #[.int .i64 s0, .int .i64 s1, .int .i64 s2, .int .i64 s3, .int .i64 s4, .int .i64 s5, .int .i64 s6, .int .i64 s7])) rfl (by kernel_rfl) (by kernel_rfl) (by kernel_rfl) (fun _ _ _ h => h) (Or.inl ⟨by first | rfl | go_simp, fun wx hx => by obtain ⟨hx0, hx1, hx2, hx3, hx4, hx5, hx6, hx7⟩ := hx; go_simp⟩) hS ?_
    try simp only [Act.put, List.getElem_toArray, List.getElem_cons_zero, List.getElem_cons_succ, List.setIfInBounds_toArray, List.set_cons_zero, List.set_cons_succ]
    refine wpAnyH_take (i := 4) (v := .int .i64 f) rfl (by kernel_rfl) (by kernel_rfl) (by kernel_rfl) (fun _ _ _ h => h) (Or.inl ⟨by first | rfl | go_simp, fun wx hx => by obtain ⟨hx0, hx1, hx2, hx3, hx4, hx5, hx6, hx7⟩ := hx; go_simp⟩) hS ?_
    try simp only [Act.put, List.getElem_toArray, List.getElem_cons_zero, List.getElem_cons_succ, List.setIfInBounds_toArray, List.set_cons_zero, List.set_cons_succ]
    refine wpAnyH_take (i := 5) (v := .int .i64 t) rfl (by kernel_rfl) (by kernel_rfl) (by kernel_rfl) (fun _ _ _ h => h) (Or.inl ⟨by first | rfl | go_simp, fun wx hx => by obtain ⟨hx0, hx1, hx2, hx3, hx4, hx5, hx6, hx7⟩ := hx; go_simp⟩) hS ?_
    try simp only [Act.put, List.getElem_toArray, List.getElem_cons_zero, List.getElem_cons_succ, List.setIfInBounds_toArray, List.set_cons_zero, List.set_cons_succ]
    refine wpAnyH_ready (rs := [1]) (by kernel_rfl) (by simp) ?_
    refine AllReadyH.cons rfl (fun K hK => ?_) AllReadyH.nil
    rw [if_pos (by first | rfl | go_simp)]
    go_wp2_with fail
    refine (CT.out _ (by first | exact Below.drew B12.out | exact B12.out)).mono ?_
    rintro e w13 ⟨rfl, ho13, hb13⟩
    have B13 : Hid (Below W0.heap.size W0 w13) := hideP (by first | exact below_more B12.out hb13 B12.out.size | exact below_more (Below.drew B12.out) hb13 B12.out.size)
    have Y13 := hideP ho13
    have G13 := hideP (by first | exact own_below G12.out hb13 | exact own_below (ownG_below G12.out (Below.drew (Below.refl _ _))) hb13)
    have U13 := hideP (by first | exact own_below U12.out hb13 | exact own_below (ownG_below U12.out (Below.drew (Below.refl _ _))) hb13)
    clear hb13 ho13 G12 U12
    refine hK.out _ _ (HC.out _ B13.out) (fun hS1 => ?_)
    try simp only [Act.put, List.getElem_toArray, List.getElem_cons_zero, List.getElem_cons_succ, List.setIfInBounds_toArray, List.set_cons_zero, List.set_cons_succ]
    clear hK K
    refine wpAnyH_ready (rs := [3]) (by kernel_rfl) (by simp) ?_
    refine AllReadyH.cons rfl (fun K hK => ?_) AllReadyH.nil
    rw [if_pos (by first | rfl | go_simp)]
    go_wp2_with fail
    refine (SH.out _).mono ?_
    rintro e w13s ⟨rfl, hb13s⟩
    have B13s : Hid (Below W0.heap.size W0 w13s) := hideP (below_more B13.out hb13s B13.out.size)
    have Y13s := hideP (own_below Y13.out hb13s)
    have G13s := hideP (own_below G13.out hb13s)
    have U13s := hideP (own_below U13.out hb13s)
    clear hb13s Y13 G13 U13
    refine hK.out _ _ (HC.out _ B13s.out) (fun hS2 => ?_)
    try simp only [Act.put, List.getElem_toArray, List.getElem_cons_zero, List.getElem_cons_succ, List.setIfInBounds_toArray, List.set_cons_zero, List.set_cons_succ]
    clear hK K
    refine wpAnyH_ready (rs := [6]) (by kernel_rfl) (by simp) ?_
    refine AllReadyH.cons rfl (fun K hK => ?_) AllReadyH.nil
    rw [if_pos (by first | rfl | go_simp)]
    go_wp2_with fail
    refine (CI.out _ _ _ Y13s.out).mono ?_
    rintro e w14 ⟨⟨h0, rfl, ho14⟩, hb14⟩
    obtain ⟨ah, ch, rfl, hh0⟩ := own_shape ho14
    have B14 : Hid (Below W0.heap.size W0 w14) := hideP (below_more B13s.out hb14 B13s.out.size)
    have H14 := hideP ho14
    have G14 := hideP (own_below G13s.out hb14)
    have U14 := hideP (own_below U13s.out hb14)
    clear ho14 hb14 hh0 G13s U13s Y13s
    refine hK.out _ _ (HC.out _ B14.out) (fun hS3 => ?_)
    try simp only [Act.put, List.getElem_toArray, List.getElem_cons_zero, List.getElem_cons_succ, List.setIfInBounds_toArray, List.set_cons_zero, List.set_cons_succ]
    clear hK K
    refine wpAnyH_ready (rs := [7]) (by kernel_rfl) (by simp) ?_
    refine AllReadyH.cons rfl (fun K hK => ?_) AllReadyH.nil
    rw [if_pos (by first | rfl | go_simp)]
    go_simp
    refine hK.out _ _ (HC.out _ B14.out) (fun _ => ?_)
    try simp only [Act.put, List.getElem_toArray, List.getElem_cons_zero, List.getElem_cons_succ, List.setIfInBounds_toArray, List.set_cons_zero, List.set_cons_succ]
    clear hK K
    refine wpAnyH_done (by kernel_rfl) ?_ _
    clear hS hS1 hS2 hS3
    go_wp2_with fail
    refine (CE.out _ _ _ _ _ H14.out U14.out).mono ?_
    rintro e w15 ⟨rfl, hb15⟩
    have B15 : Hid (Below W0.heap.size W0 w15) := hideP (below_more B14.out hb15 B14.out.size)
    have G15 := hideP (own_below G14.out hb15)
    clear hb15 G14 U14 H14
    go_wp2_with fail
    refine (CH.out _ _ G15.out).mono ?_
    rintro e w16 ⟨rfl, hb16⟩
    have B16 : Hid (Below W0.heap.size W0 w16) := hideP (below_more B15.out hb16 B15.out.size)
    clear hb16 G15
    go_wp2
    go_ret
    exact ⟨rfl, below_more B0.out B16.out B0.out.size⟩
end Go.Proofs.Ytjagagbelpihbaa

namespace Go.Proofs.Ytjagagbelpihbaa
open Go.ChangeShapes Go.WideShapes Go.ChangeAt Go.RowKit Go.Joins
set_option linter.unusedVariables false
set_option linter.unusedSimpArgs false

theorem cellsSL : Try.prog.cellsOf 49 = 8 := by kernel_rfl
theorem cellsSG : Try.prog.cellsOf 35 = 5 := by kernel_rfl
theorem cellsS2 : Try.prog.cellsOf 2 = 1 := by kernel_rfl
theorem arrayS {α : Type} {cs : Array α} (h : cs.size = 8) : ∃ c0 c1 c2 c3 c4 c5 c6 c7, cs = #[c0, c1, c2, c3, c4, c5, c6, c7] := by
  obtain ⟨l⟩ := cs
  match l, h with
  | [c0, c1, c2, c3, c4, c5, c6, c7], _ => exact ⟨c0, c1, c2, c3, c4, c5, c6, c7, rfl⟩
theorem listS5 {α : Type} {cs : List α} (h : cs.length = 5) : ∃ c0 c1 c2 c3 c4, cs = [c0, c1, c2, c3, c4] := by
  match cs, h with
  | [c0, c1, c2, c3, c4], _ => exact ⟨c0, c1, c2, c3, c4, rfl⟩
theorem listS4 {α : Type} {cs : List α} (h : cs.length = 4) : ∃ c0 c1 c2 c3, cs = [c0, c1, c2, c3] := by
  match cs, h with
  | [c0, c1, c2, c3], _ => exact ⟨c0, c1, c2, c3, rfl⟩
theorem openGlueS {H : Type} {enc : TypeId × Value → H} {w : World} {base : Nat} {spare : Nat → Bool} {held : Bool} {n : Nat} {a b c d e : Value} {y : DataW H × List MemPlace}
    (h : DataW.trod enc Try.prog w base spare held n 35 [a, b, c, d, e] = some y) : ∃ a' b' c' d' e' : Int, a = .int .i64 a' ∧ b = .int .i64 b' ∧ c = .int .i64 c' ∧ d = .int .i64 d' ∧ e = .int .i64 e' := by
  obtain ⟨xs, m, _, _, _, hlen, hfs⟩ := DataW.trod_struct Try.underlying35 h
  obtain ⟨y0, y1, y2, y3, y4, rfl⟩ := listS5 (by simpa using hlen)
  have g0 : DataW.trod enc Try.prog w base spare held m 2 [a] = some y0 := by simpa [Value.cells, cellsS2] using hfs 0 _ rfl
  have g1 : DataW.trod enc Try.prog w base spare held m 2 [b] = some y1 := by simpa [Value.cells, cellsS2] using hfs 1 _ rfl
  have g2 : DataW.trod enc Try.prog w base spare held m 2 [c] = some y2 := by simpa [Value.cells, cellsS2] using hfs 2 _ rfl
  have g3 : DataW.trod enc Try.prog w base spare held m 2 [d] = some y3 := by simpa [Value.cells, cellsS2] using hfs 3 _ rfl
  have g4 : DataW.trod enc Try.prog w base spare held m 2 [e] = some y4 := by simpa [Value.cells, cellsS2] using hfs 4 _ rfl
  obtain ⟨n0, e0, _, _⟩ := DataW.trod_int Try.underlying2 g0
  obtain ⟨n1, e1, _, _⟩ := DataW.trod_int Try.underlying2 g1
  obtain ⟨n2, e2, _, _⟩ := DataW.trod_int Try.underlying2 g2
  obtain ⟨n3, e3, _, _⟩ := DataW.trod_int Try.underlying2 g3
  obtain ⟨n4, e4, _, _⟩ := DataW.trod_int Try.underlying2 g4
  simp at e0 e1 e2 e3 e4
  exact ⟨n0, n1, n2, n3, n4, e0, e1, e2, e3, e4⟩

set_option maxRecDepth 100000 in
theorem openSheet {H : Type} {enc : TypeId × Value → H} {w : World} {base : Nat} {spare : Nat → Bool} {held : Bool} {r : Reach} {b0 : Nat} {v : Value} {d : DataW H} {p : List MemPlace}
    (hv : Value.okWide Try.prog w r b0 49 v) (h : DataW.Trod enc Try.prog w base spare held 49 v d p) : ∃ x : Sh, v = shV x := by
  obtain ⟨cs, rfl, hsz⟩ := okWide_struct Try.underlying49 hv
  obtain ⟨c0, c1, c2, c3, c4, c5, c6, c7, rfl⟩ := arrayS (hsz.trans cellsSL)
  obtain ⟨fuel, hf⟩ := h
  obtain ⟨xs, n, _, _, _, hlen, hfs⟩ := DataW.trod_struct Try.underlying49 hf
  obtain ⟨y0, y1, y2, y3, rfl⟩ := listS4 (by simpa using hlen)
  have g0 : DataW.trod enc Try.prog w base spare held n 2 [c0] = some y0 := by simpa [Value.cells, cellsS2, cellsSG] using hfs 0 _ rfl
  have g1 : DataW.trod enc Try.prog w base spare held n 2 [c1] = some y1 := by simpa [Value.cells, cellsS2, cellsSG] using hfs 1 _ rfl
  have g2 : DataW.trod enc Try.prog w base spare held n 35 [c2, c3, c4, c5, c6] = some y2 := by simpa [Value.cells, cellsS2, cellsSG] using hfs 2 _ rfl
  have g3 : DataW.trod enc Try.prog w base spare held n 2 [c7] = some y3 := by simpa [Value.cells, cellsS2, cellsSG] using hfs 3 _ rfl
  obtain ⟨n0, e0, _, _⟩ := DataW.trod_int Try.underlying2 g0
  obtain ⟨n1, e1, _, _⟩ := DataW.trod_int Try.underlying2 g1
  obtain ⟨n2, n3, n4, n5, n6, e2, e3, e4, e5, e6⟩ := openGlueS g2
  obtain ⟨n7, e7, _, _⟩ := DataW.trod_int Try.underlying2 g3
  simp at e0 e1 e7
  subst e0 e1 e2 e3 e4 e5 e6 e7
  exact ⟨⟨n0, n1, n2, n3, n4, n5, n6, n7⟩, rfl⟩


set_option maxRecDepth 100000 in
theorem pageOf_lifted (os : Os) (started : os.Started) (H : Type) (enc : TypeId × Value → H) :
    ReturnsInHanded {} Try.checked os 7 .any (Rows.fnExactPageOfSpec.pre6 enc Try.prog Try.f7 Rows.fnExactPageOfRow.domain false) (Rows.fnExactPageOfSpec.post enc Try.prog Try.f7 false true false false) := by
  refine returnsInHanded_of_change (C := Try.checked) ownT started (by kernel_rfl) Try.func7
    (ChangeSpec.witness6 (enc := enc) (C := Try.checked) false ⟨#[], #[.slice none 0 0, .agg #[.int .i64 0, .int .i64 0, .int .i64 0, .int .i64 0, .int .i64 0, .int .i64 0, .int .i64 0, .int .i64 0], .int .i64 0, .int .i64 0], []⟩ 8 (by kernel_rfl) (by kernel_rfl) (by kernel_rfl) (by kernel_rfl)) ?_
  intro W base args ds gs before hval0 hW hcnd _
  have hval : ∀ (j : Nat) t v, Try.f7.params[j]? = some t → args[j]? = some v → Value.okWide Try.prog W .any base t v := hval0
  have hW' := hW
  obtain ⟨p, q, hA0, hV, rfl, hfz, hnd⟩ := hW
  have hA : DataW.TrodAll enc Try.prog W 0 (fun _ => true) true Try.f7.params.toList args.toList ds p := hA0
  rw [Try.params7] at hA hval
  obtain ⟨v0, vs0, d0, ds0, p0, q0, hargs, rfl, rfl, h0, r0⟩ := trodAll_cons hA
  obtain ⟨v1, vs1, d1, ds1, p1, q1, rfl, rfl, rfl, h1, r1⟩ := trodAll_cons r0
  obtain ⟨v2, vs2, d2, ds2, p2, q2, rfl, rfl, rfl, h2, r2⟩ := trodAll_cons r1
  obtain ⟨v3, vs3, d3, ds3, p3, q3, rfl, rfl, rfl, h3, r3⟩ := trodAll_cons r2
  obtain ⟨rfl, rfl, rfl⟩ := trodAll_nil r3
  obtain rfl : args = #[v0, v1, v2, v3] := by cases args; simp_all
  obtain ⟨rfl, rfl⟩ := trodVars_none hV
  have k0 := h0
  have k1 := h1
  have k2 := h2
  have k3 := h3
  have lt0 : ∀ x ∈ p0, x.block < W.heap.size := by obtain ⟨m, hm⟩ := k0; exact DataW.trod_lt m _ _ _ hm
  have lt1 : ∀ x ∈ p1, x.block < W.heap.size := by obtain ⟨m, hm⟩ := k1; exact DataW.trod_lt m _ _ _ hm
  have lt2 : ∀ x ∈ p2, x.block < W.heap.size := by obtain ⟨m, hm⟩ := k2; exact DataW.trod_lt m _ _ _ hm
  have lt3 : ∀ x ∈ p3, x.block < W.heap.size := by obtain ⟨m, hm⟩ := k3; exact DataW.trod_lt m _ _ _ hm
  obtain ⟨ao, len, cap, rfl⟩ := okWide_slice Try.underlying22 (hval 0 22 v0 rfl rfl)
  obtain ⟨fuel, hf⟩ := h0
  have hf' : DataW.trod enc Try.prog W 0 (fun _ => true) true fuel 22 [.slice ao len cap] = some (d0, p0) := by simpa [Value.cells] using hf
  obtain ⟨xs, hr, hl, hF⟩ := openSlice (R := NdR) (F := FnN) Nd.none Try.underlying22 cells57 (by omega) (fun fuel cs y ht hl => openNode hl ht) hf'
  obtain ⟨S, rfl⟩ := openSheet (hval 1 49 v1 rfl rfl) h1
  obtain ⟨a2, e2, _⟩ := open_int Try.underlying2 (hval 2 2 v2 rfl rfl) h2
  obtain ⟨a3, e3, _⟩ := open_int Try.underlying2 (hval 3 2 v3 rfl rfl) h3
  subst e2 e3
  clear hA0 hval0
  refine (lawPO_any S a2 a3 hr ⟨hl, hF⟩).mono fun e W' ⟨he, bel⟩ => ?_
  subst he
  exact ⟨_, rfl, _, _, _, [], _, [], hW', trodAll_mk1 (shut_bool Try.underlying4 _), (trodAll_cons_mk (Below.trod laidOut (by kernel_rfl) (of_decide_eq_true (by kernel_rfl)) k0 bel lt0) (trodAll_cons_mk (Below.trod laidOut (by kernel_rfl) (of_decide_eq_true (by kernel_rfl)) k1 bel lt1) (trodAll_cons_mk (Below.trod laidOut (by kernel_rfl) (of_decide_eq_true (by kernel_rfl)) k2 bel lt2) (trodAll_cons_mk (Below.trod laidOut (by kernel_rfl) (of_decide_eq_true (by kernel_rfl)) k3 bel lt3) trodAll_mk0)))), rfl, bel.frame _, fun h => by cases h⟩

theorem pageOf_holds : Rows.FnExactPageOfSaid :=
  OpenClaim.holds_of_wide 7 Try.f7 rfl rfl rfl rfl rfl rfl rfl ⟨rfl, rfl, rfl, rfl, rfl⟩ rfl rfl rfl rfl rfl (by kernel_rfl) Try.func7 (by kernel_rfl)
    (of_decide_eq_true (by kernel_rfl)) (by unfold Func.isWrapper; first | (rw [if_pos (by decide +kernel)]; kernel_rfl) | (rw [if_neg (by decide +kernel)]; exact ⟨rfl, rfl⟩))
    (fun os started H enc _ => pageOf_lifted os started H enc)
#print axioms pageOf_holds
end Go.Proofs.Ytjagagbelpihbaa
