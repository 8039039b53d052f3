import Derived.Test.YtlohbaoigfaneaaGreatItx
import Derived.Test.YtlohbaoigfaneaaGreatBrk
import Derived.Test.YtlohbaoigfaneaaGreatNdo
import Derived.Maps.AppendAt
import Derived.OwnWalk
import Derived.Laws.AppendOwn
import Derived.Test.YtlohbaoigfaneaaGreatNod
import Derived.Laws.Rows
import Derived.Laws.Tables
import Derived.Laws.CopyOwn
import Derived.Test.YtlohbaoigfaneaaGreatPur
import Derived.RangeFuncNested
import Derived.RangeFuncBound
import Derived.RangeFuncCalls
import Derived.RangeFuncLeaves
import Derived.Shelf.Abstract
import Derived.Shelf.RegionOpen
import Derived.WalkKit
import Derived.OwnWalkIn
import Derived.TacticsInMore
import Derived.LoopNIn
import Derived.LoopIn
import Derived.Test.YtlohbaoigfaneaaGreatAdl
import Derived.Laws.OwnMore
namespace Go.Proofs.YtlohbaoigfaneaaGreat
open Go.RowKit Go.Shelf
set_option linter.unusedVariables false
set_option linter.unusedSimpArgs false
theorem Tryz.info25s : (Tryz.prog.info? 31).map (fun i => (i.zero, i.size, i.bytes)) = some (some (.slice none 0 0), 1, 24) := by kernel_rfl
theorem item_done2 {base k m : Nat} {w W w3 w5 : World} {u vc v' : Value} {vs : List Value} {f f' : Nat → List Nd} {it : List Nd} {tmp : Obj}
 (how : W.ownsRow base 31 1 u k vs) (hls : Lsts base W vs f) (hB : Below base w W) (hW : base ≤ W.heap.size)
 (hc : w3.ownsRow W.heap.size 61 15 vc m (flatN it)) (hm : it.length = m) (hb3' : Below W.heap.size W w3)
 (ho5 : w5.ownsRow base 31 1 v' (k + 1) (vs ++ [vc])) (hg5 : (w3.alloc tmp).grownBy w5 u.ownBlock)
 (hf : ∀ i, i < k → f' i = f i) (hfk : f' k = it) :
 Lsts base w5 (vs ++ [vc]) f' ∧ Below base w w5 ∧ ∀ {base' r : Nat} {z : Value} {L : List Value}, W.ownsRow base' 3 1 z r L → w5.ownsRow base' 3 1 z r L := by
 have hlen : vs.length = k := own25_len how
 have how3 : w3.ownsRow base 31 1 u k vs := own25_below how hb3'
 have hbase : ∀ g, u.ownBlock = some g → base ≤ g := fun g hg => (World.ownsRow.lt how g hg).1
 refine ⟨⟨?_, ?_⟩, ?_, ?_⟩
 ·intro i x hx
  by_cases hik : i < k
  ·rw [List.getElem?_append_left (by omega)] at hx
   rw [hf i hik]
   have h1 := own_below (hls.own i x hx) hb3'
   exact World.ownsRow.kept (h1.alloc tmp) hg5 (by
    cases hxb : x.ownBlock with
    | none => exact .inl rfl
    | some g => exact .inr (fun e => other_block how3 h1 g e.symm hxb))
  ·rw [List.getElem?_append_right (by omega)] at hx
   have hi0 : i = k := by
    have := (List.getElem?_eq_some_iff.1 hx).1
    simp at this
    omega
   subst hi0
   obtain rfl : vc = x := by simpa [hlen] using hx
   rw [hfk, hm]
   have h1 : w3.ownsRow base 61 15 vc m (flatN it) := own_mono hc hW
   exact World.ownsRow.kept (h1.alloc tmp) hg5 (by
    cases hxb : vc.ownBlock with
    | none => exact .inl rfl
    | some g => exact .inr (fun e => other_block how3 h1 g e.symm hxb))
 ·intro i j x y hij hx hy q hq
  have hold : ∀ i x, i < k → (vs ++ [vc])[i]? = some x → vs[i]? = some x := fun i x hi h => by rw [List.getElem?_append_left (by omega)] at h; exact h
  have hnew : ∀ i x, ¬ i < k → (vs ++ [vc])[i]? = some x → x = vc ∧ i = k := fun i x hi h => by
   rw [List.getElem?_append_right (by omega)] at h
   have h1 := (List.getElem?_eq_some_iff.1 h).1
   simp at h1
   have hik : i = k := by omega
   subst hik
   refine ⟨?_, rfl⟩
   have : vc = x := by simpa [hlen] using h
   exact this.symm
  by_cases hi : i < k
  ·have hx' := hold i x hi hx
   by_cases hj : j < k
   ·exact hls.apart i j x y hij hx' (hold j y hj hy) q hq
   ·obtain ⟨rfl, _⟩ := hnew j y hj hy
    have h1 := (World.ownsRow.lt (hls.own i x hx') q hq).2
    intro e
    have h2 := (World.ownsRow.lt hc q e).1
    omega
  ·obtain ⟨rfl, hik⟩ := hnew i x hi hx
   by_cases hj : j < k
   ·have hy' := hold j y hj hy
    have h2 := (World.ownsRow.lt hc q hq).1
    intro e
    have h1 := (World.ownsRow.lt (hls.own j y hy') q e).2
    omega
   ·obtain ⟨_, hjk⟩ := hnew j y hj hy
    omega
 ·have h1 : Below base w w3 := hB.trans (hb3'.mono hW)
  exact (h1.alloc (by have := hb3'.size; omega) tmp).grown hg5 (by have := hb3'.size; simp; omega) hbase
 ·intro base' r z L hz
  have h1 : w3.ownsRow base' 3 1 z r L := by
   obtain ⟨hl, h | ⟨g, cap, cur, rfl, hg, hbk, hr⟩⟩ := hz
   ·exact ⟨hl, .inl h⟩
   ·exact ⟨hl, .inr ⟨g, cap, cur, rfl, hg, (hb3'.block g (Array.getElem?_eq_some_iff.1 hbk).1).trans hbk, hr⟩⟩
  refine World.ownsRow.kept (h1.alloc tmp) hg5 ?_
  obtain ⟨_, ⟨rfl, _⟩ | ⟨g, cap, cur, rfl, _, hbk, _⟩⟩ := h1
  ·exact .inl rfl
  ·refine .inr (fun e => ?_)
   obtain ⟨_, ⟨rfl, _⟩ | ⟨g', cap', cur', rfl, _, hbk', _⟩⟩ := how3
   ·simp [Value.ownBlock] at e
   ·simp [Value.ownBlock] at e
    subst e
    rw [hbk] at hbk'
    simp at hbk'
set_option maxRecDepth 100000 in
set_option maxHeartbeats 8000000 in
theorem specItems_any {v : Value} {xs : List Nd} {w : World} (h : NRow 0 w v xs) (hs : xs.length ≤ 1048576) (hcp : ∀ a n c, v = .slice a n c → n ≤ c ∧ c ≤ 9223372036854775807) :
 Calls Tryz.prog 54 #[v] w fun e W' => (∃ u vs, e = .returned u ∧ W'.ownsRow w.heap.size 31 1 u (itemsOf xs).length vs ∧ Lsts w.heap.size W' vs (fun i => (itemsOf xs).getD i [])) ∧ Below w.heap.size w W' := by
 have LC : Hid (∀ W, Below w.heap.size w W → Calls Tryz.prog 53 #[v] W fun e w' => e = .returned (.bool (listB xs)) ∧ Below W.heap.size W w') := hideP (fun W hW => specListOk_any (SRow.below ndStable h hW) hs)
 have SC : Hid (AllOk xs → ∀ W, Below w.heap.size w W → Calls Tryz.prog 87 #[v] W fun e w' => (∃ u, e = .returned u ∧ IR w' W.heap.size u (starts xs (xs.length + 1) 0).length (natI (starts xs (xs.length + 1) 0))) ∧ Below W.heap.size W w') := hideP (fun hA W hW => starts_any (SRow.below ndStable h hW) hA.len hA.weak)
 obtain ⟨ao, n, cap, rfl, hl, hr⟩ := h
 have hcap := hcp _ _ _ rfl
 obtain ⟨hcap1, hcap2⟩ := hcap
 have hnm : n ≤ 1048576 := by rw [← hl]; exact hs
 have HL := hideP hl
 obtain ⟨b, off, hbo⟩ : ∃ b off, 0 < n → ao = some ⟨b, off, none⟩ ∧ b < w.heap.size ∧ ∀ j u, (flatN xs)[j]? = some u → w.cell? ⟨b, off + j, none⟩ = some u := by
  by_cases hn0 : 0 < n
  ·obtain ⟨b, off, e, _, hb, hc⟩ := hr hn0
   exact ⟨b, off, fun _ => ⟨e, hb, row_cells (fun i hi => hc i (by rw [← hl]; exact hi))⟩⟩
  ·exact ⟨0, 0, fun h => absurd h hn0⟩
 have HBO := hideP hbo
 obtain ⟨ob, hob⟩ : ∃ ob, ob = listB xs := ⟨_, rfl⟩
 rw [← hob] at LC
 have HOB := hideP hob
 clear hob hr hl hcp hbo
 go_enter Tryz.func54, Tryz.ntmps54
 go_wp2_with fail
 refine (LC.out _ (below1 _ _)).mono ?_
 rintro e w1 ⟨rfl, hb1⟩
 have B1 : Hid (Below w.heap.size w w1) := hideP (below_more (below1 _ _) hb1 (by simp))
 have q1 : w1.heap[w.heap.size]? = some (.cells #[] 31) := (hb1.block _ (by simp)).trans (World.alloc_heap_new w (.cells #[] 31))
 have HO1 : Hid (w1.ownsRow w.heap.size 31 1 (.slice (some ⟨w.heap.size, 0, none⟩) 0 0) 0 []) := hideP ⟨rfl, .inr ⟨_, _, _, rfl, by omega, q1, by omega, by unfold maxLen; omega, rfl, rfl⟩⟩
 clear hb1 q1
 cases ob with
 | false =>
  have HE : Hid (itemsOf xs = []) := hideP (by unfold itemsOf; rw [if_neg (by rw [← HOB.out]; simp)])
  go_wp2
  go_ret
  refine ⟨⟨_, [], rfl, ?_, ?_⟩, B1.out⟩
  ·rw [HE.out]
   exact HO1.out
  ·exact ⟨fun i u hu => by simp at hu, fun i j u t _ hu => by simp at hu⟩
 | true =>
  have AOK : Hid (AllOk xs) := hideP (allOk HOB.out.symm)
  obtain ⟨Z, hZ⟩ : ∃ Z, Z = starts xs (xs.length + 1) 0 := ⟨_, rfl⟩
  rw [← hZ] at SC
  have HZ := hideP hZ
  obtain ⟨r, hr⟩ : ∃ r, r = Z.length := ⟨_, rfl⟩
  rw [← hr] at SC
  have HRL := hideP hr
  have hr20 : r ≤ 20000 := by
   have h1 := starts_count (xs := xs) (xs.length + 1) 0
   have h2 := AOK.out.len
   rw [← hZ, ← hr] at h1
   omega
  clear hZ hr
  go_wp2_with fail
  refine (SC.out AOK.out _ B1.out).mono ?_
  rintro e w2 ⟨⟨uz, rfl, hI⟩, hb2⟩
  have B2 : Hid (Below w.heap.size w w2) := hideP (below_more B1.out hb2 B1.out.size)
  have HO2 := hideP (own25_below HO1.out hb2)
  obtain ⟨az, cz, rfl, hgz⟩ : ∃ az cz, uz = .slice az r cz ∧ (0 < r → ∃ g, az = some ⟨g, 0, none⟩) := by
   rcases hI.2 with ⟨rfl, h0⟩ | ⟨g, c, cur, rfl, _⟩
   ·exact ⟨none, 0, by rw [h0], fun h => by omega⟩
   ·exact ⟨_, c, rfl, fun _ => ⟨g, rfl⟩⟩
  have HIZ := hideP hI
  have HGZ := hideP hgz
  clear hb2 hI hgz
  go_wp2
  go_loopw [3, 5] (fun s a wr => ∃ (j : Nat) (ua : Option Addr) (uc : Nat) (vs : List Value), a = .int .i64 (j : Int) ∧ j ≤ r ∧ s = .slice ua j uc ∧ Hid (wr.ownsRow w.heap.size 31 1 (.slice ua j uc) j vs ∧ Lsts w.heap.size wr vs (fun i => itemAt xs (Z.getD i 0)) ∧ Below w.heap.size w wr ∧ IR wr w1.heap.size (.slice az r cz) r (natI Z))) (fun _ a _ => r - (intOf a).toNat)
  case atStart => exact ⟨0, _, _, [], rfl, by omega, rfl, hideP ⟨HO2.out, ⟨fun i u hu => by simp at hu, fun i j u t _ hu => by simp at hu⟩, B2.out, HIZ.out⟩⟩
  case round =>
   obtain ⟨j, ua, uc, vs, rfl, hj, rfl, HI⟩ := hrel
   by_cases hjr : j < r
   ·have hji : (j : Int) < (r : Int) := by omega
    obtain ⟨gz, rfl⟩ := HGZ.out (by omega)
    have hzc : wr.cell? ⟨gz, j, none⟩ = some (.int .i64 ((Z.getD j 0 : Nat) : Int)) := natI_at HI.out.2.2.2 HRL.out.symm hjr
    have hat : Z.getD j 0 < xs.length := by
     refine starts_lt xs (xs.length + 1) 0 _ ?_
     rw [← HZ.out]
     have h1 : j < Z.length := by rw [← HRL.out]; exact hjr
     simp [List.getD, List.getElem?_eq_getElem h1]
    obtain ⟨at_, hat_⟩ : ∃ a, a = Z.getD j 0 := ⟨_, rfl⟩
    rw [← hat_] at hzc hat
    have HAT := hideP hat_
    have hatn : at_ < n := by rw [← HL.out]; exact hat
    obtain ⟨rfl, hbw, hcell⟩ := HBO.out (by omega)
    have hkk := AOK.out.kids at_ hat
    have hil := itemAt_len AOK.out hat
    have hn20 : n ≤ 20000 := by rw [← HL.out]; exact AOK.out.len
    rw [HL.out] at hkk
    obtain ⟨x, hx⟩ : ∃ x, x = xs.getD at_ Nd.none := ⟨_, rfl⟩
    have hnc : ∀ q z, q < 15 → x.cells[q]? = some z → wr.cell? ⟨b, off + at_ * 15 + q, none⟩ = some z := by
     intro q z hq hz
     rw [hx] at hz
     have h2 := hcell _ _ (flatN_at xs at_ hat q hq hz)
     rw [show off + at_ * 15 + q = off + (at_ * 15 + q) by omega]
     exact (HI.out.2.2.1.cell (p := ⟨b, off + (at_ * 15 + q), none⟩) hbw).trans h2
    rw [← hx] at hkk hil
    obtain ⟨kd, wd, hh, dp, sh, fo, ch, nn, gs, gp, gpo, gm, gmo, tx, kids⟩ := x
    dsimp only at hkk hil
    obtain ⟨kn, rfl⟩ : ∃ kn : Nat, kids = (kn : Int) := ⟨kids.toNat, by omega⟩
    rw [Int.toNat_natCast] at hil
    have hsum : at_ + 1 + kn ≤ n := by omega
    have hnw : b < wr.heap.size := Nat.lt_of_lt_of_le hbw HI.out.2.2.1.size
    have hzw : gz < wr.heap.size := World.block_lt_of_cell? wr _ hzc
    have hww : w.heap.size ≤ wr.heap.size := HI.out.2.2.1.size
    have g0 : wr.cell? ⟨b, off + at_ * 15, none⟩ = some (.int .i64 kd) := hnc 0 _ (by omega) rfl
    have g1 : wr.cell? ⟨b, off + at_ * 15 + 1, none⟩ = some (.int .i64 wd) := hnc 1 _ (by omega) rfl
    have g2 : wr.cell? ⟨b, off + at_ * 15 + 2, none⟩ = some (.int .i64 hh) := hnc 2 _ (by omega) rfl
    have g3 : wr.cell? ⟨b, off + at_ * 15 + 3, none⟩ = some (.int .i64 dp) := hnc 3 _ (by omega) rfl
    have g4 : wr.cell? ⟨b, off + at_ * 15 + 4, none⟩ = some (.int .i64 sh) := hnc 4 _ (by omega) rfl
    have g5 : wr.cell? ⟨b, off + at_ * 15 + 5, none⟩ = some (.int .i64 fo) := hnc 5 _ (by omega) rfl
    have g6 : wr.cell? ⟨b, off + at_ * 15 + 6, none⟩ = some (.int .i64 ch) := hnc 6 _ (by omega) rfl
    have g7 : wr.cell? ⟨b, off + at_ * 15 + 7, none⟩ = some (.int .i64 nn) := hnc 7 _ (by omega) rfl
    have g8 : wr.cell? ⟨b, off + at_ * 15 + 8, none⟩ = some (.int .i64 gs) := hnc 8 _ (by omega) rfl
    have g9 : wr.cell? ⟨b, off + at_ * 15 + 9, none⟩ = some (.int .i64 gp) := hnc 9 _ (by omega) rfl
    have g10 : wr.cell? ⟨b, off + at_ * 15 + 10, none⟩ = some (.int .i64 gpo) := hnc 10 _ (by omega) rfl
    have g11 : wr.cell? ⟨b, off + at_ * 15 + 11, none⟩ = some (.int .i64 gm) := hnc 11 _ (by omega) rfl
    have g12 : wr.cell? ⟨b, off + at_ * 15 + 12, none⟩ = some (.int .i64 gmo) := hnc 12 _ (by omega) rfl
    have g13 : wr.cell? ⟨b, off + at_ * 15 + 13, none⟩ = some (.string tx) := hnc 13 _ (by omega) rfl
    have g14 : wr.cell? ⟨b, off + at_ * 15 + 14, none⟩ = some (.int .i64 (kn : Int)) := hnc 14 _ (by omega) rfl
    have HCS : Hid (∀ X, Below w.heap.size w X → ∀ q z, (flatN (itemAt xs at_))[q]? = some z → X.cell? ⟨b, off + at_ * 15 + q, none⟩ = some z) := hideP (fun X hX q z hz => (hX.cell (p := ⟨b, off + at_ * 15 + q, none⟩) hbw).trans (itemAt_flat hcell q z hz))
    have HIL := hideP hil
    obtain ⟨i0, hi0, hz0, hz1, hz2⟩ := info_parts Tryz.info25s
    obtain ⟨i1, hi1, hy0, hy1, hy2⟩ := info_parts Tryz.info57c
    clear hkk hil hcell hnc hx hat_
    go_wp2_with fail
    have hzA : (wr.alloc (.cells #[.int .i64 kd, .int .i64 wd, .int .i64 hh, .int .i64 dp, .int .i64 sh, .int .i64 fo, .int .i64 ch, .int .i64 nn, .int .i64 gs, .int .i64 gp, .int .i64 gpo, .int .i64 gm, .int .i64 gmo, .string tx, .int .i64 (kn : Int)] 61)).cell? ⟨gz, j, none⟩ = some (.int .i64 (at_ : Int)) := ((below1 wr _).cell (p := ⟨gz, j, none⟩) hzw).trans hzc
    have hkA : (wr.alloc (.cells #[.int .i64 kd, .int .i64 wd, .int .i64 hh, .int .i64 dp, .int .i64 sh, .int .i64 fo, .int .i64 ch, .int .i64 nn, .int .i64 gs, .int .i64 gp, .int .i64 gpo, .int .i64 gm, .int .i64 gmo, .string tx, .int .i64 (kn : Int)] 61)).cell? ⟨wr.heap.size, 14, none⟩ = some (.int .i64 (kn : Int)) := by simp [go_sem]
    have HWA : Hid ((wr.alloc (.cells #[.int .i64 kd, .int .i64 wd, .int .i64 hh, .int .i64 dp, .int .i64 sh, .int .i64 fo, .int .i64 ch, .int .i64 nn, .int .i64 gs, .int .i64 gp, .int .i64 gpo, .int .i64 gm, .int .i64 gmo, .string tx, .int .i64 (kn : Int)] 61)).ownsRow w.heap.size 31 1 (.slice ua j uc) j vs ∧ Lsts w.heap.size (wr.alloc (.cells #[.int .i64 kd, .int .i64 wd, .int .i64 hh, .int .i64 dp, .int .i64 sh, .int .i64 fo, .int .i64 ch, .int .i64 nn, .int .i64 gs, .int .i64 gp, .int .i64 gpo, .int .i64 gm, .int .i64 gmo, .string tx, .int .i64 (kn : Int)] 61)) vs (fun i => itemAt xs (Z.getD i 0)) ∧ Below w.heap.size w (wr.alloc (.cells #[.int .i64 kd, .int .i64 wd, .int .i64 hh, .int .i64 dp, .int .i64 sh, .int .i64 fo, .int .i64 ch, .int .i64 nn, .int .i64 gs, .int .i64 gp, .int .i64 gpo, .int .i64 gm, .int .i64 gmo, .string tx, .int .i64 (kn : Int)] 61)) ∧ IR (wr.alloc (.cells #[.int .i64 kd, .int .i64 wd, .int .i64 hh, .int .i64 dp, .int .i64 sh, .int .i64 fo, .int .i64 ch, .int .i64 nn, .int .i64 gs, .int .i64 gp, .int .i64 gpo, .int .i64 gm, .int .i64 gmo, .string tx, .int .i64 (kn : Int)] 61)) w1.heap.size (.slice (some ⟨gz, 0, none⟩) r cz) r (natI Z)) := hideP ⟨own25_below HI.out.1 (below1 _ _), HI.out.2.1.below (below1 _ _), HI.out.2.2.1.alloc HI.out.2.2.1.size _, World.ownsRow.alloc HI.out.2.2.2 _⟩
    obtain ⟨Bn, hBn⟩ : ∃ B, B = wr.heap.size := ⟨_, rfl⟩
    have hub : Hid (∀ g, (Value.slice ua j uc).ownBlock = some g → g ≠ Bn) := hideP (fun g hg => by have := (World.ownsRow.lt HI.out.1 g hg).2; omega)
    obtain ⟨WA, hWA⟩ : ∃ WA, wr.alloc (.cells #[.int .i64 kd, .int .i64 wd, .int .i64 hh, .int .i64 dp, .int .i64 sh, .int .i64 fo, .int .i64 ch, .int .i64 nn, .int .i64 gs, .int .i64 gp, .int .i64 gpo, .int .i64 gm, .int .i64 gmo, .string tx, .int .i64 (kn : Int)] 61) = WA := ⟨_, rfl⟩
    have hsA : Hid (WA.heap.size = Bn + 1) := hideP (by rw [← hWA, hBn]; simp)
    rw [hWA] at hzA hkA HWA ⊢
    rw [← hBn] at hkA hww hzw hnw ⊢
    clear hWA hBn HI hzc g0 g1 g2 g3 g4 g5 g6 g7 g8 g9 g10 g11 g12 g13 g14
    refine wp_region_held_drew (S := fun X => X.cell? ⟨gz, j, none⟩ = some (.int .i64 (at_ : Int)) ∧ X.cell? ⟨Bn, 14, none⟩ = some (.int .i64 (kn : Int))) (by kernel_rfl) ⟨hzA, hkA⟩ (fun hS => ?_)
    refine wpAnyH_take (i := 0) (v := .slice ua j uc) rfl (by kernel_rfl) (by kernel_rfl) (by kernel_rfl) (fun _ _ _ h => h) (Or.inl ⟨by first | rfl | go_simp, fun wx hx => by obtain ⟨hx1, hx2⟩ := hx; go_simp⟩) hS ?_
    try simp only [Act.put, List.getElem_toArray, List.getElem_cons_zero, List.getElem_cons_succ, List.setIfInBounds_toArray, List.set_cons_zero, List.set_cons_succ]
    refine wpAnyH_take (i := 2) (v := .slice (some ⟨b, off, none⟩) n cap) rfl (by kernel_rfl) (by kernel_rfl) (by kernel_rfl) (fun _ _ _ h => h) (Or.inl ⟨by first | rfl | go_simp, fun wx hx => by obtain ⟨hx1, hx2⟩ := hx; go_simp⟩) hS ?_
    try simp only [Act.put, List.getElem_toArray, List.getElem_cons_zero, List.getElem_cons_succ, List.setIfInBounds_toArray, List.set_cons_zero, List.set_cons_succ]
    refine wpAnyH_take (i := 3) (v := .slice (some ⟨gz, 0, none⟩) r cz) rfl (by kernel_rfl) (by kernel_rfl) (by kernel_rfl) (fun _ _ _ h => h) (Or.inl ⟨by first | rfl | go_simp, fun wx hx => by obtain ⟨hx1, hx2⟩ := hx; go_simp⟩) hS ?_
    try simp only [Act.put, List.getElem_toArray, List.getElem_cons_zero, List.getElem_cons_succ, List.setIfInBounds_toArray, List.set_cons_zero, List.set_cons_succ]
    refine wpAnyH_take (i := 4) (v := .int .i64 (j : Int)) rfl (by kernel_rfl) (by kernel_rfl) (by kernel_rfl) (fun _ _ _ h => h) (Or.inl ⟨by first | rfl | go_simp, fun wx hx => by obtain ⟨hx1, hx2⟩ := hx; go_simp⟩) hS ?_
    try simp only [Act.put, List.getElem_toArray, List.getElem_cons_zero, List.getElem_cons_succ, List.setIfInBounds_toArray, List.set_cons_zero, List.set_cons_succ]
    refine wpAnyH_take (i := 5) (v := .pointer (some ⟨gz, j, none⟩)) rfl (by kernel_rfl) (by kernel_rfl) (by kernel_rfl) (fun _ _ _ h => h) (Or.inl ⟨by first | rfl | go_simp, fun wx hx => by obtain ⟨hx1, hx2⟩ := hx; go_simp⟩) hS ?_
    try simp only [Act.put, List.getElem_toArray, List.getElem_cons_zero, List.getElem_cons_succ, List.setIfInBounds_toArray, List.set_cons_zero, List.set_cons_succ]
    refine wpAnyH_take (i := 6) (v := .int .i64 (at_ : Int)) rfl (by kernel_rfl) (by kernel_rfl) (by kernel_rfl) (fun _ _ _ h => h) (Or.inl ⟨by first | rfl | go_simp, fun wx hx => by obtain ⟨hx1, hx2⟩ := hx; go_simp⟩) hS ?_
    try simp only [Act.put, List.getElem_toArray, List.getElem_cons_zero, List.getElem_cons_succ, List.setIfInBounds_toArray, List.set_cons_zero, List.set_cons_succ]
    refine wpAnyH_take (i := 7) (v := .slice (some ⟨gz, 0, none⟩) r cz) rfl (by kernel_rfl) (by kernel_rfl) (by kernel_rfl) (fun _ _ _ h => h) (Or.inl ⟨by first | rfl | go_simp, fun wx hx => by obtain ⟨hx1, hx2⟩ := hx; go_simp⟩) hS ?_
    try simp only [Act.put, List.getElem_toArray, List.getElem_cons_zero, List.getElem_cons_succ, List.setIfInBounds_toArray, List.set_cons_zero, List.set_cons_succ]
    refine wpAnyH_take (i := 8) (v := .int .i64 (j : Int)) rfl (by kernel_rfl) (by kernel_rfl) (by kernel_rfl) (fun _ _ _ h => h) (Or.inl ⟨by first | rfl | go_simp, fun wx hx => by obtain ⟨hx1, hx2⟩ := hx; go_simp⟩) hS ?_
    try simp only [Act.put, List.getElem_toArray, List.getElem_cons_zero, List.getElem_cons_succ, List.setIfInBounds_toArray, List.set_cons_zero, List.set_cons_succ]
    refine wpAnyH_take (i := 9) (v := .pointer (some ⟨gz, j, none⟩)) rfl (by kernel_rfl) (by kernel_rfl) (by kernel_rfl) (fun _ _ _ h => h) (Or.inl ⟨by first | rfl | go_simp, fun wx hx => by obtain ⟨hx1, hx2⟩ := hx; go_simp⟩) hS ?_
    try simp only [Act.put, List.getElem_toArray, List.getElem_cons_zero, List.getElem_cons_succ, List.setIfInBounds_toArray, List.set_cons_zero, List.set_cons_succ]
    refine wpAnyH_take (i := 10) (v := .int .i64 (at_ : Int)) rfl (by kernel_rfl) (by kernel_rfl) (by kernel_rfl) (fun _ _ _ h => h) (Or.inl ⟨by first | rfl | go_simp, fun wx hx => by obtain ⟨hx1, hx2⟩ := hx; go_simp⟩) hS ?_
    try simp only [Act.put, List.getElem_toArray, List.getElem_cons_zero, List.getElem_cons_succ, List.setIfInBounds_toArray, List.set_cons_zero, List.set_cons_succ]
    refine wpAnyH_take (i := 11) (v := .int .i64 ((at_ : Int) + 1)) rfl (by kernel_rfl) (by kernel_rfl) (by kernel_rfl) (fun _ _ _ h => h) (Or.inl ⟨by first | rfl | go_simp, fun wx hx => by obtain ⟨hx1, hx2⟩ := hx; go_simp; first | (go_num; done) | (go_bits; done) | (go_bits; trivial)⟩) hS ?_
    try simp only [Act.put, List.getElem_toArray, List.getElem_cons_zero, List.getElem_cons_succ, List.setIfInBounds_toArray, List.set_cons_zero, List.set_cons_succ]
    refine wpAnyH_take (i := 12) (v := .pointer (some ⟨Bn, 14, none⟩)) rfl (by kernel_rfl) (by kernel_rfl) (by kernel_rfl) (fun _ _ _ h => h) (Or.inl ⟨by first | rfl | go_simp, fun wx hx => by obtain ⟨hx1, hx2⟩ := hx; go_simp⟩) hS ?_
    try simp only [Act.put, List.getElem_toArray, List.getElem_cons_zero, List.getElem_cons_succ, List.setIfInBounds_toArray, List.set_cons_zero, List.set_cons_succ]
    refine wpAnyH_take (i := 13) (v := .int .i64 (kn : Int)) rfl (by kernel_rfl) (by kernel_rfl) (by kernel_rfl) (fun _ _ _ h => h) (Or.inl ⟨by first | rfl | go_simp, fun wx hx => by obtain ⟨hx1, hx2⟩ := hx; go_simp⟩) hS ?_
    try simp only [Act.put, List.getElem_toArray, List.getElem_cons_zero, List.getElem_cons_succ, List.setIfInBounds_toArray, List.set_cons_zero, List.set_cons_succ]
    refine wpAnyH_take (i := 14) (v := .int .i64 ((at_ : Int) + 1 + (kn : Int))) rfl (by kernel_rfl) (by kernel_rfl) (by kernel_rfl) (fun _ _ _ h => h) (Or.inl ⟨by first | rfl | go_simp, fun wx hx => by obtain ⟨hx1, hx2⟩ := hx; go_simp; first | (go_num; done) | (go_bits; done) | (go_bits; trivial)⟩) hS ?_
    try simp only [Act.put, List.getElem_toArray, List.getElem_cons_zero, List.getElem_cons_succ, List.setIfInBounds_toArray, List.set_cons_zero, List.set_cons_succ]
    refine wpAnyH_take (i := 15) (v := .slice (some ⟨b, off + at_ * 15, none⟩) (1 + kn) (cap - at_)) rfl (by kernel_rfl) (by kernel_rfl) (by kernel_rfl) (fun _ _ _ h => h) (Or.inl ⟨by first | rfl | go_simp, fun wx hx => by obtain ⟨hx1, hx2⟩ := hx; go_simp; rw [if_pos ⟨by omega, by omega⟩, if_pos (by omega), if_neg (by omega), show ((at_ : Int) + 1 + (kn : Int)).toNat - at_ = 1 + kn by omega]⟩) hS ?_
    try simp only [Act.put, List.getElem_toArray, List.getElem_cons_zero, List.getElem_cons_succ, List.setIfInBounds_toArray, List.set_cons_zero, List.set_cons_succ]
    have hS1 : (WA.drew.alloc (.cells #[] 61)).cell? ⟨gz, j, none⟩ = some (.int .i64 (at_ : Int)) ∧ (WA.drew.alloc (.cells #[] 61)).cell? ⟨Bn, 14, none⟩ = some (.int .i64 (kn : Int)) := ⟨((below1 WA.drew _).cell (p := ⟨gz, j, none⟩) (show gz < WA.heap.size by have := hsA.out; omega)).trans hS.1, ((below1 WA.drew _).cell (p := ⟨Bn, 14, none⟩) (show Bn < WA.heap.size by have := hsA.out; omega)).trans hS.2⟩
    refine wpAnyH_ready (rs := [1]) (by kernel_rfl) (by simp) ?_
    refine AllReadyH.cons rfl (fun K hK => ?_) AllReadyH.nil
    rw [if_pos (by first | rfl | go_simp)]
    go_simp
    refine hK.out _ _ hS1 (fun _ => ?_)
    try simp only [Act.put, List.getElem_toArray, List.getElem_cons_zero, List.getElem_cons_succ, List.setIfInBounds_toArray, List.set_cons_zero, List.set_cons_succ]
    clear hK K
    refine wpAnyH_ready (rs := [16]) (by kernel_rfl) (by simp) ?_
    refine AllReadyH.cons rfl (fun K hK => ?_) AllReadyH.nil
    rw [if_pos (by first | rfl | go_simp)]
    refine wp_append_at _ _ 31 rfl WA.heap.size 61 i1 (ndV Nd.none) 15 128 Tryz.underlying31 hi1 hy0 hy1 hy2 rfl (by decide) (.slice (some ⟨WA.heap.size, 0, none⟩) 0 0) 0 [] rfl (World.ownsRow_lit WA.drew #[] 0 (Nat.le_refl _) (by unfold maxLen; omega) rfl) ⟨b, off + at_ * 15, none⟩ (1 + kn) (cap - at_) (flatN (itemAt xs at_)) rfl (by rw [flatN_len, HIL.out]) (fun q z hz => by have h := HCS.out (WA.alloc (.cells #[] 61)).drew ((HWA.out.2.2.1.alloc (show w.heap.size ≤ WA.heap.size by have := hsA.out; omega) _).drew) q z hz; by_cases hq : q = 0 <;> simp [Addr.add, hq] at h ⊢ <;> exact h) (flatN_one _) (by unfold maxLen; omega) (by omega) (by simp) ?_
    intro v3 w3 ho3 hg3 hnil3 hat3
    rw [List.nil_append, Nat.zero_add] at ho3
    have hb3 : Below WA.heap.size WA w3 := (((Below.refl _ WA).alloc (Nat.le_refl _) _).drew).grown hg3 (by simp) (fun g hg => by simp [Value.ownBlock] at hg; omega)
    obtain ⟨va, vcap, rfl, _⟩ := own_shape ho3
    have hw3 : Bn + 1 ≤ w3.heap.size := by have := hb3.size; have := hsA.out; omega
    have S3 : w3.cell? ⟨gz, j, none⟩ = some (.int .i64 (at_ : Int)) ∧ w3.cell? ⟨Bn, 14, none⟩ = some (.int .i64 (kn : Int)) := ⟨(hb3.cell (p := ⟨gz, j, none⟩) (show gz < WA.heap.size by have := hsA.out; omega)).trans hzA, (hb3.cell (p := ⟨Bn, 14, none⟩) (show Bn < WA.heap.size by have := hsA.out; omega)).trans hkA⟩
    have HC3 := hideP ho3
    have HB3 := hideP hb3
    have HO3 := hideP (own25_below HWA.out.1 hb3)
    clear ho3 hg3 hnil3 hat3 hb3
    refine hK.out _ _ S3 (fun _ => ?_)
    try simp only [Act.put, List.getElem_toArray, List.getElem_cons_zero, List.getElem_cons_succ, List.setIfInBounds_toArray, List.set_cons_zero, List.set_cons_succ]
    clear hK K
    refine wpAnyH_ready (rs := [17]) (by kernel_rfl) (by simp) ?_
    refine AllReadyH.cons rfl (fun K hK => ?_) AllReadyH.nil
    rw [if_pos (by first | rfl | go_simp)]
    go_simp
    have S4 : (w3.alloc (.cells #[.slice va (1 + kn) vcap] 31)).cell? ⟨gz, j, none⟩ = some (.int .i64 (at_ : Int)) ∧ (w3.alloc (.cells #[.slice va (1 + kn) vcap] 31)).cell? ⟨Bn, 14, none⟩ = some (.int .i64 (kn : Int)) := ⟨((below1 w3 _).cell (p := ⟨gz, j, none⟩) (show gz < w3.heap.size by omega)).trans S3.1, ((below1 w3 _).cell (p := ⟨Bn, 14, none⟩) (show Bn < w3.heap.size by omega)).trans S3.2⟩
    refine hK.out _ _ S4 (fun _ => ?_)
    try simp only [Act.put, List.getElem_toArray, List.getElem_cons_zero, List.getElem_cons_succ, List.setIfInBounds_toArray, List.set_cons_zero, List.set_cons_succ]
    clear hK K
    refine wpAnyH_ready (rs := [18]) (by kernel_rfl) (by simp) ?_
    refine AllReadyH.cons rfl (fun K hK => ?_) AllReadyH.nil
    rw [if_pos (by first | rfl | go_simp)]
    refine wp_append_at _ _ 53 rfl w.heap.size 31 i0 (.slice none 0 0) 1 24 Tryz.underlying53 hi0 hz0 hz1 hz2 rfl (by decide) (.slice ua j uc) j vs rfl (HO3.out.alloc _) ⟨w3.heap.size, 0, none⟩ 1 1 [.slice va (1 + kn) vcap] rfl rfl (cell_one_new _ _ _) (by simp [Value.oneCell']) (by unfold maxLen; omega) (by omega) (by simp; omega) ?_
    intro v5 w5 ho5 hg5 hnil5 hat5
    obtain ⟨g5, c5, rfl⟩ := ownsRow_succ ho5
    obtain ⟨d1, d2, d3⟩ := item_done2 HWA.out.1 HWA.out.2.1 HWA.out.2.2.1 (by have := hsA.out; omega) HC3.out HIL.out HB3.out ho5 hg5 (f' := fun i => itemAt xs (Z.getD i 0)) (fun i hi => rfl) (by show itemAt xs (Z.getD j 0) = itemAt xs at_; rw [HAT.out])
    have hIZ5 : IR w5 w1.heap.size (.slice (some ⟨gz, 0, none⟩) r cz) r (natI Z) := d3 HWA.out.2.2.2
    have S5 : w5.cell? ⟨gz, j, none⟩ = some (.int .i64 (at_ : Int)) ∧ w5.cell? ⟨Bn, 14, none⟩ = some (.int .i64 (kn : Int)) := by
     refine ⟨by rw [HAT.out]; exact natI_at hIZ5 HRL.out.symm hjr, ?_⟩
     exact (World.cell?_of_block (w := w3.alloc (.cells #[.slice va (1 + kn) vcap] 31)) (a := ⟨Bn, 14, none⟩) (hg5.block Bn (by simp; omega) (fun e => hub.out Bn e.symm rfl))).trans S4.2
    have H5 : Hid (w5.ownsRow w.heap.size 31 1 (.slice (some ⟨g5, 0, none⟩) (j + 1) c5) (j + 1) (vs ++ [.slice va (1 + kn) vcap]) ∧ Lsts w.heap.size w5 (vs ++ [.slice va (1 + kn) vcap]) (fun i => itemAt xs (Z.getD i 0)) ∧ Below w.heap.size w w5 ∧ IR w5 w1.heap.size (.slice (some ⟨gz, 0, none⟩) r cz) r (natI Z)) := hideP ⟨ho5, d1, d2, hIZ5⟩
    clear d1 d2 d3 hIZ5 ho5 hg5 hnil5 hat5
    refine hK.out _ _ S5 (fun _ => ?_)
    try simp only [Act.put, List.getElem_toArray, List.getElem_cons_zero, List.getElem_cons_succ, List.setIfInBounds_toArray, List.set_cons_zero, List.set_cons_succ]
    clear hK K
    refine wpAnyH_ready (rs := [19]) (by kernel_rfl) (by simp) ?_
    refine AllReadyH.cons rfl (fun K hK => ?_) AllReadyH.nil
    rw [if_pos (by first | rfl | go_simp)]
    go_simp
    refine hK.out _ _ S5 (fun _ => ?_)
    try simp only [Act.put, List.getElem_toArray, List.getElem_cons_zero, List.getElem_cons_succ, List.setIfInBounds_toArray, List.set_cons_zero, List.set_cons_succ]
    clear hK K
    refine wpAnyH_done (by kernel_rfl) ?_ _
    clear hS hS1 S3 S4 S5
    go_wp2
    go_roundw
    case rel => exact ⟨j + 1, _, _, _, by go_num, by omega, rfl, H5⟩
    case measure => simp [intOf]; omega
   ·have hji : ¬ (j : Int) < (r : Int) := by omega
    obtain rfl : j = r := by omega
    have HF : Hid (j = (itemsOf xs).length ∧ ∀ i, i < j → itemAt xs (Z.getD i 0) = (itemsOf xs).getD i []) := hideP (by
     have e1 : itemsOf xs = Z.map (itemAt xs) := by unfold itemsOf; rw [if_pos HOB.out.symm, ← HZ.out]
     rw [e1]
     refine ⟨by rw [List.length_map]; exact HRL.out, fun i hi => ?_⟩
     have h1 : i < Z.length := by rw [← HRL.out]; exact hi
     simp [List.getD, List.getElem?_map, List.getElem?_eq_getElem h1])
    go_wp2
    go_ret
    refine ⟨⟨_, rfl, vs, ?_, ⟨fun i x hx => ?_, HI.out.2.1.apart⟩⟩, HI.out.2.2.1⟩
    ·rw [← HF.out.1]
     exact HI.out.1
    ·have h6 := HI.out.2.1.own i x hx
     have hi : i < j := by rw [← own25_len HI.out.1]; exact (List.getElem?_eq_some_iff.1 hx).1
     rw [HF.out.2 i hi] at h6
     exact h6
end Go.Proofs.YtlohbaoigfaneaaGreat
namespace Go.Proofs.YtlohbaoigfaneaaGreat
open Go.RowKit
set_option linter.unusedVariables false
set_option linter.unusedSimpArgs false
def pbB (ys : List It) (a : Nat) : Bool := if a = ys.length then true else brkB ys a
set_option maxHeartbeats 4000000 in
theorem specDisc_any (x : Nd) (w : World) : Calls Tryz.prog 62 #[ndV x] w fun e w' => e = .returned (.bool (discB x)) ∧ Below w.heap.size w w' := by
 obtain ⟨k, wd, ht, dp, sh, fo, ch, nn, gs, gp, gpo, gm, gmo, tx, kids⟩ := x
 simp only [ndV]
 have HE : Hid (discB ⟨k, wd, ht, dp, sh, fo, ch, nn, gs, gp, gpo, gm, gmo, tx, kids⟩ = (k == 3 || (k == 2 || k == 4))) := hideP rfl
 rw [HE.out]
 clear HE
 by_cases h3 : k = 3
 ·subst h3
  go_enter Tryz.func62, Tryz.ntmps62
  go_wp2
  go_ret
  exact ⟨rfl, below1 _ _⟩
 ·have b3 : (k == 3) = false := by simp [h3]
  rw [b3, Bool.false_or]
  by_cases h2 : k = 2
  ·subst h2
   go_enter Tryz.func62, Tryz.ntmps62
   go_wp2
   go_ret
   exact ⟨rfl, below1 _ _⟩
  ·have b2 : (k == 2) = false := by simp [h2]
   rw [b2, Bool.false_or]
   by_cases h4 : k = 4
   ·subst h4
    go_enter Tryz.func62, Tryz.ntmps62
    go_wp2
    go_ret
    exact ⟨rfl, below1 _ _⟩
   ·have b4 : (k == 4) = false := by simp [h4]
    rw [b4]
    go_enter Tryz.func62, Tryz.ntmps62
    go_wp2
    go_ret
    exact ⟨rfl, below1 _ _⟩
theorem head_cells {w : World} {u : Value} {x : Nd} {rest : List Nd} {lo : Nat} (h : NRow lo w u (x :: rest)) : ∃ b off n cap, u = .slice (some ⟨b, off, none⟩) n cap ∧ 0 < n ∧ b < w.heap.size ∧ ∀ j, j < 15 → w.cell? ⟨b, off + j, none⟩ = x.cells[j]? := by
 obtain ⟨ao, n, cap, rfl, hl, hr⟩ := h
 have hn : 0 < n := by rw [← hl]; simp
 obtain ⟨b, off, rfl, _, hb, hc⟩ := hr hn
 have hc2 := row_cells (fun i hi => hc i (by rw [← hl]; exact hi))
 refine ⟨b, off, n, cap, rfl, hn, hb, fun j hj => ?_⟩
 have h1 := flatN_get (x :: rest) 0 (by simp) j hj
 have e : (x :: rest).getD 0 Nd.none = x := rfl
 rw [e] at h1
 rw [List.getElem?_eq_getElem (show j < x.cells.length from hj)] at h1 ⊢
 have h2 := hc2 _ _ h1
 rw [show off + j = off + (0 * 15 + j) by omega]
 exact h2
structure Heads (lo : Nat) (w : World) (v : Value) (ys : List It) : Prop where
 is : ∃ ao cap, v = .slice ao ys.length cap ∧ (0 < ys.length → ∃ b off, ao = some ⟨b, off, none⟩ ∧ lo ≤ b ∧ b < w.heap.size ∧ ∀ i, i < ys.length → ∃ u rest, w.cell? ⟨b, off + i, none⟩ = some u ∧ NRow lo w u ((ys.getD i It.none).1 :: rest))
theorem Heads.abv {lo : Nat} {w w' : World} {v : Value} {ys : List It} (h : Heads lo w v ys) (ha : Abv lo w w') : Heads lo w' v ys := by
 obtain ⟨ao, cap, rfl, hc⟩ := h.is
 refine ⟨ao, cap, rfl, fun hp => ?_⟩
 obtain ⟨b, off, rfl, hlo, hlt, hcell⟩ := hc hp
 refine ⟨b, off, rfl, hlo, Nat.lt_of_lt_of_le hlt ha.size, fun i hi => ?_⟩
 obtain ⟨u, rest, h1, h2⟩ := hcell i hi
 exact ⟨u, rest, (World.cell?_of_block (w := w) (a := ⟨b, off + i, none⟩) (ha.block b hlo hlt)).trans h1, SRow.abv ndStable h2 ha⟩
theorem wpList_load_row {P : Program} {w : World} {ops : Array Oper} {rest : List Oper} {o : Oper} {a : Act} {Q : Exit → Act → World → Prop} (hgd : o.guard = none) (t : TypeId) (p : Operand) (ho : o.op = Op.load t p) (g : Nat) (hp : a.eval p = .pointer (some ⟨g, 0, none⟩))
 (cs : Array Value) (ty : TypeId) (fr : Nat × Nat) (hg : w.heap[g]? = some (.cells cs ty fr)) (d : TypeDesc) (hu : P.underlying t = some d) (hd : (match d with | .struct _ | .array _ _ => true | _ => false) = true) (hi : (P.info? t).map (·.size) = some cs.size)
 (h : wpList P ops Q rest (a.put o.dst (.agg cs)) w) : wpList P ops Q (o :: rest) a w := by
 refine wpList_plain hgd fun K hK => ?_
 have hr := run_loadVar_row (P := P) w g ty t cs fr d hg hu hd hi
 unfold Oper.wp execOp
 simp only [ho, hp, Instr.loadAt, Instr.sureAddr, Sem.run_bind, Sem.run_pure, Result.andThen_ok, hr]
 exact hK _ _ h
structure Sh where
 ht : Int
 dp : Int
 g0 : Int
 g1 : Int
 g2 : Int
 g3 : Int
 g4 : Int
 nt : Int
abbrev shV (x : Sh) : Value := .agg #[.int .i64 x.ht, .int .i64 x.dp, .int .i64 x.g0, .int .i64 x.g1, .int .i64 x.g2, .int .i64 x.g3, .int .i64 x.g4, .int .i64 x.nt]
def shB (x : Sh) : Bool := uptoB x.ht 1073741823 && uptoB x.dp 1073741823 && uptoB x.nt 1073741823 && glB x.g0 x.g1 x.g2 x.g3 x.g4
end Go.Proofs.YtlohbaoigfaneaaGreat
namespace Go.Proofs.YtlohbaoigfaneaaGreat
open Go.RowKit Go.Shelf
set_option linter.unusedVariables false
set_option linter.unusedSimpArgs false
def marksOf (rs : List Nat) : List Deferred := rs.map (fun r => { target := .collected r, args := #[] })
def Marks (rs : List Nat) (w : World) : Prop := rs.Nodup ∧ ∀ r ∈ rs, w.heap[r]? = some (.deferred (some []))
theorem Marks.below {rs : List Nat} {w w' : World} (h : Marks rs w) (hb : Below w.heap.size w w') : Marks rs w' := ⟨h.1, fun r hr => (hb.block r (Array.getElem?_eq_some_iff.1 (h.2 r hr)).1).trans (h.2 r hr)⟩
def Cells (rs : List Nat) (w w' : World) : Prop := w'.os = w.os ∧ w'.tape = w.tape ∧ w'.output = w.output ∧ w'.heap.size = w.heap.size ∧ ∀ q : Nat, q ∉ rs → w'.heap[q]? = w.heap[q]?
theorem leaves_marks {F : Fence} {n : Nat} {P : Program} {fn : Func} {tmps : Array Value} {R : Ending → World → Prop} : ∀ (rs : List Nat) (w : World), Marks rs w →
 (∀ w', Cells rs w w' → LeavesIn F n P fn tmps R [] .returning w') → LeavesInM F n P fn tmps R (marksOf rs) .returning w
 | [], w, _, h => h w ⟨rfl, rfl, rfl, rfl, fun _ _ => rfl⟩
 | r :: rs, w, hm, h => by
  refine ⟨by simp, .inl ⟨r, _, rfl, run_takeDeferred (hm.2 r (by simp)), ?_⟩⟩
  have hnd := List.nodup_cons.1 hm.1
  have hother : ∀ q, q ≠ r → (w.putObj r (.deferred none)).heap[q]? = w.heap[q]? := fun q hq => by
   simp only [World.putObj]
   exact Array.getElem?_setIfInBounds_ne (Ne.symm hq)
  refine leaves_marks rs _ ⟨hnd.2, fun q hq => ?_⟩ (fun w' hc => h w' ?_)
  ·rw [hother q (fun e => hnd.1 (e ▸ hq))]
   exact hm.2 q (by simp [hq])
  ·refine ⟨hc.1, hc.2.1, hc.2.2.1, ?_, fun q hq => ?_⟩
   ·rw [hc.2.2.2.1]
    first | rfl | simp [World.putObj]
   ·have h1 : q ≠ r ∧ q ∉ rs := by simpa using hq
    rw [hc.2.2.2.2 q h1.2, hother q h1.1]
end Go.Proofs.YtlohbaoigfaneaaGreat
namespace Go.Proofs.YtlohbaoigfaneaaGreat
open Go.RowKit
set_option linter.unusedVariables false
set_option linter.unusedSimpArgs false
theorem wp_make_at {P : Program} {w : World} {o : Oper} {a : Act} {K : Act → World → Prop} {Q : Exit → Act → World → Prop} (l c : Operand) (t : TypeId) (hop : o.op = Op.makeSlice t l c)
 (base : Nat) (e : TypeId) (i : TypeInfo) (z : Value) (size : Nat) (h1 : P.underlying t = some (.slice e)) (h2 : P.info? e = some i) (h3 : i.zero = some z) (h4 : i.size = size)
 (kl kc : IntKind) (L C : Int) (n : Nat) (hl : a.eval l = .int kl L) (hc : a.eval c = .int kc C) (hL : L = (n : Int)) (hC : C = (n : Int)) (b2 : i.bytes * n ≤ 281474976710656) (b3 : n ≤ maxLen) (b4 : base ≤ w.heap.size)
 (hK : ∀ w', w'.ownsRow base e size (.slice (some ⟨w.heap.size, 0, none⟩) n n) n (madeCells z.cells (n * size)).toList → w.grownBy w' none → K (a.put o.dst (.slice (some ⟨w.heap.size, 0, none⟩) n n)) w') : o.wp P a w K Q := by
 obtain ⟨w', hrun, r1, r2⟩ := run_make_full (P := P) w base t e i z size h1 h2 h3 h4 kl kc n b2 b3 b4
 subst hL
 subst hC
 unfold Oper.wp
 simp [execOp, hop, hl, hc, hrun, Result.andThen]
 exact hK w' r1 r2
theorem made_piles (m : Nat) : (madeCells (Value.cells (.agg #[.int .i64 0, .int .i64 0, .int .i64 0, .int .i64 0, .int .i64 0, .int .i64 0, .int .i64 0, .int .i64 0, .int .i64 0, .int .i64 0])) m).toList = (List.replicate m (0 : Int)).map (Value.int .i64) := by
 apply List.ext_getElem
 ·simp [madeCells]
 ·intro i h1 h2
  simp only [madeCells, Value.cells, Array.toList_map, Array.toList_range, List.getElem_map, List.getElem_range, List.getElem_replicate]
  have : i % 10 < 10 := Nat.mod_lt _ (by omega)
  obtain ⟨r, hr⟩ : ∃ r, r = i % 10 := ⟨_, rfl⟩
  show (#[.int .i64 0, .int .i64 0, .int .i64 0, .int .i64 0, .int .i64 0, .int .i64 0, .int .i64 0, .int .i64 0, .int .i64 0, .int .i64 0] : Array Value)[i % 10]! = _
  rw [← hr]
  rw [← hr] at this
  match r, this with
  | 0, _ | 1, _ | 2, _ | 3, _ | 4, _ | 5, _ | 6, _ | 7, _ | 8, _ | 9, _ => rfl
end Go.Proofs.YtlohbaoigfaneaaGreat
