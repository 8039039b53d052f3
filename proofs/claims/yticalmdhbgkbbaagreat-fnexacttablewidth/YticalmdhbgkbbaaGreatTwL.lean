/-
  The specification's TableWidth, and the law of TableWidth.
-/
import Derived.Test.YticalmdhbgkbbaaGreatOpt
import Derived.Test.YticalmdhbgkbbaaGreatMka
import Derived.Test.YticalmdhbgkbbaaGreatSdp
import Derived.Test.YticalmdhbgkbbaaGreatOpn
import Derived.Test.YticalmdhbgkbbaaGreatTrs
import Derived.Test.YticalmdhbgkbbaaGreatWds
import Derived.Deep.RegionHeld3
namespace Go.Proofs.YticalmdhbgkbbaaGreat
open Go.RowKit
set_option linter.unusedVariables false
set_option linter.unusedSimpArgs false

theorem own_NNb {w : World} {base n : Nat} {v : Value} {xs : List Nd} (h : w.ownsRow base 77 15 v n (flatN xs)) (hn : xs.length = n) : NN base w v xs := by
  have hc := own_cap h
  rcases h.2 with ⟨rfl, h0⟩ | ⟨g, cap, cur, rfl, hb, hg, _⟩
  · exact .inl ⟨rfl, List.eq_nil_of_length_eq_zero (by omega)⟩
  · subst hn
    exact .inr ⟨g, 0, cap, rfl, (hc _ _ _ rfl).1, hb, fun _ => (Array.getElem?_eq_some_iff.1 hg).1, fun j u hj => by rw [Nat.zero_add]; exact (own_cell h hj).1⟩
/-- A slice of nodes of a copy. -/
def NNR (lo : Nat) (w : World) (v : Value) (xs : List Nd) : Prop := NRow lo w v xs ∧ NN lo w v xs
theorem NNR.abv {lo : Nat} {w w' : World} {v : Value} {xs : List Nd} (h : NNR lo w v xs) (ha : Abv lo w w') : NNR lo w' v xs := ⟨h.1.abv ndStable ha, h.2.abv ha⟩
theorem NNR.mono {lo lo' : Nat} {w : World} {v : Value} {xs : List Nd} (h : NNR lo w v xs) (hl : lo' ≤ lo) : NNR lo' w v xs := ⟨h.1.mono ndStable hl, h.2.mono hl⟩

set_option maxHeartbeats 2000000 in
theorem toCell_any (x : Cl) {v : Value} {w : World} (h : NRow 0 w v x.ns) (hs : SmC x) :
    Calls Tryz.prog 128 #[clV x v] w fun e w' => ∃ v', e = .returned (clV x v') ∧ NNR w.heap.size w' v' x.ns ∧ Below w.heap.size w w' := by
  obtain ⟨ua, un, uc, rfl⟩ : ∃ a n c, v = .slice a n c := by obtain ⟨a, c, rfl⟩ := h.shape; exact ⟨_, _, _, rfl⟩
  have HC : Hid (∀ (W : World), Below w.heap.size w W → Calls Tryz.prog 11 #[.slice ua un uc] W fun e w' => ∃ v', e = .returned v' ∧ NNR W.heap.size w' v' x.ns ∧ Below W.heap.size W w') := hideP (fun W hW => (toNodeS_own (h.below ndStable hW) hs.1).mono (fun e w' ⟨he, ho, hb⟩ => ⟨_, he, ⟨own_NRow ho rfl, own_NNb ho rfl⟩, hb⟩))
  clear h hs
  obtain ⟨sp, al, ns⟩ := x
  dsimp only at HC ⊢
  go_enter Tryz.func128, Tryz.ntmps128
  go_wp2_with fail
  refine (HC.out _ ?B0).mono ?_
  case B0 => repeat (first | exact below3 _ _ _ _ | refine Below.setCell ?_ (by first | (simp; done) | (simp; omega)) _)
  rintro e w1 ⟨v1, rfl, hp1, hb1⟩
  obtain ⟨a1, n1, c1, rfl⟩ : ∃ a n c, v1 = .slice a n c := by obtain ⟨a, c, rfl⟩ := hp1.1.shape; exact ⟨_, _, _, rfl⟩
  have hz1 : w.heap.size + 1 + 1 < w1.heap.size := by have := hb1.size; simp at this; omega
  have hy1 : w.heap.size + 1 < w1.heap.size := by omega
  have hx1 : w.heap.size < w1.heap.size := by omega
  have BW : Below w.heap.size w w1 := by
    refine below_more ?_ hb1 (by simp; omega)
    repeat (first | exact below3 _ _ _ _ | refine Below.setCell ?_ (by first | (simp; done) | (simp; omega)) _)
  obtain ⟨hc1, hf1⟩ := bcell hb1
  simp only [World.size_alloc, World.size_setCell] at hc1 hf1 hp1
  have P1 : Hid (NNR (w.heap.size + 1 + 1 + 1) w1 (.slice a1 n1 c1) ns) := hp1
  have B1 := hideP BW
  clear hb1 hp1 BW
  go_wp2
  refine bodyPost_ret (v := clV ⟨sp, al, ns⟩ (.slice a1 n1 c1)) (by simp [results, Tryz.results128, go_sem, hc1, hx1, hy1, hz1]) rfl ⟨_, rfl, ?_, ?_⟩
  · exact ((((NNR.abv P1.out (Abv.set (by omega) _)).abv (Abv.set (by omega) _)).abv (Abv.set (by omega) _)).abv (Abv.set (by omega) _)).mono (by omega)
  · exact (((Below.setCell B1.out (by simp; omega) _).setCell (by simp) _).setCell (by simp) _).setCell (by simp) _


theorem Tryz.info103t : (Tryz.prog.info? 103).map (fun i => (i.zero, i.size, i.bytes)) = some (some (.agg #[.int .i64 0, .int .i64 0, .slice none 0 0]), 3, 40) := by kernel_rfl
set_option maxHeartbeats 4000000 in
theorem toCellS_any {v : Value} {xs : List Cl} {w : World} (h : CRow 0 w v xs) (hs : xs.length ≤ 1048576 ∧ ∀ i, i < xs.length → SmC (xs.getD i Cl.none)) :
    Calls Tryz.prog 113 #[v] w fun e w' => ∃ v', e = .returned v' ∧ CRowN w.heap.size w' v' xs ∧ Below w.heap.size w w' := by
  obtain ⟨ao, n, cap, rfl, hn, hr⟩ := h
  have hsz : n ≤ 1048576 := by rw [← hn]; exact hs.1
  have HL : Hid (xs.length = n) := hn
  have HS : Hid (∀ i, i < xs.length → SmC (xs.getD i Cl.none)) := hs.2
  obtain ⟨i0, hi, hz0, hz1, hz2⟩ := info_parts Tryz.info103t
  have HI : Hid (i0.bytes = 40) := hz2
  have HR : Hid (0 < n → ∃ b off, ao = some ⟨b, off, none⟩ ∧ 0 ≤ b ∧ b < w.heap.size ∧ ∀ i, i < n → ∃ cs : List Value, cs.length = 3 ∧ ClR 0 w cs (xs.getD i Cl.none) ∧ ∀ j, j < 3 → w.cell? ⟨b, off + i * 3 + j, none⟩ = cs[j]?) := hr
  clear hr hs hn
  go_enter Tryz.func113, Tryz.ntmps113
  go_wp2_with (first
    | (refine wpList_make_full _ rfl _ _ 92 rfl w.heap.size 103 i0 (.agg #[.int .i64 0, .int .i64 0, .slice none 0 0]) 3 Tryz.underlying92 hi hz0 hz1 _ _ _ _ n rfl rfl rfl rfl (by rw [show i0.bytes = 40 from HI]; omega) (by unfold maxLen; omega) (Nat.le_refl _) ?_; intro w1 hown hgrow))
  have hbel : Below w.heap.size w w1 := Below.grown (Below.refl _ _) hgrow (Nat.le_refl _) (by simp)
  have HO : Hid (SPart 3 ClN Cl.none 103 w1 w.heap.size n 0 xs ∧ Below w.heap.size w w1) := by
    refine ⟨?_, hbel⟩
    rcases hown.2 with ⟨h', _⟩ | ⟨g', cap', cur, h', _, hg, _, _, hcs, _⟩
    · simp at h'
    · simp only [Value.slice.injEq, Option.some.injEq, Addr.mk.injEq, and_true, true_and] at h'
      obtain ⟨rfl, rfl⟩ := h'
      exact SPart.new hg hcs
  clear hown hgrow hbel
  go_wp2
  go_loopw [4] (fun i wr => ∃ k : Nat, k ≤ n ∧ i = .int .i64 k ∧ SPart 3 ClN Cl.none 103 wr w.heap.size n k xs ∧ Below w.heap.size w wr) (fun i _ => n - (intOf i).toNat)
  case atStart => exact ⟨0, by omega, rfl, HO.1, HO.2⟩
  case round =>
    obtain ⟨k, hk, rfl, hp, hbel⟩ := hrel
    by_cases hkn : k < n
    · have hki : (k : Int) < (n : Int) := by omega
      obtain ⟨b, off, rfl, hlo, hb, hc⟩ := HR (by omega)
      obtain ⟨cs, hcl, hRel, hcj⟩ := hc k hkn
      have hsk : SmC (xs.getD k Cl.none) := HS k (by rw [show xs.length = n from HL]; exact hkn)
      obtain ⟨t, ht⟩ : ∃ t, t = xs.getD k Cl.none := ⟨_, rfl⟩
      rw [← ht] at hRel hsk
      obtain ⟨u, hcs, hu⟩ := hRel
      obtain ⟨ua, un, uc, rfl⟩ : ∃ a n c, u = .slice a n c := by obtain ⟨a, c, rfl⟩ := hu.shape; exact ⟨_, _, _, rfl⟩
      have HC : Hid (∀ W : World, Below w.heap.size w W → w.heap.size + 1 ≤ W.heap.size → Calls Tryz.prog 128 #[clV t (.slice ua un uc)] W fun r w' => ∃ a n c, r = .returned (clV t (.slice a n c)) ∧ ClN (w.heap.size + 1) w' ([.int .i64 t.sp, .int .i64 t.al, .slice a n c]) (xs.getD k Cl.none) ∧ Below W.heap.size W w') := hideP (fun W hW hW2 => by
        refine (toCell_any t (hu.below ndStable hW) hsk).mono ?_
        rintro e w' ⟨v', rfl, hv, hb⟩
        obtain ⟨a, n, c, rfl⟩ : ∃ a n c, v' = .slice a n c := by obtain ⟨a, c, rfl⟩ := hv.1.shape; exact ⟨_, _, _, rfl⟩
        exact ⟨a, n, c, rfl, by rw [← ht]; exact (clNStable).mono ⟨_, rfl, hv⟩ hW2, hb⟩)
      clear hu
      obtain ⟨sp, al, ns⟩ := t
      rw [show cs = _ from hcs] at hcj
      dsimp only at hcj HC
      have g0 : wr.cell? ⟨b, off + k * 3, none⟩ = some (.int .i64 sp) := (hbel.cell (p := ⟨b, off + k * 3, none⟩) hb).trans (hcj 0 (by omega))
      have g1 : wr.cell? ⟨b, off + k * 3 + 1, none⟩ = some (.int .i64 al) := (hbel.cell (p := ⟨b, off + k * 3 + 1, none⟩) hb).trans (hcj 1 (by omega))
      have g2 : wr.cell? ⟨b, off + k * 3 + 2, none⟩ = some (.slice ua un uc) := (hbel.cell (p := ⟨b, off + k * 3 + 2, none⟩) hb).trans (hcj 2 (by omega))
      have HB : Hid (Below w.heap.size w wr) := hbel
      have HP : Hid (SPart 3 ClN Cl.none 103 wr w.heap.size n k xs) := hp
      have HW : Hid (w.heap.size + 1 ≤ wr.heap.size) := hideP hp.lt
      clear hc hcj hcl hbel ht hp hcs hsk
      go_wp2_with (go_at_call 128; refine (HC.out _ HB.out HW.out).mono ?_; rintro e w2 ⟨a2, n2, c2, rfl, hn2, hb1⟩; have hp2 := SPart.below clNStable HP hb1; have hfz := hp2.free; obtain ⟨x0, hx0⟩ := hp2.cells (k * 3) (by omega); obtain ⟨x1, hx1⟩ := hp2.cells (k * 3 + 1) (by omega); obtain ⟨x2, hx2⟩ := hp2.cells (k * 3 + 2) (by omega); have hlt2 := hp2.lt; have HN2 := hideP hn2; have HP2 : Hid (SPart 3 ClN Cl.none 103 w2 w.heap.size n k xs ∧ Below w.heap.size w w2) := ⟨hp2, below_more HB hb1 (Below.size HB)⟩; clear hp2 hb1 hn2)
      go_roundw
      case rel => exact ⟨k + 1, by omega, by go_num, SPart.put clNStable HP2.1 hkn (cs := [.int .i64 sp, .int .i64 al, .slice a2 n2 c2]) rfl HN2.out, putC_below (Nat.le_refl _) [.int .i64 sp, .int .i64 al, .slice a2 n2 c2] (k * 3) _ HP2.2⟩
      case measure => simp [intOf]; omega
    · have hki : ¬ (k : Int) < (n : Int) := by omega
      obtain rfl : k = n := by omega
      have HP : Hid (SPart 3 ClN Cl.none 103 wr w.heap.size k k xs ∧ Below w.heap.size w wr) := ⟨hp, hbel⟩
      clear hp hbel
      go_wp2
      go_ret
      exact ⟨_, rfl, SPart.row clNStable HP.1 HL, HP.2⟩

set_option maxHeartbeats 2000000 in
theorem toRow_of (x : Rw) {v : Value} {w : World} (h : CRow 0 w v x.cs) (hC : ∀ (W : World), Below w.heap.size w W → Calls Tryz.prog 113 #[v] W fun e w' => ∃ v', e = .returned v' ∧ CRowN W.heap.size w' v' x.cs ∧ Below W.heap.size W w') :
    Calls Tryz.prog 90 #[rwV x v] w fun e w' => ∃ v', e = .returned (rwV x v') ∧ CRowN w.heap.size w' v' x.cs ∧ Below w.heap.size w w' := by
  obtain ⟨ua, un, uc, rfl⟩ : ∃ a n c, v = .slice a n c := by obtain ⟨a, c, rfl⟩ := h.shape; exact ⟨_, _, _, rfl⟩
  have HC := hideP hC
  clear h hC
  obtain ⟨rcs, ru⟩ := x
  dsimp only at HC ⊢
  go_enter Tryz.func90, Tryz.ntmps90
  go_wp2_with fail
  refine (HC.out _ (below3 _ _ _ _)).mono ?_
  rintro e w1 ⟨v1, rfl, hp1, hb1⟩
  obtain ⟨a1, n1, c1, rfl⟩ : ∃ a n c, v1 = .slice a n c := by obtain ⟨a, c, rfl⟩ := hp1.shape; exact ⟨_, _, _, rfl⟩
  have hz1 : w.heap.size + 1 + 1 < w1.heap.size := by have := hb1.size; simp at this; omega
  have hy1 : w.heap.size + 1 < w1.heap.size := by omega
  have hx1 : w.heap.size < w1.heap.size := by omega
  have BW : Below w.heap.size w w1 := below_more (below3 _ _ _ _) hb1 (by simp; omega)
  obtain ⟨hc1, hf1⟩ := bcell hb1
  simp only [World.size_alloc, World.size_setCell] at hc1 hf1 hp1
  have P1 : Hid (CRowN (w.heap.size + 1 + 1 + 1) w1 (.slice a1 n1 c1) rcs) := hp1
  have B1 := hideP BW
  clear hb1 hp1 BW
  go_wp2
  refine bodyPost_ret (v := rwV ⟨rcs, ru⟩ (.slice a1 n1 c1)) (by simp [results, Tryz.results90, go_sem, hc1, hx1, hy1, hz1]) rfl ⟨_, rfl, ?_, ?_⟩
  · exact (SRow.abv clNStable (SRow.abv clNStable (SRow.abv clNStable (SRow.abv clNStable P1.out (Abv.set (by omega) _)) (Abv.set (by omega) _)) (Abv.set (by omega) _)) (Abv.set (by omega) _)).mono clNStable (by omega)
  · exact (((Below.setCell B1.out (by simp; omega) _).setCell (by simp; omega) _).setCell (by simp) _).setCell (by simp) _

theorem toRow_any (x : Rw) {v : Value} {w : World} (h : CRow 0 w v x.cs) (hs : SmW x) :
    Calls Tryz.prog 90 #[rwV x v] w fun e w' => ∃ v', e = .returned (rwV x v') ∧ CRowN w.heap.size w' v' x.cs ∧ Below w.heap.size w w' :=
  toRow_of x h (fun W hW => toCellS_any (h.below clStable hW) hs)

theorem Tryz.info94t : (Tryz.prog.info? 94).map (fun i => (i.zero, i.size, i.bytes)) = some (some (.agg #[.slice none 0 0, .int .i64 0]), 2, 32) := by kernel_rfl
set_option maxHeartbeats 4000000 in
theorem toRowS_any {v : Value} {xs : List Rw} {w : World} (h : RRow 0 w v xs) (hs : xs.length ≤ 1048576 ∧ ∀ i, i < xs.length → SmW (xs.getD i Rw.none)) :
    Calls Tryz.prog 60 #[v] w fun e w' => ∃ v', e = .returned v' ∧ RRowN w.heap.size w' v' xs ∧ Below w.heap.size w w' := by
  obtain ⟨ao, n, cap, rfl, hn, hr⟩ := h
  have hsz : n ≤ 1048576 := by rw [← hn]; exact hs.1
  have HL : Hid (xs.length = n) := hn
  have HS : Hid (∀ i, i < xs.length → SmW (xs.getD i Rw.none)) := hs.2
  obtain ⟨i0, hi, hz0, hz1, hz2⟩ := info_parts Tryz.info94t
  have HI : Hid (i0.bytes = 32) := hz2
  have HR : Hid (0 < n → ∃ b off, ao = some ⟨b, off, none⟩ ∧ 0 ≤ b ∧ b < w.heap.size ∧ ∀ i, i < n → ∃ cs : List Value, cs.length = 2 ∧ RwR 0 w cs (xs.getD i Rw.none) ∧ ∀ j, j < 2 → w.cell? ⟨b, off + i * 2 + j, none⟩ = cs[j]?) := hr
  clear hr hs hn
  go_enter Tryz.func60, Tryz.ntmps60
  go_wp2_with (first
    | (refine wpList_make_full _ rfl _ _ 51 rfl w.heap.size 94 i0 (.agg #[.slice none 0 0, .int .i64 0]) 2 Tryz.underlying51 hi hz0 hz1 _ _ _ _ n rfl rfl rfl rfl (by rw [show i0.bytes = 32 from HI]; omega) (by unfold maxLen; omega) (Nat.le_refl _) ?_; intro w1 hown hgrow))
  have hbel : Below w.heap.size w w1 := Below.grown (Below.refl _ _) hgrow (Nat.le_refl _) (by simp)
  have HO : Hid (SPart 2 RwN Rw.none 94 w1 w.heap.size n 0 xs ∧ Below w.heap.size w w1) := by
    refine ⟨?_, hbel⟩
    rcases hown.2 with ⟨h', _⟩ | ⟨g', cap', cur, h', _, hg, _, _, hcs, _⟩
    · simp at h'
    · simp only [Value.slice.injEq, Option.some.injEq, Addr.mk.injEq, and_true, true_and] at h'
      obtain ⟨rfl, rfl⟩ := h'
      exact SPart.new hg hcs
  clear hown hgrow hbel
  go_wp2
  go_loopw [4] (fun i wr => ∃ k : Nat, k ≤ n ∧ i = .int .i64 k ∧ SPart 2 RwN Rw.none 94 wr w.heap.size n k xs ∧ Below w.heap.size w wr) (fun i _ => n - (intOf i).toNat)
  case atStart => exact ⟨0, by omega, rfl, HO.1, HO.2⟩
  case round =>
    obtain ⟨k, hk, rfl, hp, hbel⟩ := hrel
    by_cases hkn : k < n
    · have hki : (k : Int) < (n : Int) := by omega
      obtain ⟨b, off, rfl, hlo, hb, hc⟩ := HR (by omega)
      obtain ⟨cs, hcl, hRel, hcj⟩ := hc k hkn
      have hsk : SmW (xs.getD k Rw.none) := HS k (by rw [show xs.length = n from HL]; exact hkn)
      obtain ⟨t, ht⟩ : ∃ t, t = xs.getD k Rw.none := ⟨_, rfl⟩
      rw [← ht] at hRel hsk
      obtain ⟨u, hcs, hu⟩ := hRel
      obtain ⟨ua, un, uc, rfl⟩ : ∃ a n c, u = .slice a n c := by obtain ⟨a, c, rfl⟩ := hu.shape; exact ⟨_, _, _, rfl⟩
      have HC : Hid (∀ W : World, Below w.heap.size w W → w.heap.size + 1 ≤ W.heap.size → Calls Tryz.prog 90 #[rwV t (.slice ua un uc)] W fun r w' => ∃ a n c, r = .returned (rwV t (.slice a n c)) ∧ RwN (w.heap.size + 1) w' ([.slice a n c, .int .i64 t.ru]) (xs.getD k Rw.none) ∧ Below W.heap.size W w') := hideP (fun W hW hW2 => by
        refine (toRow_any t (hu.below clStable hW) hsk).mono ?_
        rintro e w' ⟨v', rfl, hv, hb⟩
        obtain ⟨a, n, c, rfl⟩ : ∃ a n c, v' = .slice a n c := by obtain ⟨a, c, rfl⟩ := hv.shape; exact ⟨_, _, _, rfl⟩
        exact ⟨a, n, c, rfl, by rw [← ht]; exact (rwNStable).mono ⟨_, rfl, hv⟩ hW2, hb⟩)
      clear hu
      obtain ⟨rcs, ru⟩ := t
      rw [show cs = _ from hcs] at hcj
      dsimp only at hcj HC
      have g0 : wr.cell? ⟨b, off + k * 2, none⟩ = some (.slice ua un uc) := (hbel.cell (p := ⟨b, off + k * 2, none⟩) hb).trans (hcj 0 (by omega))
      have g1 : wr.cell? ⟨b, off + k * 2 + 1, none⟩ = some (.int .i64 ru) := (hbel.cell (p := ⟨b, off + k * 2 + 1, none⟩) hb).trans (hcj 1 (by omega))
      have HB : Hid (Below w.heap.size w wr) := hbel
      have HP : Hid (SPart 2 RwN Rw.none 94 wr w.heap.size n k xs) := hp
      have HW : Hid (w.heap.size + 1 ≤ wr.heap.size) := hideP hp.lt
      clear hc hcj hcl hbel ht hp hcs hsk
      go_wp2_with (go_at_call 90; refine (HC.out _ HB.out HW.out).mono ?_; rintro e w2 ⟨a2, n2, c2, rfl, hn2, hb1⟩; have hp2 := SPart.below rwNStable HP hb1; have hfz := hp2.free; obtain ⟨x0, hx0⟩ := hp2.cells (k * 2) (by omega); obtain ⟨x1, hx1⟩ := hp2.cells (k * 2 + 1) (by omega); have hlt2 := hp2.lt; have HN2 := hideP hn2; have HP2 : Hid (SPart 2 RwN Rw.none 94 w2 w.heap.size n k xs ∧ Below w.heap.size w w2) := ⟨hp2, below_more HB hb1 (Below.size HB)⟩; clear hp2 hb1 hn2)
      go_roundw
      case rel => exact ⟨k + 1, by omega, by go_num, SPart.put rwNStable HP2.1 hkn (cs := [.slice a2 n2 c2, .int .i64 ru]) rfl HN2.out, putC_below (Nat.le_refl _) [.slice a2 n2 c2, .int .i64 ru] (k * 2) _ HP2.2⟩
      case measure => simp [intOf]; omega
    · have hki : ¬ (k : Int) < (n : Int) := by omega
      obtain rfl : k = n := by omega
      have HP : Hid (SPart 2 RwN Rw.none 94 wr w.heap.size k k xs ∧ Below w.heap.size w wr) := ⟨hp, hbel⟩
      clear hp hbel
      go_wp2
      go_ret
      exact ⟨_, rfl, SPart.row rwNStable HP.1 HL, HP.2⟩

set_option maxHeartbeats 4000000 in
theorem toTable_any (x : Tb) {v : Value} {w : World} (h : RRow 0 w v x.rs) (hs : SmT x) :
    Calls Tryz.prog 25 #[tbV x v] w fun e w' => ∃ v', e = .returned (tbV x v') ∧ RRowN w.heap.size w' v' x.rs ∧ Below w.heap.size w w' := by
  obtain ⟨ua, un, uc, rfl⟩ : ∃ a n c, v = .slice a n c := by obtain ⟨a, c, rfl⟩ := h.shape; exact ⟨_, _, _, rfl⟩
  have HC : Hid (∀ (W : World), Below w.heap.size w W → Calls Tryz.prog 60 #[.slice ua un uc] W fun e w' => ∃ v', e = .returned v' ∧ RRowN W.heap.size w' v' x.rs ∧ Below W.heap.size W w') := hideP (fun W hW => toRowS_any (h.below rwStable hW) hs)
  clear h hs
  obtain ⟨co, gs, gp, gpo, gm, gmo, rs⟩ := x
  dsimp only at HC ⊢
  go_enter Tryz.func25, Tryz.ntmps25
  go_wp2_with fail
  refine (toGlue_any _ _ _ _ _ _).mono ?_
  rintro e w1 ⟨rfl, hb1⟩
  have hz1 : w.heap.size + 1 + 1 < w1.heap.size := by have := hb1.size; simp at this; omega
  have hy1 : w.heap.size + 1 < w1.heap.size := by omega
  have hx1 : w.heap.size < w1.heap.size := by omega
  have BW : Below w.heap.size w w1 := by
    refine below_more ?_ hb1 (by simp; omega)
    repeat (first | exact below3 _ _ _ _ | refine Below.setCell ?_ (by first | (simp; done) | (simp; omega)) _)
  obtain ⟨hc1, hf1⟩ := bcell hb1
  have B1 := hideP BW
  simp only [World.size_alloc, World.size_setCell] at hc1 hf1
  clear hb1 BW
  go_wp2_with fail
  refine (HC.out _ ?B0).mono ?_
  case B0 =>
    have B2 := B1.out
    clear hc1 hf1 B1 HC
    repeat (first | with_reducible exact B2 | (with_reducible refine Below.setCell ?_ ?_ _; rotate_left; focus (first | (simp; done) | (simp; omega))))
  rintro e w2 ⟨v2, rfl, hp2, hb2⟩
  obtain ⟨a1, n1, c1, rfl⟩ : ∃ a n c, v2 = .slice a n c := by obtain ⟨a, c, rfl⟩ := hp2.shape; exact ⟨_, _, _, rfl⟩
  have hz2 : w.heap.size + 1 + 1 < w2.heap.size := by have := hb2.size; simp at this; omega
  have hy2 : w.heap.size + 1 < w2.heap.size := by omega
  have hx2 : w.heap.size < w2.heap.size := by omega
  have BW : Below w.heap.size w w2 := by
    refine below_more ?_ hb2 (by simp; omega)
    have B2 := B1.out
    clear hc1 hf1 B1 HC
    repeat (first | with_reducible exact B2 | (with_reducible refine Below.setCell ?_ ?_ _; rotate_left; focus (first | (simp; done) | (simp; omega))))
  obtain ⟨hc2, hf2⟩ := bcell hb2
  simp only [World.size_alloc, World.size_setCell] at hc2 hf2 hp2
  have P2 : Hid (RRowN (w.heap.size + 1 + 1 + 1) w2 (.slice a1 n1 c1) rs) := hideP (hp2.mono rwNStable (by omega))
  have B2 := hideP BW
  clear hb2 hp2 BW B1
  go_wp2
  refine bodyPost_ret (v := tbV ⟨co, gs, gp, gpo, gm, gmo, rs⟩ (.slice a1 n1 c1)) (by simp [results, Tryz.results25, go_sem, hc1, hx1, hy1, hz1, hc2, hx2, hy2, hz2]) rfl ⟨_, rfl, ?_, ?_⟩
  · have P3 := P2.out
    clear hc1 hf1 hc2 hf2 P2 HC
    refine SRow.mono rwNStable (lo := w.heap.size + 1 + 1 + 1) ?_ (by omega)
    repeat (first | with_reducible exact P3 | (with_reducible refine SRow.abv rwNStable ?_ (Abv.set ?_ _); rotate_left; focus omega))
  · have B3 := B2.out
    clear hc1 hf1 hc2 hf2 P2 HC
    repeat (first | with_reducible exact B3 | (with_reducible refine Below.setCell ?_ ?_ _; rotate_left; focus (first | (simp; done) | (simp; omega))))
end Go.Proofs.YticalmdhbgkbbaaGreat

namespace Go.Proofs.YticalmdhbgkbbaaGreat
open Go.RowKit
set_option linter.unusedVariables false
set_option linter.unusedSimpArgs false

set_option maxHeartbeats 2000000 in
theorem eqCell_same (x : Cl) {v v' : Value} {w : World} (h : NRow 0 w v x.ns) (h' : NRow 0 w v' x.ns) (hs : SmC x) :
    Calls Tryz.prog 129 #[clV x v, clV x v'] w fun e w' => e = .returned (.bool true) ∧ Below w.heap.size w w' := by
  obtain ⟨ua, un, uc, rfl⟩ : ∃ a n c, v = .slice a n c := by obtain ⟨a, c, rfl⟩ := h.shape; exact ⟨_, _, _, rfl⟩
  obtain ⟨va, vn, vc, rfl⟩ : ∃ a n c, v' = .slice a n c := by obtain ⟨a, c, rfl⟩ := h'.shape; exact ⟨_, _, _, rfl⟩
  have HC : Hid (∀ (W : World), Below w.heap.size w W → Calls Tryz.prog 14 #[.slice ua un uc, .slice va vn vc] W fun e w' => e = .returned (.bool true) ∧ Below W.heap.size W w') := hideP (fun W hW => eqNodeS_same (h.below ndStable hW) (h'.below ndStable hW) hs.1)
  clear h h' hs
  obtain ⟨sp, al, ns⟩ := x
  simp only [clV, rwV, tbV]
  go_enter Tryz.func129, Tryz.ntmps129
  go_wp2_with fail
  refine (HC.out _ (below2 _ _ _)).mono ?_
  rintro e w1 ⟨rfl, hb1⟩
  have hy1 : w.heap.size + 1 < w1.heap.size := by have := hb1.size; simp at this; omega
  have hx1 : w.heap.size < w1.heap.size := by omega
  have B1 : Hid (Below w.heap.size w w1) := hideP (below_more (below2 _ _ _) hb1 (by simp; omega))
  obtain ⟨hc1, hf1⟩ := bcell hb1
  simp only [World.size_alloc, World.size_setCell] at hc1 hf1
  clear hb1
  go_wp2
  go_ret
  exact ⟨rfl, B1⟩

set_option maxHeartbeats 4000000 in
theorem eqCellS_same {v1 v2 : Value} {xs : List Cl} {w : World} (h1 : CRowN 0 w v1 xs) (h2 : CRowN 0 w v2 xs) (hs : xs.length ≤ 1048576 ∧ ∀ i, i < xs.length → SmC (xs.getD i Cl.none)) :
    Calls Tryz.prog 116 #[v1, v2] w fun e w' => e = .returned (.bool true) ∧ Below w.heap.size w w' := by
  obtain ⟨ao1, n1, cap1, rfl, hn1, hr1⟩ := h1
  obtain ⟨ao2, n2, cap2, rfl, hn2, hr2⟩ := h2
  obtain rfl : n1 = n2 := by omega
  have hx : n1 ≤ 1048576 := by rw [← hn1]; exact hs.1
  have HL : Hid (xs.length = n1) := hn1
  have HS : Hid (∀ i, i < xs.length → SmC (xs.getD i Cl.none)) := hs.2
  have HR1 : Hid (0 < n1 → ∃ b off, ao1 = some ⟨b, off, none⟩ ∧ 0 ≤ b ∧ b < w.heap.size ∧ ∀ i, i < n1 → ∃ cs : List Value, cs.length = 3 ∧ ClN 0 w cs (xs.getD i Cl.none) ∧ ∀ j, j < 3 → w.cell? ⟨b, off + i * 3 + j, none⟩ = cs[j]?) := hr1
  have HR2 : Hid (0 < n1 → ∃ b off, ao2 = some ⟨b, off, none⟩ ∧ 0 ≤ b ∧ b < w.heap.size ∧ ∀ i, i < n1 → ∃ cs : List Value, cs.length = 3 ∧ ClN 0 w cs (xs.getD i Cl.none) ∧ ∀ j, j < 3 → w.cell? ⟨b, off + i * 3 + j, none⟩ = cs[j]?) := hr2
  clear hn1 hn2 hr1 hr2 hs
  go_enter Tryz.func116, Tryz.ntmps116
  go_wp2
  go_loopw [5] (fun i wr => ∃ k : Nat, k ≤ n1 ∧ i = .int .i64 k ∧ Below w.heap.size w wr) (fun i _ => n1 - (intOf i).toNat)
  case atStart => exact ⟨0, by omega, rfl, Below.refl _ _⟩
  case round =>
    obtain ⟨k, hk, rfl, hbel⟩ := hrel
    by_cases hkn : k < n1
    · have hki : (k : Int) < (n1 : Int) := by omega
      obtain ⟨b, off, rfl, hlo, hb, hc⟩ := HR1 (by omega)
      obtain ⟨b', off', rfl, hlo', hb', hc'⟩ := HR2 (by omega)
      have hsk : SmC (xs.getD k Cl.none) := HS k (by rw [show xs.length = n1 from HL]; exact hkn)
      obtain ⟨cs, hcl, hRel, hcj⟩ := hc k hkn
      obtain ⟨cs', hcl', hRel', hcj'⟩ := hc' k hkn
      obtain ⟨t, ht⟩ : ∃ t, t = xs.getD k Cl.none := ⟨_, rfl⟩
      rw [← ht] at hRel hRel' hsk
      obtain ⟨u, hcs, hu⟩ := hRel
      obtain ⟨u', hcs', hu'⟩ := hRel'
      obtain ⟨ua, un, uc, rfl⟩ : ∃ a n c, u = .slice a n c := by obtain ⟨a, c, rfl⟩ := hu.1.shape; exact ⟨_, _, _, rfl⟩
      obtain ⟨va, vn, vc, rfl⟩ : ∃ a n c, u' = .slice a n c := by obtain ⟨a, c, rfl⟩ := hu'.1.shape; exact ⟨_, _, _, rfl⟩
      have HC : Hid (∀ W : World, Below w.heap.size w W → Calls Tryz.prog 129 #[clV t (.slice ua un uc), clV t (.slice va vn vc)] W fun r w' => r = .returned (.bool true) ∧ Below W.heap.size W w') := hideP (fun W hW => eqCell_same t (hu.1.below ndStable hW) (hu'.1.below ndStable hW) hsk)
      clear hu hu' hsk
      obtain ⟨sp, al, ns⟩ := t
      rw [show cs = _ from hcs] at hcj
      rw [show cs' = _ from hcs'] at hcj'
      dsimp only at hcj hcj'
      simp only [clV, rwV, tbV] at HC
      have BD : Below w.heap.size w wr.drew := Below.drew hbel
      have QA : Hid (∀ x, Below w.heap.size w x → x.cell? ⟨b, off + k * 3, none⟩ = some (.int .i64 sp) ∧ x.cell? ⟨b, off + k * 3 + 1, none⟩ = some (.int .i64 al) ∧ x.cell? ⟨b, off + k * 3 + 2, none⟩ = some (.slice ua un uc)) := hideP (fun x hx => ⟨(Below.cell hx (p := ⟨b, off + k * 3 + 0, none⟩) hb).trans (hcj 0 (by omega)), (Below.cell hx (p := ⟨b, off + k * 3 + 1, none⟩) hb).trans (hcj 1 (by omega)), (Below.cell hx (p := ⟨b, off + k * 3 + 2, none⟩) hb).trans (hcj 2 (by omega))⟩)
      have QB : Hid (∀ x, Below w.heap.size w x → x.cell? ⟨b', off' + k * 3, none⟩ = some (.int .i64 sp) ∧ x.cell? ⟨b', off' + k * 3 + 1, none⟩ = some (.int .i64 al) ∧ x.cell? ⟨b', off' + k * 3 + 2, none⟩ = some (.slice va vn vc)) := hideP (fun x hx => ⟨(Below.cell hx (p := ⟨b', off' + k * 3 + 0, none⟩) hb').trans (hcj' 0 (by omega)), (Below.cell hx (p := ⟨b', off' + k * 3 + 1, none⟩) hb').trans (hcj' 1 (by omega)), (Below.cell hx (p := ⟨b', off' + k * 3 + 2, none⟩) hb').trans (hcj' 2 (by omega))⟩)
      have HB : Hid (Below w.heap.size w wr) := hbel
      have HBD : Hid (Below w.heap.size w wr.drew) := BD
      clear hc hc' hcl hcl' hcj hcj' hbel ht BD hcs hcs'
      go_wp2_with fail
      go_region_held3 (fun x => (x.cell? ⟨b, off + k * 3, none⟩ = some (.int .i64 sp) ∧ x.cell? ⟨b, off + k * 3 + 1, none⟩ = some (.int .i64 al) ∧ x.cell? ⟨b, off + k * 3 + 2, none⟩ = some (.slice ua un uc)) ∧ (x.cell? ⟨b', off' + k * 3, none⟩ = some (.int .i64 sp) ∧ x.cell? ⟨b', off' + k * 3 + 1, none⟩ = some (.int .i64 al) ∧ x.cell? ⟨b', off' + k * 3 + 2, none⟩ = some (.slice va vn vc))) (first | exact ⟨QA.out _ HBD.out, QB.out _ HBD.out⟩ | exact ⟨QA.out _ ‹Hid (Below w.heap.size w _)›, QB.out _ ‹Hid (Below w.heap.size w _)›⟩) ((go_at_call 129; refine (HC.out _ HBD.out).mono ?_; rintro e w2 ⟨rfl, hb1⟩; have hb2 : Hid (Below w.heap.size w w2) := below_more HBD.out hb1 HBD.out.size; clear hb1))
      all_goals
        go_wp2
        go_roundw
        case rel => exact ⟨k + 1, by omega, by go_num, ‹Hid (Below w.heap.size w w2)›⟩
        case measure => simp [intOf]; omega
    · have hki : ¬ (k : Int) < (n1 : Int) := by omega
      have HB : Hid (Below w.heap.size w wr) := hbel
      clear hbel
      go_wp2
      go_ret
      exact ⟨rfl, HB⟩

set_option maxHeartbeats 2000000 in
theorem eqRow_same (x : Rw) {v v' : Value} {w : World} (h : CRowN 0 w v x.cs) (h' : CRowN 0 w v' x.cs) (hs : SmW x) :
    Calls Tryz.prog 93 #[rwV x v, rwV x v'] w fun e w' => e = .returned (.bool true) ∧ Below w.heap.size w w' := by
  obtain ⟨ua, un, uc, rfl⟩ : ∃ a n c, v = .slice a n c := by obtain ⟨a, c, rfl⟩ := h.shape; exact ⟨_, _, _, rfl⟩
  obtain ⟨va, vn, vc, rfl⟩ : ∃ a n c, v' = .slice a n c := by obtain ⟨a, c, rfl⟩ := h'.shape; exact ⟨_, _, _, rfl⟩
  have HC : Hid (∀ (W : World), Below w.heap.size w W → Calls Tryz.prog 116 #[.slice ua un uc, .slice va vn vc] W fun e w' => e = .returned (.bool true) ∧ Below W.heap.size W w') := hideP (fun W hW => eqCellS_same (h.below clNStable hW) (h'.below clNStable hW) hs)
  clear h h' hs
  obtain ⟨rcs, ru⟩ := x
  simp only [clV, rwV, tbV]
  go_enter Tryz.func93, Tryz.ntmps93
  go_wp2_with fail
  refine (HC.out _ (below2 _ _ _)).mono ?_
  rintro e w1 ⟨rfl, hb1⟩
  have hy1 : w.heap.size + 1 < w1.heap.size := by have := hb1.size; simp at this; omega
  have hx1 : w.heap.size < w1.heap.size := by omega
  have B1 : Hid (Below w.heap.size w w1) := hideP (below_more (below2 _ _ _) hb1 (by simp; omega))
  obtain ⟨hc1, hf1⟩ := bcell hb1
  simp only [World.size_alloc, World.size_setCell] at hc1 hf1
  clear hb1
  go_wp2
  go_ret
  exact ⟨rfl, B1⟩

set_option maxHeartbeats 4000000 in
theorem eqRowS_same {v1 v2 : Value} {xs : List Rw} {w : World} (h1 : RRowN 0 w v1 xs) (h2 : RRowN 0 w v2 xs) (hs : xs.length ≤ 1048576 ∧ ∀ i, i < xs.length → SmW (xs.getD i Rw.none)) :
    Calls Tryz.prog 63 #[v1, v2] w fun e w' => e = .returned (.bool true) ∧ Below w.heap.size w w' := by
  obtain ⟨ao1, n1, cap1, rfl, hn1, hr1⟩ := h1
  obtain ⟨ao2, n2, cap2, rfl, hn2, hr2⟩ := h2
  obtain rfl : n1 = n2 := by omega
  have hx : n1 ≤ 1048576 := by rw [← hn1]; exact hs.1
  have HL : Hid (xs.length = n1) := hn1
  have HS : Hid (∀ i, i < xs.length → SmW (xs.getD i Rw.none)) := hs.2
  have HR1 : Hid (0 < n1 → ∃ b off, ao1 = some ⟨b, off, none⟩ ∧ 0 ≤ b ∧ b < w.heap.size ∧ ∀ i, i < n1 → ∃ cs : List Value, cs.length = 2 ∧ RwN 0 w cs (xs.getD i Rw.none) ∧ ∀ j, j < 2 → w.cell? ⟨b, off + i * 2 + j, none⟩ = cs[j]?) := hr1
  have HR2 : Hid (0 < n1 → ∃ b off, ao2 = some ⟨b, off, none⟩ ∧ 0 ≤ b ∧ b < w.heap.size ∧ ∀ i, i < n1 → ∃ cs : List Value, cs.length = 2 ∧ RwN 0 w cs (xs.getD i Rw.none) ∧ ∀ j, j < 2 → w.cell? ⟨b, off + i * 2 + j, none⟩ = cs[j]?) := hr2
  clear hn1 hn2 hr1 hr2 hs
  go_enter Tryz.func63, Tryz.ntmps63
  go_wp2
  go_loopw [5] (fun i wr => ∃ k : Nat, k ≤ n1 ∧ i = .int .i64 k ∧ Below w.heap.size w wr) (fun i _ => n1 - (intOf i).toNat)
  case atStart => exact ⟨0, by omega, rfl, Below.refl _ _⟩
  case round =>
    obtain ⟨k, hk, rfl, hbel⟩ := hrel
    by_cases hkn : k < n1
    · have hki : (k : Int) < (n1 : Int) := by omega
      obtain ⟨b, off, rfl, hlo, hb, hc⟩ := HR1 (by omega)
      obtain ⟨b', off', rfl, hlo', hb', hc'⟩ := HR2 (by omega)
      have hsk : SmW (xs.getD k Rw.none) := HS k (by rw [show xs.length = n1 from HL]; exact hkn)
      obtain ⟨cs, hcl, hRel, hcj⟩ := hc k hkn
      obtain ⟨cs', hcl', hRel', hcj'⟩ := hc' k hkn
      obtain ⟨t, ht⟩ : ∃ t, t = xs.getD k Rw.none := ⟨_, rfl⟩
      rw [← ht] at hRel hRel' hsk
      obtain ⟨u, hcs, hu⟩ := hRel
      obtain ⟨u', hcs', hu'⟩ := hRel'
      obtain ⟨ua, un, uc, rfl⟩ : ∃ a n c, u = .slice a n c := by obtain ⟨a, c, rfl⟩ := hu.shape; exact ⟨_, _, _, rfl⟩
      obtain ⟨va, vn, vc, rfl⟩ : ∃ a n c, u' = .slice a n c := by obtain ⟨a, c, rfl⟩ := hu'.shape; exact ⟨_, _, _, rfl⟩
      have HC : Hid (∀ W : World, Below w.heap.size w W → Calls Tryz.prog 93 #[rwV t (.slice ua un uc), rwV t (.slice va vn vc)] W fun r w' => r = .returned (.bool true) ∧ Below W.heap.size W w') := hideP (fun W hW => eqRow_same t (hu.below clNStable hW) (hu'.below clNStable hW) hsk)
      clear hu hu' hsk
      obtain ⟨rcs, ru⟩ := t
      rw [show cs = _ from hcs] at hcj
      rw [show cs' = _ from hcs'] at hcj'
      dsimp only at hcj hcj'
      simp only [clV, rwV, tbV] at HC
      have BD : Below w.heap.size w wr.drew := Below.drew hbel
      have QA : Hid (∀ x, Below w.heap.size w x → x.cell? ⟨b, off + k * 2, none⟩ = some (.slice ua un uc) ∧ x.cell? ⟨b, off + k * 2 + 1, none⟩ = some (.int .i64 ru)) := hideP (fun x hx => ⟨(Below.cell hx (p := ⟨b, off + k * 2 + 0, none⟩) hb).trans (hcj 0 (by omega)), (Below.cell hx (p := ⟨b, off + k * 2 + 1, none⟩) hb).trans (hcj 1 (by omega))⟩)
      have QB : Hid (∀ x, Below w.heap.size w x → x.cell? ⟨b', off' + k * 2, none⟩ = some (.slice va vn vc) ∧ x.cell? ⟨b', off' + k * 2 + 1, none⟩ = some (.int .i64 ru)) := hideP (fun x hx => ⟨(Below.cell hx (p := ⟨b', off' + k * 2 + 0, none⟩) hb').trans (hcj' 0 (by omega)), (Below.cell hx (p := ⟨b', off' + k * 2 + 1, none⟩) hb').trans (hcj' 1 (by omega))⟩)
      have HB : Hid (Below w.heap.size w wr) := hbel
      have HBD : Hid (Below w.heap.size w wr.drew) := BD
      clear hc hc' hcl hcl' hcj hcj' hbel ht BD hcs hcs'
      go_wp2_with fail
      go_region_held3 (fun x => (x.cell? ⟨b, off + k * 2, none⟩ = some (.slice ua un uc) ∧ x.cell? ⟨b, off + k * 2 + 1, none⟩ = some (.int .i64 ru)) ∧ (x.cell? ⟨b', off' + k * 2, none⟩ = some (.slice va vn vc) ∧ x.cell? ⟨b', off' + k * 2 + 1, none⟩ = some (.int .i64 ru))) (first | exact ⟨QA.out _ HBD.out, QB.out _ HBD.out⟩ | exact ⟨QA.out _ ‹Hid (Below w.heap.size w _)›, QB.out _ ‹Hid (Below w.heap.size w _)›⟩) ((go_at_call 93; refine (HC.out _ HBD.out).mono ?_; rintro e w2 ⟨rfl, hb1⟩; have hb2 : Hid (Below w.heap.size w w2) := below_more HBD.out hb1 HBD.out.size; clear hb1))
      all_goals
        go_wp2
        go_roundw
        case rel => exact ⟨k + 1, by omega, by go_num, ‹Hid (Below w.heap.size w w2)›⟩
        case measure => simp [intOf]; omega
    · have hki : ¬ (k : Int) < (n1 : Int) := by omega
      have HB : Hid (Below w.heap.size w wr) := hbel
      clear hbel
      go_wp2
      go_ret
      exact ⟨rfl, HB⟩

set_option maxHeartbeats 2000000 in
theorem eqTable_same (x : Tb) {v v' : Value} {w : World} (h : RRowN 0 w v x.rs) (h' : RRowN 0 w v' x.rs) (hs : SmT x) :
    Calls Tryz.prog 27 #[tbV x v, tbV x v'] w fun e w' => e = .returned (.bool true) ∧ Below w.heap.size w w' := by
  obtain ⟨ua, un, uc, rfl⟩ : ∃ a n c, v = .slice a n c := by obtain ⟨a, c, rfl⟩ := h.shape; exact ⟨_, _, _, rfl⟩
  obtain ⟨va, vn, vc, rfl⟩ : ∃ a n c, v' = .slice a n c := by obtain ⟨a, c, rfl⟩ := h'.shape; exact ⟨_, _, _, rfl⟩
  have HC : Hid (∀ (W : World), Below w.heap.size w W → Calls Tryz.prog 63 #[.slice ua un uc, .slice va vn vc] W fun e w' => e = .returned (.bool true) ∧ Below W.heap.size W w') := hideP (fun W hW => eqRowS_same (h.below rwNStable hW) (h'.below rwNStable hW) hs)
  clear h h' hs
  obtain ⟨co, gs, gp, gpo, gm, gmo, rs⟩ := x
  simp only [clV, rwV, tbV]
  go_enter Tryz.func27, Tryz.ntmps27
  go_wp2_with fail
  refine (eqGlue_same _ _ _ _ _ _).mono ?_
  rintro e w0 ⟨rfl, hb0⟩
  have hy0 : w.heap.size + 1 < w0.heap.size := by have := hb0.size; simp at this; omega
  have hx0 : w.heap.size < w0.heap.size := by omega
  have B0 : Hid (Below w.heap.size w w0) := hideP (below_more (below2 _ _ _) hb0 (by simp; omega))
  obtain ⟨hc0, hf0⟩ := bcell hb0
  simp only [World.size_alloc, World.size_setCell] at hc0 hf0
  clear hb0
  go_wp2_with fail
  refine (HC.out _ B0.out).mono ?_
  rintro e w1 ⟨rfl, hb1⟩
  have hy1 : w.heap.size + 1 < w1.heap.size := by have := hb1.size; omega
  have hx1 : w.heap.size < w1.heap.size := by omega
  have B1 : Hid (Below w.heap.size w w1) := hideP (below_more B0.out hb1 B0.out.size)
  obtain ⟨hc1, hf1⟩ := bcell hb1
  clear hc0 hf0 hy0 hx0
  clear hb1
  go_wp2
  go_ret
  exact ⟨rfl, B1⟩
end Go.Proofs.YticalmdhbgkbbaaGreat

namespace Go.Proofs.YticalmdhbgkbbaaGreat
open Go.RowKit
set_option linter.unusedVariables false
set_option linter.unusedSimpArgs false

set_option maxRecDepth 20000 in
set_option maxHeartbeats 4000000 in
theorem specTableWidth_any (x : Tb) {v : Value} {w : World} (h : RRowN 0 w v x.rs) (hs : SmT x) :
    Calls Tryz.prog 34 #[tbV x v] w fun e w' => e = .returned (.int .i64 (twI x)) ∧ Below w.heap.size w w' := by
  obtain ⟨va, vn, vc, rfl⟩ : ∃ a n c, v = .slice a n c := by obtain ⟨a, c, rfl⟩ := h.shape; exact ⟨_, _, _, rfl⟩
  have HC : Hid (∀ W, Below w.heap.size w W → Calls Tryz.prog 28 #[tbV x (.slice va vn vc)] W fun e w' => WidP x (tabB x && colsOk x.gs x.rs x.co.toNat) e W w' ∧ Below W.heap.size W w') := hideP (fun W hW => specWidths_any x (h.below rwNStable hW) hs)
  have HT : Hid (tabB x = true → 1 ≤ x.co ∧ x.co ≤ 20 ∧ (-1073741823 ≤ x.gs ∧ x.gs ≤ 1073741823) ∧ Bd (colsStep x.gs x.rs x.co.toNat)) := hideP (fun hb => by
    obtain ⟨h1, h2, h3, h4, h5⟩ := tabB_parts hb
    exact ⟨h1, h2, h3, colsStep_bd h3 h5 h2 _ (by omega)⟩)
  have HTW : Hid (twI x = if tabB x && colsOk x.gs x.rs x.co.toNat then (if fitsB (acr (colsStep x.gs x.rs x.co.toNat) x.gs 0 (x.co.toNat - 1)) = true then acr (colsStep x.gs x.rs x.co.toNat) x.gs 0 (x.co.toNat - 1) else 0) else 0) := hideP rfl
  obtain ⟨R, hR⟩ : ∃ R, R = twI x := ⟨_, rfl⟩
  rw [← hR] at HTW ⊢
  clear h hs hR
  obtain ⟨T, hT⟩ : ∃ T, T = (tabB x && colsOk x.gs x.rs x.co.toNat) := ⟨_, rfl⟩
  have HT2 : Hid (T = true → 1 ≤ x.co ∧ x.co ≤ 20 ∧ (-1073741823 ≤ x.gs ∧ x.gs ≤ 1073741823) ∧ Bd (colsStep x.gs x.rs x.co.toNat)) := hideP (fun hb => HT.out (by rw [hT, Bool.and_eq_true] at hb; exact hb.1))
  rw [← hT] at HC HTW
  clear hT HT
  obtain ⟨co, gs, gp, gpo, gm, gmo, rs⟩ := x
  simp only [tbV] at HC ⊢
  dsimp only at HT2 HTW
  cases T with
  | false =>
    have hR0 : R = 0 := by rw [HTW.out]; rfl
    subst hR0
    go_enter Tryz.func34, Tryz.ntmps34
    go_wp2_with fail
    refine (HC.out _ (below1 _ _)).mono ?_
    rintro e w1 ⟨⟨g, rfl, _, _⟩, hb1⟩
    have B1 : Hid (Below w.heap.size w w1) := hideP (below_more (below1 _ _) hb1 (by simp))
    clear hb1
    go_wp2
    go_ret
    exact ⟨rfl, B1.out⟩
  | true =>
    obtain ⟨hc1, hc2, hg, hbd⟩ := HT2.out (by first | rfl | trivial)
    obtain ⟨cols, hcols⟩ : ∃ cols : Nat, (cols : Int) = co := ⟨co.toNat, by omega⟩
    subst hcols
    rw [show (cols : Int).toNat = cols by omega] at HTW hbd
    have HG := hideP hg
    have HBD := hideP hbd
    clear hg hbd HT2
    have hcz : ¬ (cols : Int) = 0 := by omega
    go_enter Tryz.func34, Tryz.ntmps34
    go_wp2_with fail
    refine (HC.out _ (below1 _ _)).mono ?_
    rintro e w1 ⟨hwid, hb1⟩
    obtain ⟨g, he, hgs, hA⟩ := hwid
    dsimp only at he hA
    rw [show (cols : Int).toNat = cols by omega] at he hA
    subst he
    have hx1 : w.heap.size < w1.heap.size := by have := hb1.size; simp at this; omega
    have B1 : Hid (Below w.heap.size w w1) := hideP (below_more (below1 _ _) hb1 (by simp))
    have HCA : Hid (Calls Tryz.prog 64 #[.slice (some ⟨g, 0, none⟩) cols cols, .int .i64 gs, .int .i64 0, .int .i64 (cols : Int)] w1 fun e w' => e = .returned (.int .i64 (acr (colsStep gs rs cols) gs 0 (cols - 1))) ∧ w' = w1) := hideP (l12Across_any 0 (cols - 1) hA HBD.out (by omega) (by omega) (by omega) HG.out (cols : Int) (by omega))
    obtain ⟨hcc, hff⟩ := bcell hb1
    simp only [World.size_alloc, World.size_setCell] at hcc hff
    obtain ⟨S, hS⟩ : ∃ S, S = acr (colsStep gs rs cols) gs 0 (cols - 1) := ⟨_, rfl⟩
    rw [← hS] at HCA HTW
    have HFC : Hid (∀ W, Calls Tryz.prog 40 #[.int .i64 S] W fun e w' => e = .returned (.bool (fitsB S)) ∧ w' = W) := hideP (fun W => specFits_any S W)
    have HR2 : Hid (R = if fitsB S = true then S else 0) := hideP (by rw [HTW.out]; rfl)
    clear hS hb1 hA HC HTW
    go_wp2_with fail
    refine HCA.out.mono ?_
    rintro e w2 ⟨rfl, rfl⟩
    cases hfb : fitsB S with
    | true =>
      rw [hfb] at HFC HR2
      have hR0 : R = S := by rw [HR2.out]; rfl
      subst hR0
      go_wp2_with (go_at_call 40; refine (HFC.out _).mono ?_; rintro e w4 ⟨rfl, rfl⟩)
      go_ret
      exact ⟨rfl, B1.out⟩
    | false =>
      rw [hfb] at HFC HR2
      have hR0 : R = 0 := by rw [HR2.out]; rfl
      subst hR0
      go_wp2_with (go_at_call 40; refine (HFC.out _).mono ?_; rintro e w4 ⟨rfl, rfl⟩)
      go_ret
      exact ⟨rfl, B1.out⟩

set_option maxRecDepth 20000 in
set_option maxHeartbeats 8000000 in
theorem lawTableWidth_any (x : Tb) {v : Value} {w : World} (h : RRow 0 w v x.rs) (hf : FnT x) :
    Calls Tryz.prog 8 #[tbV x v] w fun e w' => e = .returned (.bool true) ∧ Below w.heap.size w w' := by
  obtain ⟨va, vn, vc, rfl⟩ : ∃ a n c, v = .slice a n c := by obtain ⟨a, c, rfl⟩ := h.shape; exact ⟨_, _, _, rfl⟩
  obtain ⟨R, hR⟩ : ∃ R, R = twI x := ⟨_, rfl⟩
  have CZ : Hid (∀ W, Below w.heap.size w W → Calls Tryz.prog 23 #[tbV x (.slice va vn vc), .int .i64 1048576] W fun r w' => (∃ m : Int, r = .returned (.int .i64 m) ∧ (0 ≤ m → SmT x)) ∧ Below W.heap.size W w') := hideP (fun W hW => (szTable_any x (h.below rwStable hW) hf (by omega) (by omega)).mono (fun e w' ⟨⟨m, h1, _, h3⟩, h4⟩ => ⟨⟨m, h1, h3⟩, h4⟩))
  have CT : Hid (SmT x → ∀ W, Below w.heap.size w W → Calls Tryz.prog 25 #[tbV x (.slice va vn vc)] W fun e w' => ∃ a n c, e = .returned (tbV x (.slice a n c)) ∧ RRowN 0 w' (.slice a n c) x.rs ∧ Below W.heap.size W w') := hideP (fun hs W hW => (toTable_any x (h.below rwStable hW) hs).mono (fun e w' ⟨v', h1, h2, h3⟩ => by
    obtain ⟨a, c, rfl⟩ := h2.shape
    exact ⟨a, _, c, h1, h2.mono rwNStable (Nat.zero_le _), h3⟩))
  have CS : Hid (SmT x → ∀ u W, RRowN 0 W u x.rs → Calls Tryz.prog 34 #[tbV x u] W fun e w' => e = .returned (.int .i64 R) ∧ Below W.heap.size W w') := hideP (fun hs u W hu => by rw [hR]; exact specTableWidth_any x hu hs)
  have CI : Hid (SmT x → ∀ u W, RRowN 0 W u x.rs → Calls Tryz.prog 35 #[tbV x u] W fun e w' => e = .returned (.int .i64 R) ∧ Below W.heap.size W w') := hideP (fun hs u W hu => by rw [hR]; exact implTableWidth_any x hu hs)
  have CE : Hid (SmT x → ∀ u u' W, RRowN 0 W u x.rs → RRowN 0 W u' x.rs → Calls Tryz.prog 27 #[tbV x u, tbV x u'] W fun e w' => e = .returned (.bool true) ∧ Below W.heap.size W w') := hideP (fun hs u u' W h1 h2 => eqTable_same x h1 h2 hs)
  obtain ⟨SM, hSM⟩ : ∃ SM : Prop, SM = SmT x := ⟨_, rfl⟩
  rw [← hSM] at CZ CT CS CI CE
  obtain ⟨RN, hRN⟩ : ∃ RN : World → Value → Prop, RN = fun W u => RRowN 0 W u x.rs := ⟨_, rfl⟩
  have CT2 : Hid (SM → ∀ W, Below w.heap.size w W → Calls Tryz.prog 25 #[tbV x (.slice va vn vc)] W fun e w' => ∃ a n c, e = .returned (tbV x (.slice a n c)) ∧ RN w' (.slice a n c) ∧ Below W.heap.size W w') := by rw [hRN]; exact CT
  have CS2 : Hid (SM → ∀ u W, RN W u → Calls Tryz.prog 34 #[tbV x u] W fun e w' => e = .returned (.int .i64 R) ∧ Below W.heap.size W w') := by rw [hRN]; exact CS
  have CI2 : Hid (SM → ∀ u W, RN W u → Calls Tryz.prog 35 #[tbV x u] W fun e w' => e = .returned (.int .i64 R) ∧ Below W.heap.size W w') := by rw [hRN]; exact CI
  have CE2 : Hid (SM → ∀ u u' W, RN W u → RN W u' → Calls Tryz.prog 27 #[tbV x u, tbV x u'] W fun e w' => e = .returned (.bool true) ∧ Below W.heap.size W w') := by rw [hRN]; exact CE
  have RB : Hid (∀ u W W', RN W u → Below W.heap.size W W' → RN W' u) := hideP (by rw [hRN]; exact fun u W W' h hb => SRow.below rwNStable h hb)
  clear h hf hR CT CS CI CE hSM hRN
  obtain ⟨co, gs, gp, gpo, gm, gmo, rs⟩ := x
  simp only [tbV] at CZ CT2 CS2 CI2 CE2 ⊢
  go_enter Tryz.func8, Tryz.ntmps8
  go_wp2_with fail
  refine (CZ.out _ (below1 _ _)).mono ?_
  rintro e w1 ⟨⟨m, rfl, hm⟩, hb1⟩
  have B1 : Hid (Below w.heap.size w w1) := hideP (below_more (below1 _ _) hb1 (by simp))
  have P1 : Hid (w1.heap[w.heap.size]? = some (.cells #[.int .i64 co, .int .i64 gs, .int .i64 gp, .int .i64 gpo, .int .i64 gm, .int .i64 gmo, .slice va vn vc] 47 (0, 0))) := hideP ((hb1.block _ (by simp)).trans (heap_alloc_new w _))
  have HM := hideP hm
  clear hb1 hm
  by_cases hneg : m < 0
  · go_wp2
    go_ret
    exact ⟨rfl, B1.out⟩
  · have HS : Hid SM := hideP (HM.out (by omega))
    clear HM CZ
    have QX : Hid (∀ X : World, X.heap[w.heap.size]? = some (.cells #[.int .i64 co, .int .i64 gs, .int .i64 gp, .int .i64 gpo, .int .i64 gm, .int .i64 gmo, .slice va vn vc] 47 (0, 0)) → w.heap.size < X.heap.size ∧ X.cell? ⟨w.heap.size, 0, none⟩ = some (.int .i64 co) ∧ X.cell? ⟨w.heap.size, 1, none⟩ = some (.int .i64 gs) ∧ X.cell? ⟨w.heap.size, 2, none⟩ = some (.int .i64 gp) ∧ X.cell? ⟨w.heap.size, 3, none⟩ = some (.int .i64 gpo) ∧ X.cell? ⟨w.heap.size, 4, none⟩ = some (.int .i64 gm) ∧ X.cell? ⟨w.heap.size, 5, none⟩ = some (.int .i64 gmo) ∧ X.cell? ⟨w.heap.size, 6, none⟩ = some (.slice va vn vc)) := hideP (fun X hX => ⟨(Array.getElem?_eq_some_iff.1 hX).1, cell_of_row _ _ 0 _ 47 _ hX, cell_of_row _ _ 1 _ 47 _ hX, cell_of_row _ _ 2 _ 47 _ hX, cell_of_row _ _ 3 _ 47 _ hX, cell_of_row _ _ 4 _ 47 _ hX, cell_of_row _ _ 5 _ 47 _ hX, cell_of_row _ _ 6 _ 47 _ hX⟩)
    obtain ⟨l1, c0, c1, c2, c3, c4, c5, c6⟩ := QX.out _ P1.out
    go_wp2_with fail
    refine (CT2.out HS.out _ B1.out).mono ?_
    rintro e w2 ⟨a2, n2, d2, rfl, hr2, hb2⟩
    have B2 : Hid (Below w.heap.size w w2) := hideP (below_more B1.out hb2 B1.out.size)
    have P2 := hideP ((hb2.block _ (Array.getElem?_eq_some_iff.1 P1.out).1).trans P1.out)
    have R2 := hideP hr2
    clear hb2 hr2 l1 c0 c1 c2 c3 c4 c5 c6 P1
    go_wp2_with fail
    refine (CS2.out HS.out _ _ R2.out).mono ?_
    rintro e w3 ⟨rfl, hb3⟩
    have B3 : Hid (Below w.heap.size w w3) := hideP (below_more B2.out hb3 B2.out.size)
    have P3 := hideP ((hb3.block _ (Array.getElem?_eq_some_iff.1 P2.out).1).trans P2.out)
    clear hb3 R2 P2
    obtain ⟨l1, c0, c1, c2, c3, c4, c5, c6⟩ := QX.out _ P3.out
    go_wp2_with fail
    refine (CT2.out HS.out _ B3.out).mono ?_
    rintro e w4 ⟨a4, n4, d4, rfl, hr4, hb4⟩
    have B4 : Hid (Below w.heap.size w w4) := hideP (below_more B3.out hb4 B3.out.size)
    have P4 := hideP ((hb4.block _ (Array.getElem?_eq_some_iff.1 P3.out).1).trans P3.out)
    have R4 := hideP hr4
    clear hb4 hr4 l1 c0 c1 c2 c3 c4 c5 c6 P3
    go_wp2_with fail
    obtain ⟨W4, hW4⟩ : ∃ W4, W4 = w4.alloc (.cells #[.int .i64 co, .int .i64 gs, .int .i64 gp, .int .i64 gpo, .int .i64 gm, .int .i64 gmo, .slice a4 n4 d4] 53) := ⟨_, rfl⟩
    rw [← hW4]
    obtain ⟨p5, hp5⟩ : ∃ p5, p5 = w4.heap.size := ⟨_, rfl⟩
    rw [← hp5]
    have BW4 : Hid (Below w.heap.size w W4) := hideP (by rw [hW4]; exact B4.out.alloc B4.out.size _)
    have PW4 : Hid (W4.heap[w.heap.size]? = some (.cells #[.int .i64 co, .int .i64 gs, .int .i64 gp, .int .i64 gpo, .int .i64 gm, .int .i64 gmo, .slice va vn vc] 47 (0, 0))) := hideP (by rw [hW4]; exact (Below.heap_alloc _ _ _ (Array.getElem?_eq_some_iff.1 P4.out).1).trans P4.out)
    have XW4 : Hid (W4.heap[p5]? = some (.cells #[.int .i64 co, .int .i64 gs, .int .i64 gp, .int .i64 gpo, .int .i64 gm, .int .i64 gmo, .slice a4 n4 d4] 53 (0, 0))) := hideP (by rw [hW4, hp5]; exact heap_alloc_new w4 _)
    have RW4 : Hid (RN W4 (.slice a4 n4 d4)) := hideP (by rw [hW4]; exact RB.out _ _ _ R4.out (below1 _ _))
    clear hW4 hp5 P4 R4 B4
    refine (CI2.out HS.out _ _ RW4.out).mono ?_
    rintro e w5 ⟨rfl, hb5⟩
    have B5 : Hid (Below w.heap.size w w5) := hideP (below_more BW4.out hb5 BW4.out.size)
    have P5 := hideP ((hb5.block _ (Array.getElem?_eq_some_iff.1 PW4.out).1).trans PW4.out)
    have X5 := hideP ((hb5.block _ (Array.getElem?_eq_some_iff.1 XW4.out).1).trans XW4.out)
    have R5 := hideP (RB.out _ _ _ RW4.out hb5)
    clear hb5 BW4 PW4 XW4 RW4
    have Q : Hid (∀ x : World, Below w5.heap.size w5 x → (x.cell? ⟨w.heap.size, 0, none⟩ = some (.int .i64 co) ∧ x.cell? ⟨w.heap.size, 1, none⟩ = some (.int .i64 gs) ∧ x.cell? ⟨w.heap.size, 2, none⟩ = some (.int .i64 gp) ∧ x.cell? ⟨w.heap.size, 3, none⟩ = some (.int .i64 gpo) ∧ x.cell? ⟨w.heap.size, 4, none⟩ = some (.int .i64 gm) ∧ x.cell? ⟨w.heap.size, 5, none⟩ = some (.int .i64 gmo) ∧ x.cell? ⟨w.heap.size, 6, none⟩ = some (.slice va vn vc)) ∧ x.cell? ⟨p5, 0, none⟩ = some (.int .i64 co) ∧ x.cell? ⟨p5, 1, none⟩ = some (.int .i64 gs) ∧ x.cell? ⟨p5, 2, none⟩ = some (.int .i64 gp) ∧ x.cell? ⟨p5, 3, none⟩ = some (.int .i64 gpo) ∧ x.cell? ⟨p5, 4, none⟩ = some (.int .i64 gm) ∧ x.cell? ⟨p5, 5, none⟩ = some (.int .i64 gmo) ∧ x.cell? ⟨p5, 6, none⟩ = some (.slice a4 n4 d4)) := hideP (fun x hx => by
      have h1 := (hx.block _ (Array.getElem?_eq_some_iff.1 P5.out).1).trans P5.out
      have h2 := (hx.block _ (Array.getElem?_eq_some_iff.1 X5.out).1).trans X5.out
      exact ⟨(QX.out _ h1).2, cell_of_row _ _ 0 _ 53 _ h2, cell_of_row _ _ 1 _ 53 _ h2, cell_of_row _ _ 2 _ 53 _ h2, cell_of_row _ _ 3 _ 53 _ h2, cell_of_row _ _ 4 _ 53 _ h2, cell_of_row _ _ 5 _ 53 _ h2, cell_of_row _ _ 6 _ 53 _ h2⟩)
    have BD : Hid (Below w5.heap.size w5 w5.drew) := hideP ((Below.refl _ _).drew)
    have hnq : (R != R) = false := by simp
    go_wp2_with fail
    go_region_held3 (fun x => (x.cell? ⟨w.heap.size, 0, none⟩ = some (.int .i64 co) ∧ x.cell? ⟨w.heap.size, 1, none⟩ = some (.int .i64 gs) ∧ x.cell? ⟨w.heap.size, 2, none⟩ = some (.int .i64 gp) ∧ x.cell? ⟨w.heap.size, 3, none⟩ = some (.int .i64 gpo) ∧ x.cell? ⟨w.heap.size, 4, none⟩ = some (.int .i64 gm) ∧ x.cell? ⟨w.heap.size, 5, none⟩ = some (.int .i64 gmo) ∧ x.cell? ⟨w.heap.size, 6, none⟩ = some (.slice va vn vc)) ∧ x.cell? ⟨p5, 0, none⟩ = some (.int .i64 co) ∧ x.cell? ⟨p5, 1, none⟩ = some (.int .i64 gs) ∧ x.cell? ⟨p5, 2, none⟩ = some (.int .i64 gp) ∧ x.cell? ⟨p5, 3, none⟩ = some (.int .i64 gpo) ∧ x.cell? ⟨p5, 4, none⟩ = some (.int .i64 gm) ∧ x.cell? ⟨p5, 5, none⟩ = some (.int .i64 gmo) ∧ x.cell? ⟨p5, 6, none⟩ = some (.slice a4 n4 d4)) (first | exact Q.out _ BD.out | exact Q.out _ ‹Hid (Below w5.heap.size w5 _)›) (first | (go_at_call 25; refine (CT2.out HS.out _ (below_more B5.out BD.out B5.out.size)).mono ?_; rintro e w7 ⟨a7, n7, d7, rfl, hr7, hb7⟩; have B67 : Hid (Below w5.heap.size w5 w7) := hideP (below_more BD.out hb7 BD.out.size); have R7 := hideP hr7; clear hb7 hr7) | (go_at_call 27; refine (CE2.out HS.out _ _ _ (RB.out _ _ _ R5.out B67.out) R7.out).mono ?_; rintro e w8 ⟨rfl, hb8⟩; have B8 : Hid (Below w5.heap.size w5 w8) := hideP (below_more B67.out hb8 B67.out.size); clear hb8))
    all_goals
      have B08 : Hid (Below w.heap.size w w8) := hideP (below_more B5.out B8.out B5.out.size)
      go_wp2
      go_ret
      exact ⟨rfl, B08.out⟩
end Go.Proofs.YticalmdhbgkbbaaGreat

