/-
  Fonts and words copied, with their blocks; and marked.
-/
import Derived.Test.YtggcfgbpameppaaPcs
import Derived.Test.YtggcfgbpameppaaBys
namespace Go.Proofs.Ytggcfgbpameppaa
open Go.RowKit Go.Maps
set_option linter.unusedVariables false
set_option linter.unusedSimpArgs false

/-- What may differ is one block, and what is new. -/
structure Sole (g : Nat) (w w' : World) : Prop where
  below : Below g w w'
  other : ∀ b, b < w.heap.size → b ≠ g → w'.heap[b]? = w.heap[b]?
theorem Sole.refl (g : Nat) (w : World) : Sole g w w := ⟨Below.refl _ _, fun _ _ _ => rfl⟩
theorem Sole.set {g o : Nat} {w w' : World} (h : Sole g w w') (x : Value) : Sole g w (w'.setCell ⟨g, o, none⟩ x) :=
  ⟨h.below.setCell (Nat.le_refl _) _, fun b hb hn => (Below.heap_setCell _ _ _ _ (by simpa using hn)).trans (h.other b hb hn)⟩

/-- A block of a type with so many cells. -/
def Blk (w : World) (g ty sz : Nat) : Prop := ∃ cur : Array Value, w.heap[g]? = some (.cells cur ty (0, 0)) ∧ cur.size = sz
theorem Blk.set {w : World} {g ty sz o : Nat} (h : Blk w g ty sz) (ho : o < sz) (x : Value) : Blk (w.setCell ⟨g, o, none⟩ x) g ty sz := by
  obtain ⟨cur, hg, hs⟩ := h
  obtain ⟨cur', h1, h2, _⟩ := putC_block [x] o w cur hg (by simp; omega)
  exact ⟨cur', h1, h2.trans hs⟩
theorem Blk.cells {w : World} {g ty sz : Nat} (h : Blk w g ty sz) (t : Nat) (ht : t < sz) : ∃ x, w.cell? ⟨g, t, none⟩ = some x := by
  obtain ⟨cur, hg, hs⟩ := h
  rw [cell_of_row w g _ cur ty _ hg]
  exact ⟨_, Array.getElem?_eq_getElem (by omega)⟩
theorem Blk.free {w : World} {g ty sz : Nat} (h : Blk w g ty sz) (t : Nat) : w.frozen? ⟨g, t, none⟩ = false := by
  obtain ⟨cur, hg, hs⟩ := h
  exact frozen_of_row w g t cur ty hg
theorem Blk.lt {w : World} {g ty sz : Nat} (h : Blk w g ty sz) : g < w.heap.size := by
  obtain ⟨cur, hg, hs⟩ := h
  exact (Array.getElem?_eq_some_iff.1 hg).1
theorem Blk.keep {w w' : World} {g ty sz : Nat} (h : Blk w g ty sz) (hk : w'.heap[g]? = w.heap[g]?) : Blk w' g ty sz := by
  obtain ⟨cur, hg, hs⟩ := h
  exact ⟨cur, hk.trans hg, hs⟩
theorem Blk.ne {w : World} {g g' ty ty' sz sz' : Nat} (h : Blk w g ty sz) (h' : Blk w g' ty' sz') (hne : ty ≠ ty') : g ≠ g' := by
  rintro rfl
  obtain ⟨cur, hg, _⟩ := h
  obtain ⟨cur', hg', _⟩ := h'
  rw [hg] at hg'
  simp only [Option.some.injEq, Obj.cells.injEq] at hg'
  exact hne hg'.2.1
theorem blk_part {α : Type} {sz : Nat} {R : Nat → World → List Value → α → Prop} {d : α} {ty : Nat} {w : World} {g n k : Nat} {xs : List α} (h : SPart sz R d ty w g n k xs) : Blk w g ty (n * sz) := by
  obtain ⟨cur, h1, h2, _⟩ := h
  exact ⟨cur, h1, h2⟩

/-- A row of fours in a block of its own. -/
def GRQ (ty lo : Nat) (w : World) (v : Value) (xs : List Q4) : Prop := QRow lo w v xs ∧ ∃ g, v = .slice (some ⟨g, 0, none⟩) xs.length xs.length ∧ lo ≤ g ∧ Blk w g ty (xs.length * 4)
theorem GRQ.abv {ty lo : Nat} {w w' : World} {v : Value} {xs : List Q4} (h : GRQ ty lo w v xs) (ha : Abv lo w w') : GRQ ty lo w' v xs := by
  obtain ⟨h1, g, e, hl, hb⟩ := h
  exact ⟨SRow.abv qStable h1 ha, g, e, hl, hb.keep (ha.block g hl hb.lt)⟩
theorem GRQ.mono {ty lo lo' : Nat} {w : World} {v : Value} {xs : List Q4} (h : GRQ ty lo w v xs) (hl : lo' ≤ lo) : GRQ ty lo' w v xs := by
  obtain ⟨h1, g, e, hl2, hb⟩ := h
  exact ⟨h1.mono qStable hl, g, e, Nat.le_trans hl hl2, hb⟩
theorem GRQ.below {ty lo : Nat} {w w' : World} {v : Value} {xs : List Q4} (h : GRQ ty lo w v xs) (hb : Below w.heap.size w w') : GRQ ty lo w' v xs := h.abv (Abv.below hb)
/-- A row of bytes in a block of its own. -/
def GRB (lo : Nat) (w : World) (v : Value) (xs : List Int) : Prop := BRow lo w v xs ∧ ∃ g, v = .slice (some ⟨g, 0, none⟩) xs.length xs.length ∧ lo ≤ g ∧ Blk w g 5 (xs.length * 1)
theorem GRB.below {lo : Nat} {w w' : World} {v : Value} {xs : List Int} (h : GRB lo w v xs) (hb : Below w.heap.size w w') : GRB lo w' v xs := by
  obtain ⟨h1, g, e, hl, hk⟩ := h
  exact ⟨SRow.below bStable h1 hb, g, e, hl, hk.keep (hb.block g hk.lt)⟩

set_option maxRecDepth 20000 in
set_option maxHeartbeats 4000000 in
theorem markGlyphS_any {g n cap : Nat} {w : World} {k : Int} (h : Blk w g 39 (n * 4)) (hn : n ≤ 1048576) (hk0 : 0 ≤ k) (hk1 : k ≤ 1073741824) :
    Calls Try.prog 44 #[.slice (some ⟨g, 0, none⟩) n cap, .int .i64 k] w fun e w' => e = .returned (.int .i64 (k + 4 * (n : Int))) ∧ Sole g w w' := by
  have HO := hideP h
  clear h
  go_enter Try.func44, Try.ntmps44
  go_wp2
  go_loopw [1, 5] (fun s i wr => ∃ (j : Nat) (q : Int), j ≤ n ∧ i = .int .i64 (j : Int) ∧ s = .int .i64 q ∧ q = k + 4 * (j : Int) ∧ Blk wr g 39 (n * 4) ∧ Sole g w wr) (fun _ i _ => n - (intOf i).toNat)
  case atStart => exact ⟨0, k, by omega, rfl, rfl, by omega, HO.out, Sole.refl _ _⟩
  case round =>
    obtain ⟨j, q, hj, rfl, rfl, hq, hap, hso⟩ := hrel
    by_cases hjn : j < n
    · have hji : (j : Int) < (n : Int) := by omega
      obtain ⟨x0, hx0⟩ := hap.cells (j * 4) (by omega)
      obtain ⟨x1, hx1⟩ := hap.cells (j * 4 + 1) (by omega)
      obtain ⟨x2, hx2⟩ := hap.cells (j * 4 + 2) (by omega)
      obtain ⟨x3, hx3⟩ := hap.cells (j * 4 + 3) (by omega)
      have hfz : ∀ t, wr.frozen? ⟨g, t, none⟩ = false := hap.free
      have hgw : g < wr.heap.size := hap.lt
      have HAP := hideP hap
      have HSO := hideP hso
      have hqs : 0 ≤ q ∧ q ≤ 1090519040 := by omega
      have HQ := hideP hq
      clear hap hso hq
      go_wp2
      go_roundw
      case rel =>
        refine ⟨j + 1, _, by omega, by go_num, rfl, by have := HQ.out; omega, ?_, ?_⟩
        · exact ((((HAP.out.set (by omega) _).set (by omega) _).set (by omega) _).set (by omega) _)
        · exact ((((HSO.out.set _).set _).set _).set _)
      case measure => simp [intOf]; omega
    · have hji : ¬ (j : Int) < (n : Int) := by omega
      obtain rfl : j = n := by omega
      subst hq
      have HSO := hideP hso
      clear hap hso
      go_wp2
      go_ret
      exact ⟨rfl, HSO.out⟩

set_option maxRecDepth 20000 in
set_option maxHeartbeats 4000000 in
theorem markPairS_any {g n cap : Nat} {w : World} {k : Int} (h : Blk w g 63 (n * 4)) (hn : n ≤ 1048576) (hk0 : 0 ≤ k) (hk1 : k ≤ 1073741824) :
    Calls Try.prog 45 #[.slice (some ⟨g, 0, none⟩) n cap, .int .i64 k] w fun e w' => e = .returned (.int .i64 (k + 4 * (n : Int))) ∧ Sole g w w' := by
  have HO := hideP h
  clear h
  go_enter Try.func45, Try.ntmps45
  go_wp2
  go_loopw [1, 5] (fun s i wr => ∃ (j : Nat) (q : Int), j ≤ n ∧ i = .int .i64 (j : Int) ∧ s = .int .i64 q ∧ q = k + 4 * (j : Int) ∧ Blk wr g 63 (n * 4) ∧ Sole g w wr) (fun _ i _ => n - (intOf i).toNat)
  case atStart => exact ⟨0, k, by omega, rfl, rfl, by omega, HO.out, Sole.refl _ _⟩
  case round =>
    obtain ⟨j, q, hj, rfl, rfl, hq, hap, hso⟩ := hrel
    by_cases hjn : j < n
    · have hji : (j : Int) < (n : Int) := by omega
      obtain ⟨x0, hx0⟩ := hap.cells (j * 4) (by omega)
      obtain ⟨x1, hx1⟩ := hap.cells (j * 4 + 1) (by omega)
      obtain ⟨x2, hx2⟩ := hap.cells (j * 4 + 2) (by omega)
      obtain ⟨x3, hx3⟩ := hap.cells (j * 4 + 3) (by omega)
      have hfz : ∀ t, wr.frozen? ⟨g, t, none⟩ = false := hap.free
      have hgw : g < wr.heap.size := hap.lt
      have HAP := hideP hap
      have HSO := hideP hso
      have hqs : 0 ≤ q ∧ q ≤ 1090519040 := by omega
      have HQ := hideP hq
      clear hap hso hq
      go_wp2
      go_roundw
      case rel =>
        refine ⟨j + 1, _, by omega, by go_num, rfl, by have := HQ.out; omega, ?_, ?_⟩
        · exact ((((HAP.out.set (by omega) _).set (by omega) _).set (by omega) _).set (by omega) _)
        · exact ((((HSO.out.set _).set _).set _).set _)
      case measure => simp [intOf]; omega
    · have hji : ¬ (j : Int) < (n : Int) := by omega
      obtain rfl : j = n := by omega
      subst hq
      have HSO := hideP hso
      clear hap hso
      go_wp2
      go_ret
      exact ⟨rfl, HSO.out⟩

set_option maxRecDepth 20000 in
set_option maxHeartbeats 4000000 in
theorem markByteS_any {g n cap : Nat} {w : World} {k : Int} (h : Blk w g 5 (n)) (hn : n ≤ 1048576) (hk0 : 0 ≤ k) (hk1 : k ≤ 1073741824) :
    Calls Try.prog 21 #[.slice (some ⟨g, 0, none⟩) n cap, .int .i64 k] w fun e w' => e = .returned (.int .i64 (k + (n : Int))) ∧ Sole g w w' := by
  have HO := hideP h
  clear h
  go_enter Try.func21, Try.ntmps21
  go_wp2
  go_loopw [1, 5] (fun s i wr => ∃ (j : Nat) (q : Int), j ≤ n ∧ i = .int .i64 (j : Int) ∧ s = .int .i64 q ∧ q = k + (j : Int) ∧ Blk wr g 5 (n) ∧ Sole g w wr) (fun _ i _ => n - (intOf i).toNat)
  case atStart => exact ⟨0, k, by omega, rfl, rfl, by omega, HO.out, Sole.refl _ _⟩
  case round =>
    obtain ⟨j, q, hj, rfl, rfl, hq, hap, hso⟩ := hrel
    by_cases hjn : j < n
    · have hji : (j : Int) < (n : Int) := by omega
      obtain ⟨x0, hx0⟩ := hap.cells j (by omega)
      have hfz : ∀ t, wr.frozen? ⟨g, t, none⟩ = false := hap.free
      have hgw : g < wr.heap.size := hap.lt
      have HAP := hideP hap
      have HSO := hideP hso
      have hqs : 0 ≤ q ∧ q ≤ 1090519040 := by omega
      have HQ := hideP hq
      clear hap hso hq
      go_wp2
      go_roundw
      case rel =>
        refine ⟨j + 1, _, by omega, by go_num, rfl, by have := HQ.out; omega, ?_, ?_⟩
        · exact (HAP.out.set (by omega) _)
        · exact (HSO.out.set _)
      case measure => simp [intOf]; omega
    · have hji : ¬ (j : Int) < (n : Int) := by omega
      obtain rfl : j = n := by omega
      subst hq
      have HSO := hideP hso
      clear hap hso
      go_wp2
      go_ret
      exact ⟨rfl, HSO.out⟩

set_option maxRecDepth 20000 in
set_option maxHeartbeats 4000000 in
theorem toGlyphP_any {v : Value} {xs : List Q4} {w : World} (h : QRow 0 w v xs) (hs : xs.length ≤ 1048576) :
    Calls Try.prog 33 #[v] w fun e w' => ∃ v', e = .returned v' ∧ GRQ 39 w.heap.size w' v' xs ∧ Below w.heap.size w w' := by
  have HR := hideP h
  obtain ⟨ao, cap, rfl⟩ := h.shape
  obtain ⟨n, hn⟩ : ∃ n, n = xs.length := ⟨_, rfl⟩
  rw [← hn] at HR
  rw [← hn]
  have hsz : n ≤ 1048576 := by rw [hn]; exact hs
  have HL := hideP hn
  obtain ⟨i0, hi, hz0, hz1, hz2⟩ := info_parts Try.info39
  have HI : Hid (i0.bytes = 32) := hz2
  clear h hs hn
  go_enter Try.func33, Try.ntmps33
  go_wp2_with (first
    | (refine wpList_make_full _ rfl _ _ 30 rfl w.heap.size 39 i0 (.agg #[.int .i64 0, .int .i64 0, .int .i64 0, .int .i64 0]) 4 Try.underlying30 hi hz0 hz1 _ _ _ _ n rfl rfl rfl rfl (by rw [show i0.bytes = 32 from HI]; omega) (by unfold maxLen; omega) (Nat.le_refl _) ?_; intro w1 hown hgrow))
  have hbel : Below w.heap.size w w1 := Below.grown (Below.refl _ _) hgrow (Nat.le_refl _) (by simp)
  have HO : Hid (SPart 4 QR Q4.none 39 w1 w.heap.size n 0 xs ∧ Below w.heap.size w w1) := by
    refine ⟨?_, hbel⟩
    rcases hown.2 with ⟨h', _⟩ | ⟨g', cap', cur, h', _, hg, _, _, hcs, _⟩
    · simp at h'
    · simp only [Value.slice.injEq, Option.some.injEq, Addr.mk.injEq, and_true, true_and] at h'
      obtain ⟨rfl, rfl⟩ := h'
      exact SPart.new hg hcs
  clear hown hgrow hbel
  go_wp2
  go_loopw [4] (fun i wr => ∃ k : Nat, k ≤ n ∧ i = .int .i64 k ∧ Hid (SPart 4 QR Q4.none 39 wr w.heap.size n k xs ∧ Below w.heap.size w wr)) (fun i _ => n - (intOf i).toNat)
  case atStart => exact ⟨0, by omega, rfl, HO⟩
  case round =>
    obtain ⟨k, hk, rfl, HP⟩ := hrel
    clear HO
    by_cases hkn : k < n
    · have hki : (k : Int) < (n : Int) := by omega
      obtain ⟨b, off, rfl, hb, _, g0, g1, g2, g3⟩ := HR.out.cells HP.out.2 hkn
      have HG := hideP (HR.out.rng (k := k) (by rw [← HL.out]; exact hkn))
      obtain ⟨t, ht⟩ : ∃ t, t = xs.getD k Q4.none := ⟨_, rfl⟩
      rw [← ht] at g0 g1 g2 g3 HG
      have HT := hideP ht
      clear ht
      obtain ⟨ta, tb, tc, td⟩ := t
      dsimp only at g0 g1 g2 g3
      go_wp2_with (go_at_call 49; refine (toGlyph_any _ _ _ _ _).mono ?_; rintro e w2 ⟨rfl, hb1⟩; have hp2 := SPart.below qStable HP.out.1 hb1; have hfz := hp2.free; obtain ⟨x0, hx0⟩ := hp2.cells (k * 4) (by omega); obtain ⟨x1, hx1⟩ := hp2.cells (k * 4 + 1) (by omega); obtain ⟨x2, hx2⟩ := hp2.cells (k * 4 + 2) (by omega); obtain ⟨x3, hx3⟩ := hp2.cells (k * 4 + 3) (by omega); have hlt2 := hp2.lt; have HP2 := hideP (And.intro hp2 (below_more HP.out.2 hb1 HP.out.2.size)); clear hp2 hb1)
      go_roundw
      case rel => exact ⟨k + 1, by omega, by go_num, hideP ⟨SPart.put qStable HP2.out.1 hkn (cs := [.int .i64 ta, .int .i64 tb, .int .i64 tc, .int .i64 td]) rfl (by rw [← HT.out]; exact ⟨rfl, HG.out⟩), putC_below (Nat.le_refl _) [.int .i64 ta, .int .i64 tb, .int .i64 tc, .int .i64 td] (k * 4) _ HP2.out.2⟩⟩
      case measure => simp [intOf]; omega
    · have hki : ¬ (k : Int) < (n : Int) := by omega
      obtain rfl : k = n := by omega
      go_wp2
      go_ret
      exact ⟨_, rfl, ⟨SPart.row qStable HP.out.1 HL.out.symm, w.heap.size, by rw [← HL.out]; rfl, Nat.le_refl _, by rw [← HL.out]; exact blk_part HP.out.1⟩, HP.out.2⟩

set_option maxRecDepth 20000 in
set_option maxHeartbeats 4000000 in
theorem toPairP_any {v : Value} {xs : List Q4} {w : World} (h : QRow 0 w v xs) (hs : xs.length ≤ 1048576) :
    Calls Try.prog 34 #[v] w fun e w' => ∃ v', e = .returned v' ∧ GRQ 63 w.heap.size w' v' xs ∧ Below w.heap.size w w' := by
  have HR := hideP h
  obtain ⟨ao, cap, rfl⟩ := h.shape
  obtain ⟨n, hn⟩ : ∃ n, n = xs.length := ⟨_, rfl⟩
  rw [← hn] at HR
  rw [← hn]
  have hsz : n ≤ 1048576 := by rw [hn]; exact hs
  have HL := hideP hn
  obtain ⟨i0, hi, hz0, hz1, hz2⟩ := info_parts Try.info63
  have HI : Hid (i0.bytes = 32) := hz2
  clear h hs hn
  go_enter Try.func34, Try.ntmps34
  go_wp2_with (first
    | (refine wpList_make_full _ rfl _ _ 31 rfl w.heap.size 63 i0 (.agg #[.int .i64 0, .int .i64 0, .int .i64 0, .int .i64 0]) 4 Try.underlying31 hi hz0 hz1 _ _ _ _ n rfl rfl rfl rfl (by rw [show i0.bytes = 32 from HI]; omega) (by unfold maxLen; omega) (Nat.le_refl _) ?_; intro w1 hown hgrow))
  have hbel : Below w.heap.size w w1 := Below.grown (Below.refl _ _) hgrow (Nat.le_refl _) (by simp)
  have HO : Hid (SPart 4 QR Q4.none 63 w1 w.heap.size n 0 xs ∧ Below w.heap.size w w1) := by
    refine ⟨?_, hbel⟩
    rcases hown.2 with ⟨h', _⟩ | ⟨g', cap', cur, h', _, hg, _, _, hcs, _⟩
    · simp at h'
    · simp only [Value.slice.injEq, Option.some.injEq, Addr.mk.injEq, and_true, true_and] at h'
      obtain ⟨rfl, rfl⟩ := h'
      exact SPart.new hg hcs
  clear hown hgrow hbel
  go_wp2
  go_loopw [4] (fun i wr => ∃ k : Nat, k ≤ n ∧ i = .int .i64 k ∧ Hid (SPart 4 QR Q4.none 63 wr w.heap.size n k xs ∧ Below w.heap.size w wr)) (fun i _ => n - (intOf i).toNat)
  case atStart => exact ⟨0, by omega, rfl, HO⟩
  case round =>
    obtain ⟨k, hk, rfl, HP⟩ := hrel
    clear HO
    by_cases hkn : k < n
    · have hki : (k : Int) < (n : Int) := by omega
      obtain ⟨b, off, rfl, hb, _, g0, g1, g2, g3⟩ := HR.out.cells HP.out.2 hkn
      have HG := hideP (HR.out.rng (k := k) (by rw [← HL.out]; exact hkn))
      obtain ⟨t, ht⟩ : ∃ t, t = xs.getD k Q4.none := ⟨_, rfl⟩
      rw [← ht] at g0 g1 g2 g3 HG
      have HT := hideP ht
      clear ht
      obtain ⟨ta, tb, tc, td⟩ := t
      dsimp only at g0 g1 g2 g3
      go_wp2_with (go_at_call 50; refine (toPair_any _ _ _ _ _).mono ?_; rintro e w2 ⟨rfl, hb1⟩; have hp2 := SPart.below qStable HP.out.1 hb1; have hfz := hp2.free; obtain ⟨x0, hx0⟩ := hp2.cells (k * 4) (by omega); obtain ⟨x1, hx1⟩ := hp2.cells (k * 4 + 1) (by omega); obtain ⟨x2, hx2⟩ := hp2.cells (k * 4 + 2) (by omega); obtain ⟨x3, hx3⟩ := hp2.cells (k * 4 + 3) (by omega); have hlt2 := hp2.lt; have HP2 := hideP (And.intro hp2 (below_more HP.out.2 hb1 HP.out.2.size)); clear hp2 hb1)
      go_roundw
      case rel => exact ⟨k + 1, by omega, by go_num, hideP ⟨SPart.put qStable HP2.out.1 hkn (cs := [.int .i64 ta, .int .i64 tb, .int .i64 tc, .int .i64 td]) rfl (by rw [← HT.out]; exact ⟨rfl, HG.out⟩), putC_below (Nat.le_refl _) [.int .i64 ta, .int .i64 tb, .int .i64 tc, .int .i64 td] (k * 4) _ HP2.out.2⟩⟩
      case measure => simp [intOf]; omega
    · have hki : ¬ (k : Int) < (n : Int) := by omega
      obtain rfl : k = n := by omega
      go_wp2
      go_ret
      exact ⟨_, rfl, ⟨SPart.row qStable HP.out.1 HL.out.symm, w.heap.size, by rw [← HL.out]; rfl, Nat.le_refl _, by rw [← HL.out]; exact blk_part HP.out.1⟩, HP.out.2⟩

set_option maxRecDepth 20000 in
set_option maxHeartbeats 4000000 in
theorem toByteP_any {v : Value} {xs : List Int} {w : World} (h : BRow 0 w v xs) (hs : xs.length ≤ 1048576) :
    Calls Try.prog 16 #[v] w fun e w' => ∃ v', e = .returned v' ∧ GRB w.heap.size w' v' xs ∧ Below w.heap.size w w' := by
  have HR := hideP h
  obtain ⟨ao, cap, rfl⟩ := h.shape
  obtain ⟨n, hn⟩ : ∃ n, n = xs.length := ⟨_, rfl⟩
  rw [← hn] at HR
  rw [← hn]
  have hsz : n ≤ 1048576 := by rw [hn]; exact hs
  have HL := hideP hn
  obtain ⟨i0, hi, hz0, hz1, hz2⟩ := info_parts Try.info5
  have HI : Hid (i0.bytes = 1) := hz2
  clear h hs hn
  go_enter Try.func16, Try.ntmps16
  go_wp2_with (first
    | (refine wpList_make_full _ rfl _ _ 44 rfl w.heap.size 5 i0 (.int .u8 0) 1 Try.underlying44 hi hz0 hz1 _ _ _ _ n rfl rfl rfl rfl (by rw [show i0.bytes = 1 from HI]; omega) (by unfold maxLen; omega) (Nat.le_refl _) ?_; intro w1 hown hgrow))
  have hbel : Below w.heap.size w w1 := Below.grown (Below.refl _ _) hgrow (Nat.le_refl _) (by simp)
  have HO : Hid (SPart 1 BR 0 5 w1 w.heap.size n 0 xs ∧ Below w.heap.size w w1) := by
    refine ⟨?_, hbel⟩
    rcases hown.2 with ⟨h', _⟩ | ⟨g', cap', cur, h', _, hg, _, _, hcs, _⟩
    · simp at h'
    · simp only [Value.slice.injEq, Option.some.injEq, Addr.mk.injEq, and_true, true_and] at h'
      obtain ⟨rfl, rfl⟩ := h'
      exact SPart.new hg hcs
  clear hown hgrow hbel
  go_wp2
  go_loopw [4] (fun i wr => ∃ k : Nat, k ≤ n ∧ i = .int .i64 k ∧ Hid (SPart 1 BR 0 5 wr w.heap.size n k xs ∧ Below w.heap.size w wr)) (fun i _ => n - (intOf i).toNat)
  case atStart => exact ⟨0, by omega, rfl, HO⟩
  case round =>
    obtain ⟨k, hk, rfl, HP⟩ := hrel
    clear HO
    by_cases hkn : k < n
    · have hki : (k : Int) < (n : Int) := by omega
      obtain ⟨b, off, rfl, hb, g0, hx0, hx1⟩ := HR.out.cell HP.out.2 hkn
      obtain ⟨t, ht⟩ : ∃ t, t = xs.getD k 0 := ⟨_, rfl⟩
      rw [← ht] at g0 hx0 hx1
      have HT := hideP ht
      clear ht
      have hfz := HP.out.1.free
      obtain ⟨x0, hx00⟩ := HP.out.1.cells k (by omega)
      have hlt2 := HP.out.1.lt
      go_wp2
      first | (go_region; go_wp2) | skip
      go_roundw
      case rel => exact ⟨k + 1, by omega, by go_num, hideP ⟨by have h := SPart.put bStable HP.out.1 hkn (cs := [.int .u8 t]) rfl (by rw [← HT.out]; exact ⟨rfl, hx0, hx1⟩); rw [Nat.mul_one] at h; exact h, by have h := putC_below (Nat.le_refl _) [.int .u8 t] k _ HP.out.2; exact h⟩⟩
      case measure => simp [intOf]; omega
    · have hki : ¬ (k : Int) < (n : Int) := by omega
      obtain rfl : k = n := by omega
      go_wp2
      go_ret
      exact ⟨_, rfl, ⟨SPart.row bStable HP.out.1 HL.out.symm, w.heap.size, by rw [← HL.out]; rfl, Nat.le_refl _, by rw [← HL.out]; exact blk_part HP.out.1⟩, HP.out.2⟩

set_option maxRecDepth 20000 in
set_option maxHeartbeats 4000000 in
theorem toFontP_any {f : Fo} {vg vp : Value} {gs ps : List Q4} {w : World} (h : TwoQ w vg vp gs ps) (hg : gs.length ≤ 1048576) (hp : ps.length ≤ 1048576) :
    Calls Try.prog 9 #[foV f vg vp] w fun e w' => ∃ ug up, e = .returned (foV f ug up) ∧ GRQ 39 w.heap.size w' ug gs ∧ GRQ 63 w.heap.size w' up ps ∧ Below w.heap.size w w' := by
  have HX := hideP h
  obtain ⟨a1, n1, c1, rfl⟩ : ∃ a n c, vg = .slice a n c := by obtain ⟨a, c, rfl⟩ := h.g.shape; exact ⟨_, _, _, rfl⟩
  obtain ⟨a2, n2, c2, rfl⟩ : ∃ a n c, vp = .slice a n c := by obtain ⟨a, c, rfl⟩ := h.p.shape; exact ⟨_, _, _, rfl⟩
  obtain ⟨s, g0, g1, g2, g3, g4, q, r⟩ := f
  simp only [foV]
  have HS := hideP (And.intro hg hp)
  clear h hg hp
  go_enter Try.func9, Try.ntmps9
  go_wp2_with fail
  refine (toGlyphP_any (SRow.below qStable HX.out.g ?_) HS.out.1).mono ?_
  · exact below3 _ _ _ _
  rintro e w1 ⟨ug, rfl, hr1, hb1⟩
  obtain ⟨a3, n3, c3, rfl⟩ : ∃ a n c, ug = .slice a n c := by obtain ⟨a, c, rfl⟩ := hr1.1.shape; exact ⟨_, _, _, rfl⟩
  have hz1 : w.heap.size + 1 + 1 < w1.heap.size := by have := hb1.size; simp at this; omega
  have hy1 : w.heap.size + 1 < w1.heap.size := by omega
  have hx1 : w.heap.size < w1.heap.size := by omega
  have B1 : Hid (Below w.heap.size w w1) := by
    exact below_more (below3 _ _ _ _) hb1 (by simp; omega)
  have R1 : Hid (GRQ 39 (w.heap.size + 3) w1 (.slice a3 n3 c3) gs) := hideP (hr1.mono (by simp))
  obtain ⟨hc1, hf1⟩ := bcell hb1
  simp only [World.size_setCell, World.size_alloc] at hc1 hf1
  clear hb1 hr1
  go_wp2_with fail
  refine (toPairP_any (SRow.below qStable HX.out.p (B1.out.setCell (by simp; omega) _)) HS.out.2).mono ?_
  rintro e w2 ⟨up, rfl, hr2, hb2⟩
  obtain ⟨a4, n4, c4, rfl⟩ : ∃ a n c, up = .slice a n c := by obtain ⟨a, c, rfl⟩ := hr2.1.shape; exact ⟨_, _, _, rfl⟩
  have hz2 : w.heap.size + 1 + 1 < w2.heap.size := by have := hb2.size; simp at this; omega
  have hy2 : w.heap.size + 1 < w2.heap.size := by omega
  have hx2 : w.heap.size < w2.heap.size := by omega
  have B2 : Hid (Below w.heap.size w w2) := hideP (below_more (B1.out.setCell (by simp; omega) _) hb2 (by simp; omega))
  have R2 : Hid (GRQ 39 (w.heap.size + 3) w2 (.slice a3 n3 c3) gs ∧ GRQ 63 (w.heap.size + 3) w2 (.slice a4 n4 c4) ps) := hideP ⟨GRQ.abv (GRQ.abv R1.out (Abv.set (by omega) _)) (Abv.below hb2), hr2.mono (by simp; omega)⟩
  obtain ⟨hc2, hf2⟩ := bcell hb2
  simp only [World.size_setCell, World.size_alloc] at hc2 hf2
  clear hb2 hr2 R1 B1
  go_wp2_with fail
  refine (toGlue_any _ _ _ _ _ _).mono ?_
  rintro e w3 ⟨rfl, hb3⟩
  have hz3 : w.heap.size + 1 + 1 < w3.heap.size := by have := hb3.size; simp at this; omega
  have hy3 : w.heap.size + 1 < w3.heap.size := by omega
  have hx3 : w.heap.size < w3.heap.size := by omega
  have B3 : Hid (Below w.heap.size w w3) := hideP (below_more (B2.out.setCell (by simp; omega) _) hb3 (by simp; omega))
  have R3 : Hid (GRQ 39 (w.heap.size + 3) w3 (.slice a3 n3 c3) gs ∧ GRQ 63 (w.heap.size + 3) w3 (.slice a4 n4 c4) ps) := hideP ⟨GRQ.abv (GRQ.abv R2.out.1 (Abv.set (by omega) _)) (Abv.below hb3), GRQ.abv (GRQ.abv R2.out.2 (Abv.set (by omega) _)) (Abv.below hb3)⟩
  obtain ⟨hc3, hf3⟩ := bcell hb3
  simp only [World.size_setCell, World.size_alloc] at hc3 hf3
  clear hb3 R2 B2
  go_wp2
  refine bodyPost_ret (v := foV ⟨s, g0, g1, g2, g3, g4, q, r⟩ (.slice a3 n3 c3) (.slice a4 n4 c4)) (by simp [results, Try.results9, go_sem, hc1, hc2, hc3, hx1, hy1, hz1, hx2, hy2, hz2, hx3, hy3, hz3]) rfl ⟨_, _, rfl, ?_, ?_, ?_⟩
  · refine GRQ.mono (GRQ.abv R3.out.1 ?_) (by omega)
    clear hc1 hc2 hc3 hf1 hf2 hf3
    repeat (first | with_reducible exact Abv.refl _ _ | (with_reducible refine Abv.setT ?_ ?_ _; rotate_left; focus (first | (simp; done) | (simp; omega) | omega)))
  · refine GRQ.mono (GRQ.abv R3.out.2 ?_) (by omega)
    clear hc1 hc2 hc3 hf1 hf2 hf3
    repeat (first | with_reducible exact Abv.refl _ _ | (with_reducible refine Abv.setT ?_ ?_ _; rotate_left; focus (first | (simp; done) | (simp; omega) | omega)))
  · have B4 := B3.out
    clear hc1 hc2 hc3 hf1 hf2 hf3 B3
    repeat (first | with_reducible exact B4 | (with_reducible refine Below.setCell ?_ ?_ _; rotate_left; focus (first | (simp; done) | (simp; omega))))

set_option maxRecDepth 20000 in
set_option maxHeartbeats 4000000 in
theorem markFont_any {f : Fo} {g1 n1 c1 g2 n2 c2 : Nat} {w : World} (h1 : Blk w g1 39 (n1 * 4)) (h2 : Blk w g2 63 (n2 * 4)) (hn1 : n1 ≤ 1048576) (hn2 : n2 ≤ 1048576) :
    Calls Try.prog 20 #[foV f (.slice (some ⟨g1, 0, none⟩) n1 c1) (.slice (some ⟨g2, 0, none⟩) n2 c2), .int .i64 1] w fun e w' => e = .returned (.int .i64 (1 + 4 * (n1 : Int) + 4 * (n2 : Int))) ∧ (∀ lo, lo ≤ g1 → lo ≤ g2 → Below lo w w') ∧ (∀ b, b < w.heap.size → b ≠ g1 → b ≠ g2 → w'.heap[b]? = w.heap[b]?) := by
  obtain ⟨s, g0', g1', g2', g3', g4', q, r⟩ := f
  simp only [foV]
  have hlt1 := h1.lt
  have hlt2 := h2.lt
  have hne := h1.ne h2 (by decide)
  obtain ⟨W, hW⟩ : ∃ X, X = w.alloc (.cells #[Value.string s, Value.slice (some ⟨g1, 0, none⟩) n1 c1, Value.slice (some ⟨g2, 0, none⟩) n2 c2, Value.int IntKind.i64 g0', Value.int IntKind.i64 g1', Value.int IntKind.i64 g2', Value.int IntKind.i64 g3', Value.int IntKind.i64 g4', Value.int IntKind.i64 q, Value.int IntKind.i64 r] 34) := ⟨_, rfl⟩
  have bW : Below w.heap.size w W := by rw [hW]; exact below1 _ _
  have hWs : W.heap.size = w.heap.size + 1 := by rw [hW]; simp
  have hWb : W.heap[w.heap.size]? = some (.cells #[Value.string s, Value.slice (some ⟨g1, 0, none⟩) n1 c1, Value.slice (some ⟨g2, 0, none⟩) n2 c2, Value.int IntKind.i64 g0', Value.int IntKind.i64 g1', Value.int IntKind.i64 g2', Value.int IntKind.i64 g3', Value.int IntKind.i64 g4', Value.int IntKind.i64 q, Value.int IntKind.i64 r] 34 (0, 0)) := by rw [hW]; exact heap_alloc_new _ _
  have K1 : Hid (Calls Try.prog 44 #[.slice (some ⟨g1, 0, none⟩) n1 c1, .int .i64 1] W fun e w' => e = .returned (.int .i64 (1 + 4 * (n1 : Int))) ∧ Sole g1 W w') := hideP (markGlyphS_any (h1.keep (bW.block _ hlt1)) hn1 (by omega) (by omega))
  obtain ⟨k1, hk1⟩ : ∃ k1 : Int, k1 = 1 + 4 * (n1 : Int) := ⟨_, rfl⟩
  obtain ⟨k2, hk2⟩ : ∃ k2 : Int, k2 = 1 + 4 * (n1 : Int) + 4 * (n2 : Int) := ⟨_, rfl⟩
  rw [← hk1] at K1
  rw [← hk2]
  have K2 : Hid (∀ X, Blk X g2 63 (n2 * 4) → Calls Try.prog 45 #[.slice (some ⟨g2, 0, none⟩) n2 c2, .int .i64 k1] X fun e w' => e = .returned (.int .i64 k2) ∧ Sole g2 X w') := hideP (fun X hX => by
    have h := markPairS_any (cap := c2) hX hn2 (k := k1) (by omega) (by omega)
    rw [show k1 + 4 * (n2 : Int) = k2 by omega] at h
    exact h)
  have HB2 := hideP (h2.keep (bW.block _ hlt2))
  have BW := hideP bW
  have HF := hideP (And.intro hWs hWb)
  have HN := hideP (And.intro hlt1 (And.intro hlt2 hne))
  clear hk1 hk2 bW hWs hWb h1 h2 hn1 hn2 hlt1 hlt2 hne
  go_enter Try.func20, Try.ntmps20
  go_wp2_with fail
  rw [← hW]
  refine K1.out.mono ?_
  rintro e w1 ⟨rfl, hs1⟩
  have S1 := hideP hs1
  have x1 : w1.heap[w.heap.size]? = _ := (hs1.other w.heap.size (by rw [HF.out.1]; omega) (by have := HN.out.1; omega)).trans HF.out.2
  have HX2 := hideP (HB2.out.keep (S1.out.other g2 (by have := HN.out.2.1; rw [HF.out.1]; omega) (fun e => HN.out.2.2 e.symm)))
  have hzs : w.heap.size < w1.heap.size := (Array.getElem?_eq_some_iff.1 x1).1
  have y2 : w1.cell? ⟨w.heap.size, 2, none⟩ = some (.slice (some ⟨g2, 0, none⟩) n2 c2) := by rw [cell_of_row _ _ _ _ _ _ x1]; rfl
  clear hs1 x1 hW
  go_wp2_with fail
  refine (K2.out _ HX2.out).mono ?_
  rintro e w2 ⟨rfl, hs2⟩
  have S2 := hideP hs2
  clear hs2 y2 hzs
  go_wp2
  go_ret
  refine ⟨rfl, fun lo hl1 hl2 => ?_, fun b hb hn1 hn2 => ?_⟩
  · have a1 : Below lo w W := BW.out.mono (by have := HN.out.1; omega)
    exact (a1.trans (S1.out.below.mono hl1)).trans (S2.out.below.mono hl2)
  · have e1 := S1.out.other b (by rw [HF.out.1]; omega) hn1
    have e2 := S2.out.other b (by have := S1.out.below.size; rw [HF.out.1] at this; omega) hn2
    exact e2.trans (e1.trans (BW.out.block b hb))
end Go.Proofs.Ytggcfgbpameppaa
