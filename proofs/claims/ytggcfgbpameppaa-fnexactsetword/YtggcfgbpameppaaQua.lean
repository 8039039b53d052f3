/-
  Rows of four numbers: glyphs and pairs, weighed, copied and compared.
-/
import Derived.Test.YtggcfgbpameppaaRowg
import Derived.Test.YtggcfgbpameppaaGlu
import Derived.Deep.RegionWith
namespace Go.Proofs.Ytggcfgbpameppaa
open Go.RowKit
set_option linter.unusedVariables false
set_option linter.unusedSimpArgs false

/-- Four numbers: a glyph (code, width, height, depth), or a pair (left, right, lig, kern). -/
structure Q4 where
  a : Int
  b : Int
  c : Int
  d : Int
def Q4.none : Q4 := ⟨0, 0, 0, 0⟩
abbrev I64 (x : Int) : Prop := -9223372036854775808 ≤ x ∧ x ≤ 9223372036854775807
abbrev q4V (x : Q4) : Value := .agg #[.int .i64 x.a, .int .i64 x.b, .int .i64 x.c, .int .i64 x.d]
def QR (lo : Nat) (w : World) (cs : List Value) (x : Q4) : Prop := cs = [.int .i64 x.a, .int .i64 x.b, .int .i64 x.c, .int .i64 x.d] ∧ I64 x.a ∧ I64 x.b ∧ I64 x.c ∧ I64 x.d
theorem qStable : Stable QR where
  abv := by rintro lo w w' cs x h ha; exact h
  mono := by rintro lo lo' w cs x h hl; exact h
abbrev QRow (lo : Nat) (w : World) (v : Value) (xs : List Q4) : Prop := SRow 4 QR Q4.none lo w v xs

/-- One element of a row, in its cells. -/
theorem QRow.cells {lo : Nat} {w wr : World} {ao : Option Addr} {n cap k : Nat} {xs : List Q4} (h : QRow lo w (.slice ao n cap) xs) (hb : Below w.heap.size w wr) (hk : k < n) : ∃ (b off : Nat), ao = some ⟨b, off, none⟩ ∧ b < wr.heap.size ∧ b < w.heap.size ∧
    wr.cell? ⟨b, off + k * 4, none⟩ = some (.int .i64 (xs.getD k Q4.none).a) ∧ wr.cell? ⟨b, off + k * 4 + 1, none⟩ = some (.int .i64 (xs.getD k Q4.none).b) ∧ wr.cell? ⟨b, off + k * 4 + 2, none⟩ = some (.int .i64 (xs.getD k Q4.none).c) ∧ wr.cell? ⟨b, off + k * 4 + 3, none⟩ = some (.int .i64 (xs.getD k Q4.none).d) := by
  obtain ⟨ao', n', cap', e, hn, hr⟩ := h
  cases e
  obtain ⟨b, off, rfl, hlo, hlt, hc⟩ := hr (by omega)
  obtain ⟨cs, hcl, hR, hcj⟩ := hc k hk
  obtain ⟨rfl, _⟩ := hR
  exact ⟨b, off, rfl, Nat.lt_of_lt_of_le hlt hb.size, hlt, (hb.cell (p := ⟨b, off + k * 4, none⟩) hlt).trans (hcj 0 (by omega)), (hb.cell (p := ⟨b, off + k * 4 + 1, none⟩) hlt).trans (hcj 1 (by omega)), (hb.cell (p := ⟨b, off + k * 4 + 2, none⟩) hlt).trans (hcj 2 (by omega)), (hb.cell (p := ⟨b, off + k * 4 + 3, none⟩) hlt).trans (hcj 3 (by omega))⟩
theorem QRow.len {lo : Nat} {w : World} {ao : Option Addr} {n cap : Nat} {xs : List Q4} (h : QRow lo w (.slice ao n cap) xs) : xs.length = n := by
  obtain ⟨ao', n', cap', e, hn, hr⟩ := h
  cases e
  exact hn
theorem QRow.rng {lo : Nat} {w : World} {v : Value} {xs : List Q4} (h : QRow lo w v xs) {k : Nat} (hk : k < xs.length) : I64 (xs.getD k Q4.none).a ∧ I64 (xs.getD k Q4.none).b ∧ I64 (xs.getD k Q4.none).c ∧ I64 (xs.getD k Q4.none).d := by
  obtain ⟨ao, n, cap, rfl, hn, hr⟩ := h
  obtain ⟨b, off, rfl, hlo, hlt, hc⟩ := hr (by omega)
  obtain ⟨cs, hcl, hR, hcj⟩ := hc k (by omega)
  exact hR.2

theorem szGlyphS_any {ao : Option Addr} {n cap : Nat} {w : World} {l : Int} (hn : n ≤ 9223372036854775807) (hl0 : 0 ≤ l) (hl1 : l ≤ 1048576) :
    Calls Try.prog 27 #[.slice ao n cap, .int .i64 l] w fun e w' => (∃ m : Int, e = .returned (.int .i64 m) ∧ m ≤ l ∧ (0 ≤ m → n ≤ 1048576)) ∧ Below w.heap.size w w' := by
  by_cases hbig : l - (n : Int) < 0
  · go_enter Try.func27, Try.ntmps27
    go_wp2
    go_ret
    exact ⟨⟨-1, rfl, by omega, fun h => by omega⟩, Below.refl _ _⟩
  · go_enter Try.func27, Try.ntmps27
    go_wp2
    go_ret
    exact ⟨⟨l - n, rfl, by omega, fun h => by omega⟩, Below.refl _ _⟩

theorem toGlyph_any (a b c d : Int) (w : World) : Calls Try.prog 49 #[.agg #[.int .i64 a, .int .i64 b, .int .i64 c, .int .i64 d]] w fun r w' => r = .returned (.agg #[.int .i64 a, .int .i64 b, .int .i64 c, .int .i64 d]) ∧ Below w.heap.size w w' := by
  go_enter Try.func49, Try.ntmps49
  go_wp2
  refine bodyPost_ret (v := .agg #[.int .i64 a, .int .i64 b, .int .i64 c, .int .i64 d]) (by simp [results, Try.results49, go_sem]) rfl ⟨rfl, ?_⟩
  repeat (first | exact below3 _ _ _ _ | refine Below.setCell ?_ (by first | (simp; done) | (simp; omega)) _)

theorem Try.info39 : (Try.prog.info? 39).map (fun i => (i.zero, i.size, i.bytes)) = some (some (.agg #[.int .i64 0, .int .i64 0, .int .i64 0, .int .i64 0]), 4, 32) := by kernel_rfl

set_option maxHeartbeats 4000000 in
theorem toGlyphS_any {v : Value} {xs : List Q4} {w : World} (h : QRow 0 w v xs) (hs : xs.length ≤ 1048576) :
    Calls Try.prog 33 #[v] w fun e w' => ∃ v', e = .returned v' ∧ QRow w.heap.size w' v' xs ∧ Below w.heap.size w w' := by
  have HR := hideP h
  obtain ⟨ao, cap, rfl⟩ := h.shape
  obtain ⟨n, hn⟩ : ∃ n, n = xs.length := ⟨_, rfl⟩
  rw [← hn] at HR
  rw [← hn]
  have hsz : n ≤ 1048576 := by rw [hn]; exact hs
  have HL := hideP hn
  obtain ⟨i0, hi, hz0, hz1, hz2⟩ := info_parts Try.info39
  have HI : Hid (i0.bytes = 32) := hz2
  clear h hs hn
  go_enter Try.func33, Try.ntmps33
  go_wp2_with (first
    | (refine wpList_make_full _ rfl _ _ 30 rfl w.heap.size 39 i0 (.agg #[.int .i64 0, .int .i64 0, .int .i64 0, .int .i64 0]) 4 Try.underlying30 hi hz0 hz1 _ _ _ _ n rfl rfl rfl rfl (by rw [show i0.bytes = 32 from HI]; omega) (by unfold maxLen; omega) (Nat.le_refl _) ?_; intro w1 hown hgrow))
  have hbel : Below w.heap.size w w1 := Below.grown (Below.refl _ _) hgrow (Nat.le_refl _) (by simp)
  have HO : Hid (SPart 4 QR Q4.none 39 w1 w.heap.size n 0 xs ∧ Below w.heap.size w w1) := by
    refine ⟨?_, hbel⟩
    rcases hown.2 with ⟨h', _⟩ | ⟨g', cap', cur, h', _, hg, _, _, hcs, _⟩
    · simp at h'
    · simp only [Value.slice.injEq, Option.some.injEq, Addr.mk.injEq, and_true, true_and] at h'
      obtain ⟨rfl, rfl⟩ := h'
      exact SPart.new hg hcs
  clear hown hgrow hbel
  go_wp2
  go_loopw [4] (fun i wr => ∃ k : Nat, k ≤ n ∧ i = .int .i64 k ∧ Hid (SPart 4 QR Q4.none 39 wr w.heap.size n k xs ∧ Below w.heap.size w wr)) (fun i _ => n - (intOf i).toNat)
  case atStart => exact ⟨0, by omega, rfl, HO⟩
  case round =>
    obtain ⟨k, hk, rfl, HP⟩ := hrel
    clear HO
    by_cases hkn : k < n
    · have hki : (k : Int) < (n : Int) := by omega
      obtain ⟨b, off, rfl, hb, _, g0, g1, g2, g3⟩ := HR.out.cells HP.out.2 hkn
      have HG := hideP (HR.out.rng (k := k) (by rw [← HL.out]; exact hkn))
      obtain ⟨t, ht⟩ : ∃ t, t = xs.getD k Q4.none := ⟨_, rfl⟩
      rw [← ht] at g0 g1 g2 g3 HG
      have HT := hideP ht
      clear ht
      obtain ⟨ta, tb, tc, td⟩ := t
      dsimp only at g0 g1 g2 g3
      go_wp2_with (go_at_call 49; refine (toGlyph_any _ _ _ _ _).mono ?_; rintro e w2 ⟨rfl, hb1⟩; have hp2 := SPart.below qStable HP.out.1 hb1; have hfz := hp2.free; obtain ⟨x0, hx0⟩ := hp2.cells (k * 4) (by omega); obtain ⟨x1, hx1⟩ := hp2.cells (k * 4 + 1) (by omega); obtain ⟨x2, hx2⟩ := hp2.cells (k * 4 + 2) (by omega); obtain ⟨x3, hx3⟩ := hp2.cells (k * 4 + 3) (by omega); have hlt2 := hp2.lt; have HP2 := hideP (And.intro hp2 (below_more HP.out.2 hb1 HP.out.2.size)); clear hp2 hb1)
      go_roundw
      case rel => exact ⟨k + 1, by omega, by go_num, hideP ⟨SPart.put qStable HP2.out.1 hkn (cs := [.int .i64 ta, .int .i64 tb, .int .i64 tc, .int .i64 td]) rfl (by rw [← HT.out]; exact ⟨rfl, HG.out⟩), putC_below (Nat.le_refl _) [.int .i64 ta, .int .i64 tb, .int .i64 tc, .int .i64 td] (k * 4) _ HP2.out.2⟩⟩
      case measure => simp [intOf]; omega
    · have hki : ¬ (k : Int) < (n : Int) := by omega
      obtain rfl : k = n := by omega
      go_wp2
      go_ret
      exact ⟨_, rfl, SPart.row qStable HP.out.1 HL.out.symm, HP.out.2⟩

theorem eqGlyph_same (a b c d : Int) (w : World) : Calls Try.prog 14 #[.agg #[.int .i64 a, .int .i64 b, .int .i64 c, .int .i64 d], .agg #[.int .i64 a, .int .i64 b, .int .i64 c, .int .i64 d]] w fun e w' => e = .returned (.bool true) ∧ Below w.heap.size w w' := by
  go_enter Try.func14, Try.ntmps14
  go_wp2
  go_ret
  exact ⟨rfl, below2 _ _ _⟩

set_option maxHeartbeats 4000000 in
theorem eqGlyphS_same {v1 v2 : Value} {xs : List Q4} {w : World} (h1 : QRow 0 w v1 xs) (h2 : QRow 0 w v2 xs) (hs : xs.length ≤ 1048576) :
    Calls Try.prog 37 #[v1, v2] w fun e w' => e = .returned (.bool true) ∧ Below w.heap.size w w' := by
  have HR1 := hideP h1
  have HR2 := hideP h2
  obtain ⟨ao1, cap1, rfl⟩ := h1.shape
  obtain ⟨ao2, cap2, rfl⟩ := h2.shape
  obtain ⟨n, hn⟩ : ∃ n, n = xs.length := ⟨_, rfl⟩
  rw [← hn] at HR1 HR2
  rw [← hn]
  have hsz : n ≤ 1048576 := by rw [hn]; exact hs
  have HL := hideP hn
  clear h1 h2 hs hn
  go_enter Try.func37, Try.ntmps37
  go_wp2
  go_loopw [5] (fun i wr => ∃ k : Nat, k ≤ n ∧ i = .int .i64 k ∧ Hid (Below w.heap.size w wr)) (fun i _ => n - (intOf i).toNat)
  case atStart => exact ⟨0, by omega, rfl, hideP (Below.refl _ _)⟩
  case round =>
    obtain ⟨k, hk, rfl, HB⟩ := hrel
    by_cases hkn : k < n
    · have hki : (k : Int) < (n : Int) := by omega
      obtain ⟨b, off, rfl, hb, _, g0, g1, g2, g3⟩ := HR1.out.cells HB.out hkn
      obtain ⟨b', off', rfl, hb', _, f0, f1, f2, f3⟩ := HR2.out.cells HB.out hkn
      obtain ⟨⟨ta, tb, tc, td⟩, ht⟩ : ∃ t, t = xs.getD k Q4.none := ⟨_, rfl⟩
      rw [← ht] at g0 g1 g2 g3 f0 f1 f2 f3
      clear ht
      dsimp only at g0 g1 g2 g3 f0 f1 f2 f3
      have BD : Hid (Below w.heap.size w wr.drew) := hideP HB.out.drew
      go_wp2_with fail
      go_region_with (go_at_call 14; refine (eqGlyph_same _ _ _ _ _).mono ?_; rintro e w2 ⟨rfl, hb1⟩; have B2 := hideP (below_more BD.out hb1 BD.out.size); clear hb1)
      all_goals
        go_wp2
        go_roundw
        case rel => exact ⟨k + 1, by omega, by go_num, B2⟩
        case measure => simp [intOf]; omega
    · have hki : ¬ (k : Int) < (n : Int) := by omega
      go_wp2
      go_ret
      exact ⟨rfl, HB.out⟩

theorem szPairS_any {ao : Option Addr} {n cap : Nat} {w : World} {l : Int} (hn : n ≤ 9223372036854775807) (hl0 : 0 ≤ l) (hl1 : l ≤ 1048576) :
    Calls Try.prog 28 #[.slice ao n cap, .int .i64 l] w fun e w' => (∃ m : Int, e = .returned (.int .i64 m) ∧ m ≤ l ∧ (0 ≤ m → n ≤ 1048576)) ∧ Below w.heap.size w w' := by
  by_cases hbig : l - (n : Int) < 0
  · go_enter Try.func28, Try.ntmps28
    go_wp2
    go_ret
    exact ⟨⟨-1, rfl, by omega, fun h => by omega⟩, Below.refl _ _⟩
  · go_enter Try.func28, Try.ntmps28
    go_wp2
    go_ret
    exact ⟨⟨l - n, rfl, by omega, fun h => by omega⟩, Below.refl _ _⟩

theorem toPair_any (a b c d : Int) (w : World) : Calls Try.prog 50 #[.agg #[.int .i64 a, .int .i64 b, .int .i64 c, .int .i64 d]] w fun r w' => r = .returned (.agg #[.int .i64 a, .int .i64 b, .int .i64 c, .int .i64 d]) ∧ Below w.heap.size w w' := by
  go_enter Try.func50, Try.ntmps50
  go_wp2
  refine bodyPost_ret (v := .agg #[.int .i64 a, .int .i64 b, .int .i64 c, .int .i64 d]) (by simp [results, Try.results50, go_sem]) rfl ⟨rfl, ?_⟩
  repeat (first | exact below3 _ _ _ _ | refine Below.setCell ?_ (by first | (simp; done) | (simp; omega)) _)

theorem Try.info63 : (Try.prog.info? 63).map (fun i => (i.zero, i.size, i.bytes)) = some (some (.agg #[.int .i64 0, .int .i64 0, .int .i64 0, .int .i64 0]), 4, 32) := by kernel_rfl

set_option maxHeartbeats 4000000 in
theorem toPairS_any {v : Value} {xs : List Q4} {w : World} (h : QRow 0 w v xs) (hs : xs.length ≤ 1048576) :
    Calls Try.prog 34 #[v] w fun e w' => ∃ v', e = .returned v' ∧ QRow w.heap.size w' v' xs ∧ Below w.heap.size w w' := by
  have HR := hideP h
  obtain ⟨ao, cap, rfl⟩ := h.shape
  obtain ⟨n, hn⟩ : ∃ n, n = xs.length := ⟨_, rfl⟩
  rw [← hn] at HR
  rw [← hn]
  have hsz : n ≤ 1048576 := by rw [hn]; exact hs
  have HL := hideP hn
  obtain ⟨i0, hi, hz0, hz1, hz2⟩ := info_parts Try.info63
  have HI : Hid (i0.bytes = 32) := hz2
  clear h hs hn
  go_enter Try.func34, Try.ntmps34
  go_wp2_with (first
    | (refine wpList_make_full _ rfl _ _ 31 rfl w.heap.size 63 i0 (.agg #[.int .i64 0, .int .i64 0, .int .i64 0, .int .i64 0]) 4 Try.underlying31 hi hz0 hz1 _ _ _ _ n rfl rfl rfl rfl (by rw [show i0.bytes = 32 from HI]; omega) (by unfold maxLen; omega) (Nat.le_refl _) ?_; intro w1 hown hgrow))
  have hbel : Below w.heap.size w w1 := Below.grown (Below.refl _ _) hgrow (Nat.le_refl _) (by simp)
  have HO : Hid (SPart 4 QR Q4.none 63 w1 w.heap.size n 0 xs ∧ Below w.heap.size w w1) := by
    refine ⟨?_, hbel⟩
    rcases hown.2 with ⟨h', _⟩ | ⟨g', cap', cur, h', _, hg, _, _, hcs, _⟩
    · simp at h'
    · simp only [Value.slice.injEq, Option.some.injEq, Addr.mk.injEq, and_true, true_and] at h'
      obtain ⟨rfl, rfl⟩ := h'
      exact SPart.new hg hcs
  clear hown hgrow hbel
  go_wp2
  go_loopw [4] (fun i wr => ∃ k : Nat, k ≤ n ∧ i = .int .i64 k ∧ Hid (SPart 4 QR Q4.none 63 wr w.heap.size n k xs ∧ Below w.heap.size w wr)) (fun i _ => n - (intOf i).toNat)
  case atStart => exact ⟨0, by omega, rfl, HO⟩
  case round =>
    obtain ⟨k, hk, rfl, HP⟩ := hrel
    clear HO
    by_cases hkn : k < n
    · have hki : (k : Int) < (n : Int) := by omega
      obtain ⟨b, off, rfl, hb, _, g0, g1, g2, g3⟩ := HR.out.cells HP.out.2 hkn
      have HG := hideP (HR.out.rng (k := k) (by rw [← HL.out]; exact hkn))
      obtain ⟨t, ht⟩ : ∃ t, t = xs.getD k Q4.none := ⟨_, rfl⟩
      rw [← ht] at g0 g1 g2 g3 HG
      have HT := hideP ht
      clear ht
      obtain ⟨ta, tb, tc, td⟩ := t
      dsimp only at g0 g1 g2 g3
      go_wp2_with (go_at_call 50; refine (toPair_any _ _ _ _ _).mono ?_; rintro e w2 ⟨rfl, hb1⟩; have hp2 := SPart.below qStable HP.out.1 hb1; have hfz := hp2.free; obtain ⟨x0, hx0⟩ := hp2.cells (k * 4) (by omega); obtain ⟨x1, hx1⟩ := hp2.cells (k * 4 + 1) (by omega); obtain ⟨x2, hx2⟩ := hp2.cells (k * 4 + 2) (by omega); obtain ⟨x3, hx3⟩ := hp2.cells (k * 4 + 3) (by omega); have hlt2 := hp2.lt; have HP2 := hideP (And.intro hp2 (below_more HP.out.2 hb1 HP.out.2.size)); clear hp2 hb1)
      go_roundw
      case rel => exact ⟨k + 1, by omega, by go_num, hideP ⟨SPart.put qStable HP2.out.1 hkn (cs := [.int .i64 ta, .int .i64 tb, .int .i64 tc, .int .i64 td]) rfl (by rw [← HT.out]; exact ⟨rfl, HG.out⟩), putC_below (Nat.le_refl _) [.int .i64 ta, .int .i64 tb, .int .i64 tc, .int .i64 td] (k * 4) _ HP2.out.2⟩⟩
      case measure => simp [intOf]; omega
    · have hki : ¬ (k : Int) < (n : Int) := by omega
      obtain rfl : k = n := by omega
      go_wp2
      go_ret
      exact ⟨_, rfl, SPart.row qStable HP.out.1 HL.out.symm, HP.out.2⟩

theorem eqPair_same (a b c d : Int) (w : World) : Calls Try.prog 56 #[.agg #[.int .i64 a, .int .i64 b, .int .i64 c, .int .i64 d], .agg #[.int .i64 a, .int .i64 b, .int .i64 c, .int .i64 d]] w fun e w' => e = .returned (.bool true) ∧ Below w.heap.size w w' := by
  go_enter Try.func56, Try.ntmps56
  go_wp2
  go_ret
  exact ⟨rfl, below2 _ _ _⟩

set_option maxHeartbeats 4000000 in
theorem eqPairS_same {v1 v2 : Value} {xs : List Q4} {w : World} (h1 : QRow 0 w v1 xs) (h2 : QRow 0 w v2 xs) (hs : xs.length ≤ 1048576) :
    Calls Try.prog 38 #[v1, v2] w fun e w' => e = .returned (.bool true) ∧ Below w.heap.size w w' := by
  have HR1 := hideP h1
  have HR2 := hideP h2
  obtain ⟨ao1, cap1, rfl⟩ := h1.shape
  obtain ⟨ao2, cap2, rfl⟩ := h2.shape
  obtain ⟨n, hn⟩ : ∃ n, n = xs.length := ⟨_, rfl⟩
  rw [← hn] at HR1 HR2
  rw [← hn]
  have hsz : n ≤ 1048576 := by rw [hn]; exact hs
  have HL := hideP hn
  clear h1 h2 hs hn
  go_enter Try.func38, Try.ntmps38
  go_wp2
  go_loopw [5] (fun i wr => ∃ k : Nat, k ≤ n ∧ i = .int .i64 k ∧ Hid (Below w.heap.size w wr)) (fun i _ => n - (intOf i).toNat)
  case atStart => exact ⟨0, by omega, rfl, hideP (Below.refl _ _)⟩
  case round =>
    obtain ⟨k, hk, rfl, HB⟩ := hrel
    by_cases hkn : k < n
    · have hki : (k : Int) < (n : Int) := by omega
      obtain ⟨b, off, rfl, hb, _, g0, g1, g2, g3⟩ := HR1.out.cells HB.out hkn
      obtain ⟨b', off', rfl, hb', _, f0, f1, f2, f3⟩ := HR2.out.cells HB.out hkn
      obtain ⟨⟨ta, tb, tc, td⟩, ht⟩ : ∃ t, t = xs.getD k Q4.none := ⟨_, rfl⟩
      rw [← ht] at g0 g1 g2 g3 f0 f1 f2 f3
      clear ht
      dsimp only at g0 g1 g2 g3 f0 f1 f2 f3
      have BD : Hid (Below w.heap.size w wr.drew) := hideP HB.out.drew
      go_wp2_with fail
      go_region_with (go_at_call 56; refine (eqPair_same _ _ _ _ _).mono ?_; rintro e w2 ⟨rfl, hb1⟩; have B2 := hideP (below_more BD.out hb1 BD.out.size); clear hb1)
      all_goals
        go_wp2
        go_roundw
        case rel => exact ⟨k + 1, by omega, by go_num, B2⟩
        case measure => simp [intOf]; omega
    · have hki : ¬ (k : Int) < (n : Int) := by omega
      go_wp2
      go_ret
      exact ⟨rfl, HB.out⟩

theorem eqGlue_same (a b c d e : Int) (w : World) : Calls Try.prog 39 #[glueV a b c d e, glueV a b c d e] w fun r w' => r = .returned (.bool true) ∧ Below w.heap.size w w' := by
  go_enter Try.func39, Try.ntmps39
  go_wp2
  go_ret
  exact ⟨rfl, below2 _ _ _⟩
end Go.Proofs.Ytggcfgbpameppaa
