/-
  Rows of patterns and of exceptions: weighed, copied and compared.
-/
import Derived.Test.YtejigikcpmhhoaaRowg
import Derived.Deep.RegionWith
namespace Go.Proofs.Ytejigikcpmhhoaa
open Go.RowKit
set_option linter.unusedVariables false
set_option linter.unusedSimpArgs false

/-- A text and numbers: a pattern, or an exception. -/
structure Pt where
  s : ByteArray
  z : List Int
def Pt.none : Pt := ⟨ByteArray.empty, []⟩
def PtR (lo : Nat) (w : World) (cs : List Value) (x : Pt) : Prop := ∃ v, cs = [.string x.s, v] ∧ RIn lo w v x.z
theorem ptStable : Stable PtR where
  abv := by rintro lo w w' cs x ⟨v, rfl, h⟩ ha; exact ⟨v, rfl, h.abv ha⟩
  mono := by rintro lo lo' w cs x ⟨v, rfl, h⟩ hl; exact ⟨v, rfl, h.mono hl⟩
abbrev PRow (lo : Nat) (w : World) (v : Value) (xs : List Pt) : Prop := SRow 2 PtR Pt.none lo w v xs
def FnP (x : Pt) : Prop := x.s.size ≤ 9223372036854775807 ∧ x.z.length ≤ 9223372036854775807
def SmP (x : Pt) : Prop := x.s.size ≤ 1048576 ∧ x.z.length ≤ 1048576
theorem RIn.row_below {lo : Nat} {w w' : World} {v : Value} {zs : List Int} (h : RIn lo w v zs) {b : Nat} (hb : Below w.heap.size w w') : Row w' v zs := h.1.below hb

set_option maxHeartbeats 2000000 in
theorem szPatternS_any {v : Value} {xs : List Pt} {w : World} {l : Int} (h : PRow 0 w v xs) (hf : xs.length ≤ 9223372036854775807 ∧ ∀ i, i < xs.length → FnP (xs.getD i Pt.none)) (hl0 : 0 ≤ l) (hl1 : l ≤ 1048576) :
    Calls Try.prog 43 #[v, .int .i64 l] w fun e w' => (∃ m : Int, e = .returned (.int .i64 m) ∧ m ≤ l ∧ (0 ≤ m → xs.length ≤ 1048576 ∧ ∀ i, i < xs.length → SmP (xs.getD i Pt.none))) ∧ Below w.heap.size w w' := by
  obtain ⟨ao, n, cap, rfl, hl, hr⟩ := h
  have hn : n ≤ 9223372036854775807 := by rw [← hl]; exact hf.1
  by_cases hbig : l - (n : Int) < 0
  · go_enter Try.func43, Try.ntmps43
    go_wp2
    go_ret
    exact ⟨⟨-1, rfl, by omega, fun h => by omega⟩, Below.refl _ _⟩
  · have HR : Hid (0 < n → ∃ b off, ao = some ⟨b, off, none⟩ ∧ 0 ≤ b ∧ b < w.heap.size ∧ ∀ i, i < n → ∃ cs : List Value, cs.length = 2 ∧ PtR 0 w cs (xs.getD i Pt.none) ∧ ∀ j, j < 2 → w.cell? ⟨b, off + i * 2 + j, none⟩ = cs[j]?) := hr
    have HS : Hid (∀ i, i < xs.length → FnP (xs.getD i Pt.none)) := hf.2
    have HL : Hid (xs.length = n) := hl
    clear hr hf hl
    go_enter Try.func43, Try.ntmps43
    go_wp2
    go_loopw [1, 5] (fun s i wr => ∃ (k : Nat) (m : Int), k ≤ n ∧ i = .int .i64 k ∧ s = .int .i64 m ∧ 0 ≤ m ∧ m ≤ l ∧ Hid (∀ i, i < k → SmP (xs.getD i Pt.none)) ∧ Below w.heap.size w wr)
      (fun _ i _ => n - (intOf i).toNat)
    case atStart => exact ⟨0, l - n, by omega, rfl, rfl, by omega, by omega, fun i hi => absurd hi (by omega), Below.refl _ _⟩
    case round =>
      obtain ⟨k, m, hk, rfl, rfl, hm0, hm1, HM, hbel⟩ := hrel
      by_cases hkn : k < n
      · have hki : (k : Int) < (n : Int) := by omega
        obtain ⟨b, off, rfl, hlo, hb, hc⟩ := HR (by omega)
        have hfk : FnP (xs.getD k Pt.none) := HS k (by rw [show xs.length = n from HL]; exact hkn)
        obtain ⟨cs, hcl, hRel, hcj⟩ := hc k hkn
        obtain ⟨t, ht⟩ : ∃ t, t = xs.getD k Pt.none := ⟨_, rfl⟩
        rw [← ht] at hRel hfk
        have HT : Hid (t = xs.getD k Pt.none) := ht
        obtain ⟨ps, pz⟩ := t
        obtain ⟨u, rfl, hin⟩ := hRel
        obtain ⟨a, c, rfl⟩ := hin.shape
        dsimp only at hin hcj
        obtain ⟨n0, hn0⟩ : ∃ n0, n0 = pz.length := ⟨_, rfl⟩
        rw [← hn0] at hin hcj
        have g0 : wr.cell? ⟨b, off + k * 2, none⟩ = some (.string ps) := (hbel.cell (p := ⟨b, off + k * 2, none⟩) hb).trans (hcj 0 (by omega))
        have g1 : wr.cell? ⟨b, off + k * 2 + 1, none⟩ = some (.slice a n0 c) := (hbel.cell (p := ⟨b, off + k * 2 + 1, none⟩) hb).trans (hcj 1 (by omega))
        have HB : Hid (Below w.heap.size w wr) := hbel
        have HX : Hid (FnP ⟨ps, pz⟩ ∧ Row wr (.slice a n0 c) pz) := ⟨hfk, hin.1.below hbel⟩
        clear hc hcj hcl hbel ht hfk hin hn0
        go_wp2_with fail
        refine (szPattern_any HX.2 HX.1.1 HX.1.2 hm0 (by omega)).mono ?_
        rintro e w2 ⟨⟨m2, rfl, hm2l, hm2⟩, hb1⟩
        have B2 : Hid (Below w.heap.size w w2) := below_more HB hb1 (Below.size HB)
        have HM2 : Hid (0 ≤ m2 → SmP ⟨ps, pz⟩) := fun h => hm2 h
        clear hb1 hm2
        by_cases hneg : m2 < 0
        · go_wp2
          go_ret
          exact ⟨⟨-1, rfl, by omega, fun h => by omega⟩, B2⟩
        · go_wp2
          go_roundw
          case rel =>
            refine ⟨k + 1, m2, by omega, by go_num, rfl, by omega, by omega, fun i hi => ?_, B2⟩
            by_cases hik : i = k
            · subst hik; rw [← show (⟨ps, pz⟩ : Pt) = xs.getD i Pt.none from HT]; exact HM2 (by omega)
            · exact HM i (by omega)
          case measure => simp [intOf]; omega
      · have hki : ¬ (k : Int) < (n : Int) := by omega
        obtain rfl : k = n := by omega
        have HB : Hid (Below w.heap.size w wr) := hbel
        clear hbel
        go_wp2
        go_ret
        refine ⟨⟨m, rfl, hm1, fun _ => ⟨?_, fun i hi => HM i ?_⟩⟩, HB⟩
        · have hl : xs.length = k := HL
          omega
        · have hl : xs.length = k := HL
          omega

theorem Try.info26 : (Try.prog.info? 26).map (fun i => (i.zero, i.size, i.bytes)) = some (some (.agg #[.string ByteArray.empty, .slice none 0 0]), 2, 40) := by kernel_rfl

set_option maxHeartbeats 4000000 in
theorem toPatternS_any {v : Value} {xs : List Pt} {w : World} (h : PRow 0 w v xs) (hs : xs.length ≤ 1048576 ∧ ∀ i, i < xs.length → SmP (xs.getD i Pt.none)) :
    Calls Try.prog 46 #[v] w fun e w' => ∃ v', e = .returned v' ∧ PRow w.heap.size w' v' xs ∧ Below w.heap.size w w' := by
  obtain ⟨ao, n, cap, rfl, hn, hr⟩ := h
  have hsz : n ≤ 1048576 := by rw [← hn]; exact hs.1
  have HS : Hid (∀ i, i < xs.length → SmP (xs.getD i Pt.none)) := hs.2
  have HL : Hid (xs.length = n) := hn
  obtain ⟨i0, hi, hz0, hz1, hz2⟩ := info_parts Try.info26
  have HI : Hid (i0.bytes = 40) := hz2
  have HR : Hid (0 < n → ∃ b off, ao = some ⟨b, off, none⟩ ∧ 0 ≤ b ∧ b < w.heap.size ∧ ∀ i, i < n → ∃ cs : List Value, cs.length = 2 ∧ PtR 0 w cs (xs.getD i Pt.none) ∧ ∀ j, j < 2 → w.cell? ⟨b, off + i * 2 + j, none⟩ = cs[j]?) := hr
  clear hr hs hn
  go_enter Try.func46, Try.ntmps46
  go_wp2_with (first
    | (refine wpList_make_full _ rfl _ _ 47 rfl w.heap.size 26 i0 (.agg #[.string ByteArray.empty, .slice none 0 0]) 2 Try.underlying47 hi hz0 hz1 _ _ _ _ n rfl rfl rfl rfl (by rw [show i0.bytes = 40 from HI]; omega) (by unfold maxLen; omega) (Nat.le_refl _) ?_; intro w1 hown hgrow))
  have hbel : Below w.heap.size w w1 := Below.grown (Below.refl _ _) hgrow (Nat.le_refl _) (by simp)
  have HO : Hid (SPart 2 PtR Pt.none 26 w1 w.heap.size n 0 xs ∧ Below w.heap.size w w1) := by
    refine ⟨?_, hbel⟩
    rcases hown.2 with ⟨h', _⟩ | ⟨g', cap', cur, h', _, hg, _, _, hcs, _⟩
    · simp at h'
    · simp only [Value.slice.injEq, Option.some.injEq, Addr.mk.injEq, and_true, true_and] at h'
      obtain ⟨rfl, rfl⟩ := h'
      exact SPart.new hg hcs
  clear hown hgrow hbel
  go_wp2
  go_loopw [4] (fun i wr => ∃ k : Nat, k ≤ n ∧ i = .int .i64 k ∧ SPart 2 PtR Pt.none 26 wr w.heap.size n k xs ∧ Below w.heap.size w wr) (fun i _ => n - (intOf i).toNat)
  case atStart => exact ⟨0, by omega, rfl, HO.1, HO.2⟩
  case round =>
    obtain ⟨k, hk, rfl, hp, hbel⟩ := hrel
    by_cases hkn : k < n
    · have hki : (k : Int) < (n : Int) := by omega
      obtain ⟨b, off, rfl, hlo, hb, hc⟩ := HR (by omega)
      have hfk : SmP (xs.getD k Pt.none) := HS k (by rw [show xs.length = n from HL]; exact hkn)
      obtain ⟨cs, hcl, hRel, hcj⟩ := hc k hkn
      obtain ⟨t, ht⟩ : ∃ t, t = xs.getD k Pt.none := ⟨_, rfl⟩
      rw [← ht] at hRel hfk
      have HT : Hid (t = xs.getD k Pt.none) := ht
      obtain ⟨ps, pz⟩ := t
      obtain ⟨u, rfl, hin⟩ := hRel
      obtain ⟨a, c, rfl⟩ := hin.shape
      dsimp only at hin hcj
      obtain ⟨n0, hn0⟩ : ∃ n0, n0 = pz.length := ⟨_, rfl⟩
      rw [← hn0] at hin hcj
      have g0 : wr.cell? ⟨b, off + k * 2, none⟩ = some (.string ps) := (hbel.cell (p := ⟨b, off + k * 2, none⟩) hb).trans (hcj 0 (by omega))
      have g1 : wr.cell? ⟨b, off + k * 2 + 1, none⟩ = some (.slice a n0 c) := (hbel.cell (p := ⟨b, off + k * 2 + 1, none⟩) hb).trans (hcj 1 (by omega))
      have HB : Hid (Below w.heap.size w wr) := hbel
      have HP : Hid (SPart 2 PtR Pt.none 26 wr w.heap.size n k xs) := hp
      have HX : Hid (SmP ⟨ps, pz⟩ ∧ Row wr (.slice a n0 c) pz) := ⟨hfk, hin.1.below hbel⟩
      clear hc hcj hcl hbel ht hfk hp hin hn0
      go_wp2_with (go_at_call 17; refine (toPattern_any HX.2 HX.1.2).mono ?_; rintro e w2 ⟨u2, rfl, hin2, hb1⟩; obtain ⟨a2, n2, c2, rfl⟩ : ∃ a n c, u2 = .slice a n c := (by obtain ⟨a, c, rfl⟩ := hin2.shape; exact ⟨_, _, _, rfl⟩); have hp2 := SPart.below ptStable HP hb1; have hfz := hp2.free; obtain ⟨x0, hx0⟩ := hp2.cells (k * 2) (by omega); obtain ⟨x1, hx1⟩ := hp2.cells (k * 2 + 1) (by omega); have hlt2 := hp2.lt; have HP2 : Hid (SPart 2 PtR Pt.none 26 w2 w.heap.size n k xs ∧ Below w.heap.size w w2 ∧ PtR (w.heap.size + 1) w2 [.string ps, .slice a2 n2 c2] ⟨ps, pz⟩) := ⟨hp2, below_more HB hb1 (Below.size HB), ⟨_, rfl, hin2.mono (by have := SPart.lt HP; omega)⟩⟩; clear hp2 hb1 hin2)
      go_roundw
      case rel => exact ⟨k + 1, by omega, by go_num, SPart.put ptStable HP2.1 hkn (cs := [.string ps, .slice a2 n2 c2]) rfl (by rw [← show (⟨ps, pz⟩ : Pt) = xs.getD k Pt.none from HT]; exact HP2.2.2), putC_below (Nat.le_refl _) [.string ps, .slice a2 n2 c2] (k * 2) _ HP2.2.1⟩
      case measure => simp [intOf]; omega
    · have hki : ¬ (k : Int) < (n : Int) := by omega
      obtain rfl : k = n := by omega
      have HP : Hid (SPart 2 PtR Pt.none 26 wr w.heap.size k k xs ∧ Below w.heap.size w wr) := ⟨hp, hbel⟩
      clear hp hbel
      go_wp2
      go_ret
      exact ⟨_, rfl, SPart.row ptStable HP.1 HL, HP.2⟩

theorem eqPattern_same {v u : Value} {s : ByteArray} {xs : List Int} {w : World} (h : Row w v xs) (g : Row w u xs) (hz : xs.length ≤ 1048576) :
    Calls Try.prog 18 #[patV s v, patV s u] w fun e w' => e = .returned (.bool true) ∧ Below w.heap.size w w' := by
  have := eqPattern_any (s := s) (t := s) h g hz
  rw [show (s.toList == s.toList && decide (xs = xs)) = true by simp] at this
  exact this

set_option maxHeartbeats 4000000 in
theorem eqPatternS_same {v1 v2 : Value} {xs : List Pt} {w : World} (h1 : PRow 0 w v1 xs) (h2 : PRow 0 w v2 xs) (hs : xs.length ≤ 1048576 ∧ ∀ i, i < xs.length → SmP (xs.getD i Pt.none)) :
    Calls Try.prog 51 #[v1, v2] w fun e w' => e = .returned (.bool true) ∧ Below w.heap.size w w' := by
  obtain ⟨ao1, n1, cap1, rfl, hn1, hr1⟩ := h1
  obtain ⟨ao2, n2, cap2, rfl, hn2, hr2⟩ := h2
  obtain rfl : n1 = n2 := by omega
  have hx : n1 ≤ 1048576 := by rw [← hn1]; exact hs.1
  have HS : Hid (∀ i, i < xs.length → SmP (xs.getD i Pt.none)) := hs.2
  have HL : Hid (xs.length = n1) := hn1
  have HR1 : Hid (0 < n1 → ∃ b off, ao1 = some ⟨b, off, none⟩ ∧ 0 ≤ b ∧ b < w.heap.size ∧ ∀ i, i < n1 → ∃ cs : List Value, cs.length = 2 ∧ PtR 0 w cs (xs.getD i Pt.none) ∧ ∀ j, j < 2 → w.cell? ⟨b, off + i * 2 + j, none⟩ = cs[j]?) := hr1
  have HR2 : Hid (0 < n1 → ∃ b off, ao2 = some ⟨b, off, none⟩ ∧ 0 ≤ b ∧ b < w.heap.size ∧ ∀ i, i < n1 → ∃ cs : List Value, cs.length = 2 ∧ PtR 0 w cs (xs.getD i Pt.none) ∧ ∀ j, j < 2 → w.cell? ⟨b, off + i * 2 + j, none⟩ = cs[j]?) := hr2
  clear hn1 hn2 hr1 hr2 hs
  go_enter Try.func51, Try.ntmps51
  go_wp2
  go_loopw [5] (fun i wr => ∃ k : Nat, k ≤ n1 ∧ i = .int .i64 k ∧ Below w.heap.size w wr) (fun i _ => n1 - (intOf i).toNat)
  case atStart => exact ⟨0, by omega, rfl, Below.refl _ _⟩
  case round =>
    obtain ⟨k, hk, rfl, hbel⟩ := hrel
    by_cases hkn : k < n1
    · have hki : (k : Int) < (n1 : Int) := by omega
      obtain ⟨b, off, rfl, hlo, hb, hc⟩ := HR1 (by omega)
      obtain ⟨b', off', rfl, hlo', hb', hc'⟩ := HR2 (by omega)
      have hfk : SmP (xs.getD k Pt.none) := HS k (by rw [show xs.length = n1 from HL]; exact hkn)
      obtain ⟨cs, hcl, hRel, hcj⟩ := hc k hkn
      obtain ⟨cs', hcl', hRel', hcj'⟩ := hc' k hkn
      obtain ⟨t, ht⟩ : ∃ t, t = xs.getD k Pt.none := ⟨_, rfl⟩
      rw [← ht] at hRel hRel' hfk
      obtain ⟨ps, pz⟩ := t
      obtain ⟨u1, rfl, hin1⟩ := hRel
      obtain ⟨u2, rfl, hin2⟩ := hRel'
      obtain ⟨a1, m1, c1, rfl⟩ : ∃ a n c, u1 = .slice a n c := by obtain ⟨a, c, rfl⟩ := hin1.shape; exact ⟨_, _, _, rfl⟩
      obtain ⟨a2, m2, c2, rfl⟩ : ∃ a n c, u2 = .slice a n c := by obtain ⟨a, c, rfl⟩ := hin2.shape; exact ⟨_, _, _, rfl⟩
      dsimp only at hin1 hin2 hcj hcj'
      have g0 : wr.cell? ⟨b, off + k * 2, none⟩ = some (.string ps) := (hbel.cell (p := ⟨b, off + k * 2, none⟩) hb).trans (hcj 0 (by omega))
      have g1 : wr.cell? ⟨b, off + k * 2 + 1, none⟩ = some (.slice a1 m1 c1) := (hbel.cell (p := ⟨b, off + k * 2 + 1, none⟩) hb).trans (hcj 1 (by omega))
      have f0 : wr.cell? ⟨b', off' + k * 2, none⟩ = some (.string ps) := (hbel.cell (p := ⟨b', off' + k * 2, none⟩) hb').trans (hcj' 0 (by omega))
      have f1 : wr.cell? ⟨b', off' + k * 2 + 1, none⟩ = some (.slice a2 m2 c2) := (hbel.cell (p := ⟨b', off' + k * 2 + 1, none⟩) hb').trans (hcj' 1 (by omega))
      have BD : Below w.heap.size w wr.drew := Below.drew hbel
      have HB : Hid (Below w.heap.size w wr) := hbel
      have HX : Hid (SmP ⟨ps, pz⟩ ∧ Row wr.drew (.slice a1 m1 c1) pz ∧ Row wr.drew (.slice a2 m2 c2) pz) := ⟨hfk, hin1.1.below BD, hin2.1.below BD⟩
      clear hc hc' hcl hcl' hcj hcj' hbel ht hfk BD hin1 hin2
      go_wp2
      go_region_with (go_at_call 18; refine (eqPattern_same HX.2.1 HX.2.2 HX.1.2).mono ?_; rintro e w2 ⟨rfl, hb1⟩)
      all_goals
        have hb2 : Below w.heap.size w w2 := Below.trans (Below.drew HB) (‹Below _ _ w2›.mono (Below.size HB))
        go_wp2
        go_roundw
        case rel => exact ⟨k + 1, by omega, by go_num, hb2⟩
        case measure => simp [intOf]; omega
    · have hki : ¬ (k : Int) < (n1 : Int) := by omega
      have HB : Hid (Below w.heap.size w wr) := hbel
      clear hbel
      go_wp2
      go_ret
      exact ⟨rfl, HB⟩

set_option maxHeartbeats 2000000 in
theorem szExceptionS_any {v : Value} {xs : List Pt} {w : World} {l : Int} (h : PRow 0 w v xs) (hf : xs.length ≤ 9223372036854775807 ∧ ∀ i, i < xs.length → FnP (xs.getD i Pt.none)) (hl0 : 0 ≤ l) (hl1 : l ≤ 1048576) :
    Calls Try.prog 44 #[v, .int .i64 l] w fun e w' => (∃ m : Int, e = .returned (.int .i64 m) ∧ m ≤ l ∧ (0 ≤ m → xs.length ≤ 1048576 ∧ ∀ i, i < xs.length → SmP (xs.getD i Pt.none))) ∧ Below w.heap.size w w' := by
  obtain ⟨ao, n, cap, rfl, hl, hr⟩ := h
  have hn : n ≤ 9223372036854775807 := by rw [← hl]; exact hf.1
  by_cases hbig : l - (n : Int) < 0
  · go_enter Try.func44, Try.ntmps44
    go_wp2
    go_ret
    exact ⟨⟨-1, rfl, by omega, fun h => by omega⟩, Below.refl _ _⟩
  · have HR : Hid (0 < n → ∃ b off, ao = some ⟨b, off, none⟩ ∧ 0 ≤ b ∧ b < w.heap.size ∧ ∀ i, i < n → ∃ cs : List Value, cs.length = 2 ∧ PtR 0 w cs (xs.getD i Pt.none) ∧ ∀ j, j < 2 → w.cell? ⟨b, off + i * 2 + j, none⟩ = cs[j]?) := hr
    have HS : Hid (∀ i, i < xs.length → FnP (xs.getD i Pt.none)) := hf.2
    have HL : Hid (xs.length = n) := hl
    clear hr hf hl
    go_enter Try.func44, Try.ntmps44
    go_wp2
    go_loopw [1, 5] (fun s i wr => ∃ (k : Nat) (m : Int), k ≤ n ∧ i = .int .i64 k ∧ s = .int .i64 m ∧ 0 ≤ m ∧ m ≤ l ∧ Hid (∀ i, i < k → SmP (xs.getD i Pt.none)) ∧ Below w.heap.size w wr)
      (fun _ i _ => n - (intOf i).toNat)
    case atStart => exact ⟨0, l - n, by omega, rfl, rfl, by omega, by omega, fun i hi => absurd hi (by omega), Below.refl _ _⟩
    case round =>
      obtain ⟨k, m, hk, rfl, rfl, hm0, hm1, HM, hbel⟩ := hrel
      by_cases hkn : k < n
      · have hki : (k : Int) < (n : Int) := by omega
        obtain ⟨b, off, rfl, hlo, hb, hc⟩ := HR (by omega)
        have hfk : FnP (xs.getD k Pt.none) := HS k (by rw [show xs.length = n from HL]; exact hkn)
        obtain ⟨cs, hcl, hRel, hcj⟩ := hc k hkn
        obtain ⟨t, ht⟩ : ∃ t, t = xs.getD k Pt.none := ⟨_, rfl⟩
        rw [← ht] at hRel hfk
        have HT : Hid (t = xs.getD k Pt.none) := ht
        obtain ⟨ps, pz⟩ := t
        obtain ⟨u, rfl, hin⟩ := hRel
        obtain ⟨a, c, rfl⟩ := hin.shape
        dsimp only at hin hcj
        obtain ⟨n0, hn0⟩ : ∃ n0, n0 = pz.length := ⟨_, rfl⟩
        rw [← hn0] at hin hcj
        have g0 : wr.cell? ⟨b, off + k * 2, none⟩ = some (.string ps) := (hbel.cell (p := ⟨b, off + k * 2, none⟩) hb).trans (hcj 0 (by omega))
        have g1 : wr.cell? ⟨b, off + k * 2 + 1, none⟩ = some (.slice a n0 c) := (hbel.cell (p := ⟨b, off + k * 2 + 1, none⟩) hb).trans (hcj 1 (by omega))
        have HB : Hid (Below w.heap.size w wr) := hbel
        have HX : Hid (FnP ⟨ps, pz⟩ ∧ Row wr (.slice a n0 c) pz) := ⟨hfk, hin.1.below hbel⟩
        clear hc hcj hcl hbel ht hfk hin hn0
        go_wp2_with fail
        refine (szException_any HX.2 HX.1.1 HX.1.2 hm0 (by omega)).mono ?_
        rintro e w2 ⟨⟨m2, rfl, hm2l, hm2⟩, hb1⟩
        have B2 : Hid (Below w.heap.size w w2) := below_more HB hb1 (Below.size HB)
        have HM2 : Hid (0 ≤ m2 → SmP ⟨ps, pz⟩) := fun h => hm2 h
        clear hb1 hm2
        by_cases hneg : m2 < 0
        · go_wp2
          go_ret
          exact ⟨⟨-1, rfl, by omega, fun h => by omega⟩, B2⟩
        · go_wp2
          go_roundw
          case rel =>
            refine ⟨k + 1, m2, by omega, by go_num, rfl, by omega, by omega, fun i hi => ?_, B2⟩
            by_cases hik : i = k
            · subst hik; rw [← show (⟨ps, pz⟩ : Pt) = xs.getD i Pt.none from HT]; exact HM2 (by omega)
            · exact HM i (by omega)
          case measure => simp [intOf]; omega
      · have hki : ¬ (k : Int) < (n : Int) := by omega
        obtain rfl : k = n := by omega
        have HB : Hid (Below w.heap.size w wr) := hbel
        clear hbel
        go_wp2
        go_ret
        refine ⟨⟨m, rfl, hm1, fun _ => ⟨?_, fun i hi => HM i ?_⟩⟩, HB⟩
        · have hl : xs.length = k := HL
          omega
        · have hl : xs.length = k := HL
          omega

theorem Try.info74 : (Try.prog.info? 74).map (fun i => (i.zero, i.size, i.bytes)) = some (some (.agg #[.string ByteArray.empty, .slice none 0 0]), 2, 40) := by kernel_rfl

set_option maxHeartbeats 4000000 in
theorem toExceptionS_any {v : Value} {xs : List Pt} {w : World} (h : PRow 0 w v xs) (hs : xs.length ≤ 1048576 ∧ ∀ i, i < xs.length → SmP (xs.getD i Pt.none)) :
    Calls Try.prog 47 #[v] w fun e w' => ∃ v', e = .returned v' ∧ PRow w.heap.size w' v' xs ∧ Below w.heap.size w w' := by
  obtain ⟨ao, n, cap, rfl, hn, hr⟩ := h
  have hsz : n ≤ 1048576 := by rw [← hn]; exact hs.1
  have HS : Hid (∀ i, i < xs.length → SmP (xs.getD i Pt.none)) := hs.2
  have HL : Hid (xs.length = n) := hn
  obtain ⟨i0, hi, hz0, hz1, hz2⟩ := info_parts Try.info74
  have HI : Hid (i0.bytes = 40) := hz2
  have HR : Hid (0 < n → ∃ b off, ao = some ⟨b, off, none⟩ ∧ 0 ≤ b ∧ b < w.heap.size ∧ ∀ i, i < n → ∃ cs : List Value, cs.length = 2 ∧ PtR 0 w cs (xs.getD i Pt.none) ∧ ∀ j, j < 2 → w.cell? ⟨b, off + i * 2 + j, none⟩ = cs[j]?) := hr
  clear hr hs hn
  go_enter Try.func47, Try.ntmps47
  go_wp2_with (first
    | (refine wpList_make_full _ rfl _ _ 48 rfl w.heap.size 74 i0 (.agg #[.string ByteArray.empty, .slice none 0 0]) 2 Try.underlying48 hi hz0 hz1 _ _ _ _ n rfl rfl rfl rfl (by rw [show i0.bytes = 40 from HI]; omega) (by unfold maxLen; omega) (Nat.le_refl _) ?_; intro w1 hown hgrow))
  have hbel : Below w.heap.size w w1 := Below.grown (Below.refl _ _) hgrow (Nat.le_refl _) (by simp)
  have HO : Hid (SPart 2 PtR Pt.none 74 w1 w.heap.size n 0 xs ∧ Below w.heap.size w w1) := by
    refine ⟨?_, hbel⟩
    rcases hown.2 with ⟨h', _⟩ | ⟨g', cap', cur, h', _, hg, _, _, hcs, _⟩
    · simp at h'
    · simp only [Value.slice.injEq, Option.some.injEq, Addr.mk.injEq, and_true, true_and] at h'
      obtain ⟨rfl, rfl⟩ := h'
      exact SPart.new hg hcs
  clear hown hgrow hbel
  go_wp2
  go_loopw [4] (fun i wr => ∃ k : Nat, k ≤ n ∧ i = .int .i64 k ∧ SPart 2 PtR Pt.none 74 wr w.heap.size n k xs ∧ Below w.heap.size w wr) (fun i _ => n - (intOf i).toNat)
  case atStart => exact ⟨0, by omega, rfl, HO.1, HO.2⟩
  case round =>
    obtain ⟨k, hk, rfl, hp, hbel⟩ := hrel
    by_cases hkn : k < n
    · have hki : (k : Int) < (n : Int) := by omega
      obtain ⟨b, off, rfl, hlo, hb, hc⟩ := HR (by omega)
      have hfk : SmP (xs.getD k Pt.none) := HS k (by rw [show xs.length = n from HL]; exact hkn)
      obtain ⟨cs, hcl, hRel, hcj⟩ := hc k hkn
      obtain ⟨t, ht⟩ : ∃ t, t = xs.getD k Pt.none := ⟨_, rfl⟩
      rw [← ht] at hRel hfk
      have HT : Hid (t = xs.getD k Pt.none) := ht
      obtain ⟨ps, pz⟩ := t
      obtain ⟨u, rfl, hin⟩ := hRel
      obtain ⟨a, c, rfl⟩ := hin.shape
      dsimp only at hin hcj
      obtain ⟨n0, hn0⟩ : ∃ n0, n0 = pz.length := ⟨_, rfl⟩
      rw [← hn0] at hin hcj
      have g0 : wr.cell? ⟨b, off + k * 2, none⟩ = some (.string ps) := (hbel.cell (p := ⟨b, off + k * 2, none⟩) hb).trans (hcj 0 (by omega))
      have g1 : wr.cell? ⟨b, off + k * 2 + 1, none⟩ = some (.slice a n0 c) := (hbel.cell (p := ⟨b, off + k * 2 + 1, none⟩) hb).trans (hcj 1 (by omega))
      have HB : Hid (Below w.heap.size w wr) := hbel
      have HP : Hid (SPart 2 PtR Pt.none 74 wr w.heap.size n k xs) := hp
      have HX : Hid (SmP ⟨ps, pz⟩ ∧ Row wr (.slice a n0 c) pz) := ⟨hfk, hin.1.below hbel⟩
      clear hc hcj hcl hbel ht hfk hp hin hn0
      go_wp2_with (go_at_call 62; refine (toException_any HX.2 HX.1.2).mono ?_; rintro e w2 ⟨u2, rfl, hin2, hb1⟩; obtain ⟨a2, n2, c2, rfl⟩ : ∃ a n c, u2 = .slice a n c := (by obtain ⟨a, c, rfl⟩ := hin2.shape; exact ⟨_, _, _, rfl⟩); have hp2 := SPart.below ptStable HP hb1; have hfz := hp2.free; obtain ⟨x0, hx0⟩ := hp2.cells (k * 2) (by omega); obtain ⟨x1, hx1⟩ := hp2.cells (k * 2 + 1) (by omega); have hlt2 := hp2.lt; have HP2 : Hid (SPart 2 PtR Pt.none 74 w2 w.heap.size n k xs ∧ Below w.heap.size w w2 ∧ PtR (w.heap.size + 1) w2 [.string ps, .slice a2 n2 c2] ⟨ps, pz⟩) := ⟨hp2, below_more HB hb1 (Below.size HB), ⟨_, rfl, hin2.mono (by have := SPart.lt HP; omega)⟩⟩; clear hp2 hb1 hin2)
      go_roundw
      case rel => exact ⟨k + 1, by omega, by go_num, SPart.put ptStable HP2.1 hkn (cs := [.string ps, .slice a2 n2 c2]) rfl (by rw [← show (⟨ps, pz⟩ : Pt) = xs.getD k Pt.none from HT]; exact HP2.2.2), putC_below (Nat.le_refl _) [.string ps, .slice a2 n2 c2] (k * 2) _ HP2.2.1⟩
      case measure => simp [intOf]; omega
    · have hki : ¬ (k : Int) < (n : Int) := by omega
      obtain rfl : k = n := by omega
      have HP : Hid (SPart 2 PtR Pt.none 74 wr w.heap.size k k xs ∧ Below w.heap.size w wr) := ⟨hp, hbel⟩
      clear hp hbel
      go_wp2
      go_ret
      exact ⟨_, rfl, SPart.row ptStable HP.1 HL, HP.2⟩

theorem eqException_same {v u : Value} {s : ByteArray} {xs : List Int} {w : World} (h : Row w v xs) (g : Row w u xs) (hz : xs.length ≤ 1048576) :
    Calls Try.prog 65 #[patV s v, patV s u] w fun e w' => e = .returned (.bool true) ∧ Below w.heap.size w w' := by
  have := eqException_any (s := s) (t := s) h g hz
  rw [show (s.toList == s.toList && decide (xs = xs)) = true by simp] at this
  exact this

set_option maxHeartbeats 4000000 in
theorem eqExceptionS_same {v1 v2 : Value} {xs : List Pt} {w : World} (h1 : PRow 0 w v1 xs) (h2 : PRow 0 w v2 xs) (hs : xs.length ≤ 1048576 ∧ ∀ i, i < xs.length → SmP (xs.getD i Pt.none)) :
    Calls Try.prog 52 #[v1, v2] w fun e w' => e = .returned (.bool true) ∧ Below w.heap.size w w' := by
  obtain ⟨ao1, n1, cap1, rfl, hn1, hr1⟩ := h1
  obtain ⟨ao2, n2, cap2, rfl, hn2, hr2⟩ := h2
  obtain rfl : n1 = n2 := by omega
  have hx : n1 ≤ 1048576 := by rw [← hn1]; exact hs.1
  have HS : Hid (∀ i, i < xs.length → SmP (xs.getD i Pt.none)) := hs.2
  have HL : Hid (xs.length = n1) := hn1
  have HR1 : Hid (0 < n1 → ∃ b off, ao1 = some ⟨b, off, none⟩ ∧ 0 ≤ b ∧ b < w.heap.size ∧ ∀ i, i < n1 → ∃ cs : List Value, cs.length = 2 ∧ PtR 0 w cs (xs.getD i Pt.none) ∧ ∀ j, j < 2 → w.cell? ⟨b, off + i * 2 + j, none⟩ = cs[j]?) := hr1
  have HR2 : Hid (0 < n1 → ∃ b off, ao2 = some ⟨b, off, none⟩ ∧ 0 ≤ b ∧ b < w.heap.size ∧ ∀ i, i < n1 → ∃ cs : List Value, cs.length = 2 ∧ PtR 0 w cs (xs.getD i Pt.none) ∧ ∀ j, j < 2 → w.cell? ⟨b, off + i * 2 + j, none⟩ = cs[j]?) := hr2
  clear hn1 hn2 hr1 hr2 hs
  go_enter Try.func52, Try.ntmps52
  go_wp2
  go_loopw [5] (fun i wr => ∃ k : Nat, k ≤ n1 ∧ i = .int .i64 k ∧ Below w.heap.size w wr) (fun i _ => n1 - (intOf i).toNat)
  case atStart => exact ⟨0, by omega, rfl, Below.refl _ _⟩
  case round =>
    obtain ⟨k, hk, rfl, hbel⟩ := hrel
    by_cases hkn : k < n1
    · have hki : (k : Int) < (n1 : Int) := by omega
      obtain ⟨b, off, rfl, hlo, hb, hc⟩ := HR1 (by omega)
      obtain ⟨b', off', rfl, hlo', hb', hc'⟩ := HR2 (by omega)
      have hfk : SmP (xs.getD k Pt.none) := HS k (by rw [show xs.length = n1 from HL]; exact hkn)
      obtain ⟨cs, hcl, hRel, hcj⟩ := hc k hkn
      obtain ⟨cs', hcl', hRel', hcj'⟩ := hc' k hkn
      obtain ⟨t, ht⟩ : ∃ t, t = xs.getD k Pt.none := ⟨_, rfl⟩
      rw [← ht] at hRel hRel' hfk
      obtain ⟨ps, pz⟩ := t
      obtain ⟨u1, rfl, hin1⟩ := hRel
      obtain ⟨u2, rfl, hin2⟩ := hRel'
      obtain ⟨a1, m1, c1, rfl⟩ : ∃ a n c, u1 = .slice a n c := by obtain ⟨a, c, rfl⟩ := hin1.shape; exact ⟨_, _, _, rfl⟩
      obtain ⟨a2, m2, c2, rfl⟩ : ∃ a n c, u2 = .slice a n c := by obtain ⟨a, c, rfl⟩ := hin2.shape; exact ⟨_, _, _, rfl⟩
      dsimp only at hin1 hin2 hcj hcj'
      have g0 : wr.cell? ⟨b, off + k * 2, none⟩ = some (.string ps) := (hbel.cell (p := ⟨b, off + k * 2, none⟩) hb).trans (hcj 0 (by omega))
      have g1 : wr.cell? ⟨b, off + k * 2 + 1, none⟩ = some (.slice a1 m1 c1) := (hbel.cell (p := ⟨b, off + k * 2 + 1, none⟩) hb).trans (hcj 1 (by omega))
      have f0 : wr.cell? ⟨b', off' + k * 2, none⟩ = some (.string ps) := (hbel.cell (p := ⟨b', off' + k * 2, none⟩) hb').trans (hcj' 0 (by omega))
      have f1 : wr.cell? ⟨b', off' + k * 2 + 1, none⟩ = some (.slice a2 m2 c2) := (hbel.cell (p := ⟨b', off' + k * 2 + 1, none⟩) hb').trans (hcj' 1 (by omega))
      have BD : Below w.heap.size w wr.drew := Below.drew hbel
      have HB : Hid (Below w.heap.size w wr) := hbel
      have HX : Hid (SmP ⟨ps, pz⟩ ∧ Row wr.drew (.slice a1 m1 c1) pz ∧ Row wr.drew (.slice a2 m2 c2) pz) := ⟨hfk, hin1.1.below BD, hin2.1.below BD⟩
      clear hc hc' hcl hcl' hcj hcj' hbel ht hfk BD hin1 hin2
      go_wp2
      go_region_with (go_at_call 65; refine (eqException_same HX.2.1 HX.2.2 HX.1.2).mono ?_; rintro e w2 ⟨rfl, hb1⟩)
      all_goals
        have hb2 : Below w.heap.size w w2 := Below.trans (Below.drew HB) (‹Below _ _ w2›.mono (Below.size HB))
        go_wp2
        go_roundw
        case rel => exact ⟨k + 1, by omega, by go_num, hb2⟩
        case measure => simp [intOf]; omega
    · have hki : ¬ (k : Int) < (n1 : Int) := by omega
      have HB : Hid (Below w.heap.size w wr) := hbel
      clear hbel
      go_wp2
      go_ret
      exact ⟨rfl, HB⟩

end Go.Proofs.Ytejigikcpmhhoaa
