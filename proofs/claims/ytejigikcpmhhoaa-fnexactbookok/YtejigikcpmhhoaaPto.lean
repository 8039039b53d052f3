/-
  Patterns weighed, copied and compared.
-/
import Derived.Test.YtejigikcpmhhoaaInts
import Derived.Deep.RegionWith
namespace Go.Proofs.Ytejigikcpmhhoaa
open Go.RowKit
set_option linter.unusedVariables false
set_option linter.unusedSimpArgs false

theorem below3 (w : World) (o o2 o3 : Obj) : Below w.heap.size w (((w.alloc o).alloc o2).alloc o3) := (below2 w o o2).alloc (by simp; omega) _

/-- A row of numbers that lies from block lo on. -/
def RIn (lo : Nat) (w : World) (v : Value) (zs : List Int) : Prop := Row w v zs ∧ ∀ b off n cap, v = .slice (some ⟨b, off, none⟩) n cap → lo ≤ b
theorem RIn.abv {lo : Nat} {w w' : World} {v : Value} {zs : List Int} (h : RIn lo w v zs) (ha : Abv lo w w') : RIn lo w' v zs := by
  obtain ⟨⟨ao, n, cap, rfl, hn, hc⟩, hlo⟩ := h
  refine ⟨⟨ao, n, cap, rfl, hn, fun hp => ?_⟩, hlo⟩
  obtain ⟨b, off, rfl, hlt, hcell⟩ := hc hp
  have hb : w'.heap[b]? = w.heap[b]? := ha.block b (hlo b off n cap rfl) hlt
  exact ⟨b, off, rfl, Nat.lt_of_lt_of_le hlt ha.size, fun i hi => (World.cell?_of_block (w := w) (a := ⟨b, off + i, none⟩) hb).trans (hcell i hi)⟩
theorem RIn.mono {lo lo' : Nat} {w : World} {v : Value} {zs : List Int} (h : RIn lo w v zs) (hl : lo' ≤ lo) : RIn lo' w v zs := ⟨h.1, fun b off n cap e => Nat.le_trans hl (h.2 b off n cap e)⟩
theorem RIn.zero {w : World} {v : Value} {zs : List Int} (h : Row w v zs) : RIn 0 w v zs := ⟨h, fun _ _ _ _ _ => Nat.zero_le _⟩
theorem RIn.shape {lo : Nat} {w : World} {v : Value} {zs : List Int} (h : RIn lo w v zs) : ∃ ao cap, v = .slice ao zs.length cap := by
  obtain ⟨⟨ao, n, cap, e, rfl, _⟩, _⟩ := h
  exact ⟨ao, cap, e⟩
theorem toInts_in {v : Value} {zs : List Int} {w : World} (h : Row w v zs) (hsz : zs.length ≤ 1048576) :
    Calls Try.prog 37 #[v] w fun e w' => ∃ v', e = .returned v' ∧ RIn w.heap.size w' v' zs ∧ Below w.heap.size w w' := by
  refine (toInts_any h hsz).mono ?_
  rintro e w' ⟨rfl, hp⟩
  refine ⟨_, rfl, ⟨Row.own hp.1 hp.2.1 hp.2.2.2, fun b off n cap e => ?_⟩, hp.2.2.1⟩
  simp at e
  omega

/-- A text and a row of numbers: what patterns and exceptions are made of. -/
abbrev patV (s : ByteArray) (v : Value) : Value := .agg #[.string s, v]

theorem Row.shape {w : World} {v : Value} {zs : List Int} (h : Row w v zs) : ∃ ao cap, v = .slice ao zs.length cap := by
  obtain ⟨ao, n, cap, rfl, rfl, _⟩ := h
  exact ⟨ao, cap, rfl⟩

set_option maxHeartbeats 1000000 in
theorem szPattern_any {v : Value} {s : ByteArray} {zs : List Int} {w : World} {l : Int} (h : Row w v zs) (hs : s.size ≤ 9223372036854775807) (hz : zs.length ≤ 9223372036854775807) (hl0 : 0 ≤ l) (hl1 : l ≤ 1048576) :
    Calls Try.prog 15 #[patV s v, .int .i64 l] w fun e w' => (∃ m : Int, e = .returned (.int .i64 m) ∧ m ≤ l ∧ (0 ≤ m → s.size ≤ 1048576 ∧ zs.length ≤ 1048576)) ∧ Below w.heap.size w w' := by
  obtain ⟨ao, cap, rfl⟩ := h.shape
  obtain ⟨n, hn⟩ : ∃ n, n = zs.length := ⟨_, rfl⟩
  rw [← hn] at hz
  rw [← hn]
  clear h hn
  by_cases hbig : l - (s.size : Int) < 0
  · go_enter Try.func15, Try.ntmps15
    go_wp2
    go_ret
    exact ⟨⟨-1, rfl, by omega, fun h => by omega⟩, below1 _ _⟩
  · go_enter Try.func15, Try.ntmps15
    go_wp2_with fail
    refine (szInts_any _ hz (by omega) (by omega)).mono ?_
    rintro e w1 ⟨⟨m, rfl, hml, hm⟩, hb1⟩
    have B1 : Hid (Below w.heap.size w w1) := below_more (below1 _ _) hb1 (by simp)
    have HM := hideP hm
    clear hb1 hm
    by_cases hneg : m < 0
    · go_wp2
      go_ret
      exact ⟨⟨-1, rfl, by omega, fun h => by omega⟩, B1⟩
    · go_wp2
      go_ret
      exact ⟨⟨m, rfl, by omega, fun h => ⟨by omega, HM.out h⟩⟩, B1⟩

set_option maxHeartbeats 1000000 in
theorem toPattern_any {v : Value} {s : ByteArray} {zs : List Int} {w : World} (h : Row w v zs) (hz : zs.length ≤ 1048576) :
    Calls Try.prog 17 #[patV s v] w fun e w' => ∃ u : Value, e = .returned (patV s u) ∧ RIn w.heap.size w' u zs ∧ Below w.heap.size w w' := by
  have HX := hideP h
  obtain ⟨ao, cap, rfl⟩ := h.shape
  have HZ := hideP hz
  clear h hz
  go_enter Try.func17, Try.ntmps17
  go_wp2_with fail
  refine (toInts_in (Row.below HX.out (below3 _ _ _ _)) HZ.out).mono ?_
  rintro e w1 ⟨u, rfl, hp1, hb1⟩
  obtain ⟨a1, c1, rfl⟩ := hp1.shape
  have hz1 : w.heap.size + 1 + 1 < w1.heap.size := by have := hb1.size; simp at this; omega
  have hy1 : w.heap.size + 1 < w1.heap.size := by omega
  have hx1 : w.heap.size < w1.heap.size := by omega
  obtain ⟨hc1, hf1⟩ := bcell hb1
  have B1 : Hid (Below w.heap.size w w1) := below_more (below3 _ _ _ _) hb1 (by simp; omega)
  simp only [World.size_alloc, World.size_setCell] at hc1 hf1
  have P2 : Hid (RIn (w.heap.size + 1 + 1 + 1) w1 (.slice a1 zs.length c1) zs) := hp1.mono (by simp)
  clear hb1 hp1
  go_wp2
  refine bodyPost_ret (v := patV s (.slice a1 zs.length c1)) (by simp [results, Try.results17, go_sem, hc1, hx1, hy1, hz1]) rfl ⟨_, rfl, ?_, ?_⟩
  · exact RIn.mono (RIn.abv (RIn.abv (RIn.abv P2 (Abv.set (by omega) _)) (Abv.set (by omega) _)) (Abv.set (by omega) _)) (by omega)
  · exact Below.setCell (Below.setCell (Below.setCell B1 (by first | (simp; done) | (simp; omega)) _) (by first | (simp; done) | (simp; omega)) _) (by first | (simp; done) | (simp; omega)) _

set_option maxHeartbeats 1000000 in
theorem eqPattern_any {v u : Value} {s t : ByteArray} {xs ys : List Int} {w : World} (h : Row w v xs) (g : Row w u ys) (hz : xs.length ≤ 1048576) :
    Calls Try.prog 18 #[patV s v, patV t u] w fun e w' => e = .returned (.bool (s.toList == t.toList && decide (xs = ys))) ∧ Below w.heap.size w w' := by
  have HX := hideP h
  have HY := hideP g
  obtain ⟨ao, cap, rfl⟩ := h.shape
  obtain ⟨ao2, cap2, rfl⟩ := g.shape
  have HZ := hideP hz
  clear h g hz
  obtain ⟨b, hb⟩ : ∃ b, b = decide (xs = ys) := ⟨_, rfl⟩
  rw [← hb]
  have HB := hideP hb
  clear hb
  cases hst : s.toList == t.toList
  · have hne : (s.toList != t.toList) = true := by rw [bne, hst]; rfl
    go_enter Try.func18, Try.ntmps18
    go_wp2
    go_ret
    exact ⟨rfl, below2 _ _ _⟩
  · have hne : (s.toList != t.toList) = false := by rw [bne, hst]; rfl
    have c1 : Hid (∀ W, Below w.heap.size w W → Calls Try.prog 38 #[.slice ao xs.length cap, .slice ao2 ys.length cap2] W fun e w' => e = .returned (.bool b) ∧ Below W.heap.size W w') := hideP (fun W hW => by rw [HB.out]; exact eqInts_any (HX.out.below hW) (HY.out.below hW) HZ.out)
    obtain ⟨n1, hn1⟩ : ∃ n, n = xs.length := ⟨_, rfl⟩
    obtain ⟨n2, hn2⟩ : ∃ n, n = ys.length := ⟨_, rfl⟩
    rw [← hn1, ← hn2] at c1
    rw [← hn1, ← hn2]
    clear hn1 hn2
    go_enter Try.func18, Try.ntmps18
    go_wp2_with fail
    refine (c1.out _ (below2 _ _ _)).mono ?_
    rintro e w1 ⟨rfl, hb1⟩
    have B1 : Hid (Below w.heap.size w w1) := below_more (below2 _ _ _) hb1 (by simp; omega)
    clear hb1
    cases b
    · go_wp2
      go_ret
      exact ⟨rfl, B1⟩
    · go_wp2
      go_ret
      exact ⟨rfl, B1⟩

set_option maxHeartbeats 1000000 in
theorem szException_any {v : Value} {s : ByteArray} {zs : List Int} {w : World} {l : Int} (h : Row w v zs) (hs : s.size ≤ 9223372036854775807) (hz : zs.length ≤ 9223372036854775807) (hl0 : 0 ≤ l) (hl1 : l ≤ 1048576) :
    Calls Try.prog 60 #[patV s v, .int .i64 l] w fun e w' => (∃ m : Int, e = .returned (.int .i64 m) ∧ m ≤ l ∧ (0 ≤ m → s.size ≤ 1048576 ∧ zs.length ≤ 1048576)) ∧ Below w.heap.size w w' := by
  obtain ⟨ao, cap, rfl⟩ := h.shape
  obtain ⟨n, hn⟩ : ∃ n, n = zs.length := ⟨_, rfl⟩
  rw [← hn] at hz
  rw [← hn]
  clear h hn
  by_cases hbig : l - (s.size : Int) < 0
  · go_enter Try.func60, Try.ntmps60
    go_wp2
    go_ret
    exact ⟨⟨-1, rfl, by omega, fun h => by omega⟩, below1 _ _⟩
  · go_enter Try.func60, Try.ntmps60
    go_wp2_with fail
    refine (szInts_any _ hz (by omega) (by omega)).mono ?_
    rintro e w1 ⟨⟨m, rfl, hml, hm⟩, hb1⟩
    have B1 : Hid (Below w.heap.size w w1) := below_more (below1 _ _) hb1 (by simp)
    have HM := hideP hm
    clear hb1 hm
    by_cases hneg : m < 0
    · go_wp2
      go_ret
      exact ⟨⟨-1, rfl, by omega, fun h => by omega⟩, B1⟩
    · go_wp2
      go_ret
      exact ⟨⟨m, rfl, by omega, fun h => ⟨by omega, HM.out h⟩⟩, B1⟩

set_option maxHeartbeats 1000000 in
theorem toException_any {v : Value} {s : ByteArray} {zs : List Int} {w : World} (h : Row w v zs) (hz : zs.length ≤ 1048576) :
    Calls Try.prog 62 #[patV s v] w fun e w' => ∃ u : Value, e = .returned (patV s u) ∧ RIn w.heap.size w' u zs ∧ Below w.heap.size w w' := by
  have HX := hideP h
  obtain ⟨ao, cap, rfl⟩ := h.shape
  have HZ := hideP hz
  clear h hz
  go_enter Try.func62, Try.ntmps62
  go_wp2_with fail
  refine (toInts_in (Row.below HX.out (below3 _ _ _ _)) HZ.out).mono ?_
  rintro e w1 ⟨u, rfl, hp1, hb1⟩
  obtain ⟨a1, c1, rfl⟩ := hp1.shape
  have hz1 : w.heap.size + 1 + 1 < w1.heap.size := by have := hb1.size; simp at this; omega
  have hy1 : w.heap.size + 1 < w1.heap.size := by omega
  have hx1 : w.heap.size < w1.heap.size := by omega
  obtain ⟨hc1, hf1⟩ := bcell hb1
  have B1 : Hid (Below w.heap.size w w1) := below_more (below3 _ _ _ _) hb1 (by simp; omega)
  simp only [World.size_alloc, World.size_setCell] at hc1 hf1
  have P2 : Hid (RIn (w.heap.size + 1 + 1 + 1) w1 (.slice a1 zs.length c1) zs) := hp1.mono (by simp)
  clear hb1 hp1
  go_wp2
  refine bodyPost_ret (v := patV s (.slice a1 zs.length c1)) (by simp [results, Try.results62, go_sem, hc1, hx1, hy1, hz1]) rfl ⟨_, rfl, ?_, ?_⟩
  · exact RIn.mono (RIn.abv (RIn.abv (RIn.abv P2 (Abv.set (by omega) _)) (Abv.set (by omega) _)) (Abv.set (by omega) _)) (by omega)
  · exact Below.setCell (Below.setCell (Below.setCell B1 (by first | (simp; done) | (simp; omega)) _) (by first | (simp; done) | (simp; omega)) _) (by first | (simp; done) | (simp; omega)) _

set_option maxHeartbeats 1000000 in
theorem eqException_any {v u : Value} {s t : ByteArray} {xs ys : List Int} {w : World} (h : Row w v xs) (g : Row w u ys) (hz : xs.length ≤ 1048576) :
    Calls Try.prog 65 #[patV s v, patV t u] w fun e w' => e = .returned (.bool (s.toList == t.toList && decide (xs = ys))) ∧ Below w.heap.size w w' := by
  have HX := hideP h
  have HY := hideP g
  obtain ⟨ao, cap, rfl⟩ := h.shape
  obtain ⟨ao2, cap2, rfl⟩ := g.shape
  have HZ := hideP hz
  clear h g hz
  obtain ⟨b, hb⟩ : ∃ b, b = decide (xs = ys) := ⟨_, rfl⟩
  rw [← hb]
  have HB := hideP hb
  clear hb
  cases hst : s.toList == t.toList
  · have hne : (s.toList != t.toList) = true := by rw [bne, hst]; rfl
    go_enter Try.func65, Try.ntmps65
    go_wp2
    go_ret
    exact ⟨rfl, below2 _ _ _⟩
  · have hne : (s.toList != t.toList) = false := by rw [bne, hst]; rfl
    have c1 : Hid (∀ W, Below w.heap.size w W → Calls Try.prog 38 #[.slice ao xs.length cap, .slice ao2 ys.length cap2] W fun e w' => e = .returned (.bool b) ∧ Below W.heap.size W w') := hideP (fun W hW => by rw [HB.out]; exact eqInts_any (HX.out.below hW) (HY.out.below hW) HZ.out)
    obtain ⟨n1, hn1⟩ : ∃ n, n = xs.length := ⟨_, rfl⟩
    obtain ⟨n2, hn2⟩ : ∃ n, n = ys.length := ⟨_, rfl⟩
    rw [← hn1, ← hn2] at c1
    rw [← hn1, ← hn2]
    clear hn1 hn2
    go_enter Try.func65, Try.ntmps65
    go_wp2_with fail
    refine (c1.out _ (below2 _ _ _)).mono ?_
    rintro e w1 ⟨rfl, hb1⟩
    have B1 : Hid (Below w.heap.size w w1) := below_more (below2 _ _ _) hb1 (by simp; omega)
    clear hb1
    cases b
    · go_wp2
      go_ret
      exact ⟨rfl, B1⟩
    · go_wp2
      go_ret
      exact ⟨rfl, B1⟩

end Go.Proofs.Ytejigikcpmhhoaa
