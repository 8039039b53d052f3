/-
  Where a glyph is: the specification's search, and its order of pairs.
-/
import Derived.Test.YtggcfgbpameppaaPok
namespace Go.Proofs.Ytggcfgbpameppaa
open Go.RowKit Go.Maps
set_option linter.unusedVariables false
set_option linter.unusedSimpArgs false

theorem pairLess_any (x y : Q4) (w : World) : Calls Try.prog 31 #[q4V x, q4V y] w fun e w' => e = .returned (.bool (plB x y)) ∧ Below w.heap.size w w' := by
  obtain ⟨a, b, c, d⟩ := x
  obtain ⟨a', b', c', d'⟩ := y
  simp only [q4V]
  by_cases h1 : a < a'
  · rw [show plB ⟨a, b, c, d⟩ ⟨a', b', c', d'⟩ = true by simp [plB, h1]]
    go_enter Try.func31, Try.ntmps31
    go_wp2
    go_ret
    exact ⟨rfl, below2 _ _ _⟩
  · by_cases h2 : a = a'
    · subst h2
      rw [show plB ⟨a, b, c, d⟩ ⟨a, b', c', d'⟩ = decide (b < b') by simp [plB]]
      go_enter Try.func31, Try.ntmps31
      go_wp2
      go_ret
      exact ⟨rfl, below2 _ _ _⟩
    · rw [show plB ⟨a, b, c, d⟩ ⟨a', b', c', d'⟩ = false by simp [plB, h2]; omega]
      have h3 : (a == a') = false := by simp [h2]
      have h4 : decide (a = a') = false := by simp [h2]
      go_enter Try.func31, Try.ntmps31
      go_wp2
      go_ret
      exact ⟨rfl, below2 _ _ _⟩

theorem ascG_lt {gs : List Q4} (h : AscG gs) : ∀ (d i : Nat), i + d + 1 < gs.length → (gs.getD i Q4.none).a < (gs.getD (i + d + 1) Q4.none).a := by
  intro d
  induction d with
  | zero =>
    intro i hi
    have := h i (by omega)
    simpa [glB2] using this
  | succ d ih =>
    intro i hi
    have h1 := ih i (by omega)
    have h2 := h (i + d + 1) (by omega)
    simp only [glB2, decide_eq_true_eq] at h2
    rw [show i + (d + 1) + 1 = i + d + 1 + 1 by omega]
    omega
theorem ascG_mono {gs : List Q4} (h : AscG gs) {i j : Nat} (hij : i < j) (hj : j < gs.length) : (gs.getD i Q4.none).a < (gs.getD j Q4.none).a := by
  have := ascG_lt h (j - i - 1) i (by omega)
  rwa [show i + (j - i - 1) + 1 = j by omega] at this

def gi (gs : List Q4) (c : Int) : Int := match gs.findIdx? (fun x => decide (x.a = c)) with
  | some i => i
  | none => -1
theorem gi_at {gs : List Q4} (h : AscG gs) {k : Nat} (hk : k < gs.length) {c : Int} (hc : (gs.getD k Q4.none).a = c) : gi gs c = k := by
  unfold gi
  cases hf : gs.findIdx? (fun x => decide (x.a = c)) with
  | none =>
    rw [List.findIdx?_eq_none_iff] at hf
    have := hf (gs.getD k Q4.none) (by rw [List.getD_eq_getElem?_getD, List.getElem?_eq_getElem hk]; exact List.getElem_mem _)
    rw [hc] at this
    simp at this
  | some i =>
    rw [List.findIdx?_eq_some_iff_getElem] at hf
    obtain ⟨hi, h1, h2⟩ := hf
    have h1' : (gs.getD i Q4.none).a = c := by rw [List.getD_eq_getElem?_getD, List.getElem?_eq_getElem hi]; simpa using h1
    rcases Nat.lt_trichotomy i k with h3 | h3 | h3
    · have := ascG_mono h h3 hk
      omega
    · simp [h3]
    · have := ascG_mono h h3 hi
      omega
theorem gi_none {gs : List Q4} {c : Int} (h : ∀ k, k < gs.length → (gs.getD k Q4.none).a ≠ c) : gi gs c = -1 := by
  unfold gi
  cases hf : gs.findIdx? (fun x => decide (x.a = c)) with
  | none => rfl
  | some i =>
    rw [List.findIdx?_eq_some_iff_getElem] at hf
    obtain ⟨hi, h1, h2⟩ := hf
    exfalso
    apply h i hi
    rw [List.getD_eq_getElem?_getD, List.getElem?_eq_getElem hi]
    simpa using h1

set_option maxRecDepth 20000 in
set_option maxHeartbeats 4000000 in
theorem specGlyph_any {f : Fo} {vg vp : Value} {gs ps : List Q4} {c : Int} {w : World} (h : TwoQ w vg vp gs ps) (hl : gs.length ≤ 1048576) (ha : AscG gs) :
    Calls Try.prog 32 #[foV f vg vp, .int .i64 c] w fun e w' => e = .returned (.int .i64 (gi gs c)) ∧ Below w.heap.size w w' := by
  have HX := hideP h
  obtain ⟨a1, c1, rfl⟩ := h.g.shape
  obtain ⟨a2, n2, c2, rfl⟩ : ∃ a n c, vp = .slice a n c := by obtain ⟨a, c, rfl⟩ := h.p.shape; exact ⟨_, _, _, rfl⟩
  obtain ⟨n, hn⟩ : ∃ n, n = gs.length := ⟨_, rfl⟩
  rw [← hn] at HX
  rw [← hn]
  have HN := hideP hn
  have hnl : n ≤ 1048576 := by omega
  have HA := hideP ha
  clear h hn hl ha
  obtain ⟨s, g0, g1, g2, g3, g4, q, r⟩ := f
  simp only [foV]
  have B0 : Hid (∀ o, Below w.heap.size w (w.alloc o)) := hideP (fun o => below1 _ _)
  go_enter Try.func32, Try.ntmps32
  go_wp2
  go_loopw [5, 6] (fun x y wr => ∃ lo hi : Nat, lo ≤ hi ∧ hi ≤ n ∧ x = .int .i64 lo ∧ y = .int .i64 hi ∧ wr = w.alloc (.cells #[.string s, .slice a1 n c1, .slice a2 n2 c2, .int .i64 g0, .int .i64 g1, .int .i64 g2, .int .i64 g3, .int .i64 g4, .int .i64 q, .int .i64 r] 34) ∧ Hid ((∀ j, j < lo → (gs.getD j Q4.none).a < c) ∧ (∀ j, hi ≤ j → j < n → c ≤ (gs.getD j Q4.none).a))) (fun x y _ => (intOf y).toNat - (intOf x).toNat)
  case atStart => exact ⟨0, n, by omega, by omega, rfl, rfl, rfl, hideP ⟨fun j hj => by omega, fun j h1 h2 => by omega⟩⟩
  case round =>
    obtain ⟨lo, hi, hlh, hhn, rfl, rfl, hwr, HJ⟩ := hrel
    subst hwr
    by_cases hlt : lo < hi
    · have hli : (lo : Int) < (hi : Int) := by omega
      obtain ⟨mid, hmd⟩ : ∃ m, m = (lo + hi) / 2 := ⟨_, rfl⟩
      have hmid : ((lo : Int) + (hi : Int)) / 2 = (mid : Int) := by omega
      have hm1 : lo ≤ mid := by omega
      have hm2 : mid < hi := by omega
      have hmi : (mid : Int) < (n : Int) := by omega
      clear hmd
      obtain ⟨b, off, rfl, hb, hbw, e0, e1, e2, e3⟩ := HX.out.g.cells (B0.out (.cells #[.string s, .slice a1 n c1, .slice a2 n2 c2, .int .i64 g0, .int .i64 g1, .int .i64 g2, .int .i64 g3, .int .i64 g4, .int .i64 q, .int .i64 r] 34)) (k := mid) (by omega)
      obtain ⟨x, hx⟩ : ∃ x, x = (gs.getD mid Q4.none).a := ⟨_, rfl⟩
      rw [← hx] at e0
      have HXX := hideP hx
      clear hx e1 e2 e3
      by_cases hxc : x < c
      · go_wp2
        go_roundw
        case rel =>
          refine ⟨mid + 1, hi, by omega, by omega, by go_num, rfl, by first | trivial | rfl, hideP ⟨fun j hj => ?_, HJ.out.2⟩⟩
          by_cases hjm : j = mid
          · subst hjm; rw [← HXX.out]; exact hxc
          · have := ascG_mono HA.out (i := j) (j := mid) (by omega) (by rw [← HN.out]; omega)
            rw [← HXX.out] at this
            omega
        case measure => simp [intOf]; omega
      · go_wp2
        go_roundw
        case rel =>
          refine ⟨lo, mid, by omega, by omega, rfl, by go_num, by first | trivial | rfl, hideP ⟨HJ.out.1, fun j h1 h2 => ?_⟩⟩
          by_cases hjm : j = mid
          · subst hjm; rw [← HXX.out]; omega
          · have := ascG_mono HA.out (i := mid) (j := j) (by omega) (by rw [← HN.out]; omega)
            rw [← HXX.out] at this
            omega
        case measure => simp [intOf]; omega
    · obtain rfl : lo = hi := by omega
      have hli : ¬ (lo : Int) < (lo : Int) := by omega
      by_cases hln : lo < n
      · have hlni : (lo : Int) < (n : Int) := by omega
        obtain ⟨b, off, rfl, hb, hbw, e0, e1, e2, e3⟩ := HX.out.g.cells (B0.out (.cells #[.string s, .slice a1 n c1, .slice a2 n2 c2, .int .i64 g0, .int .i64 g1, .int .i64 g2, .int .i64 g3, .int .i64 g4, .int .i64 q, .int .i64 r] 34)) (k := lo) hln
        obtain ⟨x, hx⟩ : ∃ x, x = (gs.getD lo Q4.none).a := ⟨_, rfl⟩
        rw [← hx] at e0
        have HXX := hideP hx
        clear hx e1 e2 e3
        by_cases hxc : x = c
        · have HE : Hid (gi gs c = (lo : Int)) := hideP (gi_at HA.out (by rw [← HN.out]; exact hln) (by rw [← HXX.out]; exact hxc))
          subst hxc
          go_wp2
          go_ret
          exact ⟨retI HE.out.symm, B0.out _⟩
        · have h1 : (x == c) = false := by simp [hxc]
          have h2 : decide (x = c) = false := by simp [hxc]
          have HE : Hid (gi gs c = -1) := hideP (gi_none (fun k hk => by
            rcases Nat.lt_trichotomy k lo with h3 | h3 | h3
            · have := HJ.out.1 k h3
              omega
            · rw [h3, ← HXX.out]
              exact hxc
            · have h4 := ascG_mono HA.out (i := lo) (j := k) h3 hk
              have h5 := HJ.out.2 lo (by omega) hln
              omega))
          go_wp2
          go_ret
          exact ⟨retI HE.out.symm, B0.out _⟩
      · have hlni : ¬ (lo : Int) < (n : Int) := by omega
        have hlni2 : decide ((lo : Int) < (n : Int)) = false := by simp; omega
        have HE : Hid (gi gs c = -1) := hideP (gi_none (fun k hk => by
          have := HJ.out.1 k (by have := HN.out; omega)
          omega))
        go_wp2
        go_ret
        exact ⟨retI HE.out.symm, B0.out _⟩
end Go.Proofs.Ytggcfgbpameppaa
