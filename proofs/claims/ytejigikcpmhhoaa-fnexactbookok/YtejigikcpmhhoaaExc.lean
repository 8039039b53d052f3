/-
  Exceptions: what one that can be is; the specification's question.
-/
import Derived.Test.YtejigikcpmhhoaaCmp
import Derived.Test.YtejigikcpmhhoaaOks
namespace Go.Proofs.Ytejigikcpmhhoaa
open Go.RowKit
set_option linter.unusedVariables false
set_option linter.unusedSimpArgs false

theorem heap_last (w : World) (o : Obj) : (w.alloc o).heap[w.heap.size]? = some o := by show (w.heap.push o)[w.heap.size]? = _; simp
/-- An exception in a block of its own. -/
def BK2 (x : World) (P : Nat) (L : ByteArray) (v : Value) : Prop := x.heap[P]? = some (.cells #[.string L, v] 74 (0, 0))
theorem BK2.at {w : World} {R : Nat} {x : ByteArray} {y : Value} (h : BK2 w R x y) : w.cell? ⟨R, 0, none⟩ = some (.string x) ∧ w.cell? ⟨R, 1, none⟩ = some y ∧ R < w.heap.size :=
  ⟨by rw [cell_of_row w _ _ _ _ _ h]; rfl, by rw [cell_of_row w _ _ _ _ _ h]; rfl, (Array.getElem?_eq_some_iff.1 h).1⟩

abbrev PlcP (n : Nat) (zs : List Int) : Prop := ∀ j, j < zs.length → 1 ≤ zs.getD j 0 ∧ zs.getD j 0 < n
abbrev WrdP (s : ByteArray) : Prop := AllLow s ∧ 1 ≤ s.size ∧ s.size ≤ 60
def wrdB (s : ByteArray) : Bool := decide (WrdP s)
abbrev ExP (x : Pt) : Prop := WrdP x.s ∧ PlcP x.s.size x.z ∧ AscI x.z
def exB (x : Pt) : Bool := decide (ExP x)

theorem wrd_no {s : ByteArray} {i : Nat} (hi : i < s.size) (h : ¬ Low (byteAt s i)) : wrdB (s) = false := decide_eq_false fun ha => h (ha.1 i hi)

set_option maxHeartbeats 1000000 in
theorem word_any (s : ByteArray) (w : World) (hs : s.size ≤ 9223372036854775807) : Calls Try.prog 61 #[.string s] w fun e w' => e = .returned (.bool (wrdB (s))) ∧ w' = w := by
  go_enter Try.func61, Try.ntmps61
  go_wp2
  go_loop [3] (fun i => ∃ k : Nat, k ≤ s.size ∧ i = .int .i64 k ∧ Hid (∀ j, j < k → Low (byteAt s j))) (fun i => s.size - (intOf i).toNat)
  case atStart => exact ⟨0, Nat.zero_le _, rfl, hideP (fun j hj => by omega)⟩
  case round =>
    obtain ⟨k, hk, rfl, HJ⟩ := hrel
    by_cases hlt : k < s.size
    · have hki : (k : Int) < (s.size : Int) := by omega
      obtain ⟨c, hc⟩ : ∃ c : Nat, c = byteAt s k := ⟨_, rfl⟩
      have hc1 : c ≤ 255 := by rw [hc]; exact byteAt_le s k
      have hb : ((s[k]'hlt).toNat : Int) = (c : Int) := by rw [hc, byteAt_get s k hlt]
      have HC := hideP hc
      clear hc
      by_cases hlow : Low c
      · have c1 : Hid (∀ W, Calls Try.prog 36 #[.int .u8 (c : Int)] W fun e w' => e = .returned (.bool true) ∧ w' = W) := hideP (fun W => by have := low_any c W hc1; rw [show decide (Low c) = true by simp [hlow]] at this; exact this)
        have HLO := hideP hlow
        clear hlow
        go_wp2_with fail
        refine (c1.out _).mono ?_
        rintro e wx ⟨rfl, hw⟩
        have hw2 := hw.symm
        subst hw2
        go_wp2
        go_round
        case rel =>
          refine ⟨k + 1, by omega, by go_num, hideP (fun j hj => ?_)⟩
          by_cases hjk : j = k
          · subst hjk; rw [← HC.out]; exact HLO.out
          · exact HJ.out j (by omega)
        case measure => simp [intOf]; omega
      · have c1 : Hid (∀ W, Calls Try.prog 36 #[.int .u8 (c : Int)] W fun e w' => e = .returned (.bool false) ∧ w' = W) := hideP (fun W => by have := low_any c W hc1; rw [show decide (Low c) = false by simp [hlow]] at this; exact this)
        have HLO : Hid (¬ Low (byteAt s k)) := hideP (by rw [← HC.out]; exact hlow)
        clear hlow
        go_wp2_with fail
        refine (c1.out _).mono ?_
        rintro e wx ⟨rfl, hw⟩
        have hw2 := hw.symm
        subst hw2
        go_wp2
        go_ret
        exact ⟨retB (wrd_no hlt HLO.out).symm, rfl⟩
    · have hki : ¬ ((k : Int) < (s.size : Int)) := by omega
      obtain rfl : k = s.size := by omega
      by_cases h1 : 1 ≤ s.size
      · by_cases h60 : s.size ≤ 60
        · have f1 : decide (1 ≤ (s.size : Int)) = true := by simp; omega
          have f2 : decide ((s.size : Int) ≤ 60) = true := by simp; omega
          have HE : Hid (wrdB (s) = true) := hideP (decide_eq_true ⟨HJ.out, h1, h60⟩)
          go_wp2
          go_ret
          exact ⟨retB HE.out.symm, rfl⟩
        · have f1 : decide (1 ≤ (s.size : Int)) = true := by simp; omega
          have f2 : decide ((s.size : Int) ≤ 60) = false := by simp; omega
          have HE : Hid (wrdB (s) = false) := hideP (decide_eq_false fun h => h60 h.2.2)
          clear h60
          go_wp2
          go_ret
          exact ⟨retB HE.out.symm, rfl⟩
      · have f1 : decide (1 ≤ (s.size : Int)) = false := by simp; omega
        have HE : Hid (wrdB (s) = false) := hideP (decide_eq_false fun h => h1 h.2.1)
        clear h1
        go_wp2
        go_ret
        exact ⟨retB HE.out.symm, rfl⟩

theorem ex_word {x : Pt} (h : wrdB (x.s) = false) : exB x = false := decide_eq_false fun hp => of_decide_eq_false h hp.1
theorem ex_place {x : Pt} {j : Nat} (hj : j < x.z.length) (h : ¬ (1 ≤ x.z.getD j 0 ∧ x.z.getD j 0 < x.s.size)) : exB x = false := decide_eq_false fun hp => h (hp.2.1 j hj)
theorem ex_order {x : Pt} {j : Nat} (hj : j + 1 < x.z.length) (h : x.z.getD (j + 1) 0 ≤ x.z.getD j 0) : exB x = false := decide_eq_false fun hp => by have := hp.2.2 j (by omega); omega
theorem ex_end {x : Pt} (h : wrdB (x.s) = true) (hp : ∀ j, j < x.z.length → 1 ≤ x.z.getD j 0 ∧ x.z.getD j 0 < x.s.size) (ha : ∀ j, j + 1 < x.z.length → x.z.getD j 0 < x.z.getD (j + 1) 0) : exB x = true :=
  decide_eq_true ⟨of_decide_eq_true h, hp, fun j hj => ha j (by omega)⟩

set_option maxRecDepth 20000 in
set_option maxHeartbeats 4000000 in
theorem specEx_any {v : Value} {s : ByteArray} {zs : List Int} {w : World} (h : Row w v zs) (hl : zs.length ≤ 1048576) (hs : s.size ≤ 9223372036854775807) :
    Calls Try.prog 45 #[patV s v] w fun e w' => e = .returned (.bool (exB ⟨s, zs⟩)) ∧ Below w.heap.size w w' := by
  obtain ⟨ao, n, cap, rfl, hn, hr⟩ := h
  have HR : Hid (0 < n → ∃ b off, ao = some ⟨b, off, none⟩ ∧ b < w.heap.size ∧ ∀ i, i < n → w.cell? ⟨b, off + i, none⟩ = some (.int .i64 (zs.getD i 0))) := hr
  have HN := hideP hn
  have hnl : n ≤ 1048576 := by omega
  clear hn hl hr
  obtain ⟨wb, hwb⟩ : ∃ b, b = wrdB (s) := ⟨_, rfl⟩
  have c1 : Hid (∀ W, Calls Try.prog 61 #[.string s] W fun e w' => e = .returned (.bool wb) ∧ w' = W) := hideP (fun W => by rw [hwb]; exact word_any s W hs)
  have HWB := hideP hwb
  clear hwb
  cases wb
  · go_enter Try.func45, Try.ntmps45
    go_wp2_with fail
    refine (c1.out _).mono ?_
    rintro e wx ⟨rfl, hw⟩
    have hw2 := hw.symm
    subst hw2
    go_wp2
    go_ret
    exact ⟨retB (ex_word (x := ⟨s, zs⟩) HWB.out.symm).symm, below1 _ _⟩
  have hss : s.size ≤ 60 := (of_decide_eq_true HWB.out.symm : WrdP s).2.2
  have W0 : Hid (BK2 (w.alloc (.cells #[.string s, .slice ao n cap] 74)) w.heap.size s (.slice ao n cap) ∧ Below w.heap.size w (w.alloc (.cells #[.string s, .slice ao n cap] 74))) := hideP ⟨heap_last w _, below1 _ _⟩
  go_enter Try.func45, Try.ntmps45
  go_wp2_with fail
  refine (c1.out _).mono ?_
  rintro e wx ⟨rfl, hw⟩
  have hw2 := hw.symm
  subst hw2
  go_wp2
  go_loopw [3] (fun i wr => ∃ k : Nat, k ≤ n ∧ i = .int .i64 k ∧ Hid (∀ j, j < k → 1 ≤ zs.getD j 0 ∧ zs.getD j 0 < s.size) ∧ Hid (∀ j, j + 1 < k → zs.getD j 0 < zs.getD (j + 1) 0) ∧ Hid (BK2 wr w.heap.size s (.slice ao n cap) ∧ Below w.heap.size w wr)) (fun i _ => n - (intOf i).toNat)
  case atStart => exact ⟨0, by omega, rfl, hideP (fun j hj => by omega), hideP (fun j hj => by omega), W0⟩
  case round =>
    obtain ⟨k, hk, rfl, HP, HA, HW⟩ := hrel
    clear W0
    obtain ⟨p0, p1, pz⟩ := HW.out.1.at
    by_cases hlt : k < n
    · have hki : (k : Int) < (n : Int) := by omega
      obtain ⟨b, off, rfl, hb, hc⟩ := HR (by omega)
      obtain ⟨z, hz⟩ : ∃ z, z = zs.getD k 0 := ⟨_, rfl⟩
      have g0 : wr.cell? ⟨b, off + k, none⟩ = some (.int .i64 z) := by rw [hz]; exact (HW.out.2.cell (p := ⟨b, off + k, none⟩) hb).trans (hc k hlt)
      have HZ := hideP hz
      have HKL : Hid (k < zs.length) := hideP (by have := HN.out; omega)
      have HD : Hid (∀ m, BK2 (wr.drewN m) w.heap.size s (.slice (some ⟨b, off, none⟩) n cap) ∧ Below w.heap.size w (wr.drewN m)) := hideP (fun m => ⟨HW.out.1, below_drewN HW.out.2 m⟩)
      clear hz
      by_cases h1 : z < 1
      · have f1 : decide (z < 1) = true := by simp; omega
        have HE : Hid (exB ⟨s, zs⟩ = false) := hideP (ex_place (x := ⟨s, zs⟩) HKL.out (by show ¬ (1 ≤ zs.getD k 0 ∧ _); rw [← HZ.out]; omega))
        clear hc
        go_wp2
        go_quiet (fail)
        go_wp2
        go_ret
        exact ⟨retB HE.out.symm, (HD.out _).2⟩
      · have f1 : decide (z < 1) = false := by simp; omega
        by_cases h2 : (s.size : Int) ≤ z
        · have f2 : decide ((s.size : Int) ≤ z) = true := by simp; omega
          have HE : Hid (exB ⟨s, zs⟩ = false) := hideP (ex_place (x := ⟨s, zs⟩) HKL.out (by show ¬ (1 ≤ zs.getD k 0 ∧ zs.getD k 0 < (s.size : Int)); rw [← HZ.out]; omega))
          clear hc
          go_wp2
          go_quiet (fail)
          go_wp2
          go_ret
          exact ⟨retB HE.out.symm, (HD.out _).2⟩
        · have f2 : decide ((s.size : Int) ≤ z) = false := by simp; omega
          have HZZ : Hid (1 ≤ z ∧ z < (s.size : Int)) := hideP (by omega)
          by_cases hk0 : k = 0
          · subst hk0
            have g00 : wr.cell? ⟨b, off, none⟩ = some (.int .i64 z) := g0
            clear hc g0
            go_wp2
            go_quiet (fail)
            go_wp2
            go_roundw
            case rel =>
              refine ⟨1, by omega, by go_num, hideP (fun j hj => ?_), hideP (fun j hj => by omega), HD.out _⟩
              obtain rfl : j = 0 := by omega
              rw [← HZ.out]; exact HZZ.out
            case measure => simp [intOf]; omega
          · obtain ⟨q, rfl⟩ : ∃ q, k = q + 1 := ⟨k - 1, by omega⟩
            obtain ⟨y, hy⟩ : ∃ y, y = zs.getD q 0 := ⟨_, rfl⟩
            have g1 : wr.cell? ⟨b, off + q, none⟩ = some (.int .i64 y) := by rw [hy]; exact (HW.out.2.cell (p := ⟨b, off + q, none⟩) hb).trans (hc q (by omega))
            have HY := hideP hy
            have hq0 : 0 < q + 1 := by omega
            have hq1 : (q : Int) < (n : Int) := by omega
            clear hy hc hk0
            by_cases h3 : z ≤ y
            · have f3 : decide (z ≤ y) = true := by simp; omega
              have HE : Hid (exB ⟨s, zs⟩ = false) := hideP (ex_order (x := ⟨s, zs⟩) (j := q) HKL.out (by show zs.getD (q + 1) 0 ≤ zs.getD q 0; rw [← HZ.out, ← HY.out]; exact h3))
              go_wp2
              go_quiet (fail)
              go_wp2
              go_ret
              exact ⟨retB HE.out.symm, (HD.out _).2⟩
            · have f3 : decide (z ≤ y) = false := by simp; omega
              have HYZ : Hid (y < z) := hideP (by omega)
              clear h3
              go_wp2
              go_quiet (fail)
              go_wp2
              go_roundw
              case rel =>
                refine ⟨q + 1 + 1, by omega, by go_num, hideP (fun j hj => ?_), hideP (fun j hj => ?_), HD.out _⟩
                · by_cases hjk : j = q + 1
                  · subst hjk; rw [← HZ.out]; exact HZZ.out
                  · exact HP.out j (by omega)
                · by_cases hjk : j = q
                  · subst hjk; rw [← HZ.out, ← HY.out]; exact HYZ.out
                  · exact HA.out j (by omega)
              case measure => simp [intOf]; omega
    · have hki : ¬ ((k : Int) < (n : Int)) := by omega
      have HE : Hid (exB ⟨s, zs⟩ = true) := hideP (ex_end (x := ⟨s, zs⟩) HWB.out.symm (fun j hj => HP.out j (by have := HN.out; have h2 : j < zs.length := hj; omega)) (fun j hj => HA.out j (by have := HN.out; have h2 : j + 1 < zs.length := hj; omega)))
      go_wp2
      go_ret
      exact ⟨retB HE.out.symm, HW.out.2⟩
end Go.Proofs.Ytejigikcpmhhoaa
