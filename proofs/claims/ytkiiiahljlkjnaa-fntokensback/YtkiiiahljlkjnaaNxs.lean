/-
  The specification's Next.
-/
import Derived.Test.YtkiiiahljlkjnaaNms
namespace Go.Proofs.Ytkiiiahljlkjnaa
open Go.RowKit
set_option linter.unusedVariables false
set_option linter.unusedSimpArgs false

/-- Where the bytes end that are no end of a line. -/
def endN (zs : List Int) (s : ByteArray) : Nat → Nat → Nat
  | 0, i => i
  | f + 1, i => if i < s.size ∧ catAt zs s i ≠ 6 then endN zs s f (i + 1) else i
/-- What stands behind a note. -/
def skN (zs : List Int) (s : ByteArray) (i : Nat) : Nat := if endN zs s (s.size - i) i < s.size then endN zs s (s.size - i) i + 1 else endN zs s (s.size - i) i
theorem endN_stop {zs : List Int} {s : ByteArray} {f i : Nat} (h : ¬ (i < s.size ∧ catAt zs s i ≠ 6)) : endN zs s f i = i := by
  cases f with
  | zero => rfl
  | succ f => unfold endN; rw [if_neg h]
theorem endN_go {zs : List Int} {s : ByteArray} {i : Nat} (h : i < s.size) (h6 : catAt zs s i ≠ 6) : endN zs s (s.size - i) i = endN zs s (s.size - (i + 1)) (i + 1) := by
  obtain ⟨f, hf⟩ : ∃ f, s.size - i = f + 1 := ⟨s.size - i - 1, by omega⟩
  rw [hf, endN, if_pos ⟨h, h6⟩, show s.size - (i + 1) = f by omega]
def parS : ByteArray := ⟨#[112, 97, 114]⟩
/-- What comes next. -/
def nx (zs : List Int) (s : ByteArray) : Nat → Nat → Int → Sc
  | 0, a, st => ⟨0, 0, 0, ByteArray.empty, a, st⟩
  | f + 1, a, st => if a < s.size then
      (if catAt zs s a = 0 then nmS zs s (a + 1)
       else if catAt zs s a = 6 then (if st = 0 then ⟨1, 0, 0, parS, a + 1, 0⟩ else if st = 1 then ⟨1, 3, 32, ByteArray.empty, a + 1, 0⟩ else nx zs s f (a + 1) 0)
       else if catAt zs s a = 3 then (if st = 1 then ⟨1, 3, 32, ByteArray.empty, a + 1, 2⟩ else nx zs s f (a + 1) st)
       else if catAt zs s a = 8 then nx zs s f (skN zs s (a + 1)) 0
       else if catAt zs s a = 9 then nx zs s f (a + 1) st
       else if catAt zs s a = 15 then ⟨2, 0, 0, ByteArray.empty, a + 1, st⟩
       else ⟨1, catAt zs s a, byteAt s a, ByteArray.empty, a + 1, 1⟩)
    else ⟨0, 0, 0, ByteArray.empty, a, st⟩
theorem endN_ge (zs : List Int) (s : ByteArray) : ∀ f i, i ≤ endN zs s f i
  | 0, i => Nat.le_refl _
  | f + 1, i => by
    unfold endN
    split
    · exact Nat.le_trans (Nat.le_succ _) (endN_ge zs s f (i + 1))
    · exact Nat.le_refl _
theorem skN_ge (zs : List Int) (s : ByteArray) (i : Nat) : i ≤ skN zs s i := by
  unfold skN
  have := endN_ge zs s (s.size - i) i
  split <;> omega
/-- More fuel than bytes makes no difference. -/
theorem nx_more {zs : List Int} {s : ByteArray} : ∀ (f g a : Nat) (st : Int), s.size - a ≤ f → s.size - a ≤ g → nx zs s f a st = nx zs s g a st
  | 0, 0, a, st, _, _ => rfl
  | 0, g + 1, a, st, h, _ => by unfold nx; rw [if_neg (by omega)]
  | f + 1, 0, a, st, _, h => by unfold nx; rw [if_neg (by omega)]
  | f + 1, g + 1, a, st, h1, h2 => by
    unfold nx
    by_cases ha : a < s.size
    · rw [if_pos ha, if_pos ha, nx_more f g (a + 1) 0 (by omega) (by omega), nx_more f g (a + 1) st (by omega) (by omega), nx_more f g (skN zs s (a + 1)) 0 (by have := skN_ge zs s (a + 1); omega) (by have := skN_ge zs s (a + 1); omega)]
    · rw [if_neg ha, if_neg ha]
def nxt (zs : List Int) (s : ByteArray) (a : Nat) (st : Int) : Sc := nx zs s (s.size - a) a st
theorem nxt_end {zs : List Int} {s : ByteArray} {a : Nat} {st : Int} (h : ¬ a < s.size) : nxt zs s a st = ⟨0, 0, 0, ByteArray.empty, a, st⟩ := by
  unfold nxt
  rw [show s.size - a = 0 by omega]
  rfl
theorem nxt_step {zs : List Int} {s : ByteArray} {a : Nat} {st : Int} (h : a < s.size) : nxt zs s a st =
      (if catAt zs s a = 0 then nmS zs s (a + 1)
       else if catAt zs s a = 6 then (if st = 0 then ⟨1, 0, 0, parS, a + 1, 0⟩ else if st = 1 then ⟨1, 3, 32, ByteArray.empty, a + 1, 0⟩ else nxt zs s (a + 1) 0)
       else if catAt zs s a = 3 then (if st = 1 then ⟨1, 3, 32, ByteArray.empty, a + 1, 2⟩ else nxt zs s (a + 1) st)
       else if catAt zs s a = 8 then nxt zs s (skN zs s (a + 1)) 0
       else if catAt zs s a = 9 then nxt zs s (a + 1) st
       else if catAt zs s a = 15 then ⟨2, 0, 0, ByteArray.empty, a + 1, st⟩
       else ⟨1, catAt zs s a, byteAt s a, ByteArray.empty, a + 1, 1⟩) := by
  obtain ⟨f, hf⟩ : ∃ f, s.size - a = f + 1 := ⟨s.size - a - 1, by omega⟩
  unfold nxt
  rw [hf, nx, if_pos h, nx_more f (s.size - (a + 1)) (a + 1) 0 (by omega) (by omega), nx_more f (s.size - (a + 1)) (a + 1) st (by omega) (by omega), nx_more f (s.size - skN zs s (a + 1)) (skN zs s (a + 1)) 0 (by have := skN_ge zs s (a + 1); omega) (by omega)]

set_option maxRecDepth 20000 in
set_option maxHeartbeats 8000000 in
theorem l2Next_any {v : Value} {zs : List Int} {s : ByteArray} {a0 : Nat} {st0 : Int} {w : World} (h : Row w v zs) (hz : zs.length = 256) (hs : s.size ≤ 65536) (ha : a0 ≤ s.size) :
    Calls Try.prog 35 #[v, .string s, .int .i64 a0, .int .i64 st0] w fun e w' => e = .returned (scV (nxt zs s a0 st0)) ∧ Below w.heap.size w w' := by
  have CN : Hid (∀ W a, Below w.heap.size w W → a ≤ s.size → Calls Try.prog 49 #[v, .string s, .int .i64 (a : Nat)] W fun e w' => e = .returned (scV (nmS zs s a)) ∧ Below W.heap.size W w') := hideP (fun W a hW hal => name_any (h.below hW) hz hs hal)
  obtain ⟨ao, n, cap, rfl, hn, hr⟩ := h
  obtain rfl : n = 256 := by omega
  obtain ⟨b, off, rfl, hb, hc⟩ := hr (by omega)
  have HC := hideP hc
  obtain ⟨x, hx⟩ : ∃ x, x = nxt zs s a0 st0 := ⟨_, rfl⟩
  rw [← hx]
  have HX0 := hideP hx
  have hb2 : ¬ b = w.heap.size := by omega
  clear hc hr hn hz hx
  go_enter Try.func35, Try.ntmps35
  go_wp2
  go_loop [2, 3] (fun i t => ∃ (k : Nat) (st : Int), a0 ≤ k ∧ k ≤ s.size ∧ i = .int .i64 k ∧ t = .int .i64 st ∧ Hid (x = nxt zs s k st)) (fun i _ => s.size - (intOf i).toNat)
  case atStart => exact ⟨a0, st0, by omega, by omega, rfl, rfl, HX0⟩
  case round =>
    obtain ⟨k, st, hk1, hk2, rfl, rfl, HX⟩ := hrel
    clear HX0
    by_cases hlt : k < s.size
    · have hki : (k : Int) < (s.size : Int) := by omega
      obtain ⟨c, hcc⟩ : ∃ c : Nat, c = byteAt s k := ⟨_, rfl⟩
      have hc1 : c ≤ 255 := by rw [hcc]; exact byteAt_le s k
      have hbb : ((s[k]'hlt).toNat : Int) = (c : Int) := by rw [hcc, byteAt_get s k hlt]
      have hbn : (s[k]'hlt).toNat = c := by rw [hcc, byteAt_get s k hlt]
      obtain ⟨z, hzz⟩ : ∃ z, z = zs.getD c 0 := ⟨_, rfl⟩
      have HCC := hideP hcc
      have HZ : Hid (catAt zs s k = z) := hideP (by unfold catAt; rw [← hcc, hzz])
      have hcl := HC.out c (by omega)
      rw [← hzz] at hcl
      have HU := hideP (nxt_step (zs := zs) (st := st) hlt)
      rw [HZ.out] at HU
      clear hcc hzz
      by_cases z0 : z = 0
      · subst z0
        have HXX : Hid (x = nmS zs s (k + 1)) := hideP (by rw [HX.out, HU.out]; simp)
        go_wp2_with fail
        refine (CN.out _ (k + 1) (below1 _ _) (by omega)).mono ?_
        rintro e w2 ⟨rfl, hb2⟩
        simp only [scV]
        have B2 := hideP (below_more (below1 _ _) hb2 (by simp))
        obtain ⟨hc2, hf2⟩ := bcell hb2
        simp only [World.size_setCell, World.size_alloc] at hc2 hf2
        have hz2 : w.heap.size < w2.heap.size := by have := hb2.size; simp at this; omega
        clear hb2
        go_wp2
        refine bodyPost_ret (v := scV x) (by rw [HXX.out]; simp [results, Try.results35, go_sem, scV, hc2, hz2]; try rfl) rfl ⟨rfl, ?_⟩
        have B9 := B2.out
        clear hc2 hf2
        repeat (first | with_reducible exact B9 | (with_reducible refine Below.setCell ?_ ?_ _; rotate_left; focus (first | (simp; done) | (simp; omega))))
      by_cases z6 : z = 6
      · subst z6
        by_cases s0 : st = 0
        · subst s0
          have HXX : Hid (x = ⟨1, 0, 0, parS, k + 1, 0⟩) := hideP (by rw [HX.out, HU.out]; simp)
          go_wp2
          refine bodyPost_ret (v := scV x) (by rw [HXX.out]; simp [results, Try.results35, go_sem, scV]; try rfl) rfl ⟨rfl, ?_⟩
          repeat (first | with_reducible exact below1 _ _ | (with_reducible refine Below.setCell ?_ ?_ _; rotate_left; focus (first | (simp; done) | (simp; omega))))
        by_cases s1 : st = 1
        · subst s1
          have HXX : Hid (x = ⟨1, 3, 32, ByteArray.empty, k + 1, 0⟩) := hideP (by rw [HX.out, HU.out]; simp)
          go_wp2_with fail
          refine (blank_any _ _ _).mono ?_
          rintro e w2 ⟨rfl, hb2⟩
          simp only [scV]
          have B2 := hideP (below_more (below1 _ _) hb2 (by simp))
          obtain ⟨hc2, hf2⟩ := bcell hb2
          simp only [World.size_setCell, World.size_alloc] at hc2 hf2
          have hz2 : w.heap.size < w2.heap.size := by have := hb2.size; simp at this; omega
          clear hb2
          go_wp2
          refine bodyPost_ret (v := scV x) (by rw [HXX.out]; simp [results, Try.results35, go_sem, scV, hc2, hz2]; try rfl) rfl ⟨rfl, ?_⟩
          have B9 := B2.out
          clear hc2 hf2
          repeat (first | with_reducible exact B9 | (with_reducible refine Below.setCell ?_ ?_ _; rotate_left; focus (first | (simp; done) | (simp; omega))))
        have s0a : (st == 0) = false := by simp [s0]
        have s1a : (st == 1) = false := by simp [s1]
        go_wp2
        go_round
        case rel => exact ⟨k + 1, 0, by omega, by omega, by go_num, by first | rfl | go_num, hideP (by rw [HX.out, HU.out]; simp [s0, s1])⟩
        case measure => simp [intOf]; omega
      by_cases z3 : z = 3
      · subst z3
        by_cases s1 : st = 1
        · subst s1
          have HXX : Hid (x = ⟨1, 3, 32, ByteArray.empty, k + 1, 2⟩) := hideP (by rw [HX.out, HU.out]; simp)
          go_wp2_with fail
          refine (blank_any _ _ _).mono ?_
          rintro e w2 ⟨rfl, hb2⟩
          simp only [scV]
          have B2 := hideP (below_more (below1 _ _) hb2 (by simp))
          obtain ⟨hc2, hf2⟩ := bcell hb2
          simp only [World.size_setCell, World.size_alloc] at hc2 hf2
          have hz2 : w.heap.size < w2.heap.size := by have := hb2.size; simp at this; omega
          clear hb2
          go_wp2
          refine bodyPost_ret (v := scV x) (by rw [HXX.out]; simp [results, Try.results35, go_sem, scV, hc2, hz2]; try rfl) rfl ⟨rfl, ?_⟩
          have B9 := B2.out
          clear hc2 hf2
          repeat (first | with_reducible exact B9 | (with_reducible refine Below.setCell ?_ ?_ _; rotate_left; focus (first | (simp; done) | (simp; omega))))
        have s1a : (st == 1) = false := by simp [s1]
        go_wp2
        go_round
        case rel => exact ⟨k + 1, st, by omega, by omega, by go_num, by first | rfl | go_num, hideP (by rw [HX.out, HU.out]; simp [s1])⟩
        case measure => simp [intOf]; omega
      by_cases z8 : z = 8
      · subst z8
        have HU2 : Hid (x = nxt zs s (skN zs s (k + 1)) 0) := hideP (by rw [HX.out, HU.out]; simp)
        clear HU HZ HCC
        go_wp2
        clear hbb hbn hcl hc1
        go_loop [2] (fun i => ∃ j : Nat, k + 1 ≤ j ∧ j ≤ s.size ∧ i = .int .i64 j ∧ Hid (endN zs s (s.size - (k + 1)) (k + 1) = endN zs s (s.size - j) j)) (fun i => s.size - (intOf i).toNat)
        case atStart => exact ⟨k + 1, by omega, by omega, by go_num, hideP rfl⟩
        case round =>
          obtain ⟨j, hj1, hj2, rfl, HJ⟩ := hrel
          by_cases hjl : j < s.size
          · have hji : (j : Int) < (s.size : Int) := by omega
            obtain ⟨d, hdd⟩ : ∃ d : Nat, d = byteAt s j := ⟨_, rfl⟩
            have hd1 : d ≤ 255 := by rw [hdd]; exact byteAt_le s j
            have hdb : ((s[j]'hjl).toNat : Int) = (d : Int) := by rw [hdd, byteAt_get s j hjl]
            have hdn : (s[j]'hjl).toNat = d := by rw [hdd, byteAt_get s j hjl]
            obtain ⟨y, hyy⟩ : ∃ y, y = zs.getD d 0 := ⟨_, rfl⟩
            have HY : Hid (catAt zs s j = y) := hideP (by unfold catAt; rw [← hdd, hyy])
            have hdl := HC.out d (by omega)
            rw [← hyy] at hdl
            clear hdd hyy
            by_cases y6 : y = 6
            · subst y6
              have HK : Hid (skN zs s (k + 1) = j + 1) := hideP (by unfold skN; rw [HJ.out, endN_stop (by rw [HY.out]; simp), if_pos hjl])
              go_wp2
              go_round
              case rel => exact ⟨j + 1, 0, by omega, by omega, by go_num, by first | rfl | go_num, hideP (by rw [HU2.out, HK.out])⟩
              case measure => simp [intOf]; omega
            · have y6a : (y == 6) = false := by simp [y6]
              have y6b : (y != 6) = true := by simp [y6]
              have y6c : decide (y = 6) = false := by simp [y6]
              go_wp2
              go_round
              case rel => exact ⟨j + 1, by omega, by omega, by go_num, hideP (by rw [HJ.out, endN_go hjl (by rw [HY.out]; exact y6)])⟩
              case measure => simp [intOf]; omega
          · have hji : ¬ (j : Int) < (s.size : Int) := by omega
            have HK : Hid (skN zs s (k + 1) = j) := hideP (by unfold skN; rw [HJ.out, endN_stop (by omega), if_neg hjl])
            go_wp2
            go_round
            case rel => exact ⟨j, 0, by omega, by omega, by go_num, by first | rfl | go_num, hideP (by rw [HU2.out, HK.out])⟩
            case measure => simp [intOf]; omega
      by_cases z9 : z = 9
      · subst z9
        go_wp2
        go_round
        case rel => exact ⟨k + 1, st, by omega, by omega, by go_num, by first | rfl | go_num, hideP (by rw [HX.out, HU.out]; simp)⟩
        case measure => simp [intOf]; omega
      by_cases z15 : z = 15
      · subst z15
        have HXX : Hid (x = ⟨2, 0, 0, ByteArray.empty, k + 1, st⟩) := hideP (by rw [HX.out, HU.out]; simp)
        go_wp2
        refine bodyPost_ret (v := scV x) (by rw [HXX.out]; simp [results, Try.results35, go_sem, scV]; try rfl) rfl ⟨rfl, ?_⟩
        repeat (first | with_reducible exact below1 _ _ | (with_reducible refine Below.setCell ?_ ?_ _; rotate_left; focus (first | (simp; done) | (simp; omega))))
      have z0a : (z == 0) = false := by simp [z0]
      have z3a : (z == 3) = false := by simp [z3]
      have z6a : (z == 6) = false := by simp [z6]
      have z8a : (z == 8) = false := by simp [z8]
      have z9a : (z == 9) = false := by simp [z9]
      have z15a : (z == 15) = false := by simp [z15]
      have HXX : Hid (x = ⟨1, z, c, ByteArray.empty, k + 1, 1⟩) := hideP (by rw [HX.out, HU.out]; rw [HCC.out]; simp [z0, z3, z6, z8, z9, z15])
      go_wp2
      refine bodyPost_ret (v := scV x) (by rw [HXX.out]; simp [results, Try.results35, go_sem, scV]; try rfl) rfl ⟨rfl, ?_⟩
      repeat (first | with_reducible exact below1 _ _ | (with_reducible refine Below.setCell ?_ ?_ _; rotate_left; focus (first | (simp; done) | (simp; omega))))
    · have hki : ¬ (k : Int) < (s.size : Int) := by omega
      have HXX : Hid (x = ⟨0, 0, 0, ByteArray.empty, k, st⟩) := hideP (by rw [HX.out, nxt_end hlt])
      go_wp2
      refine bodyPost_ret (v := scV x) (by rw [HXX.out]; simp [results, Try.results35, go_sem, scV]; try rfl) rfl ⟨rfl, ?_⟩
      repeat (first | with_reducible exact below1 _ _ | (with_reducible refine Below.setCell ?_ ?_ _; rotate_left; focus (first | (simp; done) | (simp; omega))))
end Go.Proofs.Ytkiiiahljlkjnaa
