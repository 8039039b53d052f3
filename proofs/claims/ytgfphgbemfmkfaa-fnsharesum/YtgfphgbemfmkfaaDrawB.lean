/-
  The draws again, with what they leave: every block but the cursor's.
-/
import Derived.Test.YtgfphgbemfmkfaaDraw
namespace Go.Proofs.Ytgfphgbemfmkfaa
open Go.RowKit
set_option linter.unusedVariables false
set_option linter.unusedSimpArgs false

/-- Every block that was there stands, but the cursor's. -/
def Fram (w wr w' : World) : Prop := wr.heap.size ≤ w'.heap.size ∧ ∀ b, b < wr.heap.size → b ≠ w.heap.size → w'.heap[b]? = wr.heap[b]?
theorem Fram.refl (w wr : World) : Fram w wr wr := ⟨Nat.le_refl _, fun _ _ _ => rfl⟩
theorem Fram.trans {w a b c : World} (h : Fram w a b) (k : Fram w b c) : Fram w a c := ⟨Nat.le_trans h.1 k.1, fun n hn hne => (k.2 n (Nat.lt_of_lt_of_le hn h.1) hne).trans (h.2 n hn hne)⟩
theorem Fram.alloc {w a b : World} (h : Fram w a b) (o : Obj) : Fram w a (b.alloc o) := ⟨by have := h.1; simp; omega, fun n hn hne => (Below.heap_alloc _ _ _ (Nat.lt_of_lt_of_le hn h.1)).trans (h.2 n hn hne)⟩
theorem Other.size {w a b : World} (h : Other w a b) (hc : w.heap.size < b.heap.size) : a.heap.size ≤ b.heap.size := by
  by_cases hlt : a.heap.size ≤ b.heap.size
  · exact hlt
  · exfalso
    have h1 := h b.heap.size (by omega)
    rw [Array.getElem?_eq_none (Nat.le_refl _), Array.getElem?_eq_getElem (by omega)] at h1
    cases h1
theorem Cur.lt {w wr : World} {ao : Option Addr} {len cap : Nat} (h : Cur w wr ao len cap) : w.heap.size < wr.heap.size := by
  obtain ⟨_, _, _, _, h3, _⟩ := h
  exact (Array.getElem?_eq_some_iff.1 h3).1
theorem Fram.other {w a b c : World} {ao : Option Addr} {len cap : Nat} (h : Fram w a b) (k : Other w b c) (hc : Cur w c ao len cap) : Fram w a c :=
  h.trans ⟨Other.size k hc.lt, fun n _ hne => k n hne⟩

set_option maxHeartbeats 4000000 in
theorem drawLen_kept (ao : Option Addr) (len cap : Nat) (w wr : World) (hB : Bytes w ao len cap) (hC : Cur w wr ao len cap) :
    Calls Try.prog 23 #[curP w] wr fun e w' => ∃ x : Int, e = .returned (.int .i64 x) ∧ I64 x ∧ (Cur w w' ao len cap ∧ Fram w wr w') := by
  have HB := hideD hB
  have HC := hideD hC
  clear hB hC
  go_enter Try.func23, Try.ntmps23
  go_wp2_with fail
  refine (below_any 1310720 ao len cap w wr HB.out HC.out (by omega) (by omega)).mono ?_
  rintro e w1 ⟨x, rfl, x0, x1, c1, o1⟩
  have C1 := hideD (And.intro c1 (Fram.other (Fram.refl w wr) o1 c1))
  clear c1 o1 HC
  go_wp2_with fail
  refine (below_any 12 ao len cap w _ HB.out C1.out.1 (by omega) (by omega)).mono ?_
  rintro e w2 ⟨k, rfl, k0, k1, c2, o2⟩
  have C2 := hideD (And.intro c2 (Fram.other C1.out.2 o2 c2))
  clear c2 o2 C1
  by_cases e0 : k = 0
  · subst e0
    go_wp2_with fail
    refine (once_any 40 ao len cap w _ HB.out C2.out.1 (by omega) (by omega)).mono ?_
    rintro e w4 ⟨bb, rfl, c4, o4⟩
    have C4 := hideD (And.intro c4 (Fram.other C2.out.2 o4 c4))
    clear c4 o4
    cases bb
    · go_wp2
      go_ret
      exact ⟨_, rfl, by unfold I64; omega, C4.out⟩
    · have hsz : w.heap.size < w4.heap.size := by
        obtain ⟨_, _, _, _, h3, _⟩   := C4.out.1
        exact (Array.getElem?_eq_some_iff.1 h3).1
      have S6 := hideD (six_cells w4)
      go_wp2_with fail
      refine (below_any 6 ao len cap w _ HB.out (C4.out.1.alloc _) (by omega) (by omega)).mono ?_
      rintro e w5 ⟨j, rfl, j0, j1, c5, o5⟩
      obtain ⟨jn, rfl⟩ := Int.eq_ofNat_of_zero_le j0
      obtain ⟨v, hv, hcv⟩ := S6.out jn (by omega)
      have hcell := (o5.cell (n := w4.heap.size) (o := jn) (by omega)).trans hcv
      have HV := hideD hv
      have C5 := hideD (And.intro c5 (Fram.other (Fram.alloc C4.out.2 _) o5 c5))
      clear c5 o5 hcv hv S6
      go_wp2
      go_ret
      exact ⟨_, rfl, HV.out, C5.out⟩
  have n0 : (k == 0) = false := by simp [e0]
  by_cases e1 : k = 1
  · subst e1
    go_wp2_with fail
    refine (once_any 40 ao len cap w _ HB.out C2.out.1 (by omega) (by omega)).mono ?_
    rintro e w4 ⟨bb, rfl, c4, o4⟩
    have C4 := hideD (And.intro c4 (Fram.other C2.out.2 o4 c4))
    clear c4 o4
    cases bb
    · go_wp2
      go_ret
      exact ⟨_, rfl, by unfold I64; omega, C4.out⟩
    · have hsz : w.heap.size < w4.heap.size := by
        obtain ⟨_, _, _, _, h3, _⟩   := C4.out.1
        exact (Array.getElem?_eq_some_iff.1 h3).1
      have S6 := hideD (six_cells w4)
      go_wp2_with fail
      refine (below_any 6 ao len cap w _ HB.out (C4.out.1.alloc _) (by omega) (by omega)).mono ?_
      rintro e w5 ⟨j, rfl, j0, j1, c5, o5⟩
      obtain ⟨jn, rfl⟩ := Int.eq_ofNat_of_zero_le j0
      obtain ⟨v, hv, hcv⟩ := S6.out jn (by omega)
      have hcell := (o5.cell (n := w4.heap.size) (o := jn) (by omega)).trans hcv
      have HV := hideD hv
      have C5 := hideD (And.intro c5 (Fram.other (Fram.alloc C4.out.2 _) o5 c5))
      clear c5 o5 hcv hv S6
      go_wp2
      go_ret
      exact ⟨_, rfl, HV.out, C5.out⟩
  have n1 : (k == 1) = false := by simp [e1]
  by_cases e2 : k = 2
  · subst e2
    go_wp2_with fail
    refine (below_any 100 ao len cap w _ HB.out C2.out.1 (by omega) (by omega)).mono ?_
    rintro e w3 ⟨y, rfl, y0, y1, c3, o3⟩
    have C3 := hideD (And.intro c3 (Fram.other C2.out.2 o3 c3))
    clear c3 o3 C2
    go_wp2_with fail
    refine (once_any 40 ao len cap w _ HB.out C3.out.1 (by omega) (by omega)).mono ?_
    rintro e w4 ⟨bb, rfl, c4, o4⟩
    have C4 := hideD (And.intro c4 (Fram.other C3.out.2 o4 c4))
    clear c4 o4
    cases bb
    · go_wp2
      go_ret
      exact ⟨_, rfl, by unfold I64; omega, C4.out⟩
    · have hsz : w.heap.size < w4.heap.size := by
        obtain ⟨_, _, _, _, h3, _⟩   := C4.out.1
        exact (Array.getElem?_eq_some_iff.1 h3).1
      have S6 := hideD (six_cells w4)
      go_wp2_with fail
      refine (below_any 6 ao len cap w _ HB.out (C4.out.1.alloc _) (by omega) (by omega)).mono ?_
      rintro e w5 ⟨j, rfl, j0, j1, c5, o5⟩
      obtain ⟨jn, rfl⟩ := Int.eq_ofNat_of_zero_le j0
      obtain ⟨v, hv, hcv⟩ := S6.out jn (by omega)
      have hcell := (o5.cell (n := w4.heap.size) (o := jn) (by omega)).trans hcv
      have HV := hideD hv
      have C5 := hideD (And.intro c5 (Fram.other (Fram.alloc C4.out.2 _) o5 c5))
      clear c5 o5 hcv hv S6
      go_wp2
      go_ret
      exact ⟨_, rfl, HV.out, C5.out⟩
  have n2 : (k == 2) = false := by simp [e2]
  by_cases e3 : k = 3
  · subst e3
    go_wp2_with fail
    refine (below_any 300 ao len cap w _ HB.out C2.out.1 (by omega) (by omega)).mono ?_
    rintro e w3 ⟨y, rfl, y0, y1, c3, o3⟩
    have C3 := hideD (And.intro c3 (Fram.other C2.out.2 o3 c3))
    clear c3 o3 C2
    go_wp2_with fail
    refine (once_any 40 ao len cap w _ HB.out C3.out.1 (by omega) (by omega)).mono ?_
    rintro e w4 ⟨bb, rfl, c4, o4⟩
    have C4 := hideD (And.intro c4 (Fram.other C3.out.2 o4 c4))
    clear c4 o4
    cases bb
    · go_wp2
      go_ret
      exact ⟨_, rfl, by unfold I64; omega, C4.out⟩
    · have hsz : w.heap.size < w4.heap.size := by
        obtain ⟨_, _, _, _, h3, _⟩   := C4.out.1
        exact (Array.getElem?_eq_some_iff.1 h3).1
      have S6 := hideD (six_cells w4)
      go_wp2_with fail
      refine (below_any 6 ao len cap w _ HB.out (C4.out.1.alloc _) (by omega) (by omega)).mono ?_
      rintro e w5 ⟨j, rfl, j0, j1, c5, o5⟩
      obtain ⟨jn, rfl⟩ := Int.eq_ofNat_of_zero_le j0
      obtain ⟨v, hv, hcv⟩ := S6.out jn (by omega)
      have hcell := (o5.cell (n := w4.heap.size) (o := jn) (by omega)).trans hcv
      have HV := hideD hv
      have C5 := hideD (And.intro c5 (Fram.other (Fram.alloc C4.out.2 _) o5 c5))
      clear c5 o5 hcv hv S6
      go_wp2
      go_ret
      exact ⟨_, rfl, HV.out, C5.out⟩
  have n3 : (k == 3) = false := by simp [e3]
  by_cases e4 : k = 4
  · subst e4
    go_wp2_with fail
    refine (below_any 1073741823 ao len cap w _ HB.out C2.out.1 (by omega) (by omega)).mono ?_
    rintro e w3 ⟨y, rfl, y0, y1, c3, o3⟩
    have C3 := hideD (And.intro c3 (Fram.other C2.out.2 o3 c3))
    clear c3 o3 C2
    go_wp2_with fail
    refine (once_any 40 ao len cap w _ HB.out C3.out.1 (by omega) (by omega)).mono ?_
    rintro e w4 ⟨bb, rfl, c4, o4⟩
    have C4 := hideD (And.intro c4 (Fram.other C3.out.2 o4 c4))
    clear c4 o4
    cases bb
    · go_wp2
      go_ret
      exact ⟨_, rfl, by unfold I64; omega, C4.out⟩
    · have hsz : w.heap.size < w4.heap.size := by
        obtain ⟨_, _, _, _, h3, _⟩   := C4.out.1
        exact (Array.getElem?_eq_some_iff.1 h3).1
      have S6 := hideD (six_cells w4)
      go_wp2_with fail
      refine (below_any 6 ao len cap w _ HB.out (C4.out.1.alloc _) (by omega) (by omega)).mono ?_
      rintro e w5 ⟨j, rfl, j0, j1, c5, o5⟩
      obtain ⟨jn, rfl⟩ := Int.eq_ofNat_of_zero_le j0
      obtain ⟨v, hv, hcv⟩ := S6.out jn (by omega)
      have hcell := (o5.cell (n := w4.heap.size) (o := jn) (by omega)).trans hcv
      have HV := hideD hv
      have C5 := hideD (And.intro c5 (Fram.other (Fram.alloc C4.out.2 _) o5 c5))
      clear c5 o5 hcv hv S6
      go_wp2
      go_ret
      exact ⟨_, rfl, HV.out, C5.out⟩
  have n4 : (k == 4) = false := by simp [e4]
  go_wp2_with fail
  refine (once_any 40 ao len cap w _ HB.out C2.out.1 (by omega) (by omega)).mono ?_
  rintro e w4 ⟨bb, rfl, c4, o4⟩
  have C4 := hideD (And.intro c4 (Fram.other C2.out.2 o4 c4))
  clear c4 o4
  cases bb
  · go_wp2
    go_ret
    exact ⟨_, rfl, by unfold I64; omega, C4.out⟩
  · have hsz : w.heap.size < w4.heap.size := by
      obtain ⟨_, _, _, _, h3, _⟩   := C4.out.1
      exact (Array.getElem?_eq_some_iff.1 h3).1
    have S6 := hideD (six_cells w4)
    go_wp2_with fail
    refine (below_any 6 ao len cap w _ HB.out (C4.out.1.alloc _) (by omega) (by omega)).mono ?_
    rintro e w5 ⟨j, rfl, j0, j1, c5, o5⟩
    obtain ⟨jn, rfl⟩ := Int.eq_ofNat_of_zero_le j0
    obtain ⟨v, hv, hcv⟩ := S6.out jn (by omega)
    have hcell := (o5.cell (n := w4.heap.size) (o := jn) (by omega)).trans hcv
    have HV := hideD hv
    have C5 := hideD (And.intro c5 (Fram.other (Fram.alloc C4.out.2 _) o5 c5))
    clear c5 o5 hcv hv S6
    go_wp2
    go_ret
    exact ⟨_, rfl, HV.out, C5.out⟩
end Go.Proofs.Ytgfphgbemfmkfaa
