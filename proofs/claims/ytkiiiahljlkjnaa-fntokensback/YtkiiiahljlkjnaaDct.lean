/-
  A drawn table of categories: what is drawn is not told, only that it is a row of numbers.
-/
import Derived.Test.YtkiiiahljlkjnaaDrw
import Derived.Test.YtkiiiahljlkjnaaPlb
namespace Go.Proofs.Ytkiiiahljlkjnaa
open Go.RowKit
set_option linter.unusedVariables false
set_option linter.unusedSimpArgs false

theorem Cur.below {w wr w' : World} {ao : Option Addr} {len cap : Nat} (h : Cur w wr ao len cap) (hb : Below wr.heap.size wr w') : Cur w w' ao len cap := by
  obtain ⟨i, x, h1, h2, h3, h4⟩ := h
  exact ⟨i, x, h1, h2, (hb.block _ (Array.getElem?_eq_some_iff.1 h3).1).trans h3, below_more h4 hb h4.size⟩
theorem Fram.below {w a b c : World} (h : Fram w a b) (hb : Below b.heap.size b c) : Fram w a c := h.trans ⟨hb.size, fun n hn _ => hb.block n hn⟩
theorem Cur.set {w wr : World} {ao : Option Addr} {len cap g j : Nat} (h : Cur w wr ao len cap) (hg : w.heap.size < g) (x : Value) : Cur w (wr.setCell ⟨g, j, none⟩ x) ao len cap := by
  obtain ⟨i, y, h1, h2, h3, h4⟩ := h
  exact ⟨i, y, h1, h2, (Below.heap_setCell _ _ _ _ (by simp; omega)).trans h3, h4.setCell (by simp; omega) _⟩
theorem Fram.set {w a b : World} {g j : Nat} (h : Fram w a b) (hg : a.heap.size ≤ g) (x : Value) : Fram w a (b.setCell ⟨g, j, none⟩ x) :=
  ⟨by simpa using h.1, fun n hn hne => (Below.heap_setCell _ _ _ _ (by simp; omega)).trans (h.2 n hn hne)⟩
/-- A row of numbers of one's own while a cursor draws. -/
structure DInv (w wr W : World) (ao : Option Addr) (len cap : Nat) (v : Value) (n : Nat) (ys : List Int) : Prop where
  own : W.ownsRow wr.heap.size 2 1 v n (ys.map (Value.int .i64))
  cur : Cur w W ao len cap
  fr : Fram w wr W
  lt : w.heap.size < wr.heap.size
section
variable {w wr W W' : World} {ao : Option Addr} {len cap : Nat} {v : Value} {n : Nat} {ys : List Int}
theorem own_same2 {w w' : World} {base e size n : Nat} {v : Value} {xs : List Value} (h : w.ownsRow base e size v n xs) (hs : ∀ g, v.ownBlock = some g → w'.heap[g]? = w.heap[g]?) : w'.ownsRow base e size v n xs := by
  obtain ⟨hl, hr⟩ := h
  refine ⟨hl, ?_⟩
  rcases hr with h1 | ⟨g, cap, cur, rfl, h2, h3, h4⟩
  · exact Or.inl h1
  · exact Or.inr ⟨g, cap, cur, rfl, h2, (hs g rfl).trans h3, h4⟩
theorem DInv.draw (h : DInv w wr W ao len cap v n ys) (hc : Cur w W' ao len cap) (ho : Other w W W') : DInv w wr W' ao len cap v n ys :=
  ⟨own_same2 h.own (fun g hg => ho g (by have := (h.own.lt g hg).1; have := h.lt; omega)), hc, h.fr.other ho hc, h.lt⟩
theorem DInv.below (h : DInv w wr W ao len cap v n ys) (hb : Below W.heap.size W W') : DInv w wr W' ao len cap v n ys :=
  ⟨own_same2 h.own (fun g hg => hb.block g (h.own.lt g hg).2), h.cur.below hb, h.fr.below hb, h.lt⟩
theorem DInv.store {g c : Nat} (h : DInv w wr W ao len cap (.slice (some ⟨g, 0, none⟩) n c) n ys) (j : Nat) (x : Int) : DInv w wr (W.setCell ⟨g, j, none⟩ (.int .i64 x)) ao len cap (.slice (some ⟨g, 0, none⟩) n c) n (ys.set j x) := by
  have hg := (h.own.lt g rfl).1
  have hl := h.lt
  exact ⟨by simpa using (World.ownsRow.stored h.own j (.int .i64 x)).1, h.cur.set (by omega) _, h.fr.set hg _, h.lt⟩
theorem DInv.cell {g c : Nat} (h : DInv w wr W ao len cap (.slice (some ⟨g, 0, none⟩) n c) n ys) {j : Nat} (hj : j < n) : W.cell? ⟨g, j, none⟩ = some (.int .i64 (ys.getD j 0)) ∧ W.frozen? ⟨g, j, none⟩ = false := by
  have hl : ys.length = n := by simpa using h.own.1
  refine ⟨?_, World.ownsRow.frozenAt h.own j⟩
  rw [World.ownsRow.cellAt h.own j (by omega)]
  simp [List.getElem?_map, List.getD, List.getElem?_eq_getElem (show j < ys.length by omega)]
end
theorem three_ints (w : World) (a b c : Int) : ∀ j : Nat, j < 3 → ∃ x : Int, (w.alloc (.cells #[.int .i64 a, .int .i64 b, .int .i64 c] 2)).cell? ⟨w.heap.size, j, none⟩ = some (.int .i64 x) := by
  intro j hj
  match j, hj with
  | 0, _ => exact ⟨a, by simp [go_sem]⟩
  | 1, _ => exact ⟨b, by simp [go_sem]⟩
  | 2, _ => exact ⟨c, by simp [go_sem]⟩

theorem own_255 {W : World} {base g c : Nat} {ys : List Int} (h : W.ownsRow base 2 1 (.slice (some ⟨g, 0, none⟩) 256 c) 256 (ys.map (Value.int .i64))) : W.ownsRow base 2 1 (.slice (some ⟨g, 0, none⟩) 255 c) 255 ((ys.take 255).map (Value.int .i64)) := by
  have hl : ys.length = 256 := by simpa using h.1
  rcases h.2 with ⟨h1, _⟩ | ⟨g', c', cur, e, h3, h4, h5, h6, h7, h8⟩
  · simp at h1
  · injection e with e1 e2 e3
    injection e1 with e1
    injection e1 with e1
    subst e1 e3
    refine ⟨by simp [hl], .inr ⟨g, c, cur, rfl, h3, h4, by omega, h6, h7, ?_⟩⟩
    rw [List.map_take, ← h8, List.take_take]
    rfl

set_option maxRecDepth 20000 in
set_option maxHeartbeats 8000000 in
theorem drawCats_any (ao : Option Addr) (len cap : Nat) (w ws : World) (hB : Bytes w ao len cap) (hC : Cur w ws ao len cap) :
    Calls Try.prog 24 #[curP w] ws fun e w' => ∃ (g n c : Nat) (ys : List Int), e = .returned (.slice (some ⟨g, 0, none⟩) n c) ∧ n ≤ 256 ∧ w'.ownsRow ws.heap.size 2 1 (.slice (some ⟨g, 0, none⟩) n c) n (ys.map (Value.int .i64)) ∧ Cur w w' ao len cap ∧ Fram w ws w' := by
  have HB := hideP hB
  have HC := hideP hC
  clear hB hC
  go_enter Try.func24, Try.ntmps24
  go_wp2_with fail
  refine (specPlainCats_any _).mono ?_
  rintro e w1 ⟨g, c, rfl, ho1, hb1⟩
  have D1 : Hid (DInv w ws w1 ao len cap (.slice (some ⟨g, 0, none⟩) 256 c) 256 PL) := hideP ⟨ho1, HC.out.below hb1, (Fram.refl _ _).below hb1, HC.out.lt⟩
  have hc256 : 256 ≤ c := by
    rcases ho1.2 with ⟨h, _⟩ | ⟨g', c', cur, h, _, _, h5, _⟩
    · simp at h
    · simp at h
      omega
  clear ho1 hb1 HC
  go_wp2_with fail
  refine (below_any 4 ao len cap w _ HB.out D1.out.cur (by omega) (by omega)).mono ?_
  rintro e w2 ⟨i0, rfl, i1, i2, cc2, oo2⟩
  have D2 := hideP (D1.out.draw cc2 oo2)
  clear cc2 oo2 D1
  go_wp2
  go_loopw [4] (fun i W => ∃ (k : Nat) (ys : List Int), k ≤ 4 ∧ i = .int .i64 (k : Int) ∧ Hid (DInv w ws W ao len cap (.slice (some ⟨g, 0, none⟩) 256 c) 256 ys)) (fun i _ => (intOf i).toNat)
  case atStart => exact ⟨i0.toNat, PL, by omega, congrArg _ (by omega), D2⟩
  case round =>
    clear D2
    obtain ⟨k, ys, hk, rfl, HD⟩ := hrel
    by_cases hk0 : 0 < k
    · have hki : (0 : Int) < (k : Int) := by omega
      go_wp2_with fail
      refine (below_any 128 ao len cap w _ HB.out HD.out.cur (by omega) (by omega)).mono ?_
      rintro e w3 ⟨j, rfl, j1, j2, cc3, oo3⟩
      have D3 := hideP (HD.out.draw cc3 oo3)
      clear cc3 oo3 HD
      go_wp2_with fail
      refine (below_any 16 ao len cap w _ HB.out D3.out.cur (by omega) (by omega)).mono ?_
      rintro e w4 ⟨x, rfl, x1, x2, cc4, oo4⟩
      have D4 := hideP (D3.out.draw cc4 oo4)
      clear cc4 oo4 D3
      obtain ⟨jn, rfl⟩ : ∃ jn : Nat, j = (jn : Int) := ⟨j.toNat, by omega⟩
      obtain ⟨q1, q2⟩ := D4.out.cell (j := jn) (by omega)
      have j3 : (jn : Int) < 256 := by omega
      go_wp2
      go_roundw
      case rel => exact ⟨k - 1, ys.set jn x, by omega, congrArg _ (by omega), hideP (D4.out.store jn x)⟩
      case measure => simp [intOf]; omega
    · obtain rfl : k = 0 := by omega
      have hki : ¬ (0 : Int) < ((0 : Nat) : Int) := by omega
      go_wp2_with fail
      refine (once_any 30 ao len cap w _ HB.out HD.out.cur (by omega) (by omega)).mono ?_
      rintro e w3 ⟨b1, rfl, cc3, oo3⟩
      have D3 := hideP (HD.out.draw cc3 oo3)
      clear cc3 oo3 HD
      cases b1 with
      | false =>
        go_wp2_with fail
        refine (once_any 40 ao len cap w _ HB.out D3.out.cur (by omega) (by omega)).mono ?_
        rintro e w6 ⟨b2, rfl, cc6, oo6⟩
        have D6 := hideP (D3.out.draw cc6 oo6)
        clear cc6 oo6
        cases b2 with
        | false =>
          go_wp2
          go_ret
          exact ⟨g, 256, c, _, rfl, by omega, D6.out.own, D6.out.cur, D6.out.fr⟩
        | true =>
          go_wp2
          go_ret
          exact ⟨g, 255, c, _, rfl, by omega, own_255 D6.out.own, D6.out.cur, D6.out.fr⟩
      | true =>
        have D4 : Hid (DInv w ws (w3.alloc (.cells #[.int .i64 (-1), .int .i64 16, .int .i64 15] 2)) ao len cap (.slice (some ⟨g, 0, none⟩) 256 c) 256 ys) := hideP (D3.out.below (below1 _ _))
        have T3 := hideP (three_ints w3 (-1) 16 15)
        have hw3 : w.heap.size ≠ w3.heap.size := by have := D3.out.cur.lt; omega
        go_wp2_with fail
        refine (below_any 3 ao len cap w _ HB.out D4.out.cur (by omega) (by omega)).mono ?_
        rintro e w5 ⟨j, rfl, j1, j2, cc5, oo5⟩
        have D5 := hideP (D4.out.draw cc5 oo5)
        obtain ⟨jn, rfl⟩ : ∃ jn : Nat, j = (jn : Int) := ⟨j.toNat, by omega⟩
        obtain ⟨x, hx⟩ := T3.out jn (by omega)
        have hx5 : w5.cell? ⟨w3.heap.size, jn, none⟩ = some (.int .i64 x) := (oo5.cell (n := w3.heap.size) (by omega)).trans hx
        obtain ⟨q1, q2⟩ := D5.out.cell (j := 7) (by omega)
        have D5s := hideP (D5.out.store 7 x)
        have j3 : (jn : Int) < 3 := by omega
        clear cc5 oo5 D4 hx T3
        go_wp2_with fail
        refine (once_any 40 ao len cap w _ HB.out D5s.out.cur (by omega) (by omega)).mono ?_
        rintro e w6 ⟨b2, rfl, cc6, oo6⟩
        have D6 := hideP (D5s.out.draw cc6 oo6)
        clear cc6 oo6
        cases b2 with
        | false =>
          go_wp2
          go_ret
          exact ⟨g, 256, c, _, rfl, by omega, D6.out.own, D6.out.cur, D6.out.fr⟩
        | true =>
          go_wp2
          go_ret
          exact ⟨g, 255, c, _, rfl, by omega, own_255 D6.out.own, D6.out.cur, D6.out.fr⟩
end Go.Proofs.Ytkiiiahljlkjnaa
