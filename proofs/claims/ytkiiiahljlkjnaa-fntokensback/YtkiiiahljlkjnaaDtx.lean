/-
  A drawn text: what is drawn is not told, only its length.
-/
import Derived.OwnWalk
import Derived.Maps.AppendAt
import Derived.Laws.BytesArg
import Derived.Test.YtkiiiahljlkjnaaDct
import Derived.Test.YtkiiiahljlkjnaaTsp
namespace Go.Proofs.Ytkiiiahljlkjnaa
open Go.RowKit Go.Maps
set_option linter.unusedVariables false
set_option linter.unusedSimpArgs false

theorem Try.info5 : (Try.prog.info? 5).map (fun i => (i.zero, i.size, i.bytes)) = some (some (.int .u8 0), 1, 1) := by kernel_rfl
theorem newB (w : World) (a : Value) : ∀ j u, [a][j]? = some u → (w.alloc (.cells #[a] 5)).cell? ((⟨w.heap.size, 0, none⟩ : Addr).add j) = some u := by
  intro j u hj
  match j, hj with
  | 0, hj => simp at hj; subst hj; simp [Addr.add, go_sem]
theorem oneB (a : Int) : ∀ u ∈ [Value.int .u8 a], u.oneCell' = true := by
  intro u hu
  simp at hu
  subst hu
  rfl
/-- A row of bytes of one's own while a cursor draws. -/
structure BInv (w ws W : World) (ao : Option Addr) (len cap : Nat) (v : Value) (bs : List Int) : Prop where
  own : W.ownsRow ws.heap.size 5 1 v bs.length (bs.map (Value.int .u8))
  cur : Cur w W ao len cap
  fr : Fram w ws W
  lt : w.heap.size < ws.heap.size
section
variable {w ws W W' : World} {ao : Option Addr} {len cap : Nat} {v v' : Value} {bs : List Int}
theorem BInv.own' {m : Nat} (h : BInv w ws W ao len cap v bs) (hm : m = bs.length) : W.ownsRow ws.heap.size 5 1 v m (bs.map (Value.int .u8)) := by rw [hm]; exact h.own
theorem BInv.draw (h : BInv w ws W ao len cap v bs) (hc : Cur w W' ao len cap) (ho : Other w W W') : BInv w ws W' ao len cap v bs :=
  ⟨own_same h.own (fun g hg => ho g (by have := (h.own.lt g hg).1; have := h.lt; omega)), hc, h.fr.other ho hc, h.lt⟩
theorem BInv.put {y : Int} {o : Obj} (h : BInv w ws W ao len cap v bs) (ho : W'.ownsRow ws.heap.size 5 1 v' (bs.length + 1) (bs.map (Value.int .u8) ++ [.int .u8 y])) (hg : (W.alloc o).grownBy W' v.ownBlock) : BInv w ws W' ao len cap v' (bs ++ [y]) := by
  have hz := h.cur.lt
  have hl := h.lt
  have hb : ∀ q, q < W.heap.size → q < ws.heap.size → W'.heap[q]? = W.heap[q]? := fun q hq hs => by
    rw [hg.block q (by simp; omega) (fun e => by have := (h.own.lt q e.symm).1; omega)]
    exact (below1 W o).block q hq
  obtain ⟨i, x, h1, h2, h3, h4⟩ := h.cur
  have hs := hg.size
  simp at hs
  refine ⟨by simpa using ho, ⟨i, x, h1, h2, (hb _ hz hl).trans h3, ?_⟩, ⟨by have := h.fr.1; omega, fun n hn hne => (hb n (by have := h.fr.1; omega) hn).trans (h.fr.2 n hn hne)⟩, h.lt⟩
  exact Below.grown (h4.alloc h4.size o) hg (by have := h4.size; simp; omega) (fun j hj => by have := (h.own.lt j hj).1; omega)
end

theorem conv_own {W : World} {base m c : Nat} {ao : Option Addr} {bs : List Int} (h : W.ownsRow base 5 1 (.slice ao m c) m (bs.map (Value.int .u8))) : ∃ T : ByteArray, T.size = m ∧ (convert 22 9 (.slice ao m c)).run Try.prog W = .ok (.string T) W := by
  have hl : bs.length = m := by simpa using h.1
  rcases h.2 with ⟨e, h0⟩ | ⟨g, c', cur, e, h3, h4, h5, h6, h7, h8⟩
  · injection e with e1 e2 e3
    subst e1
    exact ⟨ByteArray.empty, by rw [h0]; rfl, run_convert_bytes_nil W 22 5 Try.underlying22 Try.underlying5 _ _ 9 Try.underlying9⟩
  · injection e with e1 e2 e3
    subst e1 e3
    refine ⟨strOfNums bs, by rw [strOfNums_size, hl], run_convert_bytes_arg W 22 5 Try.underlying22 Try.underlying5 g 0 m c bs hl (fun i hi => ?_) 9 Try.underlying9⟩
    rw [Nat.zero_add, World.ownsRow.cellAt h i (by omega)]
    simp [List.getElem?_map, List.getD, List.getElem?_eq_getElem (show i < bs.length by omega)]

set_option maxRecDepth 20000 in
set_option maxHeartbeats 16000000 in
theorem drawText_any (N : Int) (hN0 : 0 ≤ N) (hN : N ≤ 60) (ao : Option Addr) (len cap : Nat) (w ws : World) (hB : Bytes w ao len cap) (hC : Cur w ws ao len cap) :
    Calls Try.prog 25 #[curP w, .int .i64 N] ws fun e w' => ∃ T : ByteArray, e = .returned (.string T) ∧ T.size ≤ 200 ∧ Cur w w' ao len cap ∧ Fram w ws w' := by
  obtain ⟨i1, hi, hz0, hz1, hz2⟩ := info_parts Try.info5
  have HB := hideP hB
  have J0 : Hid (BInv w ws (ws.alloc (.cells #[] 5)) ao len cap (.slice (some ⟨ws.heap.size, 0, none⟩) 0 0) []) := hideP ⟨⟨rfl, Or.inr ⟨ws.heap.size, 0, #[], rfl, Nat.le_refl _, heap_alloc_new _ _, Nat.le_refl _, by unfold maxLen; omega, rfl, rfl⟩⟩, hC.alloc _, (Fram.refl _ _).alloc _, hC.lt⟩
  clear hB hC
  go_enter Try.func25, Try.ntmps25
  go_wp2
  go_loopw [5, 6] (fun u i W => ∃ (k : Nat) (bs : List Int), (k : Int) ≤ N ∧ i = .int .i64 (k : Int) ∧ Hid (BInv w ws W ao len cap u bs) ∧ bs.length ≤ k) (fun _ i _ => N.toNat - (intOf i).toNat)
  case atStart => exact ⟨0, [], by omega, rfl, J0, by simp⟩
  case round =>
    clear J0
    obtain ⟨k, bs, hk, rfl, HJ, hbl⟩ := hrel
    obtain ⟨m, hm⟩ : ∃ m, m = bs.length := ⟨_, rfl⟩
    have HM := hideP hm
    obtain ⟨au, cu, rfl⟩ := ownG_shape HJ.out.own
    rw [← hm] at HJ hbl ⊢
    clear hm
    by_cases hlt : (k : Int) < N
    · go_wp2_with fail
      refine (below_any 16 ao len cap w _ HB.out HJ.out.cur (by omega) (by omega)).mono ?_
      rintro e w2 ⟨x, rfl, x1', x2', cc2, oo2⟩
      have J2 := hideP (HJ.out.draw cc2 oo2)
      clear cc2 oo2 HJ
      by_cases x0 : x = 0
      · subst x0
        go_wp2_with (at_builtin; refine Hid.out ?_)
        refine hideP ?_
        refine wpList_append_own_at _ rfl (.tmp 28) (.tmp 29) 22 rfl ws.heap.size 5 i1 (.int .u8 0) 1 1 Try.underlying22 hi hz0 hz1 hz2 rfl (by decide) (.slice au m cu) m (bs.map (Value.int .u8)) (by rfl) (World.ownsRow.alloc (BInv.own' J2.out HM.out) _) ⟨w2.heap.size, 0, none⟩ 1 1 [.int .u8 92] (by rfl) rfl (newB _ _) (oneB _) (by unfold maxLen; omega) (by omega) (by have := J2.out.fr.1; simp; omega) ?_
        intro v6 w6 ho6 hg6 hn6 hat6
        have J6' := hideP (J2.out.put (by rw [← HM.out]; exact ho6) hg6)
        obtain ⟨a6, c6, rfl⟩ := ownG_shape ho6
        have J6 : Hid (BInv w ws w6 ao len cap (.slice a6 (m + 1) c6) (bs ++ [_])) := J6'
        clear ho6 hg6 hn6 hat6 J6'
        go_wp2
        go_roundw
        case rel => exact ⟨k + 1, _, by omega, by go_num, J6, by simp only [List.length_append, List.length_singleton]; have := HM.out; omega⟩
        case measure => simp [intOf]; omega
      have x0b : (x == 0) = false := by simp [x0]
      have x0d : decide (x = 0) = false := by simp [x0]
      by_cases x1 : x = 1
      · subst x1
        go_wp2_with (at_builtin; refine Hid.out ?_)
        refine hideP ?_
        refine wpList_append_own_at _ rfl (.tmp 35) (.tmp 36) 22 rfl ws.heap.size 5 i1 (.int .u8 0) 1 1 Try.underlying22 hi hz0 hz1 hz2 rfl (by decide) (.slice au m cu) m (bs.map (Value.int .u8)) (by rfl) (World.ownsRow.alloc (BInv.own' J2.out HM.out) _) ⟨w2.heap.size, 0, none⟩ 1 1 [.int .u8 32] (by rfl) rfl (newB _ _) (oneB _) (by unfold maxLen; omega) (by omega) (by have := J2.out.fr.1; simp; omega) ?_
        intro v6 w6 ho6 hg6 hn6 hat6
        have J6' := hideP (J2.out.put (by rw [← HM.out]; exact ho6) hg6)
        obtain ⟨a6, c6, rfl⟩ := ownG_shape ho6
        have J6 : Hid (BInv w ws w6 ao len cap (.slice a6 (m + 1) c6) (bs ++ [_])) := J6'
        clear ho6 hg6 hn6 hat6 J6'
        go_wp2
        go_roundw
        case rel => exact ⟨k + 1, _, by omega, by go_num, J6, by simp only [List.length_append, List.length_singleton]; have := HM.out; omega⟩
        case measure => simp [intOf]; omega
      have x1b : (x == 1) = false := by simp [x1]
      have x1d : decide (x = 1) = false := by simp [x1]
      by_cases x2 : x = 2
      · subst x2
        go_wp2_with (at_builtin; refine Hid.out ?_)
        refine hideP ?_
        refine wpList_append_own_at _ rfl (.tmp 35) (.tmp 36) 22 rfl ws.heap.size 5 i1 (.int .u8 0) 1 1 Try.underlying22 hi hz0 hz1 hz2 rfl (by decide) (.slice au m cu) m (bs.map (Value.int .u8)) (by rfl) (World.ownsRow.alloc (BInv.own' J2.out HM.out) _) ⟨w2.heap.size, 0, none⟩ 1 1 [.int .u8 32] (by rfl) rfl (newB _ _) (oneB _) (by unfold maxLen; omega) (by omega) (by have := J2.out.fr.1; simp; omega) ?_
        intro v6 w6 ho6 hg6 hn6 hat6
        have J6' := hideP (J2.out.put (by rw [← HM.out]; exact ho6) hg6)
        obtain ⟨a6, c6, rfl⟩ := ownG_shape ho6
        have J6 : Hid (BInv w ws w6 ao len cap (.slice a6 (m + 1) c6) (bs ++ [_])) := J6'
        clear ho6 hg6 hn6 hat6 J6'
        go_wp2
        go_roundw
        case rel => exact ⟨k + 1, _, by omega, by go_num, J6, by simp only [List.length_append, List.length_singleton]; have := HM.out; omega⟩
        case measure => simp [intOf]; omega
      have x2b : (x == 2) = false := by simp [x2]
      have x2d : decide (x = 2) = false := by simp [x2]
      by_cases x3 : x = 3
      · subst x3
        go_wp2_with (at_builtin; refine Hid.out ?_)
        refine hideP ?_
        refine wpList_append_own_at _ rfl (.tmp 35) (.tmp 36) 22 rfl ws.heap.size 5 i1 (.int .u8 0) 1 1 Try.underlying22 hi hz0 hz1 hz2 rfl (by decide) (.slice au m cu) m (bs.map (Value.int .u8)) (by rfl) (World.ownsRow.alloc (BInv.own' J2.out HM.out) _) ⟨w2.heap.size, 0, none⟩ 1 1 [.int .u8 32] (by rfl) rfl (newB _ _) (oneB _) (by unfold maxLen; omega) (by omega) (by have := J2.out.fr.1; simp; omega) ?_
        intro v6 w6 ho6 hg6 hn6 hat6
        have J6' := hideP (J2.out.put (by rw [← HM.out]; exact ho6) hg6)
        obtain ⟨a6, c6, rfl⟩ := ownG_shape ho6
        have J6 : Hid (BInv w ws w6 ao len cap (.slice a6 (m + 1) c6) (bs ++ [_])) := J6'
        clear ho6 hg6 hn6 hat6 J6'
        go_wp2
        go_roundw
        case rel => exact ⟨k + 1, _, by omega, by go_num, J6, by simp only [List.length_append, List.length_singleton]; have := HM.out; omega⟩
        case measure => simp [intOf]; omega
      have x3b : (x == 3) = false := by simp [x3]
      have x3d : decide (x = 3) = false := by simp [x3]
      by_cases x4 : x = 4
      · subst x4
        go_wp2_with (at_builtin; refine Hid.out ?_)
        refine hideP ?_
        refine wpList_append_own_at _ rfl (.tmp 41) (.tmp 42) 22 rfl ws.heap.size 5 i1 (.int .u8 0) 1 1 Try.underlying22 hi hz0 hz1 hz2 rfl (by decide) (.slice au m cu) m (bs.map (Value.int .u8)) (by rfl) (World.ownsRow.alloc (BInv.own' J2.out HM.out) _) ⟨w2.heap.size, 0, none⟩ 1 1 [.int .u8 10] (by rfl) rfl (newB _ _) (oneB _) (by unfold maxLen; omega) (by omega) (by have := J2.out.fr.1; simp; omega) ?_
        intro v6 w6 ho6 hg6 hn6 hat6
        have J6' := hideP (J2.out.put (by rw [← HM.out]; exact ho6) hg6)
        obtain ⟨a6, c6, rfl⟩ := ownG_shape ho6
        have J6 : Hid (BInv w ws w6 ao len cap (.slice a6 (m + 1) c6) (bs ++ [_])) := J6'
        clear ho6 hg6 hn6 hat6 J6'
        go_wp2
        go_roundw
        case rel => exact ⟨k + 1, _, by omega, by go_num, J6, by simp only [List.length_append, List.length_singleton]; have := HM.out; omega⟩
        case measure => simp [intOf]; omega
      have x4b : (x == 4) = false := by simp [x4]
      have x4d : decide (x = 4) = false := by simp [x4]
      by_cases x5 : x = 5
      · subst x5
        go_wp2_with (at_builtin; refine Hid.out ?_)
        refine hideP ?_
        refine wpList_append_own_at _ rfl (.tmp 41) (.tmp 42) 22 rfl ws.heap.size 5 i1 (.int .u8 0) 1 1 Try.underlying22 hi hz0 hz1 hz2 rfl (by decide) (.slice au m cu) m (bs.map (Value.int .u8)) (by rfl) (World.ownsRow.alloc (BInv.own' J2.out HM.out) _) ⟨w2.heap.size, 0, none⟩ 1 1 [.int .u8 10] (by rfl) rfl (newB _ _) (oneB _) (by unfold maxLen; omega) (by omega) (by have := J2.out.fr.1; simp; omega) ?_
        intro v6 w6 ho6 hg6 hn6 hat6
        have J6' := hideP (J2.out.put (by rw [← HM.out]; exact ho6) hg6)
        obtain ⟨a6, c6, rfl⟩ := ownG_shape ho6
        have J6 : Hid (BInv w ws w6 ao len cap (.slice a6 (m + 1) c6) (bs ++ [_])) := J6'
        clear ho6 hg6 hn6 hat6 J6'
        go_wp2
        go_roundw
        case rel => exact ⟨k + 1, _, by omega, by go_num, J6, by simp only [List.length_append, List.length_singleton]; have := HM.out; omega⟩
        case measure => simp [intOf]; omega
      have x5b : (x == 5) = false := by simp [x5]
      have x5d : decide (x = 5) = false := by simp [x5]
      by_cases x6 : x = 6
      · subst x6
        go_wp2_with fail
        refine (below_any 8 ao len cap w _ HB.out J2.out.cur (by omega) (by omega)).mono ?_
        rintro e w3 ⟨y, rfl, y1, y2, cc3, oo3⟩
        have J3 := hideP (J2.out.draw cc3 oo3)
        clear cc3 oo3
        obtain ⟨yn, rfl⟩ : ∃ yn : Nat, y = (yn : Int) := ⟨y.toNat, by omega⟩
        have hyn : yn < 8 := by omega
        have ht8 : (ByteArray.mk #[123, 125, 36, 94, 95, 38, 35, 126]).size = 8 := rfl
        go_wp2_with (at_builtin; refine Hid.out ?_)
        refine hideP ?_
        refine wpList_append_own_at _ rfl (.tmp 46) (.tmp 50) 22 rfl ws.heap.size 5 i1 (.int .u8 0) 1 1 Try.underlying22 hi hz0 hz1 hz2 rfl (by decide) (.slice au m cu) m (bs.map (Value.int .u8)) (by rfl) (World.ownsRow.alloc (BInv.own' J3.out HM.out) _) ⟨w3.heap.size, 0, none⟩ 1 1 [.int .u8 (((ByteArray.mk #[123, 125, 36, 94, 95, 38, 35, 126])[yn]'(by rw [ht8]; exact hyn)).toNat : Int)] (by rfl) rfl (newB _ _) (oneB _) (by unfold maxLen; omega) (by omega) (by have := J3.out.fr.1; simp; omega) ?_
        intro v6 w6 ho6 hg6 hn6 hat6
        have J6' := hideP (J3.out.put (by rw [← HM.out]; exact ho6) hg6)
        obtain ⟨a6, c6, rfl⟩ := ownG_shape ho6
        have J6 : Hid (BInv w ws w6 ao len cap (.slice a6 (m + 1) c6) (bs ++ [_])) := J6'
        clear ho6 hg6 hn6 hat6 J6'
        go_wp2
        go_roundw
        case rel => exact ⟨k + 1, _, by omega, by go_num, J6, by simp only [List.length_append, List.length_singleton]; have := HM.out; omega⟩
        case measure => simp [intOf]; omega
      have x6b : (x == 6) = false := by simp [x6]
      have x6d : decide (x = 6) = false := by simp [x6]
      by_cases x7 : x = 7
      · subst x7
        go_wp2_with (at_builtin; refine Hid.out ?_)
        refine hideP ?_
        refine wpList_append_own_at _ rfl (.tmp 54) (.tmp 55) 22 rfl ws.heap.size 5 i1 (.int .u8 0) 1 1 Try.underlying22 hi hz0 hz1 hz2 rfl (by decide) (.slice au m cu) m (bs.map (Value.int .u8)) (by rfl) (World.ownsRow.alloc (BInv.own' J2.out HM.out) _) ⟨w2.heap.size, 0, none⟩ 1 1 [.int .u8 37] (by rfl) rfl (newB _ _) (oneB _) (by unfold maxLen; omega) (by omega) (by have := J2.out.fr.1; simp; omega) ?_
        intro v6 w6 ho6 hg6 hn6 hat6
        have J6' := hideP (J2.out.put (by rw [← HM.out]; exact ho6) hg6)
        obtain ⟨a6, c6, rfl⟩ := ownG_shape ho6
        have J6 : Hid (BInv w ws w6 ao len cap (.slice a6 (m + 1) c6) (bs ++ [_])) := J6'
        clear ho6 hg6 hn6 hat6 J6'
        go_wp2
        go_roundw
        case rel => exact ⟨k + 1, _, by omega, by go_num, J6, by simp only [List.length_append, List.length_singleton]; have := HM.out; omega⟩
        case measure => simp [intOf]; omega
      have x7b : (x == 7) = false := by simp [x7]
      have x7d : decide (x = 7) = false := by simp [x7]
      by_cases x8 : x = 8
      · subst x8
        go_wp2_with fail
        refine (below_any 256 ao len cap w _ HB.out J2.out.cur (by omega) (by omega)).mono ?_
        rintro e w3 ⟨y, rfl, y1, y2, cc3, oo3⟩
        have J3 := hideP (J2.out.draw cc3 oo3)
        clear cc3 oo3
        have hyw : IntKind.u8.wrap y = y := by rw [IntKind.wrap_u8]; omega
        go_wp2_with (at_builtin; refine Hid.out ?_)
        refine hideP ?_
        refine wpList_append_own_at _ rfl (.tmp 61) (.tmp 64) 22 rfl ws.heap.size 5 i1 (.int .u8 0) 1 1 Try.underlying22 hi hz0 hz1 hz2 rfl (by decide) (.slice au m cu) m (bs.map (Value.int .u8)) (by rfl) (World.ownsRow.alloc (BInv.own' J3.out HM.out) _) ⟨w3.heap.size, 0, none⟩ 1 1 [.int .u8 y] (by rfl) rfl (newB _ _) (oneB _) (by unfold maxLen; omega) (by omega) (by have := J3.out.fr.1; simp; omega) ?_
        intro v6 w6 ho6 hg6 hn6 hat6
        have J6' := hideP (J3.out.put (by rw [← HM.out]; exact ho6) hg6)
        obtain ⟨a6, c6, rfl⟩ := ownG_shape ho6
        have J6 : Hid (BInv w ws w6 ao len cap (.slice a6 (m + 1) c6) (bs ++ [_])) := J6'
        clear ho6 hg6 hn6 hat6 J6'
        go_wp2
        go_roundw
        case rel => exact ⟨k + 1, _, by omega, by go_num, J6, by simp only [List.length_append, List.length_singleton]; have := HM.out; omega⟩
        case measure => simp [intOf]; omega
      have x8b : (x == 8) = false := by simp [x8]
      have x8d : decide (x = 8) = false := by simp [x8]
      go_wp2_with fail
      refine (below_any 26 ao len cap w _ HB.out J2.out.cur (by omega) (by omega)).mono ?_
      rintro e w3 ⟨y, rfl, y1, y2, cc3, oo3⟩
      have J3 := hideP (J2.out.draw cc3 oo3)
      clear cc3 oo3
      have hyw : IntKind.u8.wrap (97 + y) = 97 + y := by rw [IntKind.wrap_u8]; omega
      go_wp2_with (at_builtin; refine Hid.out ?_)
      refine hideP ?_
      refine wpList_append_own_at _ rfl (.tmp 20) (.tmp 24) 22 rfl ws.heap.size 5 i1 (.int .u8 0) 1 1 Try.underlying22 hi hz0 hz1 hz2 rfl (by decide) (.slice au m cu) m (bs.map (Value.int .u8)) (by rfl) (World.ownsRow.alloc (BInv.own' J3.out HM.out) _) ⟨w3.heap.size, 0, none⟩ 1 1 [.int .u8 (97 + y)] (by rfl) rfl (newB _ _) (oneB _) (by unfold maxLen; omega) (by omega) (by have := J3.out.fr.1; simp; omega) ?_
      intro v6 w6 ho6 hg6 hn6 hat6
      have J6' := hideP (J3.out.put (by rw [← HM.out]; exact ho6) hg6)
      obtain ⟨a6, c6, rfl⟩ := ownG_shape ho6
      have J6 : Hid (BInv w ws w6 ao len cap (.slice a6 (m + 1) c6) (bs ++ [_])) := J6'
      clear ho6 hg6 hn6 hat6 J6'
      go_wp2
      go_roundw
      case rel => exact ⟨k + 1, _, by omega, by go_num, J6, by simp only [List.length_append, List.length_singleton]; have := HM.out; omega⟩
      case measure => simp [intOf]; omega
    · have hkf : decide ((k : Int) < N) = false := by simp; omega
      go_wp2_with fail
      refine (once_any 40 ao len cap w _ HB.out HJ.out.cur (by omega) (by omega)).mono ?_
      rintro e w2 ⟨b1, rfl, cc2, oo2⟩
      have J2 := hideP (HJ.out.draw cc2 oo2)
      clear cc2 oo2 HJ
      cases b1 with
      | false =>
        have JF := J2
        have HMF := HM
        obtain ⟨T, hT, hcv⟩ := conv_own (BInv.own' JF.out HMF.out)
        go_wp2
        go_ret
        exact ⟨T, rfl, by omega, JF.out.cur, JF.out.fr⟩
      | true =>
        go_wp2_with (at_builtin; refine Hid.out ?_)
        refine hideP ?_
        refine wpList_append_own_at _ rfl (.tmp 68) (.tmp 69) 22 rfl ws.heap.size 5 i1 (.int .u8 0) 1 1 Try.underlying22 hi hz0 hz1 hz2 rfl (by decide) (.slice au m cu) m (bs.map (Value.int .u8)) (by rfl) (World.ownsRow.alloc (BInv.own' J2.out HM.out) _) ⟨w2.heap.size, 0, none⟩ 1 1 [.int .u8 92] (by rfl) rfl (newB _ _) (oneB _) (by unfold maxLen; omega) (by omega) (by have := J2.out.fr.1; simp; omega) ?_
        intro v6 w6 ho6 hg6 hn6 hat6
        have J6' := hideP (J2.out.put (by rw [← HM.out]; exact ho6) hg6)
        obtain ⟨a6, c6, rfl⟩ := ownG_shape ho6
        have J6 : Hid (BInv w ws w6 ao len cap (.slice a6 (m + 1) c6) (bs ++ [_])) := J6'
        clear ho6 hg6 hn6 hat6 J6'
        go_wp2_with fail
        refine (below_any 5 ao len cap w _ HB.out J6.out.cur (by omega) (by omega)).mono ?_
        rintro e w7 ⟨y, rfl, y1, y2, cc7, oo7⟩
        have J7 := hideP (J6.out.draw cc7 oo7)
        have HM7 : Hid (m + 1 = (bs ++ [92]).length) := hideP (by simp; exact HM.out)
        clear cc7 oo7 J6 J2
        go_wp2
        go_loopw [5, 9] (fun u i W => ∃ (q : Nat) (cs : List Int), q ≤ 42 ∧ i = .int .i64 (q : Int) ∧ Hid (BInv w ws W ao len cap u cs) ∧ cs.length + q ≤ 110) (fun _ i _ => (intOf i).toNat)
        case atStart => exact ⟨(y + 38).toNat, _, by omega, congrArg _ (by omega), J7, by have := HM7.out; omega⟩
        case round =>
          clear J7 HM7 HM
          obtain ⟨q, cs, hq, rfl, HJ, hcl⟩ := hrel
          obtain ⟨m', hm⟩ : ∃ m', m' = cs.length := ⟨_, rfl⟩
          have HM := hideP hm
          obtain ⟨au', cu', rfl⟩ := ownG_shape HJ.out.own
          rw [← hm] at HJ hcl ⊢
          clear hm
          by_cases hq0 : 0 < q
          · have hqi : (0 : Int) < (q : Int) := by omega
            have hqd : decide ((0 : Int) < (q : Int)) = true := by simp; omega
            go_wp2_with (at_builtin; refine Hid.out ?_)
            refine hideP ?_
            refine wpList_append_own_at _ rfl (.tmp 78) (.tmp 79) 22 rfl ws.heap.size 5 i1 (.int .u8 0) 1 1 Try.underlying22 hi hz0 hz1 hz2 rfl (by decide) (.slice au' m' cu') m' (cs.map (Value.int .u8)) (by rfl) (World.ownsRow.alloc (BInv.own' HJ.out HM.out) _) ⟨wr.heap.size, 0, none⟩ 1 1 [.int .u8 113] (by rfl) rfl (newB _ _) (oneB _) (by unfold maxLen; omega) (by omega) (by have := HJ.out.fr.1; simp; omega) ?_
            intro v6 w6 ho6 hg6 hn6 hat6
            have J6' := hideP (HJ.out.put (by rw [← HM.out]; exact ho6) hg6)
            obtain ⟨a6, c6, rfl⟩ := ownG_shape ho6
            have J6 : Hid (BInv w ws w6 ao len cap (.slice a6 (m' + 1) c6) (cs ++ [_])) := J6'
            clear ho6 hg6 hn6 hat6 J6'
            go_wp2
            go_roundw
            case rel => exact ⟨q - 1, _, by omega, congrArg _ (by omega), J6, by simp only [List.length_append, List.length_singleton]; have := HM.out; omega⟩
            case measure => simp [intOf]; omega
          · have hqi : ¬ (0 : Int) < (q : Int) := by omega
            have hqd : decide ((0 : Int) < (q : Int)) = false := by simp; omega
            have JF := HJ
            have HMF := HM
            obtain ⟨T, hT, hcv⟩ := conv_own (BInv.own' JF.out HMF.out)
            go_wp2
            go_ret
            exact ⟨T, rfl, by omega, JF.out.cur, JF.out.fr⟩
end Go.Proofs.Ytkiiiahljlkjnaa
