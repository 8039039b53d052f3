/-
  The walks of impl.shareOut and impl.Share.
-/
import Derived.Test.YtpfbhkhifggoaaaOutD
namespace Go.Proofs.Ytpfbhkhifggoaaa
open Go.RowKit
set_option linter.unusedVariables false
set_option linter.unusedSimpArgs false

set_option maxRecDepth 20000 in
set_option maxHeartbeats 1000000 in
theorem shareOut_any {v : Value} {gs : List Gl} {w : World} (width target q : Int) (h : GRow w v gs) (hok : glsOk gs = true) (hw1 : -1073741823 ≤ width) (hw2 : width ≤ 1073741823) (ht1 : -1073741823 ≤ target) (ht2 : target ≤ 1073741823) (hq : q = target - width - siz gs) :
    Calls Try.prog 28 #[v, .int .i64 width, .int .i64 target] w fun e w' => ∃ O : Nat, e = .returned (.tuple #[.slice (some ⟨O, 0, none⟩) gs.length gs.length, (shareS gs q).v]) ∧
      w'.ownsRow w.heap.size 2 1 (.slice (some ⟨O, 0, none⟩) gs.length gs.length) gs.length ((shareL gs q).map (Value.int .i64)) ∧ Below w.heap.size w w' := by
  have HG : Hid (GRow w v gs) := h
  have HOK : Hid (glsOk gs = true) := hok
  obtain ⟨ao, n, cap, rfl, hl, hr⟩ := h
  have heach := glsOk_each hok
  have hn2 : n ≤ 10000 := by have := heach.1; omega
  have HE : Hid (∀ k, k < gs.length → (gs.getD k Gl.none).ok = true) := heach.2
  have HBS : Hid (∀ k, k ≤ gs.length → -(1073741823 * (k : Int)) ≤ siz (gs.take k) ∧ siz (gs.take k) ≤ 1073741823 * (k : Int)) := siz_bound gs (fun k hk => (ok_bounds (HE k hk)).1)
  have HR : Hid (0 < n → ∃ b off, ao = some ⟨b, off, none⟩ ∧ b < w.heap.size ∧ ∀ i, i < n → w.cell? ⟨b, off + i * 5, none⟩ = some (.int .i64 (gs.getD i Gl.none).s) ∧ w.cell? ⟨b, off + i * 5 + 1, none⟩ = some (.int .i64 (gs.getD i Gl.none).p) ∧ w.cell? ⟨b, off + i * 5 + 2, none⟩ = some (.int .i64 (gs.getD i Gl.none).po) ∧ w.cell? ⟨b, off + i * 5 + 3, none⟩ = some (.int .i64 (gs.getD i Gl.none).m) ∧ w.cell? ⟨b, off + i * 5 + 4, none⟩ = some (.int .i64 (gs.getD i Gl.none).mo)) := hr
  have HL : Hid (gs.length = n) := hl
  have HQ : Hid (q = target - width - siz gs) := hq
  clear hr hl hok heach hq
  obtain ⟨i0, hi, hz0, hz1, hz2⟩ := info_parts Try.info2
  have HI : Hid (i0.bytes = 8) := hz2
  clear hz2
  have hbox : (w.alloc (.cells #[.int .i64 0, .int .i64 0, .int .i64 0, .int .i64 0, .int .i64 0, .int .i64 0] 29)).heap[w.heap.size]? = some (setO 0 0 0 0 0 0) := heap_alloc_new w _
  have HX0 : Hid ((w.alloc (.cells #[.int .i64 0, .int .i64 0, .int .i64 0, .int .i64 0, .int .i64 0, .int .i64 0] 29)).heap[w.heap.size]? = some (setO 0 0 0 0 0 0)) := hbox
  clear hbox
  go_enter Try.func28, Try.ntmps28
  go_wp2_with (first
    | (refine wpList_make_full _ rfl _ _ 27 rfl w.heap.size 2 i0 (.int .i64 0) 1 Try.underlying27 hi hz0 hz1 _ _ _ _ n rfl rfl rfl rfl (by rw [show i0.bytes = 8 from HI]; omega) (by unfold maxLen; omega) (by simp) ?_; intro w1 hown hgrow))
  have hO : (w.alloc (.cells #[.int .i64 0, .int .i64 0, .int .i64 0, .int .i64 0, .int .i64 0, .int .i64 0] 29)).heap.size = w.heap.size + 1 := by simp
  have H0 : Hid (w1.heap[w.heap.size]? = some (setO 0 0 0 0 0 0) ∧ w1.ownsRow w.heap.size 2 1 (.slice (some ⟨w.heap.size + 1, 0, none⟩) n n) n (([] ++ List.replicate (n - 0) (0 : Int)).map (Value.int .i64)) ∧ Below w.heap.size w w1) := by
    refine ⟨(hgrow.block _ (by simp) (by simp)).trans HX0, ?_, Below.grown ((Below.refl _ _).alloc (Nat.le_refl _) _) hgrow (by simp) (by simp)⟩
    rw [List.nil_append, Nat.sub_zero, ← made_ints, ← hO]
    exact hown
  clear hown hgrow hO
  obtain ⟨L, hLL⟩ : ∃ L, L = w.heap.size + 1 := ⟨_, rfl⟩
  obtain ⟨R, hRR⟩ : ∃ R, R = w.heap.size := ⟨_, rfl⟩
  have hLB : w.heap.size ≤ L := by omega
  have hRB : w.heap.size ≤ R := by omega
  have hRL : R ≠ L := by omega
  rw [← hLL]
  have H1 : Hid (w1.heap[R]? = some (setO 0 0 0 0 0 0) ∧ w1.ownsRow w.heap.size 2 1 (.slice (some ⟨L, 0, none⟩) n n) n (([] ++ List.replicate (n - 0) (0 : Int)).map (Value.int .i64)) ∧ Below w.heap.size w w1) := by rw [hLL, hRR]; exact H0
  rw [← hRR]
  clear H0 hLL hRR HX0
  have hwa : IntKind.i64.wrap (target - width) = target - width := by rw [IntKind.wrap_i64]; omega
  have HS0 : Hid (target - width = target - width - siz (gs.take 0)) := by
    have h0 : siz (gs.take 0) = 0 := rfl
    show target - width = target - width - siz (gs.take 0)
    rw [h0]
    omega
  go_wp2
  go_loopw [9, 20] (fun s9 s20 wr => ∃ k : Nat, k ≤ n ∧ s20 = .int .i64 k ∧ s9 = .int .i64 (target - width - siz (gs.take k)) ∧
      wr.heap[R]? = some (setO 0 0 0 0 0 0) ∧ wr.ownsRow w.heap.size 2 1 (.slice (some ⟨L, 0, none⟩) n n) n ((sizes (gs.take k) ++ List.replicate (n - k) (0 : Int)).map (Value.int .i64)) ∧ Below w.heap.size w wr) (fun _ s _ => n - (intOf s).toNat)
  case atStart => exact ⟨0, by omega, rfl, congrArg (Value.int .i64) HS0, H1.1, H1.2.1, H1.2.2⟩
  case round =>
    obtain ⟨k, hk, rfl, rfl, hbx, hown, hbel⟩ := hrel
    have hlen : gs.length = n := HL
    by_cases hkn : k < n
    · have hki : (k : Int) < (n : Int) := by omega
      obtain ⟨b, off, rfl, hb, hc⟩ := HR (by omega)
      obtain ⟨t, ht⟩ : ∃ t, t = gs.getD k Gl.none := ⟨_, rfl⟩
      obtain ⟨hc0, hc1, hc2, hc3, hc4⟩ := hc k hkn
      rw [← ht] at hc0 hc1 hc2 hc3 hc4
      have hob := (ok_bounds (HE k (by omega))).1
      rw [← ht] at hob
      have hsb := HBS k (by omega)
      have HEQ : Hid (siz (gs.take (k + 1)) = siz (gs.take k) + t.s ∧ sizes (gs.take (k + 1)) = sizes (gs.take k) ++ [t.s]) := ⟨by rw [take_snoc (by omega), siz_snoc, ← ht], by rw [sizes_snoc (by omega), ← ht]⟩
      have HSL : (sizes (gs.take k)).length = k := by simp [sizes]; omega
      obtain ⟨z, hz⟩ : ∃ z, z = siz (gs.take k) := ⟨_, rfl⟩
      rw [← hz] at hsb ⊢
      have HZ : Hid (z = siz (gs.take k)) := hz
      obtain ⟨ps, hps⟩ : ∃ ps, ps = sizes (gs.take k) := ⟨_, rfl⟩
      rw [← hps] at hown HSL
      have HPS : Hid (ps = sizes (gs.take k) ∧ ps.length = k) := ⟨hps, HSL⟩
      have g0 := (hbel.cell (p := ⟨b, off + k * 5, none⟩) hb).trans hc0
      have g1 := (hbel.cell (p := ⟨b, off + k * 5 + 1, none⟩) hb).trans hc1
      have g2 := (hbel.cell (p := ⟨b, off + k * 5 + 2, none⟩) hb).trans hc2
      have g3 := (hbel.cell (p := ⟨b, off + k * 5 + 3, none⟩) hb).trans hc3
      have g4 := (hbel.cell (p := ⟨b, off + k * 5 + 4, none⟩) hb).trans hc4
      have hLl : L < wr.heap.size := ownsRow_block hown
      have hfz : wr.frozen? ⟨L, k, none⟩ = false := World.ownsRow.frozenAt hown k
      obtain ⟨zz, hzz⟩ : ∃ zz, wr.cell? ⟨L, k, none⟩ = some zz := by
        rw [World.ownsRow.cellAt hown k (by omega)]
        exact ⟨_, List.getElem?_eq_getElem (by simp [HSL]; omega)⟩
      have hwb : IntKind.i64.wrap (target - width - z - t.s) = target - width - z - t.s := by rw [IntKind.wrap_i64]; omega
      have HF : Hid (((wr.setCell ⟨L, k, none⟩ (.int .i64 t.s)).alloc (.cells #[.int .i64 t.s, .int .i64 t.p, .int .i64 t.po, .int .i64 t.m, .int .i64 t.mo] 33)).heap[R]? = some (setO 0 0 0 0 0 0) ∧ ((wr.setCell ⟨L, k, none⟩ (.int .i64 t.s)).alloc (.cells #[.int .i64 t.s, .int .i64 t.p, .int .i64 t.po, .int .i64 t.m, .int .i64 t.mo] 33)).ownsRow w.heap.size 2 1 (.slice (some ⟨L, 0, none⟩) n n) n (((ps ++ [t.s]) ++ List.replicate (n - (k + 1)) (0 : Int)).map (Value.int .i64)) ∧ Below w.heap.size w ((wr.setCell ⟨L, k, none⟩ (.int .i64 t.s)).alloc (.cells #[.int .i64 t.s, .int .i64 t.p, .int .i64 t.po, .int .i64 t.m, .int .i64 t.mo] 33))) := by
        have hR' : (wr.setCell ⟨L, k, none⟩ (.int .i64 t.s)).heap[R]? = some (setO 0 0 0 0 0 0) := (Below.heap_setCell _ _ _ _ hRL).trans hbx
        refine ⟨(Below.heap_alloc _ _ _ (Array.getElem?_eq_some_iff.1 hR').1).trans hR', ?_, Below.alloc (hbel.setCell (p := ⟨L, k, none⟩) hLB _) (by have := hbel.size; simpa [World.setCell] using this) _⟩
        rw [← rep_set HSL hkn, List.map_set]
        exact World.ownsRow.alloc (World.ownsRow.stored hown k _).1 _
      clear hc hc0 hc1 hc2 hc3 hc4 ht hbx hown hbel hz hps HSL
      go_wp2
      go_roundw
      case rel =>
        refine ⟨k + 1, by omega, by go_num, ?_, HF.1, ?_, HF.2.2⟩
        · rw [HEQ.1, ← show z = siz (gs.take k) from HZ]
          exact congrArg (Value.int .i64) (by omega)
        · rw [HEQ.2, ← HPS.1]
          exact HF.2.1
      case measure => simp [intOf]; omega
    · have hki : ¬ (k : Int) < (n : Int) := by omega
      obtain rfl : k = n := by omega
      have et : gs.take k = gs := by rw [← hlen, List.take_length]
      have hsb := HBS k (by omega)
      rw [et] at hown hsb ⊢
      rw [Nat.sub_self, List.replicate_zero, List.append_nil] at hown
      rw [← show q = target - width - siz gs from HQ]
      have hqb : -4611686018427387904 ≤ q ∧ q ≤ 4611686018427387904 := by rw [show q = target - width - siz gs from HQ]; omega
      obtain ⟨hqb1, hqb2⟩ := hqb
      have HX : Hid (wr.heap[R]? = some (setO 0 0 0 0 0 0) ∧ wr.ownsRow w.heap.size 2 1 (.slice (some ⟨L, 0, none⟩) k k) k ((sizes gs).map (Value.int .i64)) ∧ Below w.heap.size w wr) := ⟨hbx, hown, hbel⟩
      clear hown hbel hbx et hsb
      by_cases hq1 : 0 < q
      · have FIN : Hid (shareS gs q = upS gs q ∧ shareL gs q = upL gs q) := ⟨by unfold shareS; rw [if_pos hq1], by unfold shareL; rw [if_pos hq1]⟩
        go_wp2_with fail
        have hc := stretch_any q (GRow.below HG HX.2.2) HOK hq1 (by omega) (by rw [hlen]; exact HX.2.1)
        rw [hlen] at hc
        refine hc.mono ?_
        clear hc
        rintro e w6 ⟨rfl, hL6, hF6⟩
        obtain ⟨⟨x0, x1, x2, x3, x4, x5⟩, hs⟩ : ∃ s, s = upS gs q := ⟨_, rfl⟩
        rw [← hs]
        have R6 : w6.heap[R]? = some (setO 0 0 0 0 0 0) := (hF6.2.2.2.2 R (Array.getElem?_eq_some_iff.1 HX.1).1 hRL).trans HX.1
        obtain ⟨r0, r1, r2, r3, r4, r5⟩ := set_cells R6
        have fR : ∀ j, w6.frozen? ⟨R, j, none⟩ = false := fun j => frozen_of_row w6 R j _ _ R6
        have HF : Hid ((six w6 R x0 x1 x2 x3 x4 x5).heap[R]? = some (setO x0 x1 x2 x3 x4 x5) ∧ (six w6 R x0 x1 x2 x3 x4 x5).ownsRow w.heap.size 2 1 (.slice (some ⟨L, 0, none⟩) k k) k ((upL gs q).map (Value.int .i64)) ∧ Below w.heap.size w (six w6 R x0 x1 x2 x3 x4 x5) ∧ ⟨x0, x1, x2, x3, x4, x5⟩ = upS gs q) :=
          ⟨six_heap R6 _ _ _ _ _ _, owns_heap hL6 (six_same (Ne.symm hRL) _ _ _ _ _ _), (six_fr ((Fr.below (Fr.refl L w) HX.2.2).trans hF6) hRB _ _ _ _ _ _).toBelow hLB (Nat.le_refl _), hs⟩
        clear R6 hL6 hF6 hs HX
        simp only
        go_wp2
        refine bodyPost_ret (v := .tuple #[.slice (some ⟨L, 0, none⟩) k k, setV x0 x1 x2 x3 x4 x5]) (results_tmp_cell rfl _ _ R _ _ rfl rfl (loadSet HF.1)) rfl ⟨L, ?_, ?_, HF.2.2.1⟩
        · rw [hlen, show shareS gs q = _ from FIN.1, ← HF.2.2.2]
        · rw [hlen, show shareL gs q = _ from FIN.2]
          exact HF.2.1
      · by_cases hq2 : q < 0
        · have FIN : Hid (shareS gs q = downS gs (-q) ∧ shareL gs q = downL gs (-q)) := ⟨by unfold shareS; rw [if_neg hq1, if_pos hq2], by unfold shareL; rw [if_neg hq1, if_pos hq2]⟩
          have hwn : IntKind.i64.wrap (-q) = -q := by rw [IntKind.wrap_i64]; omega
          go_wp2_with fail
          have hc := shrink_any (-q) (GRow.below HG HX.2.2) HOK (by omega) (by omega) (by rw [hlen]; exact HX.2.1)
          rw [hlen] at hc
          refine hc.mono ?_
          clear hc
          rintro e w6 ⟨rfl, hL6, hF6⟩
          obtain ⟨⟨x0, x1, x2, x3, x4, x5⟩, hs⟩ : ∃ s, s = downS gs (-q) := ⟨_, rfl⟩
          rw [← hs]
          have R6 : w6.heap[R]? = some (setO 0 0 0 0 0 0) := (hF6.2.2.2.2 R (Array.getElem?_eq_some_iff.1 HX.1).1 hRL).trans HX.1
          obtain ⟨r0, r1, r2, r3, r4, r5⟩ := set_cells R6
          have fR : ∀ j, w6.frozen? ⟨R, j, none⟩ = false := fun j => frozen_of_row w6 R j _ _ R6
          have HF : Hid ((six w6 R x0 x1 x2 x3 x4 x5).heap[R]? = some (setO x0 x1 x2 x3 x4 x5) ∧ (six w6 R x0 x1 x2 x3 x4 x5).ownsRow w.heap.size 2 1 (.slice (some ⟨L, 0, none⟩) k k) k ((downL gs (-q)).map (Value.int .i64)) ∧ Below w.heap.size w (six w6 R x0 x1 x2 x3 x4 x5) ∧ ⟨x0, x1, x2, x3, x4, x5⟩ = downS gs (-q)) :=
            ⟨six_heap R6 _ _ _ _ _ _, owns_heap hL6 (six_same (Ne.symm hRL) _ _ _ _ _ _), (six_fr ((Fr.below (Fr.refl L w) HX.2.2).trans hF6) hRB _ _ _ _ _ _).toBelow hLB (Nat.le_refl _), hs⟩
          clear R6 hL6 hF6 hs HX
          simp only
          go_wp2
          refine bodyPost_ret (v := .tuple #[.slice (some ⟨L, 0, none⟩) k k, setV x0 x1 x2 x3 x4 x5]) (results_tmp_cell rfl _ _ R _ _ rfl rfl (loadSet HF.1)) rfl ⟨L, ?_, ?_, HF.2.2.1⟩
          · rw [hlen, show shareS gs q = _ from FIN.1, ← HF.2.2.2]
          · rw [hlen, show shareL gs q = _ from FIN.2]
            exact HF.2.1
        · obtain rfl : q = 0 := by omega
          have FIN : Hid (shareS gs 0 = ⟨0, 0, 0, 0, 0, 0⟩ ∧ shareL gs 0 = sizes gs) := ⟨rfl, rfl⟩
          obtain ⟨r0, r1, r2, r3, r4, r5⟩ := set_cells HX.1
          have fR : ∀ j, wr.frozen? ⟨R, j, none⟩ = false := fun j => frozen_of_row wr R j _ _ HX.1
          have HF : Hid ((six wr R 0 0 0 0 0 0).heap[R]? = some (setO 0 0 0 0 0 0) ∧ (six wr R 0 0 0 0 0 0).ownsRow w.heap.size 2 1 (.slice (some ⟨L, 0, none⟩) k k) k ((sizes gs).map (Value.int .i64)) ∧ Below w.heap.size w (six wr R 0 0 0 0 0 0)) :=
            ⟨six_heap HX.1 _ _ _ _ _ _, owns_heap HX.2.1 (six_same (Ne.symm hRL) _ _ _ _ _ _), (six_fr (Fr.below (Fr.refl L w) HX.2.2) hRB _ _ _ _ _ _).toBelow hLB (Nat.le_refl _)⟩
          clear HX
          go_wp2
          refine bodyPost_ret (v := .tuple #[.slice (some ⟨L, 0, none⟩) k k, setV 0 0 0 0 0 0]) (results_tmp_cell rfl _ _ R _ _ rfl rfl (loadSet HF.1)) rfl ⟨L, ?_, ?_, HF.2.2⟩
          · rw [show shareS gs 0 = _ from FIN.1]
          · rw [show shareL gs 0 = _ from FIN.2]
            exact HF.2.1

set_option maxRecDepth 20000 in
set_option maxHeartbeats 1000000 in
theorem implShare_ok {v : Value} {gs : List Gl} {w : World} (width target q : Int) (h : GRow w v gs) (hok : glsOk gs = true) (hfw : fitsB width = true) (hft : fitsB target = true) (hq : q = target - width - siz gs) :
    Calls Try.prog 8 #[v, .int .i64 width, .int .i64 target] w fun e w' => ∃ O : Nat, e = .returned (.tuple #[.slice (some ⟨O, 0, none⟩) gs.length gs.length, (shareS gs q).v]) ∧
      w'.ownsRow w.heap.size 2 1 (.slice (some ⟨O, 0, none⟩) gs.length gs.length) gs.length ((shareL gs q).map (Value.int .i64)) ∧ Below w.heap.size w w' := by
  have HG : Hid (GRow w v gs) := h
  have HOK : Hid (glsOk gs = true) := hok
  have HN : Hid (gs.length ≤ 10000) := (glsOk_each hok).1
  have HFB : Hid ((-1073741823 ≤ width ∧ width ≤ 1073741823) ∧ (-1073741823 ≤ target ∧ target ≤ 1073741823)) := ⟨of_decide_eq_true hfw, of_decide_eq_true hft⟩
  have HFF : Hid (fitsB width = true ∧ fitsB target = true) := ⟨hfw, hft⟩
  have HQ : Hid (q = target - width - siz gs) := hq
  clear h hok hfw hft hq
  go_enter Try.func8, Try.ntmps8
  go_wp2_with fail
  refine (implGlues_any (GRow.below HG ((Below.refl _ _).alloc (Nat.le_refl _) _)) (Nat.le_trans HN (by omega))).mono ?_
  rintro e w1 ⟨rfl, hb1⟩
  rw [show glsOk gs = true from HOK]
  have H1 : Hid (w1.heap[w.heap.size]? = some (setO 0 0 0 0 0 0) ∧ Below w.heap.size w w1) := ⟨block_keep (heap_alloc_new w _) hb1, ((Below.refl _ _).alloc (Nat.le_refl _) _).trans (hb1.mono (by simp))⟩
  clear hb1
  go_wp2_with fail
  refine (implFits_any width _).mono ?_
  rintro e w2 ⟨rfl, hw2⟩
  have hw2' := hw2.symm
  clear hw2
  subst hw2'
  rw [HFF.1]
  go_wp2_with fail
  refine (implFits_any target _).mono ?_
  rintro e w2 ⟨rfl, hw2⟩
  have hw2' := hw2.symm
  clear hw2
  subst hw2'
  rw [HFF.2]
  go_wp2_with fail
  refine (shareOut_any width target q (GRow.below HG H1.2) HOK HFB.1.1 HFB.1.2 HFB.2.1 HFB.2.2 HQ).mono ?_
  rintro e w3 ⟨O, rfl, hO3, hb3⟩
  obtain ⟨⟨x0, x1, x2, x3, x4, x5⟩, hs⟩ : ∃ s, s = shareS gs q := ⟨_, rfl⟩
  rw [← hs]
  obtain ⟨R, hR⟩ : ∃ R, R = w.heap.size := ⟨_, rfl⟩
  have R3 : w3.heap[R]? = some (setO 0 0 0 0 0 0) := by rw [hR]; exact block_keep H1.1 hb3
  have hR1 : R < w1.heap.size := by rw [hR]; exact (Array.getElem?_eq_some_iff.1 H1.1).1
  have hOb : w1.heap.size ≤ O := by
    rcases hO3.2 with ⟨h', _⟩ | ⟨g', cap', cur, h', hg, _⟩
    · simp at h'
    · simp at h'; omega
  have hRO : O ≠ R := by omega
  have B3 : Below w.heap.size w w3 := H1.2.trans (hb3.mono H1.2.size)
  obtain ⟨r0, r1, r2, r3, r4, r5⟩ := set_cells R3
  have fR : ∀ j, w3.frozen? ⟨R, j, none⟩ = false := fun j => frozen_of_row w3 R j _ _ R3
  have hO4 : w3.ownsRow w.heap.size 2 1 (.slice (some ⟨O, 0, none⟩) gs.length gs.length) gs.length ((shareL gs q).map (Value.int .i64)) := by
    have hz : w.heap.size ≤ w1.heap.size := H1.2.size
    refine ⟨hO3.1, ?_⟩
    rcases hO3.2 with ⟨h', h2⟩ | ⟨g', cap', cur, h', hg, hr⟩
    · exact .inl ⟨h', h2⟩
    · exact .inr ⟨g', cap', cur, h', by omega, hr⟩
  have HF : Hid ((six w3 R x0 x1 x2 x3 x4 x5).heap[R]? = some (setO x0 x1 x2 x3 x4 x5) ∧ (six w3 R x0 x1 x2 x3 x4 x5).ownsRow w.heap.size 2 1 (.slice (some ⟨O, 0, none⟩) gs.length gs.length) gs.length ((shareL gs q).map (Value.int .i64)) ∧ Below w.heap.size w (six w3 R x0 x1 x2 x3 x4 x5)) :=
    ⟨six_heap R3 _ _ _ _ _ _, owns_heap hO4 (six_same hRO _ _ _ _ _ _), (six_fr (Fr.below (Fr.refl w.heap.size w) B3) (by omega) _ _ _ _ _ _).toBelow (Nat.le_refl _) (Nat.le_refl _)⟩
  rw [← hR]
  have HS : Hid (⟨x0, x1, x2, x3, x4, x5⟩ = shareS gs q) := hs
  clear R3 hO3 hb3 hs hOb B3 hO4 hR H1
  simp only
  go_wp2
  exact bodyPost_ret (v := .tuple #[.slice (some ⟨O, 0, none⟩) gs.length gs.length, setV x0 x1 x2 x3 x4 x5]) (results_tmp_cell rfl _ _ R _ _ rfl rfl (loadSet HF.1)) rfl ⟨O, by rw [← show (⟨x0, x1, x2, x3, x4, x5⟩ : Sett) = shareS gs q from HS], HF.2.1, HF.2.2⟩

theorem tail_no {w w1 : World} (hb1 : Below (w.alloc (.cells #[.int .i64 0, .int .i64 0, .int .i64 0, .int .i64 0, .int .i64 0, .int .i64 0] 29)).heap.size (w.alloc (.cells #[.int .i64 0, .int .i64 0, .int .i64 0, .int .i64 0, .int .i64 0, .int .i64 0] 29)) w1) : w1.heap[w.heap.size]? = some (setO 0 0 0 0 0 0) ∧ Below w.heap.size w w1 ∧ w.heap.size < w1.heap.size ∧ (∀ j, w1.frozen? ⟨w.heap.size, j, none⟩ = false) ∧ (six w1 w.heap.size 0 0 0 0 0 0).heap[w.heap.size]? = some (setO 0 0 0 0 0 0) ∧ Below w.heap.size w (six w1 w.heap.size 0 0 0 0 0 0) := by
  have h1 : w1.heap[w.heap.size]? = some (setO 0 0 0 0 0 0) := block_keep (heap_alloc_new w _) hb1
  have h2 : Below w.heap.size w w1 := ((Below.refl _ _).alloc (Nat.le_refl _) _).trans (hb1.mono (by simp))
  exact ⟨h1, h2, (Array.getElem?_eq_some_iff.1 h1).1, fun j => frozen_of_row w1 _ j _ _ h1, six_heap h1 _ _ _ _ _ _, (six_fr (Fr.below (Fr.refl w.heap.size w) h2) (Nat.le_refl _) _ _ _ _ _ _).toBelow (Nat.le_refl _) (Nat.le_refl _)⟩

set_option maxRecDepth 20000 in
set_option maxHeartbeats 1000000 in
theorem implShare_no {v : Value} {gs : List Gl} {w : World} (width target : Int) (h : GRow w v gs) (hn : gs.length ≤ 1048576) (hno : ¬ (glsOk gs = true ∧ fitsB width = true ∧ fitsB target = true)) :
    Calls Try.prog 8 #[v, .int .i64 width, .int .i64 target] w fun e w' => e = .returned (.tuple #[.slice none 0 0, setV 0 0 0 0 0 0]) ∧ Below w.heap.size w w' := by
  have HG : Hid (GRow w v gs) := h
  have HN : Hid (gs.length ≤ 1048576) := hn
  have HNO : Hid (¬ (glsOk gs = true ∧ fitsB width = true ∧ fitsB target = true)) := hno
  clear h hn hno
  go_enter Try.func8, Try.ntmps8
  go_wp2_with fail
  refine (implGlues_any (GRow.below HG ((Below.refl _ _).alloc (Nat.le_refl _) _)) HN).mono ?_
  rintro e w1 ⟨rfl, hb1⟩
  obtain ⟨hr, hbw, hlt, fR, h5, h6⟩ := tail_no hb1
  have HF : Hid ((six w1 w.heap.size 0 0 0 0 0 0).heap[w.heap.size]? = some (setO 0 0 0 0 0 0) ∧ Below w.heap.size w (six w1 w.heap.size 0 0 0 0 0 0)) := ⟨h5, h6⟩
  obtain ⟨r0, r1, r2, r3, r4, r5⟩ := set_cells hr
  clear hb1 hr hbw h5 h6
  cases hok : glsOk gs with
  | false =>
    clear hok
    go_wp2
    exact bodyPost_ret (v := .tuple #[.slice none 0 0, setV 0 0 0 0 0 0]) (results_tmp_cell rfl _ _ w.heap.size _ _ rfl rfl (loadSet HF.1)) rfl ⟨rfl, HF.2⟩
  | true =>
    have HOK : Hid (glsOk gs = true) := hok
    clear hok
    go_wp2_with fail
    refine (implFits_any width _).mono ?_
    rintro e w2 ⟨rfl, hw2⟩
    have hw2' := hw2.symm
    clear hw2
    subst hw2'
    cases hfw : fitsB width with
    | false =>
      clear hfw
      go_wp2
      exact bodyPost_ret (v := .tuple #[.slice none 0 0, setV 0 0 0 0 0 0]) (results_tmp_cell rfl _ _ w.heap.size _ _ rfl rfl (loadSet HF.1)) rfl ⟨rfl, HF.2⟩
    | true =>
      have HFW : Hid (fitsB width = true) := hfw
      clear hfw
      go_wp2_with fail
      refine (implFits_any target _).mono ?_
      rintro e w2 ⟨rfl, hw2⟩
      have hw2' := hw2.symm
      clear hw2
      subst hw2'
      cases hft : fitsB target with
      | false =>
        clear hft
        go_wp2
        exact bodyPost_ret (v := .tuple #[.slice none 0 0, setV 0 0 0 0 0 0]) (results_tmp_cell rfl _ _ w.heap.size _ _ rfl rfl (loadSet HF.1)) rfl ⟨rfl, HF.2⟩
      | true => exact absurd ⟨HOK, HFW, hft⟩ HNO
end Go.Proofs.Ytpfbhkhifggoaaa
