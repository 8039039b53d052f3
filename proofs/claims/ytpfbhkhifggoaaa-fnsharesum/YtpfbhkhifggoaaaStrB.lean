/-
  The walk of impl.stretch, where something gives.
-/
import Derived.Test.YtpfbhkhifggoaaaStr
namespace Go.Proofs.Ytpfbhkhifggoaaa
open Go.RowKit
set_option linter.unusedVariables false
set_option linter.unusedSimpArgs false

set_option maxRecDepth 20000 in
set_option maxHeartbeats 8000000 in
theorem stretch_some {v : Value} {gs : List Gl} {w : World} {L base : Nat} (want o hv bd : Int) (h : GRow w v gs) (hok : glsOk gs = true) (hw0 : 0 < want) (hw1 : want ≤ 9223372036854775807)
    (hL : w.ownsRow base 2 1 (.slice (some ⟨L, 0, none⟩) gs.length gs.length) gs.length ((sizes gs).map (Value.int .i64))) (ho : o = (top (tot Gl.p Gl.po gs) : Int)) (hhv : hv = (tot Gl.p Gl.po gs).getD (top (tot Gl.p Gl.po gs)) 0) (hbd : bd = (if 0 < o then 0 else badV want hv)) (hyes : 0 < hv) :
    Calls Try.prog 44 #[v, .slice (some ⟨L, 0, none⟩) gs.length gs.length, .int .i64 want] w fun e w' =>
      e = .returned (setV 1 o want hv bd 0) ∧
      w'.ownsRow base 2 1 (.slice (some ⟨L, 0, none⟩) gs.length gs.length) gs.length ((plusL (sizes gs) (stp Gl.p Gl.po o want hv gs).2.2).map (Value.int .i64)) ∧ Fr L w w' := by
  have HG : Hid (GRow w v gs) := h
  have HOK : Hid (glsOk gs = true) := hok
  have heach := glsOk_each hok
  have HBD : Hid (bd = (if 0 < o then 0 else badV want hv)) := hbd
  clear hbd
  have hov := tot_have Gl.p Gl.po gs heach.1 (fun k hk => (ok_bounds (heach.2 k hk)).2.1) (top (tot Gl.p Gl.po gs))
  have HE : Hid (∀ k, k < gs.length → (gs.getD k Gl.none).ok = true) := heach.2
  have hn2 := heach.1
  have hLl := ownsRow_block hL
  have HL : Hid (w.ownsRow base 2 1 (.slice (some ⟨L, 0, none⟩) gs.length gs.length) gs.length ((sizes gs).map (Value.int .i64))) := hL
  clear h hok heach hL
  go_enter Try.func44, Try.ntmps44
  go_wp2_with fail
  refine (totalsP_any (GRow.below HG ((Below.refl _ _).alloc (Nat.le_refl _) _)) HOK).mono ?_
  rintro e w1 ⟨rfl, hb1⟩
  obtain ⟨a0, a1, a2, a3, hx⟩ := four_parts (tot_length Gl.p Gl.po gs)
  rw [hx]
  rw [← hhv] at hov
  rw [hx] at ho hhv
  clear hx
  have R1 : Hid (w1.heap[w.heap.size]? = some (setO 0 0 0 0 0 0) ∧ Below w.heap.size w w1) := ⟨block_keep (heap_alloc_new w _) hb1, ((Below.refl _ _).alloc (Nat.le_refl _) _).trans (hb1.mono (by simp))⟩
  clear hb1
  simp only [List.map_cons, List.map_nil]
  go_wp2_with fail
  refine (highest_any _ _ _ _ _).mono ?_
  rintro e w2 ⟨rfl, hb2⟩
  rw [← ho, ← hhv]
  have R2 := block_keep R1.1 hb2
  have B2 : Below w.heap.size w w2 := R1.2.trans (hb2.mono R1.2.size)
  obtain ⟨R, hR⟩ : ∃ R, R = w.heap.size := ⟨_, rfl⟩
  obtain ⟨S, hS⟩ : ∃ S, S = w2.heap.size := ⟨_, rfl⟩
  rw [← hR] at R2 ⊢
  have hRl : R < w2.heap.size := (Array.getElem?_eq_some_iff.1 R2).1
  have hno : ¬ hv ≤ 0 := by omega
  have H2 : Hid (w2.heap[R]? = some (setO 0 0 0 0 0 0) ∧ Below w.heap.size w w2 ∧ R = w.heap.size ∧ S = w2.heap.size) := ⟨R2, B2, hR, hS⟩
  clear hb2 R1 B2 R2 hhv ho hR
  go_wp2_with fail
  refine (portionsP_any 1 o want hv 0 0 (GRow.below HG (Below.alloc H2.2.1 H2.2.1.size _)) HOK hw0 hw1 hyes (by omega)).mono ?_
  rintro e w4 ⟨O, rfl, hO4, hb4⟩
  have R4 : w4.heap[R]? = some (setO 0 0 0 0 0 0) := block_keep ((Below.heap_alloc w2 _ _ (Array.getElem?_eq_some_iff.1 H2.1).1).trans H2.1) hb4
  have S4 : w4.heap[S]? = some (setO 1 o want hv 0 0) := by rw [hS]; exact block_keep (heap_alloc_new w2 _) hb4
  have L4 := owns_keep (owns_keep HL H2.2.1) ((Below.refl _ _).alloc (Nat.le_refl _) (.cells #[.int .i64 1, .int .i64 o, .int .i64 want, .int .i64 hv, .int .i64 0, .int .i64 0] 29))
  have L4 := owns_keep L4 hb4
  have F4 : Fr L w w4 := (((Fr.refl L w).below H2.2.1).alloc _).below hb4
  have hOb : (w2.alloc (.cells #[.int .i64 1, .int .i64 o, .int .i64 want, .int .i64 hv, .int .i64 0, .int .i64 0] 29)).heap.size ≤ O := by
    rcases hO4.2 with ⟨h', _⟩ | ⟨g', cap', cur, h', hg, _⟩
    · simp at h'
    · simp at h'; omega
  have hOb : w2.heap.size < O := by simp at hOb; omega
  have hzz : w.heap.size ≤ w2.heap.size := H2.2.1.size
  have hLO : L ≠ O := by omega
  have hRL : R ≠ L := by have := H2.2.2.1; omega
  have hSL : S ≠ L := by omega
  rw [← hS]
  obtain ⟨ps, hps⟩ : ∃ ps, ps = (stp Gl.p Gl.po o want hv gs).2.2 := ⟨_, rfl⟩
  have hpb := (stp_bound Gl.p Gl.po o want hv gs (fun k hk => (ok_bounds (HE k hk)).2.1) gs.length (Nat.le_refl _)).2.2
  rw [List.take_length, ← hps] at hpb
  rw [← hps] at hO4
  have HPB : Hid (∀ j, -2305843009213693952 ≤ ps.getD j 0 ∧ ps.getD j 0 ≤ 2305843009213693952) := hpb.2
  have HPS : Hid (ps = (stp Gl.p Gl.po o want hv gs).2.2) := hps
  have hSw : w.heap.size ≤ S := by omega
  have hRw : w.heap.size ≤ R := by have := H2.2.2.1; omega
  have hSR : S ≠ R := by omega
  have HO4 : Hid (w4.ownsRow (w2.alloc (.cells #[.int .i64 1, .int .i64 o, .int .i64 want, .int .i64 hv, .int .i64 0, .int .i64 0] 29)).heap.size 2 1 (.slice (some ⟨O, 0, none⟩) gs.length gs.length) gs.length (ps.map (Value.int .i64)) ∧ w4.heap[R]? = some (setO 0 0 0 0 0 0) ∧ w4.heap[S]? = some (setO 1 o want hv 0 0) ∧ w4.ownsRow base 2 1 (.slice (some ⟨L, 0, none⟩) gs.length gs.length) gs.length ((sizes gs).map (Value.int .i64)) ∧ Fr L w w4) := ⟨hO4, R4, S4, L4, F4⟩
  obtain ⟨n, hn⟩ : ∃ n, n = gs.length := ⟨_, rfl⟩
  have HN : Hid (n = gs.length) := hn
  clear hO4 R4 S4 L4 F4 hb4 hps hpb H2
  rw [← hn] at HO4 hn2 ⊢
  have HSZ : Hid (∀ j, j < n → -1073741823 ≤ (sizes gs).getD j 0 ∧ (sizes gs).getD j 0 ≤ 1073741823) := fun j hj => by
    rw [sizes_at (by omega)]
    exact (ok_bounds (HE j (by omega))).1
  clear hn hS
  go_wp2
  go_loopw [30] (fun s wr => ∃ (k : Nat) (ys : List Int), k ≤ n ∧ s = .int .i64 k ∧ ys.length = n ∧ (∀ j, j < k → ys.getD j 0 = (sizes gs).getD j 0 + ps.getD j 0) ∧ (∀ j, k ≤ j → ys.getD j 0 = (sizes gs).getD j 0) ∧
      wr.ownsRow (w2.alloc (.cells #[.int .i64 1, .int .i64 o, .int .i64 want, .int .i64 hv, .int .i64 0, .int .i64 0] 29)).heap.size 2 1 (.slice (some ⟨O, 0, none⟩) n n) n (ps.map (Value.int .i64)) ∧ wr.heap[R]? = some (setO 0 0 0 0 0 0) ∧ wr.heap[S]? = some (setO 1 o want hv 0 0) ∧ wr.ownsRow base 2 1 (.slice (some ⟨L, 0, none⟩) n n) n (ys.map (Value.int .i64)) ∧ Fr L w wr) (fun s _ => n - (intOf s).toNat)
  case atStart => exact ⟨0, sizes gs, by omega, rfl, by simp [sizes]; exact (show n = gs.length from HN).symm, fun j hj => by omega, fun j _ => rfl, HO4.1, HO4.2.1, HO4.2.2.1, HO4.2.2.2.1, HO4.2.2.2.2⟩
  case round =>
    obtain ⟨k, ys, hk, rfl, hyl, hy1, hy2, hwO, hwR, hwS, hwL, hwF⟩ := hrel
    by_cases hkn : k < n
    · have hki : (k : Int) < (n : Int) := by omega
      have cO := owns_cell hwO k hkn
      have cL := owns_cell hwL k hkn
      rw [hy2 k (Nat.le_refl _)] at cL
      have fL : wr.frozen? ⟨L, k, none⟩ = false := World.ownsRow.frozenAt hwL k
      obtain ⟨pk, hpk⟩ : ∃ pk, pk = ps.getD k 0 := ⟨_, rfl⟩
      obtain ⟨zk, hzk⟩ : ∃ zk, zk = (sizes gs).getD k 0 := ⟨_, rfl⟩
      have b1 := HPB k
      have b2 := HSZ k hkn
      rw [← hpk] at cO b1
      rw [← hzk] at cL b2
      have hw2 : IntKind.i64.wrap (zk + pk) = zk + pk := by rw [IntKind.wrap_i64]; omega
      have HF : Hid ((ys.set k (zk + pk)).length = n ∧ (∀ j, j < k + 1 → (ys.set k (zk + pk)).getD j 0 = (sizes gs).getD j 0 + ps.getD j 0) ∧ (∀ j, k + 1 ≤ j → (ys.set k (zk + pk)).getD j 0 = (sizes gs).getD j 0) ∧
        (wr.setCell ⟨L, k, none⟩ (.int .i64 (zk + pk))).ownsRow (w2.alloc (.cells #[.int .i64 1, .int .i64 o, .int .i64 want, .int .i64 hv, .int .i64 0, .int .i64 0] 29)).heap.size 2 1 (.slice (some ⟨O, 0, none⟩) n n) n (ps.map (Value.int .i64)) ∧ (wr.setCell ⟨L, k, none⟩ (.int .i64 (zk + pk))).heap[R]? = some (setO 0 0 0 0 0 0) ∧ (wr.setCell ⟨L, k, none⟩ (.int .i64 (zk + pk))).heap[S]? = some (setO 1 o want hv 0 0) ∧ (wr.setCell ⟨L, k, none⟩ (.int .i64 (zk + pk))).ownsRow base 2 1 (.slice (some ⟨L, 0, none⟩) n n) n ((ys.set k (zk + pk)).map (Value.int .i64)) ∧ Fr L w (wr.setCell ⟨L, k, none⟩ (.int .i64 (zk + pk)))) := by
        refine ⟨by simp [hyl], fun j hj => ?_, fun j hj => ?_, owns_heap hwO (Below.heap_setCell _ _ _ _ (Ne.symm hLO)), (Below.heap_setCell _ _ _ _ hRL).trans hwR, (Below.heap_setCell _ _ _ _ hSL).trans hwS, ?_, hwF.set (p := ⟨L, k, none⟩) (.inl rfl) _⟩
        · by_cases hjk : j = k
          · subst hjk; rw [← hpk, ← hzk]; simp [List.getD, hyl, hkn]
          · refine Eq.trans ?_ (hy1 j (by omega)); simp [List.getD, List.getElem?_set, Ne.symm hjk]
        · refine Eq.trans ?_ (hy2 j (by omega)); simp [List.getD, List.getElem?_set, show k ≠ j by omega]
        · rw [List.map_set]; exact (World.ownsRow.stored hwL k _).1
      clear hwO hwR hwS hwL hwF hy1 hy2 hpk hzk
      go_wp2
      go_roundw
      case rel => exact ⟨k + 1, ys.set k (zk + pk), by omega, by go_num, HF⟩
      case measure => simp [intOf]; omega
    · have hki : ¬ (k : Int) < (n : Int) := by omega
      obtain rfl : k = n := by omega
      have hye : ys = plusL (sizes gs) ps := getD_ext (by rw [plusL_length, hyl]; simp [sizes]; exact (show k = gs.length from HN)) fun j hj => by rw [hy1 j (by omega), plusL_at (by simp [sizes]; have := (show k = gs.length from HN); omega)]
      subst hye
      obtain ⟨s0, s1, s2, s3, s4, s5⟩ := set_cells hwS
      have HW : Hid (wr.heap[R]? = some (setO 0 0 0 0 0 0) ∧ wr.heap[S]? = some (setO 1 o want hv 0 0) ∧ wr.ownsRow base 2 1 (.slice (some ⟨L, 0, none⟩) k k) k ((plusL (sizes gs) ps).map (Value.int .i64)) ∧ Fr L w wr) := ⟨hwR, hwS, hwL, hwF⟩
      clear hwO hwR hwS hwL hwF hy1 hy2
      go_wp2_with fail
      refine (boundBad_any 1 o want hv 0 0 _ hw1 (by omega)).mono ?_
      rintro e w6 ⟨rfl, hb6⟩
      clear s0 s1 s2 s3 s4 s5
      rw [← show bd = (if 0 < o then 0 else badV want hv) from HBD]
      have R6 := block_keep HW.1 hb6
      have S6 := block_keep HW.2.1 hb6
      have L6 := owns_keep HW.2.2.1 hb6
      have F6 := HW.2.2.2.below hb6
      obtain ⟨r0, r1, r2, r3, r4, r5⟩ := set_cells R6
      obtain ⟨s0, s1, s2, s3, s4, s5⟩ := set_cells S6
      have fS : ∀ j, w6.frozen? ⟨S, j, none⟩ = false := fun j => frozen_of_row w6 S j _ _ S6
      have fR : ∀ j, w6.frozen? ⟨R, j, none⟩ = false := fun j => frozen_of_row w6 R j _ _ R6
      have S7 : (w6.setCell ⟨S, 4, none⟩ (.int .i64 bd)).heap[S]? = some (setO 1 o want hv bd 0) := heap_setCell_same w6 S 4 _ 29 _ S6
      have R7 : (w6.setCell ⟨S, 4, none⟩ (.int .i64 bd)).heap[R]? = some (setO 0 0 0 0 0 0) := (Below.heap_setCell _ _ _ _ (Ne.symm hSR)).trans R6
      obtain ⟨u0, u1, u2, u3, u4, u5⟩ := set_cells S7
      obtain ⟨v0, v1, v2, v3, v4, v5⟩ := set_cells R7
      have HF : Hid ((six (w6.setCell ⟨S, 4, none⟩ (.int .i64 bd)) R 1 o want hv bd 0).heap[R]? = some (setO 1 o want hv bd 0) ∧ (six (w6.setCell ⟨S, 4, none⟩ (.int .i64 bd)) R 1 o want hv bd 0).ownsRow base 2 1 (.slice (some ⟨L, 0, none⟩) k k) k ((plusL (sizes gs) ps).map (Value.int .i64)) ∧ Fr L w (six (w6.setCell ⟨S, 4, none⟩ (.int .i64 bd)) R 1 o want hv bd 0)):=
        ⟨six_heap R7 _ _ _ _ _ _, owns_heap L6 ((six_same (Ne.symm hRL) _ _ _ _ _ _).trans (Below.heap_setCell _ _ _ _ (Ne.symm hSL))), six_fr (F6.set (p := ⟨S, 4, none⟩) (.inr hSw) _) hRw _ _ _ _ _ _⟩
      clear R6 S6 L6 F6 R7 S7 hb6 HW
      go_wp2
      refine bodyPost_ret (v := setV 1 o want hv bd 0) (results_cell_row rfl _ _ R 29 _ (0, 0) _ rfl HF.1 Try.underlying29 rfl (by kernel_rfl)) rfl ⟨rfl, ?_, HF.2.2⟩
      rw [← show ps = (stp Gl.p Gl.po o want hv gs).2.2 from HPS, ← show k = gs.length from HN]
      exact HF.2.1
end Go.Proofs.Ytpfbhkhifggoaaa
