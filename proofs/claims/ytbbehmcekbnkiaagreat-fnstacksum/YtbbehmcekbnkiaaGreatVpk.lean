import Derived.Test.YtbbehmcekbnkiaaGreatBsl
import Derived.Test.YtbbehmcekbnkiaaGreatPal
namespace Go.Proofs.YtbbehmcekbnkiaaGreat
open Go.RowKit
set_option linter.unusedVariables false
set_option linter.unusedSimpArgs false
set_option maxRecDepth 20000 in
set_option maxHeartbeats 4000000 in
theorem around7_any {w : World} {R : Nat} {wd h d len : Int} {g p : Value} (length : Int) (kids : Nat) (B : Bun w R 7 wd h d len g p) :
 Calls Tryz.prog 61 #[.pointer (some ⟨R, 0, none⟩), .int .i64 length, .int .i64 (kids : Int)] w fun e w' => e = .returned (ndV (boxN 7 wd length d kids)) ∧ Below w.heap.size w w' := by
 obtain ⟨b0, b1, b2, b3, b4, b5, b6, b7, b8⟩ := B.cells
 have hR := B.lt
 go_enter Tryz.func61, Tryz.ntmps61
 go_wp2_with fail
 refine (node_box 7 wd length d 0 kids _).mono ?_
 rintro e w1 ⟨rfl, hb1⟩
 have hbx : w1.heap[w.heap.size]? = some (ndO Nd.none) := by
  refine (hb1.block _ (by simp; omega)).trans ?_
  exact (Below.heap_alloc _ _ _ (by simp)).trans (heap_alloc_new w _)
 have HBB : Hid (Below w.heap.size w w1) := hideP (below_more (below2 w _ _) hb1 (by simp; omega))
 have HF : Hid ((fif w1 w.heap.size 7 wd length d 0 0 0 0 0 0 0 0 0 ⟨#[]⟩ (kids : Int)).heap[w.heap.size]? = some (ndO ⟨7, wd, length, d, 0, 0, 0, 0, 0, 0, 0, 0, 0, ⟨#[]⟩, (kids : Int)⟩) ∧ Below w.heap.size w (fif w1 w.heap.size 7 wd length d 0 0 0 0 0 0 0 0 0 ⟨#[]⟩ (kids : Int))) := hideP ⟨fif_heap hbx _ _ _ _ _ _ _ _ _ _ _ _ _ _ _, fif_below HBB.out (Nat.le_refl _) _ _ _ _ _ _ _ _ _ _ _ _ _ _ _⟩
 obtain ⟨c0, c1, c2, c3, c4, c5, c6, c7, c8, c9, c10, c11, c12, c13, c14⟩ := nd_cells hbx
 have fR : ∀ j, w1.frozen? ⟨w.heap.size, j, none⟩ = false := fun j => frozen_of_row w1 w.heap.size j _ _ hbx
 clear hb1 hbx b0 b1 b2 b3 b4 b5 b6 b7 b8
 go_wp2
 exact bodyPost_ret (v := ndV ⟨7, wd, length, d, 0, 0, 0, 0, 0, 0, 0, 0, 0, ⟨#[]⟩, (kids : Int)⟩) (results_one_cell rfl _ _ w.heap.size _ rfl (loadNd HF.out.1)) rfl ⟨rfl, HF.out.2⟩
def PakV (xs : List Nd) (deep mode size : Int) (base : Nat) (ok : Bool) (e : Ending) (w' : World) : Prop :=
 match ok with
 | true => ∃ u, e = .returned (packV u (Shr.shareS (vpS xs deep).gs (vpQ xs deep mode size))) ∧ w'.ownsRow base 36 15 u (xs.length + 1) (flatN (vpN xs deep mode size))
 | false => e = .returned (packV (.slice none 0 0) ⟨0, 0, 0, 0, 0, 0⟩)
set_option maxRecDepth 20000 in
set_option maxHeartbeats 8000000 in
theorem vack_no {v : Value} {xs : List Nd} {w : World} {R B0 : Nat} {g p : Value} (deep mode size : Int) (hdp : 0 ≤ deep) (B : Bun w R 7 (vpS xs deep).h 0 (vpS xs deep).d (vpS xs deep).w g p) (og : w.ownsRow B0 34 5 g (vpS xs deep).gs.length (f5 (vpS xs deep).gs)) (op : w.ownsRow B0 3 1 p (gluesAt xs (begins xs)).length ((natI (gluesAt xs (begins xs))).map (Value.int .i64))) (hN : NN 0 w v xs) (hl : listB xs = true) (hfs : fitsB size = true) (hno : (decide ((vpS xs deep).gs.length ≤ 10000) && fitsB (vpS xs deep).w && fitsB (vpTo xs deep mode size)) = false) :
 Calls Tryz.prog 32 #[.pointer (some ⟨R, 0, none⟩), v, .int .i64 mode, .int .i64 size] w fun e w' => Below w.heap.size w w' ∧ PakV xs deep mode size w.heap.size (vrgB xs deep mode size) e w' := by
 have hin := vpS_in hl hdp
 have hbl := begins_len hl
 obtain ⟨gs, hgs⟩ : ∃ gs, gs = (vpS xs deep).gs := ⟨_, rfl⟩
 have HW : Hid (∀ W, Below w.heap.size w W → Calls Tryz.prog 58 #[.pointer (some ⟨R, 0, none⟩), .int .i64 mode, .int .i64 size] W fun e w' => e = .returned (.int .i64 (vpTo xs deep mode size)) ∧ Below W.heap.size W w') := hideP (fun W hW => wanted_any mode size (B.below hW) (own_GRow (ownG_below og hW) rfl) (fun x hx => by
  have h := hin.ok x hx
  unfold Shr.Gl.ok Shr.okB Shr.fitsB at h
  simp only [Bool.and_eq_true, decide_eq_true_eq] at h
  omega) (by have := hin.n; omega) ⟨by have := hin.w1; omega, by have := hin.w2; omega⟩ (of_decide_eq_true hfs))
 have HB := hideP B
 have HG := hideP og
 have HP := hideP op
 have HN := hideP hN
 have HLI := hideP hl
 have HNO := hideP hno
 have HNW : Hid ((vpS xs deep).gs.length = (gluesAt xs (begins xs)).length) := hideP (vpS_n xs deep)
 obtain ⟨ga, gc, rfl⟩ := ownG_shape og
 obtain ⟨tt, htt⟩ : ∃ tt, tt = vpTo xs deep mode size := ⟨_, rfl⟩
 have HTT := hideP htt
 rw [← htt] at HW
 obtain ⟨m, hm⟩ : ∃ m, m = (vpS xs deep).gs.length := ⟨_, rfl⟩
 have HM := hideP hm
 rw [← hm] at HB HG
 have hRw := B.lt
 have HC : Hid (∀ W, Below w.heap.size w W → W.cell? ⟨R, 6, none⟩ = some (.int .i64 (vpS xs deep).w) ∧ W.cell? ⟨R, 7, none⟩ = some (.slice ga m gc) ∧ W.cell? ⟨R, 8, none⟩ = some p) := hideP (fun W hW => ⟨(HB.out.below hW).cells.2.2.2.2.2.2.1, (HB.out.below hW).cells.2.2.2.2.2.2.2.1, (HB.out.below hW).cells.2.2.2.2.2.2.2.2⟩)
 have HPB : Hid (vrgB xs deep mode size = (decide (m ≤ 10000) && fitsB (vpS xs deep).w && fitsB tt && listB (vpN xs deep mode size))) := hideP (by unfold vrgB; rw [← hm, ← htt])
 clear og op B hN hl hfs htt hgs hm hin hbl hno
 go_enter Tryz.func32, Tryz.ntmps32
 go_wp2_with fail
 refine (HW.out _ (below1 _ _)).mono ?_
 rintro e w1 ⟨rfl, hb1⟩
 have HP1 : Hid (PB w w1) := hideP ((PB.start w).below hb1)
 clear hb1 HW
 obtain ⟨c6, c7, c8⟩ := HC.out w1 HP1.out.bel
 by_cases hc1 : m ≤ 10000
 ·have hd : decide ((10000 : Int) < (m : Int)) = false := by simp; omega
  have hd0 : ¬ (10000 : Int) < (m : Int) := by omega
  obtain ⟨f1, hf1⟩ : ∃ f1, f1 = fitsB (vpS xs deep).w := ⟨_, rfl⟩
  have HF1 := hideP hf1
  have FC1 : Hid (∀ W, Calls Tryz.prog 44 #[.int .i64 (vpS xs deep).w] W fun e w' => e = .returned (.bool f1) ∧ w' = W) := hideP (fun W => by rw [hf1]; exact implFits_any _ _)
  have FC2 : Hid (∀ W, Calls Tryz.prog 44 #[.int .i64 tt] W fun e w' => e = .returned (.bool (fitsB tt)) ∧ w' = W) := hideP (fun W => implFits_any _ _)
  clear hf1
  cases f1 with
  | false =>
   have HPR : Hid (vrgB xs deep mode size = false) := hideP (by rw [HPB.out, ← HF1.out]; cases decide (m ≤ 10000) <;> rfl)
   obtain ⟨q0, q1, q2, q3, q4, q5, q6⟩ := pack_cells HP1.out.box
   have fR : ∀ j, w1.frozen? ⟨w.heap.size, j, none⟩ = false := fun j => frozen_of_row w1 w.heap.size j _ _ HP1.out.box
   have HF : Hid ((sev w1 w.heap.size (.slice none 0 0) 0 0 0 0 0 0).heap[w.heap.size]? = some (packO (.slice none 0 0) 0 0 0 0 0 0) ∧ Below w.heap.size w (sev w1 w.heap.size (.slice none 0 0) 0 0 0 0 0 0)) := hideP ⟨sev_heap HP1.out.box _ _ _ _ _ _ _, sev_below HP1.out.bel (Nat.le_refl _) _ _ _ _ _ _ _⟩
   go_wp2_with (go_at_call 44; refine (FC1.out _).mono ?_; rintro _ _ ⟨rfl, rfl⟩)
   exact bodyPost_ret (v := packV (.slice none 0 0) ⟨0, 0, 0, 0, 0, 0⟩) (results_one_cell rfl _ _ w.heap.size _ rfl (loadPack HF.out.1)) rfl ⟨HF.out.2, by rw [HPR.out]; exact rfl⟩
  | true =>
   obtain ⟨f2, hf2⟩ : ∃ f2, f2 = fitsB tt := ⟨_, rfl⟩
   have HF2 := hideP hf2
   rw [← hf2] at FC2
   clear hf2
   cases f2 with
   | false =>
    have HPR : Hid (vrgB xs deep mode size = false) := hideP (by rw [HPB.out, ← HF1.out, ← HF2.out]; cases decide (m ≤ 10000) <;> rfl)
    obtain ⟨q0, q1, q2, q3, q4, q5, q6⟩ := pack_cells HP1.out.box
    have fR : ∀ j, w1.frozen? ⟨w.heap.size, j, none⟩ = false := fun j => frozen_of_row w1 w.heap.size j _ _ HP1.out.box
    have HF : Hid ((sev w1 w.heap.size (.slice none 0 0) 0 0 0 0 0 0).heap[w.heap.size]? = some (packO (.slice none 0 0) 0 0 0 0 0 0) ∧ Below w.heap.size w (sev w1 w.heap.size (.slice none 0 0) 0 0 0 0 0 0)) := hideP ⟨sev_heap HP1.out.box _ _ _ _ _ _ _, sev_below HP1.out.bel (Nat.le_refl _) _ _ _ _ _ _ _⟩
    go_wp2_with (go_at_call 44; first | (refine (FC1.out _).mono ?_; rintro _ _ ⟨rfl, rfl⟩) | (refine (FC2.out _).mono ?_; rintro _ _ ⟨rfl, rfl⟩))
    exact bodyPost_ret (v := packV (.slice none 0 0) ⟨0, 0, 0, 0, 0, 0⟩) (results_one_cell rfl _ _ w.heap.size _ rfl (loadPack HF.out.1)) rfl ⟨HF.out.2, by rw [HPR.out]; exact rfl⟩
   | true =>
    exfalso
    have h := HNO.out
    rw [← HM.out, ← HTT.out, ← HF1.out, ← HF2.out, decide_eq_true hc1] at h
    exact absurd h (by decide)
 ·have hd : decide ((10000 : Int) < (m : Int)) = true := by simp; omega
  have hd0 : (10000 : Int) < (m : Int) := by omega
  have HPR : Hid (vrgB xs deep mode size = false) := hideP (by rw [HPB.out, decide_eq_false hc1]; rfl)
  obtain ⟨q0, q1, q2, q3, q4, q5, q6⟩ := pack_cells HP1.out.box
  have fR : ∀ j, w1.frozen? ⟨w.heap.size, j, none⟩ = false := fun j => frozen_of_row w1 w.heap.size j _ _ HP1.out.box
  have HF : Hid ((sev w1 w.heap.size (.slice none 0 0) 0 0 0 0 0 0).heap[w.heap.size]? = some (packO (.slice none 0 0) 0 0 0 0 0 0) ∧ Below w.heap.size w (sev w1 w.heap.size (.slice none 0 0) 0 0 0 0 0 0)) := hideP ⟨sev_heap HP1.out.box _ _ _ _ _ _ _, sev_below HP1.out.bel (Nat.le_refl _) _ _ _ _ _ _ _⟩
  go_wp2
  exact bodyPost_ret (v := packV (.slice none 0 0) ⟨0, 0, 0, 0, 0, 0⟩) (results_one_cell rfl _ _ w.heap.size _ rfl (loadPack HF.out.1)) rfl ⟨HF.out.2, by rw [HPR.out]; exact rfl⟩
end Go.Proofs.YtbbehmcekbnkiaaGreat
