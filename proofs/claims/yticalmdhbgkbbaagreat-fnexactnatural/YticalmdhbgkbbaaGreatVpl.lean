/-
  A bundle that is a stack is packed.
-/
import Derived.Test.YticalmdhbgkbbaaGreatBsl
import Derived.Test.YticalmdhbgkbbaaGreatPal
namespace Go.Proofs.YticalmdhbgkbbaaGreat
open Go.RowKit
set_option linter.unusedVariables false
set_option linter.unusedSimpArgs false

/-- In a stack: w how tall it is but for its glues, h how wide, d the depth of the last item. -/
def RS.pile (s : RS) (x : Nd) : RS := ⟨s.w + (x.ht + x.dp), Shr.mxI s.h (x.wd + x.sh), x.dp, s.gs⟩
def RS.drop (s : RS) (x : Nd) : RS := ⟨s.w + x.wd, s.h, 0, s.gs⟩
def RS.gap (s : RS) (x : Nd) : RS := ⟨s.w, s.h, 0, s.gs ++ [glOf x]⟩
def RS.pass (s : RS) : RS := ⟨s.w, s.h, 0, s.gs⟩
def pileB (x : Nd) : Bool := x.k == 5 || x.k == 6 || x.k == 7
def stkStep (s : RS) (x : Nd) : RS := if pileB x then s.pile x else if x.k = 2 then s.drop x else if x.k = 3 then s.gap x else s.pass
theorem stkStep_5 {s : RS} {x : Nd} (h : x.k = 5) : stkStep s x = s.pile x := by simp [stkStep, pileB, h]
theorem stkStep_6 {s : RS} {x : Nd} (h : x.k = 6) : stkStep s x = s.pile x := by simp [stkStep, pileB, h]
theorem stkStep_7 {s : RS} {x : Nd} (h : x.k = 7) : stkStep s x = s.pile x := by simp [stkStep, pileB, h]
theorem stkStep_2 {s : RS} {x : Nd} (h : x.k = 2) : stkStep s x = s.drop x := by simp [stkStep, pileB, h]
theorem stkStep_3 {s : RS} {x : Nd} (h : x.k = 3) : stkStep s x = s.gap x := by simp [stkStep, pileB, h]
theorem stkStep_0 {s : RS} {x : Nd} (h2 : x.k ≠ 2) (h3 : x.k ≠ 3) (h5 : x.k ≠ 5) (h6 : x.k ≠ 6) (h7 : x.k ≠ 7) : stkStep s x = s.pass := by simp [stkStep, pileB, h2, h3, h5, h6, h7]
def stkTo (xs : List Nd) (ps : List Nat) : RS := ps.foldl (fun s p => stkStep s (xs.getD p Nd.none)) RS.nil
theorem stkTo_snoc (xs : List Nd) (ps : List Nat) (p : Nat) : stkTo xs (ps ++ [p]) = stkStep (stkTo xs ps) (xs.getD p Nd.none) := by simp [stkTo]
/-- So much it can be at most behind j items. -/
structure VIn (s : RS) (j : Nat) : Prop where
  w1 : -(2147483646 * (j : Int)) ≤ s.w
  w2 : s.w ≤ 2147483646 * (j : Int)
  h1 : 0 ≤ s.h
  h2 : s.h ≤ 2147483646
  d1 : -1073741823 ≤ s.d
  d2 : s.d ≤ 1073741823
  n : s.gs.length ≤ j
  ok : ∀ g ∈ s.gs, g.ok = true
theorem VIn.nil : VIn RS.nil 0 := ⟨by simp [RS.nil], by simp [RS.nil], by simp [RS.nil], by simp [RS.nil], by simp [RS.nil], by simp [RS.nil], by simp [RS.nil], by simp [RS.nil]⟩
theorem VIn.step {s : RS} {j : Nat} {x : Nd} (h : VIn s j) (hx : NdIn x) : VIn (stkStep s x) (j + 1) := by
  obtain ⟨⟨a1, a2⟩, a3⟩ := mxI_in (a := s.h) (b := x.wd + x.sh)
  have := h.w1
  have := h.w2
  have := h.h1
  have := h.h2
  have := h.n
  have := hx.wd
  have := hx.ht
  have := hx.dp
  have := hx.sh
  unfold stkStep
  split
  · refine ⟨by simp only [RS.pile]; push_cast; omega, by simp only [RS.pile]; push_cast; omega, ?_, ?_, by simp only [RS.pile]; omega, by simp only [RS.pile]; omega, by simp only [RS.pile]; omega, h.ok⟩
    · simp only [RS.pile]; omega
    · simp only [RS.pile]; rcases a3 with a3 | a3 <;> omega
  · split
    · exact ⟨by simp only [RS.drop]; push_cast; omega, by simp only [RS.drop]; push_cast; omega, h.h1, h.h2, by simp only [RS.drop]; omega, by simp only [RS.drop]; omega, by simp only [RS.drop]; omega, h.ok⟩
    · split
      · refine ⟨by simp only [RS.gap]; push_cast; omega, by simp only [RS.gap]; push_cast; omega, h.h1, h.h2, by simp only [RS.gap]; omega, by simp only [RS.gap]; omega, by simp only [RS.gap, List.length_append, List.length_singleton]; omega, fun g hg => ?_⟩
        rcases List.mem_append.1 hg with hg | hg
        · exact h.ok g hg
        · rw [List.mem_singleton.1 hg]; exact hx.gl
      · exact ⟨by simp only [RS.pass]; push_cast; omega, by simp only [RS.pass]; push_cast; omega, h.h1, h.h2, by simp only [RS.pass]; omega, by simp only [RS.pass]; omega, by simp only [RS.pass]; omega, h.ok⟩
theorem stkTo_in_aux (xs : List Nd) (hx : ∀ i, i < xs.length → NdIn (xs.getD i Nd.none)) : ∀ (ps : List Nat) (s : RS) (j : Nat), (∀ p ∈ ps, p < xs.length) → VIn s j → VIn (ps.foldl (fun s p => stkStep s (xs.getD p Nd.none)) s) (j + ps.length)
  | [], s, j, _, h => h
  | p :: ps, s, j, hp, h => by
    have h1 := stkTo_in_aux xs hx ps _ _ (fun q hq => hp q (List.mem_cons_of_mem _ hq)) (h.step (hx p (hp p (List.mem_cons_self ..))))
    rw [List.foldl_cons, List.length_cons, show j + (ps.length + 1) = j + 1 + ps.length by omega]
    exact h1
theorem stkTo_in (xs : List Nd) (hx : ∀ i, i < xs.length → NdIn (xs.getD i Nd.none)) (ps : List Nat) (h : ∀ p ∈ ps, p < xs.length) : VIn (stkTo xs ps) ps.length := by
  have h1 := stkTo_in_aux xs hx ps RS.nil 0 h VIn.nil
  rw [Nat.zero_add] at h1
  exact h1
theorem stkStep_gs (s : RS) (x : Nd) : (stkStep s x).gs = if x.k = 3 then s.gs ++ [glOf x] else s.gs := by
  by_cases h : x.k = 3
  · rw [stkStep_3 h, if_pos h]
    rfl
  · rw [if_neg h]
    unfold stkStep
    split
    · rfl
    · split
      · rfl
      · rfl
theorem stkTo_gs_aux (xs : List Nd) : ∀ (Z : List Nat) (s t : RS), s.gs = t.gs → (Z.foldl (fun s p => stkStep s (xs.getD p Nd.none)) s).gs = (Z.foldl (fun s p => rowStep s (xs.getD p Nd.none)) t).gs
  | [], s, t, h => h
  | p :: Z, s, t, h => by
    rw [List.foldl_cons, List.foldl_cons]
    exact stkTo_gs_aux xs Z _ _ (by rw [stkStep_gs, rowStep_gs, h])
theorem stkTo_gs (xs : List Nd) (Z : List Nat) : (stkTo xs Z).gs = (rowTo xs Z).gs := stkTo_gs_aux xs Z _ _ rfl
/-- A stack with a bound on its depth. -/
def mnI (a b : Int) : Int := if b < a then b else a
def vpS (xs : List Nd) (deep : Int) : RS := ⟨(stkTo xs (begins xs)).w - mnI (stkTo xs (begins xs)).d deep, (stkTo xs (begins xs)).h, mnI (stkTo xs (begins xs)).d deep, (stkTo xs (begins xs)).gs⟩
theorem vpS_gs (xs : List Nd) (deep : Int) : (vpS xs deep).gs = (hpS xs).gs := stkTo_gs xs _
/-- What is known of a stack's sums. -/
structure SIn (s : RS) (j : Nat) : Prop where
  w1 : -(2147483646 * (j : Int)) - 2147483646 ≤ s.w
  w2 : s.w ≤ 2147483646 * (j : Int) + 2147483646
  h1 : 0 ≤ s.h
  h2 : s.h ≤ 2147483646
  d1 : -1073741823 ≤ s.d
  d2 : s.d ≤ 1073741823
  n : s.gs.length ≤ j
  ok : ∀ g ∈ s.gs, g.ok = true
theorem vpS_in {xs : List Nd} {deep : Int} (h : listB xs = true) (hd : 0 ≤ deep) : SIn (vpS xs deep) (begins xs).length := by
  have hv := stkTo_in xs (list_in h) (begins xs) (fun p hp => starts_lt xs _ _ p hp)
  have := hv.w1
  have := hv.w2
  have := hv.d1
  have := hv.d2
  have hm : -1073741823 ≤ mnI (stkTo xs (begins xs)).d deep ∧ mnI (stkTo xs (begins xs)).d deep ≤ 1073741823 := by
    unfold mnI
    split <;> omega
  exact ⟨by simp only [vpS]; omega, by simp only [vpS]; omega, hv.h1, hv.h2, by simp only [vpS]; omega, by simp only [vpS]; omega, hv.n, hv.ok⟩
def vpTo (xs : List Nd) (deep mode size : Int) : Int := Shr.alongI (vpS xs deep).w (vpS xs deep).gs mode size
def vpQ (xs : List Nd) (deep mode size : Int) : Int := vpTo xs deep mode size - (vpS xs deep).w - Shr.siz (vpS xs deep).gs
def vpL (xs : List Nd) (deep mode size : Int) : List Int := Shr.shareL (vpS xs deep).gs (vpQ xs deep mode size)
def vpOk (xs : List Nd) (deep mode size : Int) : Bool := packB xs mode size && Shr.glsOk (vpS xs deep).gs && (Shr.fitsB (vpTo xs deep mode size) && Shr.fitsB (vpS xs deep).w) && fitsB (vpS xs deep).h && fitsB (vpS xs deep).d && (vpL xs deep mode size).all Shr.fitsB
def vpN (xs : List Nd) (deep mode size : Int) : List Nd := boxN 7 (vpS xs deep).h (vpTo xs deep mode size) (vpS xs deep).d xs.length :: setL (gluesAt xs (begins xs)) (vpL xs deep mode size) xs
theorem vpL_len (xs : List Nd) (deep mode size : Int) : (vpL xs deep mode size).length = (gluesAt xs (begins xs)).length := by
  unfold vpL
  rw [Shr.shareL_length, vpS_gs, hpS_n]
theorem vpS_n (xs : List Nd) (deep : Int) : (vpS xs deep).gs.length = (gluesAt xs (begins xs)).length := by rw [vpS_gs, hpS_n]
def vrgB (xs : List Nd) (deep mode size : Int) : Bool := decide ((vpS xs deep).gs.length ≤ 10000) && fitsB (vpS xs deep).w && fitsB (vpTo xs deep mode size) && listB (vpN xs deep mode size)
theorem vrg_ok {xs : List Nd} {deep mode size : Int} (h : askB xs mode size = true) (hd : 0 ≤ deep) : vrgB xs deep mode size = vpOk xs deep mode size := by
  unfold askB at h
  simp only [Bool.and_eq_true] at h
  obtain ⟨⟨hm, hf⟩, hl⟩ := h
  have hb := box_list (k := 7) (.inr rfl) (vpS xs deep).h (vpTo xs deep mode size) (vpS xs deep).d (vpL_len xs deep mode size) (glues_pair xs) (fun p hp => glues_in hp) (list_good hl)
  have hg : Shr.glsOk (vpS xs deep).gs = decide ((vpS xs deep).gs.length ≤ 10000) := by
    unfold Shr.glsOk
    rw [show (vpS xs deep).gs.all (fun g => g.ok) = true from List.all_eq_true.2 (fun g hg => (vpS_in hl hd).ok g hg), Bool.and_true]
  have e1 : Shr.fitsB = fitsB := rfl
  unfold vrgB vpOk packB
  rw [hg, hm, hf, e1]
  unfold vpN
  rw [hb]
  cases decide ((vpS xs deep).gs.length ≤ 10000) <;> cases fitsB (vpS xs deep).w <;> cases fitsB (vpTo xs deep mode size) <;> cases canB xs <;> cases fitsB (vpS xs deep).h <;> cases fitsB (vpS xs deep).d <;> cases (vpL xs deep mode size).all fitsB <;> rfl
end Go.Proofs.YticalmdhbgkbbaaGreat

namespace Go.Proofs.YticalmdhbgkbbaaGreat
open Go.RowKit
set_option linter.unusedVariables false
set_option linter.unusedSimpArgs false

set_option maxRecDepth 20000 in
set_option maxHeartbeats 4000000 in
theorem around7_any {w : World} {R : Nat} {wd h d len : Int} {g p : Value} (length : Int) (kids : Nat) (B : Bun w R 7 wd h d len g p) :
    Calls Tryz.prog 85 #[.pointer (some ⟨R, 0, none⟩), .int .i64 length, .int .i64 (kids : Int)] w fun e w' => e = .returned (ndV (boxN 7 wd length d kids)) ∧ Below w.heap.size w w' := by
  obtain ⟨b0, b1, b2, b3, b4, b5, b6, b7, b8⟩ := B.cells
  have hR := B.lt
  go_enter Tryz.func85, Tryz.ntmps85
  go_wp2_with fail
  refine (node_box 7 wd length d 0 kids _).mono ?_
  rintro e w1 ⟨rfl, hb1⟩
  have hbx : w1.heap[w.heap.size]? = some (ndO Nd.none) := by
    refine (hb1.block _ (by simp; omega)).trans ?_
    exact (Below.heap_alloc _ _ _ (by simp)).trans (heap_alloc_new w _)
  have HBB : Hid (Below w.heap.size w w1) := hideP (below_more (below2 w _ _) hb1 (by simp; omega))
  have HF : Hid ((fif w1 w.heap.size 7 wd length d 0 0 0 0 0 0 0 0 0 ⟨#[]⟩ (kids : Int)).heap[w.heap.size]? = some (ndO ⟨7, wd, length, d, 0, 0, 0, 0, 0, 0, 0, 0, 0, ⟨#[]⟩, (kids : Int)⟩) ∧ Below w.heap.size w (fif w1 w.heap.size 7 wd length d 0 0 0 0 0 0 0 0 0 ⟨#[]⟩ (kids : Int))) := hideP ⟨fif_heap hbx _ _ _ _ _ _ _ _ _ _ _ _ _ _ _, fif_below HBB.out (Nat.le_refl _) _ _ _ _ _ _ _ _ _ _ _ _ _ _ _⟩
  obtain ⟨c0, c1, c2, c3, c4, c5, c6, c7, c8, c9, c10, c11, c12, c13, c14⟩ := nd_cells hbx
  have fR : ∀ j, w1.frozen? ⟨w.heap.size, j, none⟩ = false := fun j => frozen_of_row w1 w.heap.size j _ _ hbx
  clear hb1 hbx b0 b1 b2 b3 b4 b5 b6 b7 b8
  go_wp2
  exact bodyPost_ret (v := ndV ⟨7, wd, length, d, 0, 0, 0, 0, 0, 0, 0, 0, 0, ⟨#[]⟩, (kids : Int)⟩) (results_one_cell rfl _ _ w.heap.size _ rfl (loadNd HF.out.1)) rfl ⟨rfl, HF.out.2⟩
/-- What comes of packing. -/
def PakV (xs : List Nd) (deep mode size : Int) (base : Nat) (ok : Bool) (e : Ending) (w' : World) : Prop :=
  match ok with
  | true => ∃ u, e = .returned (packV u (Shr.shareS (vpS xs deep).gs (vpQ xs deep mode size))) ∧ w'.ownsRow base 77 15 u (xs.length + 1) (flatN (vpN xs deep mode size))
  | false => e = .returned (packV (.slice none 0 0) ⟨0, 0, 0, 0, 0, 0⟩)
set_option maxRecDepth 20000 in
set_option maxHeartbeats 8000000 in
theorem vack_no {v : Value} {xs : List Nd} {w : World} {R B0 : Nat} {g p : Value} (deep mode size : Int) (hdp : 0 ≤ deep) (B : Bun w R 7 (vpS xs deep).h 0 (vpS xs deep).d (vpS xs deep).w g p) (og : w.ownsRow B0 50 5 g (vpS xs deep).gs.length (f5 (vpS xs deep).gs)) (op : w.ownsRow B0 3 1 p (gluesAt xs (begins xs)).length ((natI (gluesAt xs (begins xs))).map (Value.int .i64))) (hN : NN 0 w v xs) (hl : listB xs = true) (hfs : fitsB size = true) (hno : (decide ((vpS xs deep).gs.length ≤ 10000) && fitsB (vpS xs deep).w && fitsB (vpTo xs deep mode size)) = false) :
    Calls Tryz.prog 47 #[.pointer (some ⟨R, 0, none⟩), v, .int .i64 mode, .int .i64 size] w fun e w' => Below w.heap.size w w' ∧ PakV xs deep mode size w.heap.size (vrgB xs deep mode size) e w' := by
  have hin := vpS_in hl hdp
  have hbl := begins_len hl
  obtain ⟨gs, hgs⟩ : ∃ gs, gs = (vpS xs deep).gs := ⟨_, rfl⟩
  have HW : Hid (∀ W, Below w.heap.size w W → Calls Tryz.prog 82 #[.pointer (some ⟨R, 0, none⟩), .int .i64 mode, .int .i64 size] W fun e w' => e = .returned (.int .i64 (vpTo xs deep mode size)) ∧ Below W.heap.size W w') := hideP (fun W hW => wanted_any mode size (B.below hW) (own_GRow (ownG_below og hW) rfl) (fun x hx => by
      have h := hin.ok x hx
      unfold Shr.Gl.ok Shr.okB Shr.fitsB at h
      simp only [Bool.and_eq_true, decide_eq_true_eq] at h
      omega) (by have := hin.n; omega) ⟨by have := hin.w1; omega, by have := hin.w2; omega⟩ (of_decide_eq_true hfs))
  have HB := hideP B
  have HG := hideP og
  have HP := hideP op
  have HN := hideP hN
  have HLI := hideP hl
  have HNO := hideP hno
  have HNW : Hid ((vpS xs deep).gs.length = (gluesAt xs (begins xs)).length) := hideP (vpS_n xs deep)
  obtain ⟨ga, gc, rfl⟩ := ownG_shape og
  obtain ⟨tt, htt⟩ : ∃ tt, tt = vpTo xs deep mode size := ⟨_, rfl⟩
  have HTT := hideP htt
  rw [← htt] at HW
  obtain ⟨m, hm⟩ : ∃ m, m = (vpS xs deep).gs.length := ⟨_, rfl⟩
  have HM := hideP hm
  rw [← hm] at HB HG
  have hRw := B.lt
  have HC : Hid (∀ W, Below w.heap.size w W → W.cell? ⟨R, 6, none⟩ = some (.int .i64 (vpS xs deep).w) ∧ W.cell? ⟨R, 7, none⟩ = some (.slice ga m gc) ∧ W.cell? ⟨R, 8, none⟩ = some p) := hideP (fun W hW => ⟨(HB.out.below hW).cells.2.2.2.2.2.2.1, (HB.out.below hW).cells.2.2.2.2.2.2.2.1, (HB.out.below hW).cells.2.2.2.2.2.2.2.2⟩)
  have HPB : Hid (vrgB xs deep mode size = (decide (m ≤ 10000) && fitsB (vpS xs deep).w && fitsB tt && listB (vpN xs deep mode size))) := hideP (by unfold vrgB; rw [← hm, ← htt])
  clear og op B hN hl hfs htt hgs hm hin hbl hno
  go_enter Tryz.func47, Tryz.ntmps47
  go_wp2_with fail
  refine (HW.out _ (below1 _ _)).mono ?_
  rintro e w1 ⟨rfl, hb1⟩
  have HP1 : Hid (PB w w1) := hideP ((PB.start w).below hb1)
  clear hb1 HW
  obtain ⟨c6, c7, c8⟩ := HC.out w1 HP1.out.bel
  by_cases hc1 : m ≤ 10000
  · have hd : decide ((10000 : Int) < (m : Int)) = false := by simp; omega
    have hd0 : ¬ (10000 : Int) < (m : Int) := by omega
    obtain ⟨f1, hf1⟩ : ∃ f1, f1 = fitsB (vpS xs deep).w := ⟨_, rfl⟩
    have HF1 := hideP hf1
    have FC1 : Hid (∀ W, Calls Tryz.prog 69 #[.int .i64 (vpS xs deep).w] W fun e w' => e = .returned (.bool f1) ∧ w' = W) := hideP (fun W => by rw [hf1]; exact implFits_any _ _)
    have FC2 : Hid (∀ W, Calls Tryz.prog 69 #[.int .i64 tt] W fun e w' => e = .returned (.bool (fitsB tt)) ∧ w' = W) := hideP (fun W => implFits_any _ _)
    clear hf1
    cases f1 with
    | false =>
      have HPR : Hid (vrgB xs deep mode size = false) := hideP (by rw [HPB.out, ← HF1.out]; cases decide (m ≤ 10000) <;> rfl)
      obtain ⟨q0, q1, q2, q3, q4, q5, q6⟩ := pack_cells HP1.out.box
      have fR : ∀ j, w1.frozen? ⟨w.heap.size, j, none⟩ = false := fun j => frozen_of_row w1 w.heap.size j _ _ HP1.out.box
      have HF : Hid ((sev w1 w.heap.size (.slice none 0 0) 0 0 0 0 0 0).heap[w.heap.size]? = some (packO (.slice none 0 0) 0 0 0 0 0 0) ∧ Below w.heap.size w (sev w1 w.heap.size (.slice none 0 0) 0 0 0 0 0 0)) := hideP ⟨sev_heap HP1.out.box _ _ _ _ _ _ _, sev_below HP1.out.bel (Nat.le_refl _) _ _ _ _ _ _ _⟩
      go_wp2_with (go_at_call 69; refine (FC1.out _).mono ?_; rintro _ _ ⟨rfl, rfl⟩)
      exact bodyPost_ret (v := packV (.slice none 0 0) ⟨0, 0, 0, 0, 0, 0⟩) (results_one_cell rfl _ _ w.heap.size _ rfl (loadPack HF.out.1)) rfl ⟨HF.out.2, by rw [HPR.out]; exact rfl⟩
    | true =>
      obtain ⟨f2, hf2⟩ : ∃ f2, f2 = fitsB tt := ⟨_, rfl⟩
      have HF2 := hideP hf2
      rw [← hf2] at FC2
      clear hf2
      cases f2 with
      | false =>
        have HPR : Hid (vrgB xs deep mode size = false) := hideP (by rw [HPB.out, ← HF1.out, ← HF2.out]; cases decide (m ≤ 10000) <;> rfl)
        obtain ⟨q0, q1, q2, q3, q4, q5, q6⟩ := pack_cells HP1.out.box
        have fR : ∀ j, w1.frozen? ⟨w.heap.size, j, none⟩ = false := fun j => frozen_of_row w1 w.heap.size j _ _ HP1.out.box
        have HF : Hid ((sev w1 w.heap.size (.slice none 0 0) 0 0 0 0 0 0).heap[w.heap.size]? = some (packO (.slice none 0 0) 0 0 0 0 0 0) ∧ Below w.heap.size w (sev w1 w.heap.size (.slice none 0 0) 0 0 0 0 0 0)) := hideP ⟨sev_heap HP1.out.box _ _ _ _ _ _ _, sev_below HP1.out.bel (Nat.le_refl _) _ _ _ _ _ _ _⟩
        go_wp2_with (go_at_call 69; first | (refine (FC1.out _).mono ?_; rintro _ _ ⟨rfl, rfl⟩) | (refine (FC2.out _).mono ?_; rintro _ _ ⟨rfl, rfl⟩))
        exact bodyPost_ret (v := packV (.slice none 0 0) ⟨0, 0, 0, 0, 0, 0⟩) (results_one_cell rfl _ _ w.heap.size _ rfl (loadPack HF.out.1)) rfl ⟨HF.out.2, by rw [HPR.out]; exact rfl⟩
      | true =>
        exfalso
        have h := HNO.out
        rw [← HM.out, ← HTT.out, ← HF1.out, ← HF2.out, decide_eq_true hc1] at h
        exact absurd h (by decide)
  · have hd : decide ((10000 : Int) < (m : Int)) = true := by simp; omega
    have hd0 : (10000 : Int) < (m : Int) := by omega
    have HPR : Hid (vrgB xs deep mode size = false) := hideP (by rw [HPB.out, decide_eq_false hc1]; rfl)
    obtain ⟨q0, q1, q2, q3, q4, q5, q6⟩ := pack_cells HP1.out.box
    have fR : ∀ j, w1.frozen? ⟨w.heap.size, j, none⟩ = false := fun j => frozen_of_row w1 w.heap.size j _ _ HP1.out.box
    have HF : Hid ((sev w1 w.heap.size (.slice none 0 0) 0 0 0 0 0 0).heap[w.heap.size]? = some (packO (.slice none 0 0) 0 0 0 0 0 0) ∧ Below w.heap.size w (sev w1 w.heap.size (.slice none 0 0) 0 0 0 0 0 0)) := hideP ⟨sev_heap HP1.out.box _ _ _ _ _ _ _, sev_below HP1.out.bel (Nat.le_refl _) _ _ _ _ _ _ _⟩
    go_wp2
    exact bodyPost_ret (v := packV (.slice none 0 0) ⟨0, 0, 0, 0, 0, 0⟩) (results_one_cell rfl _ _ w.heap.size _ rfl (loadPack HF.out.1)) rfl ⟨HF.out.2, by rw [HPR.out]; exact rfl⟩
end Go.Proofs.YticalmdhbgkbbaaGreat

namespace Go.Proofs.YticalmdhbgkbbaaGreat
open Go.RowKit
set_option linter.unusedVariables false
set_option linter.unusedSimpArgs false

set_option maxRecDepth 20000 in
set_option maxHeartbeats 8000000 in
theorem vack_yes {v : Value} {xs : List Nd} {w : World} {R B0 : Nat} {g p : Value} (deep mode size : Int) (hdp : 0 ≤ deep) (B : Bun w R 7 (vpS xs deep).h 0 (vpS xs deep).d (vpS xs deep).w g p) (og : w.ownsRow B0 50 5 g (vpS xs deep).gs.length (f5 (vpS xs deep).gs)) (op : w.ownsRow B0 3 1 p (gluesAt xs (begins xs)).length ((natI (gluesAt xs (begins xs))).map (Value.int .i64))) (hN : NN 0 w v xs) (hl : listB xs = true) (hfs : fitsB size = true) (hno : (decide ((vpS xs deep).gs.length ≤ 10000) && fitsB (vpS xs deep).w && fitsB (vpTo xs deep mode size)) = true) :
    Calls Tryz.prog 47 #[.pointer (some ⟨R, 0, none⟩), v, .int .i64 mode, .int .i64 size] w fun e w' => Below w.heap.size w w' ∧ PakV xs deep mode size w.heap.size (vrgB xs deep mode size) e w' := by
  have hin := vpS_in hl hdp
  have hbl := begins_len hl
  obtain ⟨gs, hgs⟩ : ∃ gs, gs = (vpS xs deep).gs := ⟨_, rfl⟩
  have HW : Hid (∀ W, Below w.heap.size w W → Calls Tryz.prog 82 #[.pointer (some ⟨R, 0, none⟩), .int .i64 mode, .int .i64 size] W fun e w' => e = .returned (.int .i64 (vpTo xs deep mode size)) ∧ Below W.heap.size W w') := hideP (fun W hW => wanted_any mode size (B.below hW) (own_GRow (ownG_below og hW) rfl) (fun x hx => by
      have h := hin.ok x hx
      unfold Shr.Gl.ok Shr.okB Shr.fitsB at h
      simp only [Bool.and_eq_true, decide_eq_true_eq] at h
      omega) (by have := hin.n; omega) ⟨by have := hin.w1; omega, by have := hin.w2; omega⟩ (of_decide_eq_true hfs))
  have hyes := hno
  simp only [Bool.and_eq_true, decide_eq_true_eq] at hyes
  obtain ⟨⟨hc1, hfw⟩, hft⟩ := hyes
  have hgl : Shr.glsOk (vpS xs deep).gs = true := by
    unfold Shr.glsOk
    rw [show (vpS xs deep).gs.all (fun g => g.ok) = true from List.all_eq_true.2 (fun g hg => hin.ok g hg), decide_eq_true hc1]
    rfl
  have HSH : Hid (∀ W, Below w.heap.size w W → Calls Tryz.prog 83 #[g, .int .i64 (vpS xs deep).w, .int .i64 (vpTo xs deep mode size)] W fun e w' => ∃ O : Nat, e = .returned (.tuple #[.slice (some ⟨O, 0, none⟩) (vpS xs deep).gs.length (vpS xs deep).gs.length, (Shr.shareS (vpS xs deep).gs (vpQ xs deep mode size)).v]) ∧ w'.ownsRow W.heap.size 2 1 (.slice (some ⟨O, 0, none⟩) (vpS xs deep).gs.length (vpS xs deep).gs.length) (vpS xs deep).gs.length ((vpL xs deep mode size).map (Value.int .i64)) ∧ Below W.heap.size W w') := hideP (fun W hW => Shr.implShare_ok (vpS xs deep).w (vpTo xs deep mode size) (vpQ xs deep mode size) (own_GRow (ownG_below og hW) rfl) hgl hfw hft rfl)
  have FC1 : Hid (∀ W, Calls Tryz.prog 69 #[.int .i64 (vpS xs deep).w] W fun e w' => e = .returned (.bool true) ∧ w' = W) := hideP (fun W => by rw [← hfw]; exact implFits_any _ _)
  have FC2 : Hid (∀ W, Calls Tryz.prog 69 #[.int .i64 (vpTo xs deep mode size)] W fun e w' => e = .returned (.bool true) ∧ w' = W) := hideP (fun W => by rw [← hft]; exact implFits_any _ _)
  have HAR : Hid (∀ W, Below w.heap.size w W → Calls Tryz.prog 85 #[.pointer (some ⟨R, 0, none⟩), .int .i64 (vpTo xs deep mode size), .int .i64 (xs.length : Int)] W fun e w' => e = .returned (.agg #[.int .i64 7, .int .i64 (vpS xs deep).h, .int .i64 (vpTo xs deep mode size), .int .i64 (vpS xs deep).d, .int .i64 0, .int .i64 0, .int .i64 0, .int .i64 0, .int .i64 0, .int .i64 0, .int .i64 0, .int .i64 0, .int .i64 0, .string ⟨#[]⟩, .int .i64 (xs.length : Int)]) ∧ Below W.heap.size W w') := hideP (fun W hW => around7_any (vpTo xs deep mode size) xs.length (B.below hW))
  obtain ⟨S, hS⟩ : ∃ S, S = Shr.shareS (vpS xs deep).gs (vpQ xs deep mode size) := ⟨_, rfl⟩
  obtain ⟨z0, z1, z2, z3, z4, z5⟩ := S
  have hSV : (Shr.shareS (vpS xs deep).gs (vpQ xs deep mode size)).v = Shr.setV z0 z1 z2 z3 z4 z5 := by rw [← hS]
  rw [hSV] at HSH
  have HSS : Hid (Shr.shareS (vpS xs deep).gs (vpQ xs deep mode size) = ⟨z0, z1, z2, z3, z4, z5⟩) := hideP hS.symm
  rw [← vpS_n xs deep] at op
  have HB := hideP B
  have HG := hideP og
  have HP := hideP op
  have HN := hideP hN
  have HLI := hideP hl
  have HNO := hideP hno
  have HNW : Hid ((vpS xs deep).gs.length = (gluesAt xs (begins xs)).length) := hideP (vpS_n xs deep)
  obtain ⟨ga, gc, rfl⟩ := ownG_shape og
  obtain ⟨pa, pc, rfl⟩ := ownG_shape op
  obtain ⟨tt, htt⟩ : ∃ tt, tt = vpTo xs deep mode size := ⟨_, rfl⟩
  have HTT := hideP htt
  rw [← htt] at HW HSH FC2 HAR
  obtain ⟨m, hm⟩ : ∃ m, m = (vpS xs deep).gs.length := ⟨_, rfl⟩
  have HM := hideP hm
  rw [← hm] at HB HG HSH HP
  have HLL : Hid ((vpL xs deep mode size).length = m) := hideP (by rw [vpL_len, hm, vpS_n])
  have HPC : Hid (0 < m → ∃ pb, pa = some ⟨pb, 0, none⟩ ∧ ∀ j, j < m → pb < w.heap.size ∧ w.cell? ⟨pb, j, none⟩ = some (.int .i64 (((gluesAt xs (begins xs)).getD j 0 : Nat) : Int))) := hideP (fun hp => by
    have h0 := HP.out
    rcases h0.2 with ⟨e, h1⟩ | ⟨pb, c, cur, e, _, hh, _⟩
    · omega
    · cases e
      exact ⟨pb, rfl, fun j hj => ⟨(Array.getElem?_eq_some_iff.1 hh).1, natI_at h0 (by rw [hm, vpS_n]) hj⟩⟩)
  have hRw := B.lt
  have HC : Hid (∀ W, Below w.heap.size w W → W.cell? ⟨R, 6, none⟩ = some (.int .i64 (vpS xs deep).w) ∧ W.cell? ⟨R, 7, none⟩ = some (.slice ga m gc) ∧ W.cell? ⟨R, 8, none⟩ = some (.slice pa m pc)) := hideP (fun W hW => ⟨(HB.out.below hW).cells.2.2.2.2.2.2.1, (HB.out.below hW).cells.2.2.2.2.2.2.2.1, (HB.out.below hW).cells.2.2.2.2.2.2.2.2⟩)
  have HPB : Hid (vrgB xs deep mode size = listB (vpN xs deep mode size)) := hideP (by unfold vrgB; rw [hno, Bool.true_and])
  have hd : decide ((10000 : Int) < (m : Int)) = false := by simp; omega
  have hd0 : ¬ (10000 : Int) < (m : Int) := by omega
  obtain ⟨n, hn⟩ : ∃ n, n = xs.length := ⟨_, rfl⟩
  have HNX := hideP hn
  have hn2 : n ≤ 20000 := by rw [hn]; exact (allOk hl).len
  rw [← hn] at HAR
  obtain ⟨va, vc, hvs⟩ : ∃ a c, v = .slice a n c := by
    rcases hN with ⟨rfl, rfl⟩ | ⟨b, off, cap, rfl, _⟩
    · exact ⟨_, _, by rw [hn]; rfl⟩
    · exact ⟨_, _, by rw [hn]⟩
  subst hvs
  clear og op B hN hl hfs htt hgs hm hin hbl hno hS hSV hfw hft hgl hn
  go_enter Tryz.func47, Tryz.ntmps47
  go_wp2_with fail
  refine (HW.out _ (below1 _ _)).mono ?_
  rintro e w1 ⟨rfl, hb1⟩
  have HP1 : Hid (PB w w1) := hideP ((PB.start w).below hb1)
  clear hb1 HW
  obtain ⟨c6, c7, c8⟩ := HC.out w1 HP1.out.bel
  go_wp2_with (go_at_call 69; first | (refine (FC1.out _).mono ?_; rintro _ w9 ⟨rfl, h9⟩; have h9' := h9.symm; subst h9'; clear h9) | (refine (FC2.out _).mono ?_; rintro _ w9 ⟨rfl, h9⟩; have h9' := h9.symm; subst h9'; clear h9))
  have hS1 : w1.drew.cell? ⟨R, 6, none⟩ = some (.int .i64 (vpS xs deep).w) ∧ w1.drew.cell? ⟨R, 7, none⟩ = some (.slice ga m gc) := ⟨c6, c7⟩
  refine wp_region_held_drew (S := fun x => x.cell? ⟨R, 6, none⟩ = some (.int .i64 (vpS xs deep).w) ∧ x.cell? ⟨R, 7, none⟩ = some (.slice ga m gc)) (by kernel_rfl) hS1 (fun hS => ?_)
  refine wpAnyH_take (i := 0) (v := .pointer (some ⟨R, 0, none⟩)) rfl (by kernel_rfl) (by kernel_rfl) (by kernel_rfl) (fun _ _ _ h => h) (Or.inl ⟨by first | rfl | go_simp, fun wx hx => by obtain ⟨hx1, hx2⟩ := hx; go_simp⟩) hS ?_
  try simp only [Act.put, List.getElem_toArray, List.getElem_cons_zero, List.getElem_cons_succ, List.setIfInBounds_toArray, List.set_cons_zero, List.set_cons_succ]
  refine wpAnyH_take (i := 1) (v := .pointer (some ⟨R, 0, none⟩)) rfl (by kernel_rfl) (by kernel_rfl) (by kernel_rfl) (fun _ _ _ h => h) (Or.inl ⟨by first | rfl | go_simp, fun wx hx => by obtain ⟨hx1, hx2⟩ := hx; go_simp⟩) hS ?_
  try simp only [Act.put, List.getElem_toArray, List.getElem_cons_zero, List.getElem_cons_succ, List.setIfInBounds_toArray, List.set_cons_zero, List.set_cons_succ]
  refine wpAnyH_take (i := 2) (v := .pointer (some ⟨R, 7, none⟩)) rfl (by kernel_rfl) (by kernel_rfl) (by kernel_rfl) (fun _ _ _ h => h) (Or.inl ⟨by first | rfl | go_simp, fun wx hx => by obtain ⟨hx1, hx2⟩ := hx; go_simp⟩) hS ?_
  try simp only [Act.put, List.getElem_toArray, List.getElem_cons_zero, List.getElem_cons_succ, List.setIfInBounds_toArray, List.set_cons_zero, List.set_cons_succ]
  refine wpAnyH_take (i := 3) (v := .slice ga m gc) rfl (by kernel_rfl) (by kernel_rfl) (by kernel_rfl) (fun _ _ _ h => h) (Or.inl ⟨by first | rfl | go_simp, fun wx hx => by obtain ⟨hx1, hx2⟩ := hx; go_simp⟩) hS ?_
  try simp only [Act.put, List.getElem_toArray, List.getElem_cons_zero, List.getElem_cons_succ, List.setIfInBounds_toArray, List.set_cons_zero, List.set_cons_succ]
  refine wpAnyH_take (i := 4) (v := .pointer (some ⟨R, 0, none⟩)) rfl (by kernel_rfl) (by kernel_rfl) (by kernel_rfl) (fun _ _ _ h => h) (Or.inl ⟨by first | rfl | go_simp, fun wx hx => by obtain ⟨hx1, hx2⟩ := hx; go_simp⟩) hS ?_
  try simp only [Act.put, List.getElem_toArray, List.getElem_cons_zero, List.getElem_cons_succ, List.setIfInBounds_toArray, List.set_cons_zero, List.set_cons_succ]
  refine wpAnyH_take (i := 5) (v := .pointer (some ⟨R, 0, none⟩)) rfl (by kernel_rfl) (by kernel_rfl) (by kernel_rfl) (fun _ _ _ h => h) (Or.inl ⟨by first | rfl | go_simp, fun wx hx => by obtain ⟨hx1, hx2⟩ := hx; go_simp⟩) hS ?_
  try simp only [Act.put, List.getElem_toArray, List.getElem_cons_zero, List.getElem_cons_succ, List.setIfInBounds_toArray, List.set_cons_zero, List.set_cons_succ]
  refine wpAnyH_take (i := 6) (v := .pointer (some ⟨R, 6, none⟩)) rfl (by kernel_rfl) (by kernel_rfl) (by kernel_rfl) (fun _ _ _ h => h) (Or.inl ⟨by first | rfl | go_simp, fun wx hx => by obtain ⟨hx1, hx2⟩ := hx; go_simp⟩) hS ?_
  try simp only [Act.put, List.getElem_toArray, List.getElem_cons_zero, List.getElem_cons_succ, List.setIfInBounds_toArray, List.set_cons_zero, List.set_cons_succ]
  refine wpAnyH_take (i := 7) (v := .int .i64 (vpS xs deep).w) rfl (by kernel_rfl) (by kernel_rfl) (by kernel_rfl) (fun _ _ _ h => h) (Or.inl ⟨by first | rfl | go_simp, fun wx hx => by obtain ⟨hx1, hx2⟩ := hx; go_simp⟩) hS ?_
  try simp only [Act.put, List.getElem_toArray, List.getElem_cons_zero, List.getElem_cons_succ, List.setIfInBounds_toArray, List.set_cons_zero, List.set_cons_succ]
  refine wpAnyH_take (i := 8) (v := .int .i64 tt) rfl (by kernel_rfl) (by kernel_rfl) (by kernel_rfl) (fun _ _ _ h => h) (Or.inl ⟨by first | rfl | go_simp, fun wx hx => by obtain ⟨hx1, hx2⟩ := hx; go_simp⟩) hS ?_
  try simp only [Act.put, List.getElem_toArray, List.getElem_cons_zero, List.getElem_cons_succ, List.setIfInBounds_toArray, List.set_cons_zero, List.set_cons_succ]
  refine wpAnyH_ready (rs := [9, 13]) (by kernel_rfl) (by simp) ?_
  refine AllReadyH.cons rfl (fun K hK => ?_) (AllReadyH.cons rfl (fun K hK => ?_) AllReadyH.nil)
  · rw [if_pos (by first | rfl | go_simp)]
    go_simp
    go_at_call 83
    refine (HSH.out _ (HP1.out.bel.drew)).mono ?_
    rintro e w2 ⟨O, rfl, ho2, hb2⟩
    have HP2 : Hid (PB w w2) := hideP (HP1.out.below (below_more ((Below.refl _ _).drew) hb2 (Nat.le_refl _)))
    have HO2 : Hid (w2.ownsRow w.heap.size 2 1 (.slice (some ⟨O, 0, none⟩) m m) m ((vpL xs deep mode size).map (Value.int .i64))) := hideP (ownG_mono ho2 HP1.out.bel.size)
    clear ho2 hb2
    obtain ⟨k6, k7, k8⟩ := HC.out w2 HP2.out.bel
    refine hK.out _ _ ⟨k6, k7⟩ (fun hS => ?_)
    try simp only [Act.put, List.getElem_toArray, List.getElem_cons_zero, List.getElem_cons_succ, List.setIfInBounds_toArray, List.set_cons_zero, List.set_cons_succ]
    clear hK K
    refine wpAnyH_take (i := 10) (v := .tuple #[.slice (some ⟨O, 0, none⟩) m m, Shr.setV z0 z1 z2 z3 z4 z5]) rfl (by kernel_rfl) (by kernel_rfl) (by kernel_rfl) (fun _ _ _ h => h) (Or.inl ⟨by first | rfl | go_simp, fun wx hx => by obtain ⟨hx1, hx2⟩ := hx; go_simp⟩) hS ?_
    try simp only [Act.put, List.getElem_toArray, List.getElem_cons_zero, List.getElem_cons_succ, List.setIfInBounds_toArray, List.set_cons_zero, List.set_cons_succ]
    refine wpAnyH_take (i := 11) (v := .slice (some ⟨O, 0, none⟩) m m) rfl (by kernel_rfl) (by kernel_rfl) (by kernel_rfl) (fun _ _ _ h => h) (Or.inl ⟨by first | rfl | go_simp, fun wx hx => by obtain ⟨hx1, hx2⟩ := hx; go_simp⟩) hS ?_
    try simp only [Act.put, List.getElem_toArray, List.getElem_cons_zero, List.getElem_cons_succ, List.setIfInBounds_toArray, List.set_cons_zero, List.set_cons_succ]
    refine wpAnyH_take (i := 12) (v := Shr.setV z0 z1 z2 z3 z4 z5) rfl (by kernel_rfl) (by kernel_rfl) (by kernel_rfl) (fun _ _ _ h => h) (Or.inl ⟨by first | rfl | go_simp, fun wx hx => by obtain ⟨hx1, hx2⟩ := hx; go_simp⟩) hS ?_
    try simp only [Act.put, List.getElem_toArray, List.getElem_cons_zero, List.getElem_cons_succ, List.setIfInBounds_toArray, List.set_cons_zero, List.set_cons_succ]
    refine wpAnyH_ready (rs := [13]) (by kernel_rfl) (by simp) ?_
    refine AllReadyH.cons rfl (fun K hK => ?_) AllReadyH.nil
    rw [if_pos (by first | rfl | go_simp)]
    go_simp
    obtain ⟨w3, hw3⟩ : ∃ w3, w3 = w2.alloc (.cells #[.int .i64 0, .int .i64 0, .int .i64 0, .int .i64 0, .int .i64 0, .int .i64 0] 26) := ⟨_, rfl⟩
    obtain ⟨T, hT⟩ : ∃ T, T = w2.heap.size := ⟨_, rfl⟩
    rw [← hw3, ← hT]
    have HP3 : Hid (PB w w3) := hideP (by rw [hw3]; exact HP2.out.below (below1 _ _))
    have HT3 : Hid (w3.heap[T]? = some (Shr.setO 0 0 0 0 0 0)) := hideP (by rw [hw3, hT]; exact heap_alloc_new w2 _)
    have HO3 : Hid (w3.ownsRow w.heap.size 2 1 (.slice (some ⟨O, 0, none⟩) m m) m ((vpL xs deep mode size).map (Value.int .i64))) := hideP (by rw [hw3]; exact HO2.out.alloc _)
    have hwT : w.heap.size < T := by rw [hT]; exact (Array.getElem?_eq_some_iff.1 HP2.out.box).1
    clear hw3 hT k6 k7 k8 HP2 HO2
    obtain ⟨k6, k7, k8⟩ := HC.out w3 HP3.out.bel
    refine hK.out _ _ ⟨k6, k7⟩ (fun hS => ?_)
    try simp only [Act.put, List.getElem_toArray, List.getElem_cons_zero, List.getElem_cons_succ, List.setIfInBounds_toArray, List.set_cons_zero, List.set_cons_succ]
    clear hK K
    refine wpAnyH_take (i := 14) (v := .slice (some ⟨O, 0, none⟩) m m) rfl (by kernel_rfl) (by kernel_rfl) (by kernel_rfl) (fun _ _ _ h => h) (Or.inl ⟨by first | rfl | go_simp, fun wx hx => by obtain ⟨hx1, hx2⟩ := hx; go_simp⟩) hS ?_
    try simp only [Act.put, List.getElem_toArray, List.getElem_cons_zero, List.getElem_cons_succ, List.setIfInBounds_toArray, List.set_cons_zero, List.set_cons_succ]
    have t0 := cell_of_row w3 T 0 _ 26 _ HT3.out
    have t1 := cell_of_row w3 T 1 _ 26 _ HT3.out
    have t2 := cell_of_row w3 T 2 _ 26 _ HT3.out
    have t3 := cell_of_row w3 T 3 _ 26 _ HT3.out
    have t4 := cell_of_row w3 T 4 _ 26 _ HT3.out
    have t5 := cell_of_row w3 T 5 _ 26 _ HT3.out
    have fT : ∀ j, w3.frozen? ⟨T, j, none⟩ = false := fun j => frozen_of_row w3 T j _ _ HT3.out
    have HP4 : Hid (PB w (Shr.six w3 T z0 z1 z2 z3 z4 z5)) := hideP (pb_six HP3.out hwT z0 z1 z2 z3 z4 z5)
    obtain ⟨j6, j7, j8⟩ := HC.out _ HP4.out.bel
    refine wpAnyH_ready (rs := [15]) (by kernel_rfl) (by simp) ?_
    refine AllReadyH.cons rfl (fun K hK => ?_) AllReadyH.nil
    rw [if_pos (by first | rfl | go_simp)]
    go_simp
    refine hK.out _ _ ⟨j6, j7⟩ (fun hS => ?_)
    try simp only [Act.put, List.getElem_toArray, List.getElem_cons_zero, List.getElem_cons_succ, List.setIfInBounds_toArray, List.set_cons_zero, List.set_cons_succ]
    clear hK K
    refine wpAnyH_done (by kernel_rfl) ?_ _
    obtain ⟨w4, hw4⟩ : ∃ w4, w4 = ((((((w3.setCell ⟨T, 0, none⟩ (.int .i64 z0)).setCell ⟨T, 1, none⟩ (.int .i64 z1)).setCell ⟨T, 2, none⟩ (.int .i64 z2)).setCell ⟨T, 3, none⟩ (.int .i64 z3)).setCell ⟨T, 4, none⟩ (.int .i64 z4)).setCell ⟨T, 5, none⟩ (.int .i64 z5)) := ⟨_, rfl⟩
    rw [← hw4]
    have HP5 : Hid (PB w w4) := hideP (by rw [hw4]; exact HP4.out)
    have HT4 : Hid (w4.heap[T]? = some (Shr.setO z0 z1 z2 z3 z4 z5)) := hideP (by rw [hw4]; exact Shr.six_heap HT3.out _ _ _ _ _ _)
    have HO4 : Hid (w4.ownsRow w.heap.size 2 1 (.slice (some ⟨O, 0, none⟩) m m) m ((vpL xs deep mode size).map (Value.int .i64))) := hideP (by rw [hw4]; exact own_six HO3.out HT3.out (by decide) _ _ _ _ _ _)
    clear hw4 t0 t1 t2 t3 t4 t5 fT j6 j7 j8 k6 k7 k8 hS HP3 HT3 HO3 HP4 hS1
    as_aux_lemma =>
    obtain ⟨i0, hi, hy0, hy1, hy2⟩ := info_parts Tryz.info57c
    obtain ⟨i1, hi1, hz0, hz1, hz2⟩ := info_parts Tryz.info24
    go_wp2_with fail
    refine (HAR.out _ HP5.out.bel).mono ?_
    rintro e w5 ⟨rfl, hb5⟩
    go_simp
    go_step
    refine wpList_bs1 rfl 24 1 0 _ rfl rfl (run_bs1 w5 7 (vpS xs deep).h tt (vpS xs deep).d n) ?_
    obtain ⟨w6, hw6⟩ : ∃ w6, w6 = w5.alloc (.cells #[.int .i64 7, .int .i64 (vpS xs deep).h, .int .i64 tt, .int .i64 (vpS xs deep).d, .int .i64 0, .int .i64 0, .int .i64 0, .int .i64 0, .int .i64 0, .int .i64 0, .int .i64 0, .int .i64 0, .int .i64 0, .string ⟨#[]⟩, .int .i64 (n : Int)] 77) := ⟨_, rfl⟩
    obtain ⟨A1, hA1⟩ : ∃ A1, A1 = w5.heap.size := ⟨_, rfl⟩
    rw [← hw6, ← hA1]
    have B46 : Below w4.heap.size w4 w6 := by rw [hw6]; exact below_more hb5 (below1 _ _) hb5.size
    have HP6 : Hid (PB w w6) := hideP (HP5.out.below B46)
    have HT6 : Hid (w6.heap[T]? = some (Shr.setO z0 z1 z2 z3 z4 z5)) := hideP ((B46.block _ (Array.getElem?_eq_some_iff.1 HT4.out).1).trans HT4.out)
    have HO6 : Hid (w6.ownsRow w.heap.size 2 1 (.slice (some ⟨O, 0, none⟩) m m) m ((vpL xs deep mode size).map (Value.int .i64))) := hideP (ownG_below HO4.out B46)
    have HA6 : Hid (w6.ownsRow w.heap.size 77 15 (.slice (some ⟨A1, 0, none⟩) 1 1) 1 (flatN [boxN 7 (vpS xs deep).h tt (vpS xs deep).d n])) := hideP (by rw [hw6, hA1]; exact own_made1 w5 (Nat.le_trans HP5.out.bel.size hb5.size) #[.int .i64 7, .int .i64 (vpS xs deep).h, .int .i64 tt, .int .i64 (vpS xs deep).d, .int .i64 0, .int .i64 0, .int .i64 0, .int .i64 0, .int .i64 0, .int .i64 0, .int .i64 0, .int .i64 0, .int .i64 0, .string ⟨#[]⟩, .int .i64 (n : Int)] rfl)
    clear hw6 hA1 hb5 B46 HP5 HT4 HO4
    go_wp2_with fail
    refine (copyNodes_any (nn_below HN.out HP6.out.bel) (by rw [← HNX.out]; omega) (fun i hi => by have := (allOk HLI.out).text i hi; omega)).mono ?_
    rintro e w7 ⟨vn, rfl, ho7, hb7⟩
    rw [← HNX.out] at ho7
    obtain ⟨na, nc, rfl⟩ := ownG_shape ho7
    go_simp
    go_step
    refine wpList_bs2 rfl 179 2 0 1 _ _ rfl rfl rfl (run_bs2 w7 _ _ _ _ _ _) ?_
    obtain ⟨w8, hw8⟩ : ∃ w8, w8 = w7.alloc (.cells #[.slice (some ⟨A1, 0, none⟩) 1 1, .slice na n nc] 24) := ⟨_, rfl⟩
    obtain ⟨A2, hA2⟩ : ∃ A2, A2 = w7.heap.size := ⟨_, rfl⟩
    rw [← hw8, ← hA2]
    have B68 : Below w6.heap.size w6 w8 := by rw [hw8]; exact below_more hb7 (below1 _ _) hb7.size
    have HP8 : Hid (PB w w8) := hideP (HP6.out.below B68)
    have HT8 : Hid (w8.heap[T]? = some (Shr.setO z0 z1 z2 z3 z4 z5)) := hideP ((B68.block _ (Array.getElem?_eq_some_iff.1 HT6.out).1).trans HT6.out)
    have HO8 : Hid (w8.ownsRow w.heap.size 2 1 (.slice (some ⟨O, 0, none⟩) m m) m ((vpL xs deep mode size).map (Value.int .i64))) := hideP (ownG_below HO6.out B68)
    have HQ1 : Hid (Put w8 (.slice (some ⟨A1, 0, none⟩) 1 1) 1 (flatN [boxN 7 (vpS xs deep).h tt (vpS xs deep).d n])) := hideP (put_own (ownG_below HA6.out B68) (flatN_one _))
    have HQ2 : Hid (Put w8 (.slice na n nc) n (flatN xs)) := hideP (by rw [hw8]; exact put_own (ho7.alloc _) (flatN_one _))
    have d0 : w8.cell? ⟨A2, 0, none⟩ = some (.slice (some ⟨A1, 0, none⟩) 1 1) := by rw [hw8, hA2]; simp [go_sem]
    have d1 : w8.cell? ⟨A2, 1, none⟩ = some (.slice na n nc) := by rw [hw8, hA2]; simp [go_sem]
    clear hw8 hA2 ho7 hb7 B68 HP6 HT6 HO6 HA6
    go_wp2_with fail
    refine (concat_two d0 d1 HQ1.out HQ2.out (by omega) (by omega) (by omega)).mono ?_
    rintro e w9 ⟨u9, rfl, ho9, hb9⟩
    have HP9 : Hid (PB w w9) := hideP (HP8.out.below hb9)
    have HT9 : Hid (w9.heap[T]? = some (Shr.setO z0 z1 z2 z3 z4 z5)) := hideP ((hb9.block _ (Array.getElem?_eq_some_iff.1 HT8.out).1).trans HT8.out)
    have HO9 : Hid (w9.ownsRow w.heap.size 2 1 (.slice (some ⟨O, 0, none⟩) m m) m ((vpL xs deep mode size).map (Value.int .i64))) := hideP (ownG_below HO8.out hb9)
    obtain ⟨N1, hN1⟩ : ∃ N1, N1 = 1 + n := ⟨_, rfl⟩
    rw [← hN1] at ho9
    have hN1p : 0 < N1 := by omega
    have hN1b : N1 ≤ 20001 := by omega
    have HN1 := hideP hN1
    obtain ⟨ua, uc, rfl, hug⟩ := own_shape ho9
    obtain ⟨g9, rfl, hg9, _⟩ := hug hN1p
    have hgw : w.heap.size ≤ g9 := Nat.le_trans HP8.out.bel.size hg9
    have HX9 : Hid (w9.ownsRow w.heap.size 77 15 (.slice (some ⟨g9, 0, none⟩) N1 uc) N1 (flatN (boxN 7 (vpS xs deep).h tt (vpS xs deep).d n :: setL ((gluesAt xs (begins xs)).take 0) ((vpL xs deep mode size).take 0) xs))) := hideP (ownG_mono ho9 HP8.out.bel.size)
    clear ho9 hb9 hug hg9 HP8 HT8 HO8 HQ1 HQ2 d0 d1 hN1
    obtain ⟨k6, k7, k8⟩ := HC.out w9 HP9.out.bel
    go_wp2_with fail
    go_loopw [67] (fun i wr => ∃ j : Nat, j ≤ m ∧ i = .int .i64 j ∧ PInv w wr T O g9 N1 uc m (boxN 7 (vpS xs deep).h tt (vpS xs deep).d n :: setL ((gluesAt xs (begins xs)).take j) ((vpL xs deep mode size).take j) xs) ((vpL xs deep mode size).map (Value.int .i64)) z0 z1 z2 z3 z4 z5) (fun i _ => m - (intOf i).toNat)
    case atStart => exact ⟨0, by omega, rfl, HP9.out, HT9.out, HO9.out, HX9.out⟩
    case round =>
      obtain ⟨j, hj, rfl, hinv⟩ := hrel
      have HI := hideP hinv
      clear hinv
      by_cases hjm : j < m
      · have hji : (j : Int) < (m : Int) := by omega
        obtain ⟨pb, rfl, hpb⟩ := HPC.out (by omega)
        have e0 := (HI.out.pb.bel.cell (p := ⟨pb, j, none⟩) (hpb j hjm).1).trans (hpb j hjm).2
        have e1 : wr.cell? ⟨O, j, none⟩ = some (.int .i64 ((vpL xs deep mode size).getD j 0)) := by
          have h1 := World.ownsRow.cellAt HI.out.wid j (by omega)
          rw [h1, List.getElem?_map, List.getElem?_eq_getElem (show j < (vpL xs deep mode size).length by rw [HLL.out]; exact hjm)]
          simp [List.getD, List.getElem?_eq_getElem (show j < (vpL xs deep mode size).length by rw [HLL.out]; exact hjm)]
        have HNX2 : Hid (boxN 7 (vpS xs deep).h tt (vpS xs deep).d n :: setL ((gluesAt xs (begins xs)).take (j + 1)) ((vpL xs deep mode size).take (j + 1)) xs = (boxN 7 (vpS xs deep).h tt (vpS xs deep).d n :: setL ((gluesAt xs (begins xs)).take j) ((vpL xs deep mode size).take j) xs).set ((gluesAt xs (begins xs)).getD j 0 + 1) (((boxN 7 (vpS xs deep).h tt (vpS xs deep).d n :: setL ((gluesAt xs (begins xs)).take j) ((vpL xs deep mode size).take j) xs).getD ((gluesAt xs (begins xs)).getD j 0 + 1) Nd.none).wide ((vpL xs deep mode size).getD j 0))) := hideP (set_next (by rw [← HNW.out, ← HM.out]; exact hjm) (by rw [HLL.out, HM.out, HNW.out]) _)
        obtain ⟨lv, hlv⟩ : ∃ lv, lv = (vpL xs deep mode size).getD j 0 := ⟨_, rfl⟩
        obtain ⟨pn, hpn⟩ : ∃ pn, pn = (gluesAt xs (begins xs)).getD j 0 := ⟨_, rfl⟩
        rw [← hlv] at e1 HNX2
        rw [← hpn] at e0 HNX2
        have hpl : pn < n := by
          rw [hpn, HNX.out]
          refine (glues_in (xs := xs) ?_).1
          have hjl : j < (gluesAt xs (begins xs)).length := by rw [← HNW.out, ← HM.out]; exact hjm
          rw [List.getD_eq_getElem?_getD, List.getElem?_eq_getElem hjl]
          exact List.getElem_mem hjl
        obtain ⟨X, hX⟩ : ∃ X, X = boxN 7 (vpS xs deep).h tt (vpS xs deep).d n :: setL ((gluesAt xs (begins xs)).take j) ((vpL xs deep mode size).take j) xs := ⟨_, rfl⟩
        rw [← hX] at HI HNX2
        have hXl : X.length = N1 := by rw [hX, List.length_cons, setL_len, ← HNX.out, HN1.out]; omega
        obtain ⟨q, hq⟩ : ∃ q, q = pn + 1 := ⟨_, rfl⟩
        rw [← hq] at HNX2
        have hqN : q < N1 := by rw [HN1.out]; omega
        obtain ⟨x, hx⟩ : ∃ x : Int, x = (pn : Int) := ⟨_, rfl⟩
        rw [← hx] at e0
        have hxq : 1 + x = (q : Int) := by omega
        have hqi : (q : Int) < (N1 : Int) := by omega
        obtain ⟨e2, e3⟩ := own_cell HI.out.own (flatN_at X q (by rw [hXl]; exact hqN) 1 (by omega) (u := .int .i64 (X.getD q Nd.none).wd) rfl)
        obtain ⟨wd0, hwd0⟩ : ∃ z, z = (X.getD q Nd.none).wd := ⟨_, rfl⟩
        rw [← hwd0] at e2
        have HI2 : Hid (PInv w (wr.setCell ⟨g9, q * 15 + 1, none⟩ (.int .i64 lv)) T O g9 N1 uc m (X.set q ((X.getD q Nd.none).wide lv)) ((vpL xs deep mode size).map (Value.int .i64)) z0 z1 z2 z3 z4 z5) := hideP (HI.out.put hXl hqN hgw lv)
        clear hlv hpn hX hwd0 hq hx hXl
        go_wp2
        go_roundw
        case rel => exact ⟨j + 1, by omega, by go_num, by rw [HNX2.out]; exact HI2.out⟩
        case measure => simp [intOf]; omega
      · have hji : ¬ (j : Int) < (m : Int) := by omega
        obtain rfl : j = m := by omega
        have hXX : boxN 7 (vpS xs deep).h tt (vpS xs deep).d n :: setL ((gluesAt xs (begins xs)).take j) ((vpL xs deep mode size).take j) xs = vpN xs deep mode size := by
          unfold vpN
          rw [← HTT.out, ← HNX.out, List.take_of_length_le (by rw [← HNW.out, ← HM.out]; exact Nat.le_refl _), List.take_of_length_le (by rw [HLL.out]; exact Nat.le_refl _)]
        rw [hXX] at HI
        have hXl : (vpN xs deep mode size).length = N1 := by rw [← hXX, List.length_cons, setL_len, ← HNX.out, HN1.out]; omega
        have HLK : Hid (∀ W, Below wr.heap.size wr W → Calls Tryz.prog 78 #[.slice (some ⟨g9, 0, none⟩) N1 uc] W fun e w' => e = .returned (.bool (listB (vpN xs deep mode size))) ∧ Below W.heap.size W w') := hideP (fun W hW => implListOk_any (SRow.mono ndStable (own_NRow (ownG_below HI.out.own hW) hXl) (Nat.zero_le _)) (by rw [hXl]; omega))
        have HXL := hideP hXl
        clear hXX hXl
        go_wp2_with fail
        refine (HLK.out _ (Below.refl _ _)).mono ?_
        rintro e w9 ⟨rfl, hb10⟩
        have HP9 : Hid (PB w w9) := hideP (HI.out.pb.below hb10)
        have HT9 : Hid (w9.heap[T]? = some (Shr.setO z0 z1 z2 z3 z4 z5)) := hideP ((hb10.block _ (Array.getElem?_eq_some_iff.1 HI.out.set).1).trans HI.out.set)
        have HX9 : Hid (w9.ownsRow w.heap.size 77 15 (.slice (some ⟨g9, 0, none⟩) N1 uc) N1 (flatN (vpN xs deep mode size))) := hideP (ownG_below HI.out.own hb10)
        clear hb10
        obtain ⟨lb, hlb⟩ : ∃ lb, lb = listB (vpN xs deep mode size) := ⟨_, rfl⟩
        rw [← hlb]
        have HPR : Hid (vrgB xs deep mode size = lb) := hideP (by rw [HPB.out, hlb])
        clear hlb
        have t0 := cell_of_row w9 T 0 _ 26 _ HT9.out
        have t1 := cell_of_row w9 T 1 _ 26 _ HT9.out
        have t2 := cell_of_row w9 T 2 _ 26 _ HT9.out
        have t3 := cell_of_row w9 T 3 _ 26 _ HT9.out
        have t4 := cell_of_row w9 T 4 _ 26 _ HT9.out
        have t5 := cell_of_row w9 T 5 _ 26 _ HT9.out
        clear hi hy0 hy1 hy2 hi1 hz0 hz1 hz2 k6 k7 k8 hN1p hN1b hgw hwT hRw hn2 hd hd0 hj hji
        cases lb with
        | false =>
          have HF : Hid ((ans w9 w.heap.size (.slice none 0 0) 0 0 0 0 0 0).heap[w.heap.size]? = some (packO (.slice none 0 0) 0 0 0 0 0 0) ∧ Below w.heap.size w (ans w9 w.heap.size (.slice none 0 0) 0 0 0 0 0 0)) := hideP ⟨ans_heap HP9.out _ _ _ _ _ _ _, ans_below HP9.out _ _ _ _ _ _ _⟩
          go_simp
          (first | go_values | go_skip | go_guarded | go_step | go_upon | go_in | go_back)
          (first | go_values | go_skip | go_guarded | go_step | go_upon | go_in | go_back)
          (first | go_values | go_skip | go_guarded | go_step | go_upon | go_in | go_back)
          (first | go_values | go_skip | go_guarded | go_step | go_upon | go_in | go_back)
          (first | go_values | go_skip | go_guarded | go_step | go_upon | go_in | go_back)
          (first | go_values | go_skip | go_guarded | go_step | go_upon | go_in | go_back)
          (first | go_values | go_skip | go_guarded | go_step | go_upon | go_in | go_back)
          (first | go_values | go_skip | go_guarded | go_step | go_upon | go_in | go_back)
          (first | go_values | go_skip | go_guarded | go_step | go_upon | go_in | go_back)
          (first | go_values | go_skip | go_guarded | go_step | go_upon | go_in | go_back)
          (first | go_values | go_skip | go_guarded | go_step | go_upon | go_in | go_back)
          (first | go_values | go_skip | go_guarded | go_step | go_upon | go_in | go_back)
          (first | go_values | go_skip | go_guarded | go_step | go_upon | go_in | go_back)
          refine wpList_store_row rfl 28 _ _ rfl w.heap.size rfl _ #[.slice none 0 0, .int .i64 0, .int .i64 0, .int .i64 0, .int .i64 0, .int .i64 0, .int .i64 0] rfl 28 HP9.out.box (by kernel_rfl) rfl (by kernel_rfl) ?_
          go_wp2
          exact bodyPost_ret (v := packV (.slice none 0 0) ⟨0, 0, 0, 0, 0, 0⟩) (results_one_cell rfl _ _ w.heap.size _ rfl (loadPack HF.out.1)) rfl ⟨HF.out.2, by rw [HPR.out]; exact rfl⟩
        | true =>
          have HF : Hid ((ans w9 w.heap.size (.slice (some ⟨g9, 0, none⟩) N1 uc) z0 z1 z2 z3 z4 z5).heap[w.heap.size]? = some (packO (.slice (some ⟨g9, 0, none⟩) N1 uc) z0 z1 z2 z3 z4 z5) ∧ Below w.heap.size w (ans w9 w.heap.size (.slice (some ⟨g9, 0, none⟩) N1 uc) z0 z1 z2 z3 z4 z5)) := hideP ⟨ans_heap HP9.out _ _ _ _ _ _ _, ans_below HP9.out _ _ _ _ _ _ _⟩
          have HXF : Hid ((ans w9 w.heap.size (.slice (some ⟨g9, 0, none⟩) N1 uc) z0 z1 z2 z3 z4 z5).ownsRow w.heap.size 77 15 (.slice (some ⟨g9, 0, none⟩) N1 uc) (xs.length + 1) (flatN (vpN xs deep mode size))) := hideP (by rw [show xs.length + 1 = N1 by rw [HN1.out, HNX.out]; omega]; exact ans_own HP9.out HX9.out _ _ _ _ _ _ _)
          go_simp
          (first | go_values | go_skip | go_guarded | go_step | go_upon | go_in | go_back)
          (first | go_values | go_skip | go_guarded | go_step | go_upon | go_in | go_back)
          (first | go_values | go_skip | go_guarded | go_step | go_upon | go_in | go_back)
          (first | go_values | go_skip | go_guarded | go_step | go_upon | go_in | go_back)
          (first | go_values | go_skip | go_guarded | go_step | go_upon | go_in | go_back)
          (first | go_values | go_skip | go_guarded | go_step | go_upon | go_in | go_back)
          (first | go_values | go_skip | go_guarded | go_step | go_upon | go_in | go_back)
          (first | go_values | go_skip | go_guarded | go_step | go_upon | go_in | go_back)
          (first | go_values | go_skip | go_guarded | go_step | go_upon | go_in | go_back)
          (first | go_values | go_skip | go_guarded | go_step | go_upon | go_in | go_back)
          (first | go_values | go_skip | go_guarded | go_step | go_upon | go_in | go_back)
          (first | go_values | go_skip | go_guarded | go_step | go_upon | go_in | go_back)
          (first | go_values | go_skip | go_guarded | go_step | go_upon | go_in | go_back)
          (first | go_values | go_skip | go_guarded | go_step | go_upon | go_in | go_back)
          (first | go_values | go_skip | go_guarded | go_step | go_upon | go_in | go_back)
          (first | go_values | go_skip | go_guarded | go_step | go_upon | go_in | go_back)
          (first | go_values | go_skip | go_guarded | go_step | go_upon | go_in | go_back)
          (first | go_values | go_skip | go_guarded | go_step | go_upon | go_in | go_back)
          (first | go_values | go_skip | go_guarded | go_step | go_upon | go_in | go_back)
          refine wpList_bd2 rfl 28 0 1 _ _ rfl rfl rfl (run_bd28 w9 _ _ _ _ _ _ _ _ _) ?_
          refine wpList_store_row rfl 28 _ _ rfl w.heap.size rfl _ #[.slice (some ⟨g9, 0, none⟩) N1 uc, .int .i64 z0, .int .i64 z1, .int .i64 z2, .int .i64 z3, .int .i64 z4, .int .i64 z5] rfl 28 HP9.out.box (by kernel_rfl) rfl (by kernel_rfl) ?_
          go_wp2
          exact bodyPost_ret (v := packV (.slice (some ⟨g9, 0, none⟩) N1 uc) ⟨z0, z1, z2, z3, z4, z5⟩) (results_one_cell rfl _ _ w.heap.size _ rfl (loadPack HF.out.1)) rfl ⟨HF.out.2, by rw [HPR.out]; exact ⟨_, by rw [HSS.out], HXF.out⟩⟩
  · rw [if_pos (by first | rfl | go_simp)]
    go_simp
    obtain ⟨w2', hw2⟩ : ∃ w2', w2' = (w1.alloc (.cells #[.int .i64 0, .int .i64 0, .int .i64 0, .int .i64 0, .int .i64 0, .int .i64 0] 26)).drew := ⟨_, rfl⟩
    obtain ⟨T, hT⟩ : ∃ T, T = w1.heap.size := ⟨_, rfl⟩
    rw [← hw2, ← hT]
    have HP2 : Hid (PB w w2') := hideP (by rw [hw2]; exact HP1.out.below ((below1 _ _).drew))
    have HT2 : Hid (w2'.heap[T]? = some (Shr.setO 0 0 0 0 0 0)) := hideP (by rw [hw2, hT]; exact heap_alloc_new w1 _)
    have hwT : w.heap.size < T := by rw [hT]; exact (Array.getElem?_eq_some_iff.1 HP1.out.box).1
    clear hw2 hT
    obtain ⟨k6, k7, k8⟩ := HC.out w2' HP2.out.bel
    refine hK.out _ _ ⟨k6, k7⟩ (fun hS => ?_)
    try simp only [Act.put, List.getElem_toArray, List.getElem_cons_zero, List.getElem_cons_succ, List.setIfInBounds_toArray, List.set_cons_zero, List.set_cons_succ]
    clear hK K
    refine wpAnyH_ready (rs := [9]) (by kernel_rfl) (by simp) ?_
    refine AllReadyH.cons rfl (fun K hK => ?_) AllReadyH.nil
    rw [if_pos (by first | rfl | go_simp)]
    go_simp
    go_at_call 83
    refine (HSH.out _ HP2.out.bel).mono ?_
    rintro e w3 ⟨O, rfl, ho2, hb2⟩
    have HP3 : Hid (PB w w3) := hideP (HP2.out.below hb2)
    have HO3 : Hid (w3.ownsRow w.heap.size 2 1 (.slice (some ⟨O, 0, none⟩) m m) m ((vpL xs deep mode size).map (Value.int .i64))) := hideP (ownG_mono ho2 HP2.out.bel.size)
    have HT3 : Hid (w3.heap[T]? = some (Shr.setO 0 0 0 0 0 0)) := hideP ((hb2.block _ (Array.getElem?_eq_some_iff.1 HT2.out).1).trans HT2.out)
    clear ho2 hb2 HT2 k6 k7 k8 HP2
    obtain ⟨k6, k7, k8⟩ := HC.out w3 HP3.out.bel
    refine hK.out _ _ ⟨k6, k7⟩ (fun hS => ?_)
    try simp only [Act.put, List.getElem_toArray, List.getElem_cons_zero, List.getElem_cons_succ, List.setIfInBounds_toArray, List.set_cons_zero, List.set_cons_succ]
    clear hK K
    refine wpAnyH_take (i := 10) (v := .tuple #[.slice (some ⟨O, 0, none⟩) m m, Shr.setV z0 z1 z2 z3 z4 z5]) rfl (by kernel_rfl) (by kernel_rfl) (by kernel_rfl) (fun _ _ _ h => h) (Or.inl ⟨by first | rfl | go_simp, fun wx hx => by obtain ⟨hx1, hx2⟩ := hx; go_simp⟩) hS ?_
    try simp only [Act.put, List.getElem_toArray, List.getElem_cons_zero, List.getElem_cons_succ, List.setIfInBounds_toArray, List.set_cons_zero, List.set_cons_succ]
    refine wpAnyH_take (i := 11) (v := .slice (some ⟨O, 0, none⟩) m m) rfl (by kernel_rfl) (by kernel_rfl) (by kernel_rfl) (fun _ _ _ h => h) (Or.inl ⟨by first | rfl | go_simp, fun wx hx => by obtain ⟨hx1, hx2⟩ := hx; go_simp⟩) hS ?_
    try simp only [Act.put, List.getElem_toArray, List.getElem_cons_zero, List.getElem_cons_succ, List.setIfInBounds_toArray, List.set_cons_zero, List.set_cons_succ]
    refine wpAnyH_take (i := 12) (v := Shr.setV z0 z1 z2 z3 z4 z5) rfl (by kernel_rfl) (by kernel_rfl) (by kernel_rfl) (fun _ _ _ h => h) (Or.inl ⟨by first | rfl | go_simp, fun wx hx => by obtain ⟨hx1, hx2⟩ := hx; go_simp⟩) hS ?_
    try simp only [Act.put, List.getElem_toArray, List.getElem_cons_zero, List.getElem_cons_succ, List.setIfInBounds_toArray, List.set_cons_zero, List.set_cons_succ]
    refine wpAnyH_take (i := 14) (v := .slice (some ⟨O, 0, none⟩) m m) rfl (by kernel_rfl) (by kernel_rfl) (by kernel_rfl) (fun _ _ _ h => h) (Or.inl ⟨by first | rfl | go_simp, fun wx hx => by obtain ⟨hx1, hx2⟩ := hx; go_simp⟩) hS ?_
    try simp only [Act.put, List.getElem_toArray, List.getElem_cons_zero, List.getElem_cons_succ, List.setIfInBounds_toArray, List.set_cons_zero, List.set_cons_succ]
    have t0 := cell_of_row w3 T 0 _ 26 _ HT3.out
    have t1 := cell_of_row w3 T 1 _ 26 _ HT3.out
    have t2 := cell_of_row w3 T 2 _ 26 _ HT3.out
    have t3 := cell_of_row w3 T 3 _ 26 _ HT3.out
    have t4 := cell_of_row w3 T 4 _ 26 _ HT3.out
    have t5 := cell_of_row w3 T 5 _ 26 _ HT3.out
    have fT : ∀ j, w3.frozen? ⟨T, j, none⟩ = false := fun j => frozen_of_row w3 T j _ _ HT3.out
    have HP4 : Hid (PB w (Shr.six w3 T z0 z1 z2 z3 z4 z5)) := hideP (pb_six HP3.out hwT z0 z1 z2 z3 z4 z5)
    obtain ⟨j6, j7, j8⟩ := HC.out _ HP4.out.bel
    refine wpAnyH_ready (rs := [15]) (by kernel_rfl) (by simp) ?_
    refine AllReadyH.cons rfl (fun K hK => ?_) AllReadyH.nil
    rw [if_pos (by first | rfl | go_simp)]
    go_simp
    refine hK.out _ _ ⟨j6, j7⟩ (fun hS => ?_)
    try simp only [Act.put, List.getElem_toArray, List.getElem_cons_zero, List.getElem_cons_succ, List.setIfInBounds_toArray, List.set_cons_zero, List.set_cons_succ]
    clear hK K
    refine wpAnyH_done (by kernel_rfl) ?_ _
    obtain ⟨w4, hw4⟩ : ∃ w4, w4 = ((((((w3.setCell ⟨T, 0, none⟩ (.int .i64 z0)).setCell ⟨T, 1, none⟩ (.int .i64 z1)).setCell ⟨T, 2, none⟩ (.int .i64 z2)).setCell ⟨T, 3, none⟩ (.int .i64 z3)).setCell ⟨T, 4, none⟩ (.int .i64 z4)).setCell ⟨T, 5, none⟩ (.int .i64 z5)) := ⟨_, rfl⟩
    rw [← hw4]
    have HP5 : Hid (PB w w4) := hideP (by rw [hw4]; exact HP4.out)
    have HT4 : Hid (w4.heap[T]? = some (Shr.setO z0 z1 z2 z3 z4 z5)) := hideP (by rw [hw4]; exact Shr.six_heap HT3.out _ _ _ _ _ _)
    have HO4 : Hid (w4.ownsRow w.heap.size 2 1 (.slice (some ⟨O, 0, none⟩) m m) m ((vpL xs deep mode size).map (Value.int .i64))) := hideP (by rw [hw4]; exact own_six HO3.out HT3.out (by decide) _ _ _ _ _ _)
    clear hw4 t0 t1 t2 t3 t4 t5 fT j6 j7 j8 k6 k7 k8 hS HP3 HT3 HO3 HP4 hS1
    as_aux_lemma =>
    obtain ⟨i0, hi, hy0, hy1, hy2⟩ := info_parts Tryz.info57c
    obtain ⟨i1, hi1, hz0, hz1, hz2⟩ := info_parts Tryz.info24
    go_wp2_with fail
    refine (HAR.out _ HP5.out.bel).mono ?_
    rintro e w5 ⟨rfl, hb5⟩
    go_simp
    go_step
    refine wpList_bs1 rfl 24 1 0 _ rfl rfl (run_bs1 w5 7 (vpS xs deep).h tt (vpS xs deep).d n) ?_
    obtain ⟨w6, hw6⟩ : ∃ w6, w6 = w5.alloc (.cells #[.int .i64 7, .int .i64 (vpS xs deep).h, .int .i64 tt, .int .i64 (vpS xs deep).d, .int .i64 0, .int .i64 0, .int .i64 0, .int .i64 0, .int .i64 0, .int .i64 0, .int .i64 0, .int .i64 0, .int .i64 0, .string ⟨#[]⟩, .int .i64 (n : Int)] 77) := ⟨_, rfl⟩
    obtain ⟨A1, hA1⟩ : ∃ A1, A1 = w5.heap.size := ⟨_, rfl⟩
    rw [← hw6, ← hA1]
    have B46 : Below w4.heap.size w4 w6 := by rw [hw6]; exact below_more hb5 (below1 _ _) hb5.size
    have HP6 : Hid (PB w w6) := hideP (HP5.out.below B46)
    have HT6 : Hid (w6.heap[T]? = some (Shr.setO z0 z1 z2 z3 z4 z5)) := hideP ((B46.block _ (Array.getElem?_eq_some_iff.1 HT4.out).1).trans HT4.out)
    have HO6 : Hid (w6.ownsRow w.heap.size 2 1 (.slice (some ⟨O, 0, none⟩) m m) m ((vpL xs deep mode size).map (Value.int .i64))) := hideP (ownG_below HO4.out B46)
    have HA6 : Hid (w6.ownsRow w.heap.size 77 15 (.slice (some ⟨A1, 0, none⟩) 1 1) 1 (flatN [boxN 7 (vpS xs deep).h tt (vpS xs deep).d n])) := hideP (by rw [hw6, hA1]; exact own_made1 w5 (Nat.le_trans HP5.out.bel.size hb5.size) #[.int .i64 7, .int .i64 (vpS xs deep).h, .int .i64 tt, .int .i64 (vpS xs deep).d, .int .i64 0, .int .i64 0, .int .i64 0, .int .i64 0, .int .i64 0, .int .i64 0, .int .i64 0, .int .i64 0, .int .i64 0, .string ⟨#[]⟩, .int .i64 (n : Int)] rfl)
    clear hw6 hA1 hb5 B46 HP5 HT4 HO4
    go_wp2_with fail
    refine (copyNodes_any (nn_below HN.out HP6.out.bel) (by rw [← HNX.out]; omega) (fun i hi => by have := (allOk HLI.out).text i hi; omega)).mono ?_
    rintro e w7 ⟨vn, rfl, ho7, hb7⟩
    rw [← HNX.out] at ho7
    obtain ⟨na, nc, rfl⟩ := ownG_shape ho7
    go_simp
    go_step
    refine wpList_bs2 rfl 179 2 0 1 _ _ rfl rfl rfl (run_bs2 w7 _ _ _ _ _ _) ?_
    obtain ⟨w8, hw8⟩ : ∃ w8, w8 = w7.alloc (.cells #[.slice (some ⟨A1, 0, none⟩) 1 1, .slice na n nc] 24) := ⟨_, rfl⟩
    obtain ⟨A2, hA2⟩ : ∃ A2, A2 = w7.heap.size := ⟨_, rfl⟩
    rw [← hw8, ← hA2]
    have B68 : Below w6.heap.size w6 w8 := by rw [hw8]; exact below_more hb7 (below1 _ _) hb7.size
    have HP8 : Hid (PB w w8) := hideP (HP6.out.below B68)
    have HT8 : Hid (w8.heap[T]? = some (Shr.setO z0 z1 z2 z3 z4 z5)) := hideP ((B68.block _ (Array.getElem?_eq_some_iff.1 HT6.out).1).trans HT6.out)
    have HO8 : Hid (w8.ownsRow w.heap.size 2 1 (.slice (some ⟨O, 0, none⟩) m m) m ((vpL xs deep mode size).map (Value.int .i64))) := hideP (ownG_below HO6.out B68)
    have HQ1 : Hid (Put w8 (.slice (some ⟨A1, 0, none⟩) 1 1) 1 (flatN [boxN 7 (vpS xs deep).h tt (vpS xs deep).d n])) := hideP (put_own (ownG_below HA6.out B68) (flatN_one _))
    have HQ2 : Hid (Put w8 (.slice na n nc) n (flatN xs)) := hideP (by rw [hw8]; exact put_own (ho7.alloc _) (flatN_one _))
    have d0 : w8.cell? ⟨A2, 0, none⟩ = some (.slice (some ⟨A1, 0, none⟩) 1 1) := by rw [hw8, hA2]; simp [go_sem]
    have d1 : w8.cell? ⟨A2, 1, none⟩ = some (.slice na n nc) := by rw [hw8, hA2]; simp [go_sem]
    clear hw8 hA2 ho7 hb7 B68 HP6 HT6 HO6 HA6
    go_wp2_with fail
    refine (concat_two d0 d1 HQ1.out HQ2.out (by omega) (by omega) (by omega)).mono ?_
    rintro e w9 ⟨u9, rfl, ho9, hb9⟩
    have HP9 : Hid (PB w w9) := hideP (HP8.out.below hb9)
    have HT9 : Hid (w9.heap[T]? = some (Shr.setO z0 z1 z2 z3 z4 z5)) := hideP ((hb9.block _ (Array.getElem?_eq_some_iff.1 HT8.out).1).trans HT8.out)
    have HO9 : Hid (w9.ownsRow w.heap.size 2 1 (.slice (some ⟨O, 0, none⟩) m m) m ((vpL xs deep mode size).map (Value.int .i64))) := hideP (ownG_below HO8.out hb9)
    obtain ⟨N1, hN1⟩ : ∃ N1, N1 = 1 + n := ⟨_, rfl⟩
    rw [← hN1] at ho9
    have hN1p : 0 < N1 := by omega
    have hN1b : N1 ≤ 20001 := by omega
    have HN1 := hideP hN1
    obtain ⟨ua, uc, rfl, hug⟩ := own_shape ho9
    obtain ⟨g9, rfl, hg9, _⟩ := hug hN1p
    have hgw : w.heap.size ≤ g9 := Nat.le_trans HP8.out.bel.size hg9
    have HX9 : Hid (w9.ownsRow w.heap.size 77 15 (.slice (some ⟨g9, 0, none⟩) N1 uc) N1 (flatN (boxN 7 (vpS xs deep).h tt (vpS xs deep).d n :: setL ((gluesAt xs (begins xs)).take 0) ((vpL xs deep mode size).take 0) xs))) := hideP (ownG_mono ho9 HP8.out.bel.size)
    clear ho9 hb9 hug hg9 HP8 HT8 HO8 HQ1 HQ2 d0 d1 hN1
    obtain ⟨k6, k7, k8⟩ := HC.out w9 HP9.out.bel
    go_wp2_with fail
    go_loopw [67] (fun i wr => ∃ j : Nat, j ≤ m ∧ i = .int .i64 j ∧ PInv w wr T O g9 N1 uc m (boxN 7 (vpS xs deep).h tt (vpS xs deep).d n :: setL ((gluesAt xs (begins xs)).take j) ((vpL xs deep mode size).take j) xs) ((vpL xs deep mode size).map (Value.int .i64)) z0 z1 z2 z3 z4 z5) (fun i _ => m - (intOf i).toNat)
    case atStart => exact ⟨0, by omega, rfl, HP9.out, HT9.out, HO9.out, HX9.out⟩
    case round =>
      obtain ⟨j, hj, rfl, hinv⟩ := hrel
      have HI := hideP hinv
      clear hinv
      by_cases hjm : j < m
      · have hji : (j : Int) < (m : Int) := by omega
        obtain ⟨pb, rfl, hpb⟩ := HPC.out (by omega)
        have e0 := (HI.out.pb.bel.cell (p := ⟨pb, j, none⟩) (hpb j hjm).1).trans (hpb j hjm).2
        have e1 : wr.cell? ⟨O, j, none⟩ = some (.int .i64 ((vpL xs deep mode size).getD j 0)) := by
          have h1 := World.ownsRow.cellAt HI.out.wid j (by omega)
          rw [h1, List.getElem?_map, List.getElem?_eq_getElem (show j < (vpL xs deep mode size).length by rw [HLL.out]; exact hjm)]
          simp [List.getD, List.getElem?_eq_getElem (show j < (vpL xs deep mode size).length by rw [HLL.out]; exact hjm)]
        have HNX2 : Hid (boxN 7 (vpS xs deep).h tt (vpS xs deep).d n :: setL ((gluesAt xs (begins xs)).take (j + 1)) ((vpL xs deep mode size).take (j + 1)) xs = (boxN 7 (vpS xs deep).h tt (vpS xs deep).d n :: setL ((gluesAt xs (begins xs)).take j) ((vpL xs deep mode size).take j) xs).set ((gluesAt xs (begins xs)).getD j 0 + 1) (((boxN 7 (vpS xs deep).h tt (vpS xs deep).d n :: setL ((gluesAt xs (begins xs)).take j) ((vpL xs deep mode size).take j) xs).getD ((gluesAt xs (begins xs)).getD j 0 + 1) Nd.none).wide ((vpL xs deep mode size).getD j 0))) := hideP (set_next (by rw [← HNW.out, ← HM.out]; exact hjm) (by rw [HLL.out, HM.out, HNW.out]) _)
        obtain ⟨lv, hlv⟩ : ∃ lv, lv = (vpL xs deep mode size).getD j 0 := ⟨_, rfl⟩
        obtain ⟨pn, hpn⟩ : ∃ pn, pn = (gluesAt xs (begins xs)).getD j 0 := ⟨_, rfl⟩
        rw [← hlv] at e1 HNX2
        rw [← hpn] at e0 HNX2
        have hpl : pn < n := by
          rw [hpn, HNX.out]
          refine (glues_in (xs := xs) ?_).1
          have hjl : j < (gluesAt xs (begins xs)).length := by rw [← HNW.out, ← HM.out]; exact hjm
          rw [List.getD_eq_getElem?_getD, List.getElem?_eq_getElem hjl]
          exact List.getElem_mem hjl
        obtain ⟨X, hX⟩ : ∃ X, X = boxN 7 (vpS xs deep).h tt (vpS xs deep).d n :: setL ((gluesAt xs (begins xs)).take j) ((vpL xs deep mode size).take j) xs := ⟨_, rfl⟩
        rw [← hX] at HI HNX2
        have hXl : X.length = N1 := by rw [hX, List.length_cons, setL_len, ← HNX.out, HN1.out]; omega
        obtain ⟨q, hq⟩ : ∃ q, q = pn + 1 := ⟨_, rfl⟩
        rw [← hq] at HNX2
        have hqN : q < N1 := by rw [HN1.out]; omega
        obtain ⟨x, hx⟩ : ∃ x : Int, x = (pn : Int) := ⟨_, rfl⟩
        rw [← hx] at e0
        have hxq : 1 + x = (q : Int) := by omega
        have hqi : (q : Int) < (N1 : Int) := by omega
        obtain ⟨e2, e3⟩ := own_cell HI.out.own (flatN_at X q (by rw [hXl]; exact hqN) 1 (by omega) (u := .int .i64 (X.getD q Nd.none).wd) rfl)
        obtain ⟨wd0, hwd0⟩ : ∃ z, z = (X.getD q Nd.none).wd := ⟨_, rfl⟩
        rw [← hwd0] at e2
        have HI2 : Hid (PInv w (wr.setCell ⟨g9, q * 15 + 1, none⟩ (.int .i64 lv)) T O g9 N1 uc m (X.set q ((X.getD q Nd.none).wide lv)) ((vpL xs deep mode size).map (Value.int .i64)) z0 z1 z2 z3 z4 z5) := hideP (HI.out.put hXl hqN hgw lv)
        clear hlv hpn hX hwd0 hq hx hXl
        go_wp2
        go_roundw
        case rel => exact ⟨j + 1, by omega, by go_num, by rw [HNX2.out]; exact HI2.out⟩
        case measure => simp [intOf]; omega
      · have hji : ¬ (j : Int) < (m : Int) := by omega
        obtain rfl : j = m := by omega
        have hXX : boxN 7 (vpS xs deep).h tt (vpS xs deep).d n :: setL ((gluesAt xs (begins xs)).take j) ((vpL xs deep mode size).take j) xs = vpN xs deep mode size := by
          unfold vpN
          rw [← HTT.out, ← HNX.out, List.take_of_length_le (by rw [← HNW.out, ← HM.out]; exact Nat.le_refl _), List.take_of_length_le (by rw [HLL.out]; exact Nat.le_refl _)]
        rw [hXX] at HI
        have hXl : (vpN xs deep mode size).length = N1 := by rw [← hXX, List.length_cons, setL_len, ← HNX.out, HN1.out]; omega
        have HLK : Hid (∀ W, Below wr.heap.size wr W → Calls Tryz.prog 78 #[.slice (some ⟨g9, 0, none⟩) N1 uc] W fun e w' => e = .returned (.bool (listB (vpN xs deep mode size))) ∧ Below W.heap.size W w') := hideP (fun W hW => implListOk_any (SRow.mono ndStable (own_NRow (ownG_below HI.out.own hW) hXl) (Nat.zero_le _)) (by rw [hXl]; omega))
        have HXL := hideP hXl
        clear hXX hXl
        go_wp2_with fail
        refine (HLK.out _ (Below.refl _ _)).mono ?_
        rintro e w9 ⟨rfl, hb10⟩
        have HP9 : Hid (PB w w9) := hideP (HI.out.pb.below hb10)
        have HT9 : Hid (w9.heap[T]? = some (Shr.setO z0 z1 z2 z3 z4 z5)) := hideP ((hb10.block _ (Array.getElem?_eq_some_iff.1 HI.out.set).1).trans HI.out.set)
        have HX9 : Hid (w9.ownsRow w.heap.size 77 15 (.slice (some ⟨g9, 0, none⟩) N1 uc) N1 (flatN (vpN xs deep mode size))) := hideP (ownG_below HI.out.own hb10)
        clear hb10
        obtain ⟨lb, hlb⟩ : ∃ lb, lb = listB (vpN xs deep mode size) := ⟨_, rfl⟩
        rw [← hlb]
        have HPR : Hid (vrgB xs deep mode size = lb) := hideP (by rw [HPB.out, hlb])
        clear hlb
        have t0 := cell_of_row w9 T 0 _ 26 _ HT9.out
        have t1 := cell_of_row w9 T 1 _ 26 _ HT9.out
        have t2 := cell_of_row w9 T 2 _ 26 _ HT9.out
        have t3 := cell_of_row w9 T 3 _ 26 _ HT9.out
        have t4 := cell_of_row w9 T 4 _ 26 _ HT9.out
        have t5 := cell_of_row w9 T 5 _ 26 _ HT9.out
        clear hi hy0 hy1 hy2 hi1 hz0 hz1 hz2 k6 k7 k8 hN1p hN1b hgw hwT hRw hn2 hd hd0 hj hji
        cases lb with
        | false =>
          have HF : Hid ((ans w9 w.heap.size (.slice none 0 0) 0 0 0 0 0 0).heap[w.heap.size]? = some (packO (.slice none 0 0) 0 0 0 0 0 0) ∧ Below w.heap.size w (ans w9 w.heap.size (.slice none 0 0) 0 0 0 0 0 0)) := hideP ⟨ans_heap HP9.out _ _ _ _ _ _ _, ans_below HP9.out _ _ _ _ _ _ _⟩
          go_simp
          (first | go_values | go_skip | go_guarded | go_step | go_upon | go_in | go_back)
          (first | go_values | go_skip | go_guarded | go_step | go_upon | go_in | go_back)
          (first | go_values | go_skip | go_guarded | go_step | go_upon | go_in | go_back)
          (first | go_values | go_skip | go_guarded | go_step | go_upon | go_in | go_back)
          (first | go_values | go_skip | go_guarded | go_step | go_upon | go_in | go_back)
          (first | go_values | go_skip | go_guarded | go_step | go_upon | go_in | go_back)
          (first | go_values | go_skip | go_guarded | go_step | go_upon | go_in | go_back)
          (first | go_values | go_skip | go_guarded | go_step | go_upon | go_in | go_back)
          (first | go_values | go_skip | go_guarded | go_step | go_upon | go_in | go_back)
          (first | go_values | go_skip | go_guarded | go_step | go_upon | go_in | go_back)
          (first | go_values | go_skip | go_guarded | go_step | go_upon | go_in | go_back)
          (first | go_values | go_skip | go_guarded | go_step | go_upon | go_in | go_back)
          (first | go_values | go_skip | go_guarded | go_step | go_upon | go_in | go_back)
          refine wpList_store_row rfl 28 _ _ rfl w.heap.size rfl _ #[.slice none 0 0, .int .i64 0, .int .i64 0, .int .i64 0, .int .i64 0, .int .i64 0, .int .i64 0] rfl 28 HP9.out.box (by kernel_rfl) rfl (by kernel_rfl) ?_
          go_wp2
          exact bodyPost_ret (v := packV (.slice none 0 0) ⟨0, 0, 0, 0, 0, 0⟩) (results_one_cell rfl _ _ w.heap.size _ rfl (loadPack HF.out.1)) rfl ⟨HF.out.2, by rw [HPR.out]; exact rfl⟩
        | true =>
          have HF : Hid ((ans w9 w.heap.size (.slice (some ⟨g9, 0, none⟩) N1 uc) z0 z1 z2 z3 z4 z5).heap[w.heap.size]? = some (packO (.slice (some ⟨g9, 0, none⟩) N1 uc) z0 z1 z2 z3 z4 z5) ∧ Below w.heap.size w (ans w9 w.heap.size (.slice (some ⟨g9, 0, none⟩) N1 uc) z0 z1 z2 z3 z4 z5)) := hideP ⟨ans_heap HP9.out _ _ _ _ _ _ _, ans_below HP9.out _ _ _ _ _ _ _⟩
          have HXF : Hid ((ans w9 w.heap.size (.slice (some ⟨g9, 0, none⟩) N1 uc) z0 z1 z2 z3 z4 z5).ownsRow w.heap.size 77 15 (.slice (some ⟨g9, 0, none⟩) N1 uc) (xs.length + 1) (flatN (vpN xs deep mode size))) := hideP (by rw [show xs.length + 1 = N1 by rw [HN1.out, HNX.out]; omega]; exact ans_own HP9.out HX9.out _ _ _ _ _ _ _)
          go_simp
          (first | go_values | go_skip | go_guarded | go_step | go_upon | go_in | go_back)
          (first | go_values | go_skip | go_guarded | go_step | go_upon | go_in | go_back)
          (first | go_values | go_skip | go_guarded | go_step | go_upon | go_in | go_back)
          (first | go_values | go_skip | go_guarded | go_step | go_upon | go_in | go_back)
          (first | go_values | go_skip | go_guarded | go_step | go_upon | go_in | go_back)
          (first | go_values | go_skip | go_guarded | go_step | go_upon | go_in | go_back)
          (first | go_values | go_skip | go_guarded | go_step | go_upon | go_in | go_back)
          (first | go_values | go_skip | go_guarded | go_step | go_upon | go_in | go_back)
          (first | go_values | go_skip | go_guarded | go_step | go_upon | go_in | go_back)
          (first | go_values | go_skip | go_guarded | go_step | go_upon | go_in | go_back)
          (first | go_values | go_skip | go_guarded | go_step | go_upon | go_in | go_back)
          (first | go_values | go_skip | go_guarded | go_step | go_upon | go_in | go_back)
          (first | go_values | go_skip | go_guarded | go_step | go_upon | go_in | go_back)
          (first | go_values | go_skip | go_guarded | go_step | go_upon | go_in | go_back)
          (first | go_values | go_skip | go_guarded | go_step | go_upon | go_in | go_back)
          (first | go_values | go_skip | go_guarded | go_step | go_upon | go_in | go_back)
          (first | go_values | go_skip | go_guarded | go_step | go_upon | go_in | go_back)
          (first | go_values | go_skip | go_guarded | go_step | go_upon | go_in | go_back)
          (first | go_values | go_skip | go_guarded | go_step | go_upon | go_in | go_back)
          refine wpList_bd2 rfl 28 0 1 _ _ rfl rfl rfl (run_bd28 w9 _ _ _ _ _ _ _ _ _) ?_
          refine wpList_store_row rfl 28 _ _ rfl w.heap.size rfl _ #[.slice (some ⟨g9, 0, none⟩) N1 uc, .int .i64 z0, .int .i64 z1, .int .i64 z2, .int .i64 z3, .int .i64 z4, .int .i64 z5] rfl 28 HP9.out.box (by kernel_rfl) rfl (by kernel_rfl) ?_
          go_wp2
          exact bodyPost_ret (v := packV (.slice (some ⟨g9, 0, none⟩) N1 uc) ⟨z0, z1, z2, z3, z4, z5⟩) (results_one_cell rfl _ _ w.heap.size _ rfl (loadPack HF.out.1)) rfl ⟨HF.out.2, by rw [HPR.out]; exact ⟨_, by rw [HSS.out], HXF.out⟩⟩
end Go.Proofs.YticalmdhbgkbbaaGreat

