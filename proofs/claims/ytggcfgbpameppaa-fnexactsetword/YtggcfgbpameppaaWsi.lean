/-
  How large a word is: the program.
-/
import Derived.Test.YtggcfgbpameppaaSiz
namespace Go.Proofs.Ytggcfgbpameppaa
open Go.RowKit Go.Maps
set_option linter.unusedVariables false
set_option linter.unusedSimpArgs false

/-- Is there something to set? -/
def wOk (f : Fo) (gs ps : List Q4) (bs : List Int) : Bool := fontB f gs ps && decide (bs.length ≤ 1000)
/-- What WordSize answers. -/
def wsO (f : Fo) (gs ps : List Q4) (bs : List Int) : S3 := if wOk f gs ps bs then szL gs (spL gs ps bs) else ⟨0, 0, 0⟩

set_option maxRecDepth 20000 in
set_option maxHeartbeats 8000000 in
theorem implWordSize_any {f : Fo} {vg vp vb : Value} {gs ps : List Q4} {bs : List Int} {w : World} (h : TwoQ w vg vp gs ps) (hb : BRow 0 w vb bs) (hs : f.s.size ≤ 1048576) (hg : gs.length ≤ 1048576) (hp : ps.length ≤ 1048576) (hbl : bs.length ≤ 1048576) :
    Calls Try.prog 25 #[foV f vg vp, vb] w fun e w' => e = .returned (.agg #[.int .i64 (wsO f gs ps bs).a, .int .i64 (wsO f gs ps bs).b, .int .i64 (wsO f gs ps bs).c]) ∧ Below w.heap.size w w' := by
  have HC : Hid (∀ W, Below w.heap.size w W → Calls Try.prog 36 #[foV f vg vp] W fun e w' => ∃ o1 o2, e = .returned (.tuple #[.agg #[.map o1, .map o2], .bool (fontB f gs ps)]) ∧ (fontB f gs ps = true → Face w' (.agg #[.map o1, .map o2]) W.heap.size gs ps) ∧ Below W.heap.size W w') := hideP (fun W hW => checked_any (h.below hW) hs hg hp)
  have HX := hideP h
  have HBR := hideP hb
  obtain ⟨a1, n1, c1, rfl⟩ : ∃ a n c, vg = .slice a n c := by obtain ⟨a, c, rfl⟩ := h.g.shape; exact ⟨_, _, _, rfl⟩
  obtain ⟨a2, n2, c2, rfl⟩ : ∃ a n c, vp = .slice a n c := by obtain ⟨a, c, rfl⟩ := h.p.shape; exact ⟨_, _, _, rfl⟩
  obtain ⟨ab, nb, cb, rfl⟩ : ∃ a n c, vb = .slice a n c := by obtain ⟨a, c, rfl⟩ := hb.shape; exact ⟨_, _, _, rfl⟩
  have hnb := hb.len
  obtain ⟨R, hR⟩ : ∃ R, R = fontB f gs ps := ⟨_, rfl⟩
  obtain ⟨⟨oa, ob, oc⟩, ho⟩ : ∃ o, o = wsO f gs ps bs := ⟨_, rfl⟩
  have HO : Hid ((⟨oa, ob, oc⟩ : S3) = if (R && decide (nb ≤ 1000)) then szL gs (spL gs ps bs) else ⟨0, 0, 0⟩) := hideP (by rw [ho, hR, ← hnb]; rfl)
  have HRR := hideP hR
  have HNB := hideP hnb
  rw [← ho]
  rw [← hR] at HC
  have hnbl : nb ≤ 1048576 := by omega
  have HFT : Hid (R = true → fontB f gs ps = true) := hideP (fun h => by rw [← hR]; exact h)
  clear h hb hs hg hp hR ho hbl hnb
  have HSZ : Hid (R = true → nb ≤ 1000 → ∀ W t v lo lo2, Below w.heap.size w W → Face W v lo gs ps → W.ownsRow lo2 83 3 t (stL gs ps bs).length (f3 (stL gs ps bs)) → Calls Try.prog 46 #[v, t] W fun e w' => e = .returned (.agg #[.int .i64 oa, .int .i64 ob, .int .i64 oc]) ∧ Below W.heap.size W w') := hideP (fun hr hn W t v lo lo2 hW hf ho => by
    have hF := HFT.out hr
    have k := size_any hf hF ho (st_ok (font_prO hF) (fun l r => (prO_rng HX.out.p l r).2) HBR.out.all) (Nat.le_trans (st_len _ _ _) (by rw [HNB.out]; omega))
    rw [st_sp] at k
    have e : (⟨oa, ob, oc⟩ : S3) = szL gs (spL gs ps bs) := by rw [HO.out, hr]; simp [hn]
    rw [← e] at k
    exact k)
  have HST : Hid (nb ≤ 1000 → ∀ W v lo, Below w.heap.size w W → Face W v lo gs ps → Calls Try.prog 42 #[v, .slice ab nb cb] W fun e w' => ∃ t, e = .returned t ∧ w'.ownsRow W.heap.size 83 3 t (stL gs ps bs).length (f3 (stL gs ps bs)) ∧ Below W.heap.size W w') := hideP (fun hn W v lo hW hf => set_any hf (SRow.below qStable HX.out.p hW) (SRow.below bStable HBR.out hW) (by rw [HNB.out]; exact hn))
  obtain ⟨T, hT⟩ : ∃ T, T = stL gs ps bs := ⟨_, rfl⟩
  rw [← hT] at HSZ HST
  clear hT HRR HFT
  obtain ⟨s, g0, g1, g2, g3, g4, q, r⟩ := f
  simp only [foV] at HC ⊢
  go_enter Try.func25, Try.ntmps25
  go_wp2_with fail
  refine (HC.out _ (below2 _ _ _)).mono ?_
  rintro e w1 ⟨o1, o2, rfl, hf, hb⟩
  have B1 : Hid (Below w.heap.size w w1) := hideP (below_more (below2 _ _ _) hb (by simp; omega))
  have hz1 : w.heap.size + 1 < w1.heap.size := by have := hb.size; simp at this; omega
  have QR : Hid (w1.heap[w.heap.size + 1]? = some (.cells #[.int .i64 0, .int .i64 0, .int .i64 0] 55 (0, 0))) := hideP ((hb.block _ (by simp)).trans (by have h := heap_alloc_new (w.alloc (.cells #[Value.string s, Value.slice a1 n1 c1, Value.slice a2 n2 c2, Value.int IntKind.i64 g0, Value.int IntKind.i64 g1, Value.int IntKind.i64 g2, Value.int IntKind.i64 g3, Value.int IntKind.i64 g4, Value.int IntKind.i64 q, Value.int IntKind.i64 r] 34)) (.cells #[.int .i64 0, .int .i64 0, .int .i64 0] 55); rw [World.size_alloc] at h; exact h))
  clear hb
  have r0 : w1.cell? ⟨w.heap.size + 1, 0, none⟩ = some (.int .i64 0) := by rw [cell_of_row _ _ _ _ _ _ QR.out]; rfl
  have r1 : w1.cell? ⟨w.heap.size + 1, 1, none⟩ = some (.int .i64 0) := by rw [cell_of_row _ _ _ _ _ _ QR.out]; rfl
  have r2 : w1.cell? ⟨w.heap.size + 1, 2, none⟩ = some (.int .i64 0) := by rw [cell_of_row _ _ _ _ _ _ QR.out]; rfl
  have fz : ∀ j, w1.frozen? ⟨w.heap.size + 1, j, none⟩ = false := fun j => frozen_of_row _ _ _ _ _ QR.out
  by_cases hok : R = true ∧ nb ≤ 1000
  rotate_left
  · have HE : Hid ((⟨oa, ob, oc⟩ : S3) = ⟨0, 0, 0⟩) := hideP (by
      rw [HO.out, if_neg]
      intro h
      simp only [Bool.and_eq_true, decide_eq_true_eq] at h
      exact hok h)
    have he := HE.out
    simp only [S3.mk.injEq] at he
    obtain ⟨rfl, rfl, rfl⟩ := he
    clear HE HO HSZ HST hf
    cases R with
    | false =>
      clear hok
      go_wp2
      refine bodyPost_ret (v := .agg #[.int .i64 0, .int .i64 0, .int .i64 0]) (by simp [results, Try.results25, go_sem, r0, r1, r2, hz1]) rfl ⟨rfl, ?_⟩
      have B9 := B1.out
      have hsz := B9.size
      clear r0 r1 r2 fz B1
      repeat (first | with_reducible exact B9 | (with_reducible refine Below.alloc ?_ ?_ _; rotate_left; focus (simp; omega)) | (with_reducible refine Below.setCell ?_ ?_ _; rotate_left; focus (first | (simp; done) | (simp; omega))))
    | true =>
      have hn : decide (1000 < (nb : Int)) = true := by have := Nat.lt_of_not_le (fun h => hok ⟨rfl, h⟩); simp; omega
      clear hok
      go_wp2
      refine bodyPost_ret (v := .agg #[.int .i64 0, .int .i64 0, .int .i64 0]) (by simp [results, Try.results25, go_sem, r0, r1, r2, hz1]) rfl ⟨rfl, ?_⟩
      have B9 := B1.out
      have hsz := B9.size
      clear r0 r1 r2 fz B1
      repeat (first | with_reducible exact B9 | (with_reducible refine Below.alloc ?_ ?_ _; rotate_left; focus (simp; omega)) | (with_reducible refine Below.setCell ?_ ?_ _; rotate_left; focus (first | (simp; done) | (simp; omega))))
  · obtain ⟨rfl, hnn⟩ := hok
    have hn : decide (1000 < (nb : Int)) = false := by simp; omega
    have HF := hideP (hf rfl)
    clear hf HO
    obtain ⟨b1, b2, hv, _, _, _, _⟩ := HF.out.ex
    simp only [Value.agg.injEq, Array.mk.injEq, List.cons.injEq, Value.map.injEq, and_true] at hv
    obtain ⟨rfl, rfl⟩ := hv
    go_wp2_with fail
    obtain ⟨W, hW⟩ : ∃ W, W = w1.alloc (.cells #[.map (some b1), .map (some b2)] 72) := ⟨_, rfl⟩
    have bW : Below w1.heap.size w1 W := by rw [hW]; exact below1 _ _
    have l0 : W.cell? ⟨w1.heap.size, 0, none⟩ = some (.map (some b1)) := by rw [hW]; simp [go_sem]
    have l1 : W.cell? ⟨w1.heap.size, 1, none⟩ = some (.map (some b2)) := by rw [hW]; simp [go_sem]
    have hWs : w1.heap.size < W.heap.size := by rw [hW]; simp
    rw [← hW]
    clear hW
    have BD : Hid (Below W.heap.size W W.drew) := hideP (Below.refl _ _).drew
    have BB : Hid (∀ x, Below W.heap.size W x → Below w.heap.size w x) := hideP (fun x hx => below_more B1.out (below_more bW hx bW.size) B1.out.size)
    have FC : Hid (∀ x, Below W.heap.size W x → Face x (.agg #[.map (some b1), .map (some b2)]) (w.heap.size + 1 + 1) gs ps) := hideP (fun x hx => by have k := HF.out.below (below_more bW hx bW.size); simp only [World.size_alloc] at k; exact k)
    have QR2 : Hid (∀ x : World, Below W.heap.size W x → x.cell? ⟨w.heap.size + 1, 0, none⟩ = some (.int .i64 0) ∧ x.cell? ⟨w.heap.size + 1, 1, none⟩ = some (.int .i64 0) ∧ x.cell? ⟨w.heap.size + 1, 2, none⟩ = some (.int .i64 0) ∧ ∀ j, x.frozen? ⟨w.heap.size + 1, j, none⟩ = false) := hideP (fun x hx => by
      have hq := ((below_more bW hx bW.size).block _ hz1).trans QR.out
      exact ⟨by rw [cell_of_row _ _ _ _ _ _ hq]; rfl, by rw [cell_of_row _ _ _ _ _ _ hq]; rfl, by rw [cell_of_row _ _ _ _ _ _ hq]; rfl, fun j => frozen_of_row _ _ _ _ _ hq⟩)
    have Q : Hid (∀ x : World, Below W.heap.size W x → x.cell? ⟨w1.heap.size, 0, none⟩ = some (.map (some b1)) ∧ x.cell? ⟨w1.heap.size, 1, none⟩ = some (.map (some b2))) := hideP (fun x hx => ⟨(hx.cell (p := ⟨w1.heap.size, 0, none⟩) hWs).trans l0, (hx.cell (p := ⟨w1.heap.size, 1, none⟩) hWs).trans l1⟩)
    have QS : Hid (∀ x : World, Below W.heap.size W x → (fun x : World => x.cell? ⟨w1.heap.size, 0, none⟩ = some (.map (some b1)) ∧ x.cell? ⟨w1.heap.size, 1, none⟩ = some (.map (some b2))) (((x.setCell ⟨w.heap.size + 1, 0, none⟩ (.int .i64 oa)).setCell ⟨w.heap.size + 1, 1, none⟩ (.int .i64 ob)).setCell ⟨w.heap.size + 1, 2, none⟩ (.int .i64 oc))) := hideP (fun x hx => by
      obtain ⟨x0, x1⟩ := Q.out x hx
      have hne1 : ¬ w1.heap.size = w.heap.size + 1 := by omega
      have hne2 : ¬ w.heap.size + 1 = w1.heap.size := by omega
      refine ⟨?_, ?_⟩ <;> simp [go_sem, x0, x1, hne1, hne2])
    clear bW l0 l1 r0 r1 r2 fz HF B1 QR
    as_aux_lemma =>
      refine wp_region_held_drew (S := fun x => x.cell? ⟨w1.heap.size, 0, none⟩ = some (.map (some b1)) ∧ x.cell? ⟨w1.heap.size, 1, none⟩ = some (.map (some b2))) (by kernel_rfl) (Q.out _ BD.out) (fun hS => ?_)
      refine wpAnyH_take (i := 0) (v := .agg #[.map (some b1), .map (some b2)]) rfl (by kernel_rfl) (by kernel_rfl) (by kernel_rfl) (fun _ _ _ h => h) (Or.inl ⟨by first | rfl | go_simp, fun wx hx => by obtain ⟨x0, x1⟩ := hx; go_simp⟩) hS ?_
      try simp only [Act.put, List.getElem_toArray, List.getElem_cons_zero, List.getElem_cons_succ, List.setIfInBounds_toArray, List.set_cons_zero, List.set_cons_succ]
      refine wpAnyH_take (i := 1) (v := .agg #[.map (some b1), .map (some b2)]) rfl (by kernel_rfl) (by kernel_rfl) (by kernel_rfl) (fun _ _ _ h => h) (Or.inl ⟨by first | rfl | go_simp, fun wx hx => by obtain ⟨x0, x1⟩ := hx; go_simp⟩) hS ?_
      try simp only [Act.put, List.getElem_toArray, List.getElem_cons_zero, List.getElem_cons_succ, List.setIfInBounds_toArray, List.set_cons_zero, List.set_cons_succ]
      refine wpAnyH_take (i := 2) (v := .slice ab nb cb) rfl (by kernel_rfl) (by kernel_rfl) (by kernel_rfl) (fun _ _ _ h => h) (Or.inl ⟨by first | rfl | go_simp, fun wx hx => by obtain ⟨x0, x1⟩ := hx; go_simp⟩) hS ?_
      try simp only [Act.put, List.getElem_toArray, List.getElem_cons_zero, List.getElem_cons_succ, List.setIfInBounds_toArray, List.set_cons_zero, List.set_cons_succ]
      refine wpAnyH_ready (rs := [3]) (by kernel_rfl) (by simp) ?_
      refine AllReadyH.cons rfl (fun K hK => ?_) AllReadyH.nil
      rw [if_pos (by first | rfl | go_simp)]
      go_wp2_with (go_at_call 42; refine (HST.out hnn _ _ _ (BB.out _ BD.out) (FC.out _ BD.out)).mono ?_; rintro e v1 ⟨t, rfl, ho1, hb1⟩; obtain ⟨a3, c3, rfl⟩ := ownG_shape ho1; have X1 : Hid (Below W.heap.size W v1) := hideP (below_more BD.out hb1 BD.out.size); have HO1 := hideP ho1; clear hb1 ho1)
      refine hK.out _ _ (Q.out _ X1.out) (fun hS1 => ?_)
      try simp only [Act.put, List.getElem_toArray, List.getElem_cons_zero, List.getElem_cons_succ, List.setIfInBounds_toArray, List.set_cons_zero, List.set_cons_succ]
      clear hK K
      refine wpAnyH_ready (rs := [4]) (by kernel_rfl) (by simp) ?_
      refine AllReadyH.cons rfl (fun K hK => ?_) AllReadyH.nil
      rw [if_pos (by first | rfl | go_simp)]
      go_wp2_with (go_at_call 46; refine (HSZ.out (by first | rfl | trivial) hnn _ _ _ _ _ (BB.out _ X1.out) (FC.out _ X1.out) HO1.out).mono ?_; rintro e v2 ⟨rfl, hb2⟩; have X2 : Hid (Below W.heap.size W v2) := hideP (below_more X1.out hb2 X1.out.size); clear hb2)
      refine hK.out _ _ (Q.out _ X2.out) (fun hS2 => ?_)
      try simp only [Act.put, List.getElem_toArray, List.getElem_cons_zero, List.getElem_cons_succ, List.setIfInBounds_toArray, List.set_cons_zero, List.set_cons_succ]
      clear hK K
      obtain ⟨r0, r1, r2, fz⟩ := QR2.out _ X2.out
      refine wpAnyH_ready (rs := [5]) (by kernel_rfl) (by simp) ?_
      refine AllReadyH.cons rfl (fun K hK => ?_) AllReadyH.nil
      rw [if_pos (by first | rfl | go_simp)]
      go_simp
      refine hK.out _ _ (QS.out _ X2.out) (fun hSs => ?_)
      try simp only [Act.put, List.getElem_toArray, List.getElem_cons_zero, List.getElem_cons_succ, List.setIfInBounds_toArray, List.set_cons_zero, List.set_cons_succ]
      clear hK K
      refine wpAnyH_done (by kernel_rfl) ?_ _
      clear hS hS1 hS2 hSs
      go_wp2
      refine bodyPost_ret (v := .agg #[.int .i64 oa, .int .i64 ob, .int .i64 oc]) (by simp [results, Try.results25, go_sem, r0, r1, r2]) rfl ⟨rfl, ?_⟩
      exact (((BB.out _ X2.out).setCell (Nat.le_succ _) _).setCell (Nat.le_succ _) _).setCell (Nat.le_succ _) _
end Go.Proofs.Ytggcfgbpameppaa
