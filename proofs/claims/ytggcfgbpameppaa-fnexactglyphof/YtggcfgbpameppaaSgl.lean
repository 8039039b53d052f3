/-
  The specification's GlyphOf.
-/
import Derived.Test.YtggcfgbpameppaaGly
import Derived.Test.YtggcfgbpameppaaSpf
namespace Go.Proofs.Ytggcfgbpameppaa
open Go.RowKit Go.Maps
set_option linter.unusedVariables false
set_option linter.unusedSimpArgs false

set_option maxRecDepth 20000 in
set_option maxHeartbeats 4000000 in
theorem specGlyphOf_any {f : Fo} {vg vp : Value} {gs ps : List Q4} {c : Int} {w : World} (h : TwoQ w vg vp gs ps) (hs : f.s.size ≤ 1048576) (hg : gs.length ≤ 1048576) (hp : ps.length ≤ 1048576) :
    Calls Try.prog 12 #[foV f vg vp, .int .i64 c] w fun e w' => e = .returned (.tuple #[q4V (glO f gs ps c), .bool (glH f gs ps c)]) ∧ Below w.heap.size w w' := by
  have HX := hideP h
  obtain ⟨a1, n1, c1, rfl⟩ : ∃ a n c, vg = .slice a n c := by obtain ⟨a, c, rfl⟩ := h.g.shape; exact ⟨_, _, _, rfl⟩
  obtain ⟨a2, n2, c2, rfl⟩ : ∃ a n c, vp = .slice a n c := by obtain ⟨a, c, rfl⟩ := h.p.shape; exact ⟨_, _, _, rfl⟩
  have hn1 := h.g.len
  obtain ⟨R, hR⟩ : ∃ R, R = fontB f gs ps := ⟨_, rfl⟩
  have HC : Hid (∀ W, Below w.heap.size w W → Calls Try.prog 8 #[foV f (.slice a1 n1 c1) (.slice a2 n2 c2)] W fun e w' => e = .returned (.bool R) ∧ Below W.heap.size W w') := hideP (fun W hW => by rw [hR]; exact specFont_any (h.below hW) hs hg hp)
  obtain ⟨z, hz⟩ : ∃ z, z = gi gs c := ⟨_, rfl⟩
  have HG : Hid (R = true → ∀ W, Below w.heap.size w W → Calls Try.prog 32 #[foV f (.slice a1 n1 c1) (.slice a2 n2 c2), .int .i64 c] W fun e w' => e = .returned (.int .i64 z) ∧ Below W.heap.size W w') := hideP (fun hr W hW => by rw [hz]; exact specGlyph_any (h.below hW) hg (fontB_asc (by rw [← hR]; exact hr)))
  have HZ : Hid (R = true → decide (z < 0) = !hasB gs c) := hideP (fun hr => by rw [hz]; exact gi_neg (fontB_asc (by rw [← hR]; exact hr)) c)
  have HK : Hid (R = true → hasB gs c = true → ∃ k, k < n1 ∧ z = (k : Int) ∧ look1 gs c = some (gs.getD k Q4.none)) := hideP (fun hr hh => by
    obtain ⟨k, hk, hc⟩ := hasB_iff.1 hh
    have ha : AscG gs := fontB_asc (f := f) (ps := ps) (by rw [← hR]; exact hr)
    exact ⟨k, by omega, by rw [hz]; exact gi_at ha hk hc, look1_at ha hk hc⟩)
  obtain ⟨⟨oa, ob, oc, od⟩, ho⟩ : ∃ o, o = glO f gs ps c := ⟨_, rfl⟩
  obtain ⟨hh, hhh⟩ : ∃ o, o = glH f gs ps c := ⟨_, rfl⟩
  have HO : Hid ((⟨oa, ob, oc, od⟩ : Q4) = if R then (look1 gs c).getD Q4.none else Q4.none) := hideP (by rw [ho, hR]; rfl)
  have HH : Hid (hh = (R && hasB gs c)) := hideP (by rw [hhh, hR]; rfl)
  rw [← ho, ← hhh]
  have hnb : n1 ≤ 1048576 := by omega
  clear h hs hg hp hR ho hhh hz hn1
  obtain ⟨s, g0, g1, g2, g3, g4, q, r⟩ := f
  simp only [foV] at HC HG ⊢
  simp only [q4V]
  have X0 : Hid (BoxF ((w.alloc (.cells #[Value.string s, Value.slice a1 n1 c1, Value.slice a2 n2 c2, Value.int IntKind.i64 g0, Value.int IntKind.i64 g1, Value.int IntKind.i64 g2, Value.int IntKind.i64 g3, Value.int IntKind.i64 g4, Value.int IntKind.i64 q, Value.int IntKind.i64 r] 34)).alloc (.cells #[.int .i64 0, .int .i64 0, .int .i64 0, .int .i64 0] 39)) w.heap.size #[Value.string s, Value.slice a1 n1 c1, Value.slice a2 n2 c2, Value.int IntKind.i64 g0, Value.int IntKind.i64 g1, Value.int IntKind.i64 g2, Value.int IntKind.i64 g3, Value.int IntKind.i64 g4, Value.int IntKind.i64 q, Value.int IntKind.i64 r]) := hideP ((below1 _ _).block _ (by simp) |>.trans (heap_alloc_new _ _))
  go_enter Try.func12, Try.ntmps12
  go_wp2_with fail
  refine (HC.out _ (below2 _ _ _)).mono ?_
  rintro e w1 ⟨rfl, hb⟩
  have B1 : Hid (Below w.heap.size w w1) := hideP (below_more (below2 _ _ _) hb (by simp; omega))
  have hz1 : w.heap.size + 1 < w1.heap.size := by have := hb.size; simp at this; omega
  have QR : Hid (w1.heap[w.heap.size + 1]? = some (.cells #[.int .i64 0, .int .i64 0, .int .i64 0, .int .i64 0] 39 (0, 0))) := hideP ((hb.block _ (by simp)).trans (by have h := heap_alloc_new (w.alloc (.cells #[Value.string s, Value.slice a1 n1 c1, Value.slice a2 n2 c2, Value.int IntKind.i64 g0, Value.int IntKind.i64 g1, Value.int IntKind.i64 g2, Value.int IntKind.i64 g3, Value.int IntKind.i64 g4, Value.int IntKind.i64 q, Value.int IntKind.i64 r] 34)) (.cells #[.int .i64 0, .int .i64 0, .int .i64 0, .int .i64 0] 39); rw [World.size_alloc] at h; exact h))
  have X1 := hideP (X0.out.below hb)
  clear hb X0 HC
  cases R with
  | false =>
    have r0 : w1.cell? ⟨w.heap.size + 1, 0, none⟩ = some (.int .i64 0) := by rw [cell_of_row _ _ _ _ _ _ QR.out]; rfl
    have r1 : w1.cell? ⟨w.heap.size + 1, 1, none⟩ = some (.int .i64 0) := by rw [cell_of_row _ _ _ _ _ _ QR.out]; rfl
    have r2 : w1.cell? ⟨w.heap.size + 1, 2, none⟩ = some (.int .i64 0) := by rw [cell_of_row _ _ _ _ _ _ QR.out]; rfl
    have r3 : w1.cell? ⟨w.heap.size + 1, 3, none⟩ = some (.int .i64 0) := by rw [cell_of_row _ _ _ _ _ _ QR.out]; rfl
    have fz : ∀ j, w1.frozen? ⟨w.heap.size + 1, j, none⟩ = false := fun j => frozen_of_row _ _ _ _ _ QR.out
    have HE : Hid ((⟨oa, ob, oc, od⟩ : Q4) = ⟨0, 0, 0, 0⟩ ∧ hh = false) := hideP ⟨by rw [HO.out]; rfl, by rw [HH.out]; rfl⟩
    obtain ⟨he, hh0⟩ := HE.out
    simp only [Q4.mk.injEq] at he
    obtain ⟨rfl, rfl, rfl, rfl⟩ := he
    subst hh0
    clear HE HO HH HG HZ HK
    go_wp2
    refine bodyPost_ret (v := .tuple #[.agg #[.int .i64 0, .int .i64 0, .int .i64 0, .int .i64 0], .bool false]) (by simp [results, Try.results12, go_sem, r0, r1, r2, r3, hz1]) rfl ⟨rfl, ?_⟩
    have B9 := B1.out
    have hsz := B9.size
    clear r0 r1 r2 r3 fz B1
    repeat (first | with_reducible exact B9 | (with_reducible refine Below.alloc ?_ ?_ _; rotate_left; focus (simp; omega)) | (with_reducible refine Below.setCell ?_ ?_ _; rotate_left; focus (first | (simp; done) | (simp; omega))))
  | true =>
    obtain ⟨p0, p1, p2, p3, p4, p5, p6, p7, p8, p9⟩ := X1.out.at
    have hzX := X1.out.lt
    go_wp2_with fail
    refine (HG.out trivial _ B1.out).mono ?_
    rintro e w2 ⟨rfl, hb2⟩
    have B2 : Hid (Below w.heap.size w w2) := hideP (below_more B1.out hb2 B1.out.size)
    have X2 := hideP (X1.out.below hb2)
    have QR2 : Hid (w2.heap[w.heap.size + 1]? = some (.cells #[.int .i64 0, .int .i64 0, .int .i64 0, .int .i64 0] 39 (0, 0))) := hideP ((hb2.block _ hz1).trans QR.out)
    have hz2 : w.heap.size + 1 < w2.heap.size := by have := hb2.size; omega
    clear hb2 p0 p1 p2 p3 p4 p5 p6 p7 p8 p9 hzX X1 B1 QR hz1
    obtain ⟨p0, p1, p2, p3, p4, p5, p6, p7, p8, p9⟩ := X2.out.at
    have hzX := X2.out.lt
    have r0 : w2.cell? ⟨w.heap.size + 1, 0, none⟩ = some (.int .i64 0) := by rw [cell_of_row _ _ _ _ _ _ QR2.out]; rfl
    have r1 : w2.cell? ⟨w.heap.size + 1, 1, none⟩ = some (.int .i64 0) := by rw [cell_of_row _ _ _ _ _ _ QR2.out]; rfl
    have r2 : w2.cell? ⟨w.heap.size + 1, 2, none⟩ = some (.int .i64 0) := by rw [cell_of_row _ _ _ _ _ _ QR2.out]; rfl
    have r3 : w2.cell? ⟨w.heap.size + 1, 3, none⟩ = some (.int .i64 0) := by rw [cell_of_row _ _ _ _ _ _ QR2.out]; rfl
    have fz : ∀ j, w2.frozen? ⟨w.heap.size + 1, j, none⟩ = false := fun j => frozen_of_row _ _ _ _ _ QR2.out
    obtain ⟨hb0, hhb⟩ : ∃ t, t = hasB gs c := ⟨_, rfl⟩
    have hzb := HZ.out trivial
    rw [← hhb] at hzb
    have HHB := hideP hhb
    clear hhb
    cases hb0 with
    | false =>
      have z1 : decide (z < 0) = true := hzb
      have HE : Hid ((⟨oa, ob, oc, od⟩ : Q4) = ⟨0, 0, 0, 0⟩ ∧ hh = false) := hideP ⟨by rw [HO.out, look1_none HHB.out.symm]; rfl, by rw [HH.out, ← HHB.out]; rfl⟩
      obtain ⟨he, hh0⟩ := HE.out
      simp only [Q4.mk.injEq] at he
      obtain ⟨rfl, rfl, rfl, rfl⟩ := he
      subst hh0
      clear HE HO HH HG HZ HK hzb
      go_wp2
      refine bodyPost_ret (v := .tuple #[.agg #[.int .i64 0, .int .i64 0, .int .i64 0, .int .i64 0], .bool false]) (by simp [results, Try.results12, go_sem, r0, r1, r2, r3, hz2]) rfl ⟨rfl, ?_⟩
      have B9 := B2.out
      have hsz := B9.size
      clear r0 r1 r2 r3 fz B2
      repeat (first | with_reducible exact B9 | (with_reducible refine Below.alloc ?_ ?_ _; rotate_left; focus (simp; omega)) | (with_reducible refine Below.setCell ?_ ?_ _; rotate_left; focus (first | (simp; done) | (simp; omega))))
    | true =>
      obtain ⟨k, hk, rfl, hlk⟩ := HK.out trivial HHB.out.symm
      obtain rfl : hh = true := by rw [HH.out, ← HHB.out]; rfl
      have hki : (k : Int) < (n1 : Int) := by omega
      obtain ⟨b, off, rfl, hb, _, e0, e1, e2, e3⟩ := HX.out.g.cells B2.out hk
      have HE : Hid ((⟨oa, ob, oc, od⟩ : Q4) = gs.getD k Q4.none) := hideP (by rw [HO.out, hlk]; rfl)
      rw [← HE.out] at e0 e1 e2 e3
      dsimp only at e0 e1 e2 e3
      clear HE HO HH HG HZ HK hzb hlk
      have z1 : decide ((k : Int) < 0) = false := by simp
      go_wp2
      refine bodyPost_ret (v := .tuple #[.agg #[.int .i64 oa, .int .i64 ob, .int .i64 oc, .int .i64 od], .bool true]) (by simp [results, Try.results12, go_sem, r0, r1, r2, r3, hz2]) rfl ⟨rfl, ?_⟩
      have B9 := B2.out
      have hsz := B9.size
      clear r0 r1 r2 r3 fz B2
      repeat (first | with_reducible exact B9 | (with_reducible refine Below.alloc ?_ ?_ _; rotate_left; focus (simp; omega)) | (with_reducible refine Below.setCell ?_ ?_ _; rotate_left; focus (first | (simp; done) | (simp; omega))))
end Go.Proofs.Ytggcfgbpameppaa
