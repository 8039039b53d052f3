/-
  The program's FontOk and GlyphOf.
-/
import Derived.Test.YtggcfgbpameppaaChf
namespace Go.Proofs.Ytggcfgbpameppaa
open Go.RowKit Go.Maps
set_option linter.unusedVariables false
set_option linter.unusedSimpArgs false

set_option maxHeartbeats 2000000 in
theorem implFont_any {f : Fo} {vg vp : Value} {gs ps : List Q4} {w : World} (h : TwoQ w vg vp gs ps) (hs : f.s.size ≤ 1048576) (hg : gs.length ≤ 1048576) (hp : ps.length ≤ 1048576) :
    Calls Try.prog 10 #[foV f vg vp] w fun e w' => e = .returned (.bool (fontB f gs ps)) ∧ Below w.heap.size w w' := by
  have HC : Hid (∀ W, Below w.heap.size w W → Calls Try.prog 36 #[foV f vg vp] W fun e w' => ∃ o1 o2, e = .returned (.tuple #[.agg #[.map o1, .map o2], .bool (fontB f gs ps)]) ∧ (fontB f gs ps = true → Face w' (.agg #[.map o1, .map o2]) W.heap.size gs ps) ∧ Below W.heap.size W w') := hideP (fun W hW => checked_any (h.below hW) hs hg hp)
  obtain ⟨a1, n1, c1, rfl⟩ : ∃ a n c, vg = .slice a n c := by obtain ⟨a, c, rfl⟩ := h.g.shape; exact ⟨_, _, _, rfl⟩
  obtain ⟨a2, n2, c2, rfl⟩ : ∃ a n c, vp = .slice a n c := by obtain ⟨a, c, rfl⟩ := h.p.shape; exact ⟨_, _, _, rfl⟩
  obtain ⟨R, hR⟩ : ∃ R, R = fontB f gs ps := ⟨_, rfl⟩
  rw [← hR]
  rw [← hR] at HC
  clear h hs hg hp hR
  obtain ⟨s, g0, g1, g2, g3, g4, q, r⟩ := f
  simp only [foV] at HC ⊢
  go_enter Try.func10, Try.ntmps10
  go_wp2_with fail
  refine (HC.out _ (below1 _ _)).mono ?_
  rintro e w1 ⟨o1, o2, rfl, -, hb⟩
  have B1 : Hid (Below w.heap.size w w1) := hideP (below_more (below1 _ _) hb (by simp))
  clear hb
  go_wp2
  go_ret
  exact ⟨rfl, B1.out.alloc B1.out.size _⟩

theorem look1_at {gs : List Q4} (h : AscG gs) {k : Nat} (hk : k < gs.length) {c : Int} (hc : (gs.getD k Q4.none).a = c) : look1 gs c = some (gs.getD k Q4.none) := by
  cases hf : look1 gs c with
  | none =>
    have : hasB gs c = true := hasB_iff.2 ⟨k, hk, hc⟩
    unfold hasB at this
    rw [hf] at this
    cases this
  | some x =>
    unfold look1 at hf
    have h1 := List.find?_some hf
    have h2 := List.mem_of_find?_eq_some hf
    rw [List.mem_reverse] at h2
    obtain ⟨j, hj, rfl⟩ := List.getElem_of_mem h2
    have h3 : (gs.getD j Q4.none).a = c := by rw [List.getD_eq_getElem?_getD, List.getElem?_eq_getElem hj]; simpa using h1
    obtain rfl : j = k := by
      rcases Nat.lt_trichotomy j k with h4 | h4 | h4
      · have := ascG_mono h h4 hk
        omega
      · exact h4
      · have := ascG_mono h h4 hj
        omega
    rw [List.getD_eq_getElem?_getD, List.getElem?_eq_getElem hj]
    rfl
theorem fontB_asc {f : Fo} {gs ps : List Q4} (h : fontB f gs ps = true) : AscG gs := by
  simp only [fontB, Bool.and_eq_true] at h
  have h2 : gsB gs = true := by simpa using h.1.1.1.1.2
  exact (of_decide_eq_true h2).2
theorem look1_none {gs : List Q4} {c : Int} (h : hasB gs c = false) : look1 gs c = none := by
  unfold hasB at h
  cases hf : look1 gs c with
  | none => rfl
  | some x => rw [hf] at h; cases h

/-- What GlyphOf answers. -/
def glO (f : Fo) (gs ps : List Q4) (c : Int) : Q4 := if fontB f gs ps then (look1 gs c).getD Q4.none else Q4.none
def glH (f : Fo) (gs ps : List Q4) (c : Int) : Bool := fontB f gs ps && hasB gs c

set_option maxRecDepth 20000 in
set_option maxHeartbeats 4000000 in
theorem implGlyphOf_any {f : Fo} {vg vp : Value} {gs ps : List Q4} {c : Int} {w : World} (h : TwoQ w vg vp gs ps) (hs : f.s.size ≤ 1048576) (hg : gs.length ≤ 1048576) (hp : ps.length ≤ 1048576) (hc : I64 c) :
    Calls Try.prog 13 #[foV f vg vp, .int .i64 c] w fun e w' => e = .returned (.tuple #[q4V (glO f gs ps c), .bool (glH f gs ps c)]) ∧ Below w.heap.size w w' := by
  have HC : Hid (∀ W, Below w.heap.size w W → Calls Try.prog 36 #[foV f vg vp] W fun e w' => ∃ o1 o2, e = .returned (.tuple #[.agg #[.map o1, .map o2], .bool (fontB f gs ps)]) ∧ (fontB f gs ps = true → Face w' (.agg #[.map o1, .map o2]) W.heap.size gs ps) ∧ Below W.heap.size W w') := hideP (fun W hW => checked_any (h.below hW) hs hg hp)
  obtain ⟨a1, n1, c1, rfl⟩ : ∃ a n c, vg = .slice a n c := by obtain ⟨a, c, rfl⟩ := h.g.shape; exact ⟨_, _, _, rfl⟩
  obtain ⟨a2, n2, c2, rfl⟩ : ∃ a n c, vp = .slice a n c := by obtain ⟨a, c, rfl⟩ := h.p.shape; exact ⟨_, _, _, rfl⟩
  obtain ⟨R, hR⟩ : ∃ R, R = fontB f gs ps := ⟨_, rfl⟩
  obtain ⟨⟨oa, ob, oc, od⟩, ho⟩ : ∃ o, o = glO f gs ps c := ⟨_, rfl⟩
  obtain ⟨hh, hhh⟩ : ∃ o, o = glH f gs ps c := ⟨_, rfl⟩
  have HO : Hid ((⟨oa, ob, oc, od⟩ : Q4) = if R then (look1 gs c).getD Q4.none else Q4.none) := hideP (by rw [ho, hR]; rfl)
  have HH : Hid (hh = (R && hasB gs c)) := hideP (by rw [hhh, hR]; rfl)
  rw [← ho, ← hhh]
  rw [← hR] at HC
  clear h hs hg hp hR ho hhh
  obtain ⟨s, g0, g1, g2, g3, g4, q, r⟩ := f
  simp only [foV] at HC ⊢
  simp only [q4V]
  go_enter Try.func13, Try.ntmps13
  go_wp2_with fail
  refine (HC.out _ (below2 _ _ _)).mono ?_
  rintro e w1 ⟨o1, o2, rfl, hf, hb⟩
  have B1 : Hid (Below w.heap.size w w1) := hideP (below_more (below2 _ _ _) hb (by simp; omega))
  have hz1 : w.heap.size + 1 < w1.heap.size := by have := hb.size; simp at this; omega
  have QR : Hid (w1.heap[w.heap.size + 1]? = some (.cells #[.int .i64 0, .int .i64 0, .int .i64 0, .int .i64 0] 39 (0, 0))) := hideP ((hb.block _ (by simp)).trans (by have h := heap_alloc_new (w.alloc (.cells #[Value.string s, Value.slice a1 n1 c1, Value.slice a2 n2 c2, Value.int IntKind.i64 g0, Value.int IntKind.i64 g1, Value.int IntKind.i64 g2, Value.int IntKind.i64 g3, Value.int IntKind.i64 g4, Value.int IntKind.i64 q, Value.int IntKind.i64 r] 34)) (.cells #[.int .i64 0, .int .i64 0, .int .i64 0, .int .i64 0] 39); rw [World.size_alloc] at h; exact h))
  clear hb
  have r0 : w1.cell? ⟨w.heap.size + 1, 0, none⟩ = some (.int .i64 0) := by rw [cell_of_row _ _ _ _ _ _ QR.out]; rfl
  have r1 : w1.cell? ⟨w.heap.size + 1, 1, none⟩ = some (.int .i64 0) := by rw [cell_of_row _ _ _ _ _ _ QR.out]; rfl
  have r2 : w1.cell? ⟨w.heap.size + 1, 2, none⟩ = some (.int .i64 0) := by rw [cell_of_row _ _ _ _ _ _ QR.out]; rfl
  have r3 : w1.cell? ⟨w.heap.size + 1, 3, none⟩ = some (.int .i64 0) := by rw [cell_of_row _ _ _ _ _ _ QR.out]; rfl
  have fz : ∀ j, w1.frozen? ⟨w.heap.size + 1, j, none⟩ = false := fun j => frozen_of_row _ _ _ _ _ QR.out
  cases R with
  | false =>
    have HE : Hid ((⟨oa, ob, oc, od⟩ : Q4) = ⟨0, 0, 0, 0⟩ ∧ hh = false) := hideP ⟨by rw [HO.out]; rfl, by rw [HH.out]; rfl⟩
    obtain ⟨he, hh0⟩ := HE.out
    simp only [Q4.mk.injEq] at he
    obtain ⟨rfl, rfl, rfl, rfl⟩ := he
    subst hh0
    clear HE HO HH hf
    go_wp2
    refine bodyPost_ret (v := .tuple #[.agg #[.int .i64 0, .int .i64 0, .int .i64 0, .int .i64 0], .bool false]) (by simp [results, Try.results13, go_sem, r0, r1, r2, r3, hz1]) rfl ⟨rfl, ?_⟩
    have B2 := B1.out
    have hsz := B2.size
    clear r0 r1 r2 r3 fz B1
    repeat (first | with_reducible exact B2 | (with_reducible refine Below.alloc ?_ ?_ _; rotate_left; focus (simp; omega)) | (with_reducible refine Below.setCell ?_ ?_ _; rotate_left; focus (first | (simp; done) | (simp; omega))))
  | true =>
    have HF := hideP (hf rfl)
    clear hf
    obtain ⟨b1, b2, hv, _, _, hgm, _⟩ := HF.out.ex
    simp only [Value.agg.injEq, Array.mk.injEq, List.cons.injEq, Value.map.injEq, and_true] at hv
    obtain ⟨rfl, rfl⟩ := hv
    obtain ⟨n, F, hn, hM, hF⟩ := hgm
    obtain ⟨hb0, hhb⟩ : ∃ t, t = hasB gs c := ⟨_, rfl⟩
    have CH : Hid (∀ W, Below w1.heap.size w1 W → Calls Try.prog 40 #[.agg #[.map (some b1), .map (some b2)], .int .i64 c] W fun e w' => e = .returned (.bool hb0) ∧ Below W.heap.size W w') := hideP (fun W hW => by rw [hhb]; exact has_any (HF.out.below hW) hc)
    have HHB := hideP hhb
    have HMM : Hid (∀ W, Below w1.heap.size w1 W → MapQ W 2 b1 n F) := hideP (fun W hW => hM.below hW)
    have HX : Hid ((⟨oa, ob, oc, od⟩ : Q4) = (F (.int .i64 c)).getD Q4.none) := hideP (by rw [HO.out, hF c hc]; rfl)
    clear hn hM hF hhb
    go_wp2_with fail
    refine (CH.out _ (below1 _ _)).mono ?_
    rintro e w2 ⟨rfl, hb2⟩
    have b12 : Below w1.heap.size w1 w2 := below_more (below1 _ _) hb2 (by simp)
    have B12 := hideP b12
    have B2 : Hid (Below w.heap.size w w2) := hideP (below_more B1.out b12 B1.out.size)
    have f0 : w2.cell? ⟨w1.heap.size, 0, none⟩ = some (.map (some b1)) := (hb2.cell (p := ⟨w1.heap.size, 0, none⟩) (by simp)).trans (by simp [go_sem])
    have s0 := (b12.cell (p := ⟨w.heap.size + 1, 0, none⟩) hz1).trans r0
    have s1 := (b12.cell (p := ⟨w.heap.size + 1, 1, none⟩) hz1).trans r1
    have s2 := (b12.cell (p := ⟨w.heap.size + 1, 2, none⟩) hz1).trans r2
    have s3 := (b12.cell (p := ⟨w.heap.size + 1, 3, none⟩) hz1).trans r3
    have gz : ∀ j, w2.frozen? ⟨w.heap.size + 1, j, none⟩ = false := fun j => (b12.frozen (p := ⟨w.heap.size + 1, j, none⟩) hz1).trans (fz j)
    clear hb2 b12 r0 r1 r2 r3 fz
    cases hb0 with
    | false =>
      have HE : Hid ((⟨oa, ob, oc, od⟩ : Q4) = ⟨0, 0, 0, 0⟩ ∧ hh = false) := hideP ⟨by rw [HO.out, look1_none HHB.out.symm]; rfl, by rw [HH.out, ← HHB.out]; rfl⟩
      obtain ⟨he, hh0⟩ := HE.out
      simp only [Q4.mk.injEq] at he
      obtain ⟨rfl, rfl, rfl, rfl⟩ := he
      subst hh0
      clear HE HO HH HX
      go_wp2
      refine bodyPost_ret (v := .tuple #[.agg #[.int .i64 0, .int .i64 0, .int .i64 0, .int .i64 0], .bool false]) (by simp [results, Try.results13, go_sem, s0, s1, s2, s3]) rfl ⟨rfl, ?_⟩
      have B3 := B2.out
      clear s0 s1 s2 s3 gz B2
      repeat (first | with_reducible exact B3 | (with_reducible refine Below.setCell ?_ ?_ _; rotate_left; focus (first | (simp; done) | (simp; omega))))
    | true =>
      obtain rfl : hh = true := by rw [HH.out, ← HHB.out]; rfl
      go_wp2_with (first
        | (at_lookup; refine wpList_lookup_q1 _ rfl _ _ 69 rfl 2 39 keyedI und69 (zero39 _) b1 n F rfl (HMM.out _ B12.out) _ _ rfl (keyI hc) ?_; rw [← HX.out]; simp only [q4V]))
      refine bodyPost_ret (v := .tuple #[.agg #[.int .i64 oa, .int .i64 ob, .int .i64 oc, .int .i64 od], .bool true]) (by simp [results, Try.results13, go_sem, s0, s1, s2, s3]) rfl ⟨rfl, ?_⟩
      have B3 := B2.out
      clear s0 s1 s2 s3 gz B2
      repeat (first | with_reducible exact B3 | (with_reducible refine Below.setCell ?_ ?_ _; rotate_left; focus (first | (simp; done) | (simp; omega))))
end Go.Proofs.Ytggcfgbpameppaa
