/-
  The specification's SetWord.
-/
import Derived.Test.YtggcfgbpameppaaLsx
namespace Go.Proofs.Ytggcfgbpameppaa
open Go.RowKit Go.Maps
set_option linter.unusedVariables false
set_option linter.unusedSimpArgs false

/-- What SetWord answers. -/
def swO (f : Fo) (gs ps : List Q4) (bs : List Int) : List (Int × Int) := if wOk f gs ps bs then spL gs ps bs else []

set_option maxRecDepth 20000 in
set_option maxHeartbeats 8000000 in
theorem specSetWord_any {f : Fo} {vg vp vb : Value} {gs ps : List Q4} {bs : List Int} {w : World} (h : TwoQ w vg vp gs ps) (hb : BRow 0 w vb bs) (hs : f.s.size ≤ 1048576) (hg : gs.length ≤ 1048576) (hp : ps.length ≤ 1048576) (hbl : bs.length ≤ 1048576) :
    Calls Try.prog 15 #[foV f vg vp, vb] w fun e w' => ∃ t, e = .returned t ∧ w'.ownsRow w.heap.size 81 2 t (swO f gs ps bs).length (f2 (swO f gs ps bs)) ∧ Below w.heap.size w w' := by
  obtain ⟨R, hR⟩ : ∃ R, R = fontB f gs ps := ⟨_, rfl⟩
  have HC : Hid (∀ W, Below w.heap.size w W → Calls Try.prog 8 #[foV f vg vp] W fun e w' => e = .returned (.bool R) ∧ Below W.heap.size W w') := hideP (fun W hW => by rw [hR]; exact specFont_any (h.below hW) hs hg hp)
  have HS : Hid (R = true → bs.length ≤ 1000 → ∀ W, Below w.heap.size w W → Calls Try.prog 41 #[foV f vg vp, vb] W fun e w' => ∃ t, e = .returned t ∧ w'.ownsRow (W.heap.size + 1) 81 2 t (spL gs ps bs).length (f2 (spL gs ps bs)) ∧ Below W.heap.size W w') := hideP (fun hr hn W hW => specSet_any (h.below hW) (SRow.below bStable hb hW) hg hp hn (by rw [← hR]; exact hr))
  obtain ⟨a1, n1, c1, rfl⟩ : ∃ a n c, vg = .slice a n c := by obtain ⟨a, c, rfl⟩ := h.g.shape; exact ⟨_, _, _, rfl⟩
  obtain ⟨a2, n2, c2, rfl⟩ : ∃ a n c, vp = .slice a n c := by obtain ⟨a, c, rfl⟩ := h.p.shape; exact ⟨_, _, _, rfl⟩
  obtain ⟨ab, nb, cb, rfl⟩ : ∃ a n c, vb = .slice a n c := by obtain ⟨a, c, rfl⟩ := hb.shape; exact ⟨_, _, _, rfl⟩
  have hnb := hb.len
  rw [hnb] at HS
  obtain ⟨O, hO⟩ : ∃ o, o = swO f gs ps bs := ⟨_, rfl⟩
  have HO : Hid (O = if (R && decide (nb ≤ 1000)) then spL gs ps bs else []) := hideP (by rw [hO, hR, ← hnb]; rfl)
  rw [← hO]
  have hnbl : nb ≤ 1048576 := by omega
  clear h hb hs hg hp hR hO hbl hnb
  obtain ⟨s, g0, g1, g2, g3, g4, q, r⟩ := f
  simp only [foV] at HC HS ⊢
  have X0 : Hid (BoxF (w.alloc (.cells #[Value.string s, Value.slice a1 n1 c1, Value.slice a2 n2 c2, Value.int IntKind.i64 g0, Value.int IntKind.i64 g1, Value.int IntKind.i64 g2, Value.int IntKind.i64 g3, Value.int IntKind.i64 g4, Value.int IntKind.i64 q, Value.int IntKind.i64 r] 34)) w.heap.size #[Value.string s, Value.slice a1 n1 c1, Value.slice a2 n2 c2, Value.int IntKind.i64 g0, Value.int IntKind.i64 g1, Value.int IntKind.i64 g2, Value.int IntKind.i64 g3, Value.int IntKind.i64 g4, Value.int IntKind.i64 q, Value.int IntKind.i64 r]) := hideP (heap_alloc_new _ _)
  go_enter Try.func15, Try.ntmps15
  go_wp2_with fail
  refine (HC.out _ (below1 _ _)).mono ?_
  rintro e w1 ⟨rfl, hb⟩
  have B1 : Hid (Below w.heap.size w w1) := hideP (below_more (below1 _ _) hb (by simp))
  have X1 := hideP (X0.out.below hb)
  have hszw : w.heap.size ≤ w1.heap.size := B1.out.size
  have ON : Hid ((w1.alloc (.cells #[] 81)).ownsRow w.heap.size 81 2 (.slice (some ⟨w1.heap.size, 0, none⟩) 0 0) 0 []) := hideP ⟨rfl, Or.inr ⟨w1.heap.size, 0, #[], rfl, hszw, heap_alloc_new _ _, Nat.le_refl _, by unfold maxLen; omega, rfl, rfl⟩⟩
  clear hb X0
  by_cases hok : R = true ∧ nb ≤ 1000
  rotate_left
  · have HE : Hid (O = []) := hideP (by
      rw [HO.out, if_neg]
      intro h
      simp only [Bool.and_eq_true, decide_eq_true_eq] at h
      exact hok h)
    cases R with
    | false =>
      clear hok
      go_wp2
      go_ret
      exact ⟨_, rfl, by rw [HE.out]; exact ON.out, B1.out.alloc hszw _⟩
    | true =>
      have hn : decide (1000 < (nb : Int)) = true := by have := Nat.lt_of_not_le (fun h => hok ⟨rfl, h⟩); simp; omega
      clear hok
      go_wp2
      go_ret
      exact ⟨_, rfl, by rw [HE.out]; exact ON.out, B1.out.alloc hszw _⟩
  · obtain ⟨rfl, hnn⟩ := hok
    have hn : decide (1000 < (nb : Int)) = false := by simp; omega
    have HE : Hid (O = spL gs ps bs) := hideP (by rw [HO.out]; simp [hnn])
    obtain ⟨p0, p1, p2, p3, p4, p5, p6, p7, p8, p9⟩ := X1.out.at
    have hzX := X1.out.lt
    have CS := hideP (HS.out rfl hnn w1 B1.out)
    clear HS HC
    go_wp2_with fail
    refine CS.out.mono ?_
    rintro e w2 ⟨t, rfl, ho, hb2⟩
    obtain ⟨a3, c3, rfl⟩ := ownG_shape ho
    have H2 : Hid (w2.ownsRow w.heap.size 81 2 (.slice a3 (spL gs ps bs).length c3) (spL gs ps bs).length (f2 (spL gs ps bs)) ∧ Below w.heap.size w w2) := hideP ⟨own_lo ho (by omega), below_more B1.out hb2 hszw⟩
    clear ho hb2
    go_wp2
    go_ret
    exact ⟨_, rfl, by rw [HE.out]; exact H2.out.1, H2.out.2⟩
end Go.Proofs.Ytggcfgbpameppaa
