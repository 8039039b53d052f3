/-
  Fonts: what one is, weighed, copied and compared.
-/
import Derived.Test.YtggcfgbpameppaaQua
namespace Go.Proofs.Ytggcfgbpameppaa
open Go.RowKit
set_option linter.unusedVariables false
set_option linter.unusedSimpArgs false

theorem Abv.setT {lo b o : Nat} {w w' : World} (h : Abv lo w w') (hb : b < lo) (x : Value) : Abv lo w (w'.setCell ⟨b, o, none⟩ x) := h.trans (Abv.set hb x)

/-- What of a font is no row. -/
structure Fo where
  s : ByteArray
  g0 : Int
  g1 : Int
  g2 : Int
  g3 : Int
  g4 : Int
  q : Int
  r : Int
abbrev foV (f : Fo) (vg vp : Value) : Value := .agg #[.string f.s, vg, vp, .int .i64 f.g0, .int .i64 f.g1, .int .i64 f.g2, .int .i64 f.g3, .int .i64 f.g4, .int .i64 f.q, .int .i64 f.r]
/-- Two rows in a world. -/
structure TwoQ (w : World) (vg vp : Value) (gs ps : List Q4) : Prop where
  g : QRow 0 w vg gs
  p : QRow 0 w vp ps
theorem TwoQ.below {w w' : World} {vg vp : Value} {gs ps : List Q4} (h : TwoQ w vg vp gs ps) (hb : Below w.heap.size w w') : TwoQ w' vg vp gs ps := ⟨SRow.below qStable h.g hb, SRow.below qStable h.p hb⟩

set_option maxHeartbeats 2000000 in
theorem szFont_any {f : Fo} {a1 a2 : Option Addr} {n1 n2 c1 c2 : Nat} {w : World} {l : Int} (hs : f.s.size ≤ 9223372036854775807) (h1 : n1 ≤ 9223372036854775807) (h2 : n2 ≤ 9223372036854775807) (hl0 : 0 ≤ l) (hl1 : l ≤ 1048576) :
    Calls Try.prog 7 #[foV f (.slice a1 n1 c1) (.slice a2 n2 c2), .int .i64 l] w fun e w' => (∃ m : Int, e = .returned (.int .i64 m) ∧ m ≤ l ∧ (0 ≤ m → f.s.size ≤ 1048576 ∧ n1 ≤ 1048576 ∧ n2 ≤ 1048576)) ∧ Below w.heap.size w w' := by
  obtain ⟨s, g0, g1, g2, g3, g4, q, r⟩ := f
  dsimp only at hs
  simp only [foV]
  obtain ⟨z, hz⟩ : ∃ z, z = s.size := ⟨_, rfl⟩
  have hz' : s.size = z := hz.symm
  rw [hz'] at hs ⊢
  clear hz
  by_cases hbig : l - (z : Int) < 0
  · go_enter Try.func7, Try.ntmps7
    go_wp2
    go_ret
    exact ⟨⟨-1, rfl, by omega, fun h => by omega⟩, below1 _ _⟩
  · have hzs : (z : Int) ≤ 1048576 := by omega
    have HZ := hideP hzs
    clear hzs
    go_enter Try.func7, Try.ntmps7
    go_wp2_with fail
    refine (szGlyphS_any h1 (by omega) (by omega)).mono ?_
    rintro e w1 ⟨⟨m, rfl, hml, hm⟩, hb⟩
    have hzz : w.heap.size < w1.heap.size := by have := hb.size; simp at this; omega
    obtain ⟨hc1, hf1⟩ := bcell hb
    simp only [World.size_alloc] at hc1 hf1
    have B1 : Hid (Below w.heap.size w w1) := hideP (below_more (below1 _ _) hb (by simp))
    have HM := hideP hm
    clear hb hm
    by_cases hneg : m < 0
    · go_wp2
      go_ret
      exact ⟨⟨-1, rfl, by omega, fun h => by omega⟩, B1.out⟩
    · have hm0 : 0 ≤ m := by omega
      have hm1 : m ≤ 1048576 := by omega
      go_wp2_with fail
      refine (szPairS_any h2 hm0 hm1).mono ?_
      rintro e w2 ⟨⟨m2, rfl, hml2, hm2⟩, hb2⟩
      have B2 : Hid (Below w.heap.size w w2) := hideP (below_more B1.out hb2 B1.out.size)
      have HM2 := hideP hm2
      clear hb2 hm2
      by_cases hneg2 : m2 < 0
      · go_wp2
        go_ret
        exact ⟨⟨-1, rfl, by omega, fun h => by omega⟩, B2.out⟩
      · go_wp2
        go_ret
        exact ⟨⟨m2, rfl, by omega, fun h => ⟨by have := HZ.out; omega, HM.out hm0, HM2.out h⟩⟩, B2.out⟩

set_option maxRecDepth 20000 in
set_option maxHeartbeats 4000000 in
theorem toFont_any {f : Fo} {vg vp : Value} {gs ps : List Q4} {w : World} (h : TwoQ w vg vp gs ps) (hg : gs.length ≤ 1048576) (hp : ps.length ≤ 1048576) :
    Calls Try.prog 9 #[foV f vg vp] w fun e w' => ∃ ug up, e = .returned (foV f ug up) ∧ QRow w.heap.size w' ug gs ∧ QRow w.heap.size w' up ps ∧ Below w.heap.size w w' := by
  have HX := hideP h
  obtain ⟨a1, n1, c1, rfl⟩ : ∃ a n c, vg = .slice a n c := by obtain ⟨a, c, rfl⟩ := h.g.shape; exact ⟨_, _, _, rfl⟩
  obtain ⟨a2, n2, c2, rfl⟩ : ∃ a n c, vp = .slice a n c := by obtain ⟨a, c, rfl⟩ := h.p.shape; exact ⟨_, _, _, rfl⟩
  obtain ⟨s, g0, g1, g2, g3, g4, q, r⟩ := f
  simp only [foV]
  have HS := hideP (And.intro hg hp)
  clear h hg hp
  go_enter Try.func9, Try.ntmps9
  go_wp2_with fail
  refine (toGlyphS_any (SRow.below qStable HX.out.g ?_) HS.out.1).mono ?_
  · exact below3 _ _ _ _
  rintro e w1 ⟨ug, rfl, hr1, hb1⟩
  obtain ⟨a3, n3, c3, rfl⟩ : ∃ a n c, ug = .slice a n c := by obtain ⟨a, c, rfl⟩ := hr1.shape; exact ⟨_, _, _, rfl⟩
  have hz1 : w.heap.size + 1 + 1 < w1.heap.size := by have := hb1.size; simp at this; omega
  have hy1 : w.heap.size + 1 < w1.heap.size := by omega
  have hx1 : w.heap.size < w1.heap.size := by omega
  have B1 : Hid (Below w.heap.size w w1) := by
    exact below_more (below3 _ _ _ _) hb1 (by simp; omega)
  have R1 : Hid (QRow w.heap.size w1 (.slice a3 n3 c3) gs ∧ QRow (w.heap.size + 3) w1 (.slice a3 n3 c3) gs) := hideP ⟨hr1.mono qStable (by simp; omega), hr1.mono qStable (by simp)⟩
  obtain ⟨hc1, hf1⟩ := bcell hb1
  simp only [World.size_setCell, World.size_alloc] at hc1 hf1
  clear hb1 hr1
  go_wp2_with fail
  refine (toPairS_any (SRow.below qStable HX.out.p (B1.out.setCell (by simp; omega) _)) HS.out.2).mono ?_
  rintro e w2 ⟨up, rfl, hr2, hb2⟩
  obtain ⟨a4, n4, c4, rfl⟩ : ∃ a n c, up = .slice a n c := by obtain ⟨a, c, rfl⟩ := hr2.shape; exact ⟨_, _, _, rfl⟩
  have hz2 : w.heap.size + 1 + 1 < w2.heap.size := by have := hb2.size; simp at this; omega
  have hy2 : w.heap.size + 1 < w2.heap.size := by omega
  have hx2 : w.heap.size < w2.heap.size := by omega
  have B2 : Hid (Below w.heap.size w w2) := hideP (below_more (B1.out.setCell (by simp; omega) _) hb2 (by simp; omega))
  have R2 : Hid (QRow (w.heap.size + 3) w2 (.slice a3 n3 c3) gs ∧ QRow (w.heap.size + 3) w2 (.slice a4 n4 c4) ps) := hideP ⟨SRow.abv qStable (SRow.abv qStable R1.out.2 (Abv.set (by omega) _)) (Abv.below hb2), hr2.mono qStable (by simp; omega)⟩
  obtain ⟨hc2, hf2⟩ := bcell hb2
  simp only [World.size_setCell, World.size_alloc] at hc2 hf2
  clear hb2 hr2 R1 B1
  go_wp2_with fail
  refine (toGlue_any _ _ _ _ _ _).mono ?_
  rintro e w3 ⟨rfl, hb3⟩
  have hz3 : w.heap.size + 1 + 1 < w3.heap.size := by have := hb3.size; simp at this; omega
  have hy3 : w.heap.size + 1 < w3.heap.size := by omega
  have hx3 : w.heap.size < w3.heap.size := by omega
  have B3 : Hid (Below w.heap.size w w3) := hideP (below_more (B2.out.setCell (by simp; omega) _) hb3 (by simp; omega))
  have R3 : Hid (QRow (w.heap.size + 3) w3 (.slice a3 n3 c3) gs ∧ QRow (w.heap.size + 3) w3 (.slice a4 n4 c4) ps) := hideP ⟨SRow.abv qStable (SRow.abv qStable R2.out.1 (Abv.set (by omega) _)) (Abv.below hb3), SRow.abv qStable (SRow.abv qStable R2.out.2 (Abv.set (by omega) _)) (Abv.below hb3)⟩
  obtain ⟨hc3, hf3⟩ := bcell hb3
  simp only [World.size_setCell, World.size_alloc] at hc3 hf3
  clear hb3 R2 B2
  go_wp2
  refine bodyPost_ret (v := foV ⟨s, g0, g1, g2, g3, g4, q, r⟩ (.slice a3 n3 c3) (.slice a4 n4 c4)) (by simp [results, Try.results9, go_sem, hc1, hc2, hc3, hx1, hy1, hz1, hx2, hy2, hz2, hx3, hy3, hz3]) rfl ⟨_, _, rfl, ?_, ?_, ?_⟩
  · refine SRow.mono qStable (SRow.abv qStable R3.out.1 ?_) (by omega)
    clear hc1 hc2 hc3 hf1 hf2 hf3
    repeat (first | with_reducible exact Abv.refl _ _ | (with_reducible refine Abv.setT ?_ ?_ _; rotate_left; focus (first | (simp; done) | (simp; omega) | omega)))
  · refine SRow.mono qStable (SRow.abv qStable R3.out.2 ?_) (by omega)
    clear hc1 hc2 hc3 hf1 hf2 hf3
    repeat (first | with_reducible exact Abv.refl _ _ | (with_reducible refine Abv.setT ?_ ?_ _; rotate_left; focus (first | (simp; done) | (simp; omega) | omega)))
  · have B4 := B3.out
    clear hc1 hc2 hc3 hf1 hf2 hf3 B3
    repeat (first | with_reducible exact B4 | (with_reducible refine Below.setCell ?_ ?_ _; rotate_left; focus (first | (simp; done) | (simp; omega))))

set_option maxRecDepth 20000 in
set_option maxHeartbeats 4000000 in
theorem eqFont_same {f : Fo} {vg vp ug up : Value} {gs ps : List Q4} {w : World} (h1 : TwoQ w vg vp gs ps) (h2 : TwoQ w ug up gs ps) (hg : gs.length ≤ 1048576) (hp : ps.length ≤ 1048576) :
    Calls Try.prog 11 #[foV f vg vp, foV f ug up] w fun e w' => e = .returned (.bool true) ∧ Below w.heap.size w w' := by
  have H1 := hideP h1
  have H2 := hideP h2
  obtain ⟨a1, n1, c1, rfl⟩ : ∃ a n c, vg = .slice a n c := by obtain ⟨a, c, rfl⟩ := h1.g.shape; exact ⟨_, _, _, rfl⟩
  obtain ⟨a2, n2, c2, rfl⟩ : ∃ a n c, vp = .slice a n c := by obtain ⟨a, c, rfl⟩ := h1.p.shape; exact ⟨_, _, _, rfl⟩
  obtain ⟨a3, n3, c3, rfl⟩ : ∃ a n c, ug = .slice a n c := by obtain ⟨a, c, rfl⟩ := h2.g.shape; exact ⟨_, _, _, rfl⟩
  obtain ⟨a4, n4, c4, rfl⟩ : ∃ a n c, up = .slice a n c := by obtain ⟨a, c, rfl⟩ := h2.p.shape; exact ⟨_, _, _, rfl⟩
  obtain ⟨s, g0, g1, g2, g3, g4, q, r⟩ := f
  simp only [foV]
  have HS := hideP (And.intro hg hp)
  clear h1 h2 hg hp
  go_enter Try.func11, Try.ntmps11
  go_wp2_with fail
  refine (eqGlyphS_same (SRow.below qStable H1.out.g (below2 _ _ _)) (SRow.below qStable H2.out.g (below2 _ _ _)) HS.out.1).mono ?_
  rintro e w1 ⟨rfl, hb1⟩
  have hy1 : w.heap.size + 1 < w1.heap.size := by have := hb1.size; simp at this; omega
  have hx1 : w.heap.size < w1.heap.size := by omega
  have B1 : Hid (Below w.heap.size w w1) := hideP (below_more (below2 _ _ _) hb1 (by simp; omega))
  obtain ⟨hc1, hf1⟩ := bcell hb1
  simp only [World.size_alloc] at hc1 hf1
  clear hb1
  go_wp2_with fail
  refine (eqPairS_same (SRow.below qStable H1.out.p B1.out) (SRow.below qStable H2.out.p B1.out) HS.out.2).mono ?_
  rintro e w2 ⟨rfl, hb2⟩
  have hy2 : w.heap.size + 1 < w2.heap.size := by have := hb2.size; omega
  have hx2 : w.heap.size < w2.heap.size := by omega
  have B2 : Hid (Below w.heap.size w w2) := hideP (below_more B1.out hb2 B1.out.size)
  obtain ⟨hc2, hf2⟩ := bcell hb2
  clear hb2
  go_wp2_with fail
  refine (eqGlue_same _ _ _ _ _ _).mono ?_
  rintro e w3 ⟨rfl, hb3⟩
  have hy3 : w.heap.size + 1 < w3.heap.size := by have := hb3.size; omega
  have hx3 : w.heap.size < w3.heap.size := by omega
  have B3 : Hid (Below w.heap.size w w3) := hideP (below_more B2.out hb3 B2.out.size)
  obtain ⟨hc3, hf3⟩ := bcell hb3
  clear hb3
  go_wp2
  go_ret
  exact ⟨rfl, B3.out⟩
end Go.Proofs.Ytggcfgbpameppaa
