/-
  The program's face of a font, and whether the font can be.
-/
import Derived.Test.YtggcfgbpameppaaFob
namespace Go.Proofs.Ytggcfgbpameppaa
open Go.RowKit Go.Maps
set_option linter.unusedVariables false
set_option linter.unusedSimpArgs false

theorem Face.set {w : World} {v : Value} {lo : Nat} {gs ps : List Q4} (h : Face w v lo gs ps) {b o : Nat} (hb : b < lo) (x : Value) : Face (w.setCell ⟨b, o, none⟩ x) v lo gs ps := by
  obtain ⟨b1, b2, h1, h2, h3, h4, h5⟩ := h.ex
  exact ⟨b1, b2, h1, h2, h3, h4.same (Below.heap_setCell _ _ _ _ (by simp; omega)), h5.same (Below.heap_setCell _ _ _ _ (by simp; omega))⟩

theorem chf_world (x : World) {w w1 : World} {b1 b2 : Nat} {gs ps : List Q4} (hl : w.heap.size + 1 < w1.heap.size) (hb : Below w.heap.size w x) (hf : Face x (.agg #[.map (some b1), .map (some b2)]) w1.heap.size gs ps) :
    Face ((x.setCell ⟨w.heap.size + 1, 0, none⟩ (.map (some b1))).setCell ⟨w.heap.size + 1, 1, none⟩ (.map (some b2))) (.agg #[.map (some b1), .map (some b2)]) w.heap.size gs ps ∧ Below w.heap.size w ((x.setCell ⟨w.heap.size + 1, 0, none⟩ (.map (some b1))).setCell ⟨w.heap.size + 1, 1, none⟩ (.map (some b2))) := by
  have h1 := (hf.set (b := w.heap.size + 1) (o := 0) hl (.map (some b1))).set (b := w.heap.size + 1) (o := 1) hl (.map (some b2))
  refine ⟨?_, (hb.setCell (Nat.le_succ _) _).setCell (Nat.le_succ _) _⟩
  obtain ⟨c1, c2, h2, h3, h4, h5, h6⟩ := h1.ex
  exact ⟨c1, c2, h2, by omega, by omega, h5, h6⟩

set_option maxRecDepth 20000 in
set_option maxHeartbeats 16000000 in
theorem checked_any {f : Fo} {vg vp : Value} {gs ps : List Q4} {w : World} (h : TwoQ w vg vp gs ps) (hs : f.s.size ≤ 1048576) (hg : gs.length ≤ 1048576) (hp : ps.length ≤ 1048576) :
    Calls Try.prog 36 #[foV f vg vp] w fun e w' => ∃ o1 o2, e = .returned (.tuple #[.agg #[.map o1, .map o2], .bool (fontB f gs ps)]) ∧ (fontB f gs ps = true → Face w' (.agg #[.map o1, .map o2]) w.heap.size gs ps) ∧ Below w.heap.size w w' := by
  have HX := hideP h
  obtain ⟨a1, c1, rfl⟩ := h.g.shape
  obtain ⟨a2, c2, rfl⟩ := h.p.shape
  obtain ⟨n1, hn1⟩ : ∃ n, n = gs.length := ⟨_, rfl⟩
  obtain ⟨n2, hn2⟩ : ∃ n, n = ps.length := ⟨_, rfl⟩
  rw [← hn1, ← hn2] at HX
  rw [← hn1, ← hn2]
  have HN := hideP (And.intro hn1 hn2)
  have hb1 : n1 ≤ 1048576 := by omega
  have hb2 : n2 ≤ 1048576 := by omega
  clear h hg hp
  obtain ⟨s, g0, g1, g2, g3, g4, q, r⟩ := f
  obtain ⟨z, hz⟩ : ∃ z, z = s.size := ⟨_, rfl⟩
  have hzs : s.size = z := hz.symm
  obtain ⟨gb, hgb⟩ : ∃ b, b = gsB gs := ⟨_, rfl⟩
  obtain ⟨pb, hpb⟩ : ∃ b, b = psB gs ps := ⟨_, rfl⟩
  obtain ⟨sb, hsb⟩ : ∃ b, b = spB g0 g1 g2 g3 g4 := ⟨_, rfl⟩
  obtain ⟨qb, hqb⟩ : ∃ b, b = szB q := ⟨_, rfl⟩
  obtain ⟨rb, hrb⟩ : ∃ b, b = szB r := ⟨_, rfl⟩
  obtain ⟨R, hR⟩ : ∃ R, R = fontB ⟨s, g0, g1, g2, g3, g4, q, r⟩ gs ps := ⟨_, rfl⟩
  have HR : Hid (R = (decide (z ≤ 40) && decide (n2 ≤ 2000) && gb && pb && sb && qb && rb)) := hideP (by rw [hR, hz, hn2, hgb, hpb, hsb, hqb, hrb]; rfl)
  rw [← hR]
  dsimp only at hs
  rw [hzs] at hs
  have CG : Hid (∀ W, Below w.heap.size w W → Calls Try.prog 51 #[.slice a1 n1 c1] W fun e w' => e = .returned (.bool gb) ∧ Below W.heap.size W w') := hideP (fun W hW => by rw [hgb]; exact glyphsOk_any (SRow.below qStable HX.out.g hW) (by rw [← HN.out.1]; exact hb1))
  have HPB := hideP hpb
  have CS0 : Hid (∀ W, Calls Try.prog 54 #[glueV g0 g1 g2 g3 g4] W fun e w' => e = .returned (.bool sb) ∧ Below W.heap.size W w') := hideP (fun W => by rw [hsb]; exact spaceOk_any g0 g1 g2 g3 g4 W)
  have CQ0 : Hid (∀ W, Calls Try.prog 55 #[.int .i64 q] W fun e w' => e = .returned (.bool qb) ∧ Below W.heap.size W w') := hideP (fun W => by rw [hqb]; exact (implSize_any q W).mono (fun e w' h => ⟨h.1, by rw [h.2]; exact Below.refl _ _⟩))
  have CR0 : Hid (∀ W, Calls Try.prog 55 #[.int .i64 r] W fun e w' => e = .returned (.bool rb) ∧ Below W.heap.size W w') := hideP (fun W => by rw [hrb]; exact (implSize_any r W).mono (fun e w' h => ⟨h.1, by rw [h.2]; exact Below.refl _ _⟩))
  clear hz hgb hpb hsb hqb hrb hR hn1 hn2
  simp only [foV]
  simp only [glueV] at CS0
  by_cases h1 : z ≤ 40
  rotate_left
  · have d1 : decide (40 < (z : Int)) = true := by simp; omega
    have HE : Hid (R = false) := hideP (by rw [HR.out]; simp [h1])
    clear h1
    go_enter Try.func36, Try.ntmps36
    go_wp2
    refine bodyPost_ret (v := .tuple #[.agg #[.map none, .map none], .bool false]) (by simp [results, Try.results36, go_sem]) rfl ⟨none, none, by rw [HE.out], (fun h => by rw [HE.out] at h; cases h), ?_⟩
    repeat (first | with_reducible exact below2 _ _ _ | (with_reducible refine Below.setCell ?_ ?_ _; rotate_left; focus (first | (simp; done) | (simp; omega))))
  have d1 : decide (40 < (z : Int)) = false := by simp; omega
  by_cases h3 : n2 ≤ 2000
  rotate_left
  · have d3 : decide (2000 < (n2 : Int)) = true := by simp; omega
    have HE : Hid (R = false) := hideP (by rw [HR.out]; simp [h3])
    clear h1 h3
    go_enter Try.func36, Try.ntmps36
    go_wp2
    refine bodyPost_ret (v := .tuple #[.agg #[.map none, .map none], .bool false]) (by simp [results, Try.results36, go_sem]) rfl ⟨none, none, by rw [HE.out], (fun h => by rw [HE.out] at h; cases h), ?_⟩
    repeat (first | with_reducible exact below2 _ _ _ | (with_reducible refine Below.setCell ?_ ?_ _; rotate_left; focus (first | (simp; done) | (simp; omega))))
  have d3 : decide (2000 < (n2 : Int)) = false := by simp; omega
  have HR2 : Hid (R = (gb && pb && sb && qb && rb)) := hideP (by rw [HR.out]; simp [h1, h3])
  clear h1 h3 HR
  go_enter Try.func36, Try.ntmps36
  go_wp2_with fail
  refine (CG.out _ (below2 _ _ _)).mono ?_
  rintro e w1 ⟨rfl, hb⟩
  have QF : Hid (BoxF w1 w.heap.size #[Value.string s, Value.slice a1 n1 c1, Value.slice a2 n2 c2, Value.int IntKind.i64 g0, Value.int IntKind.i64 g1, Value.int IntKind.i64 g2, Value.int IntKind.i64 g3, Value.int IntKind.i64 g4, Value.int IntKind.i64 q, Value.int IntKind.i64 r]) := hideP ((hb.block _ (by simp; omega)).trans ((below1 _ _).block _ (by simp) |>.trans (heap_alloc_new _ _)))
  have QR1 : Hid (w1.heap[w.heap.size + 1]? = some (.cells #[.map none, .map none] 72 (0, 0))) := hideP ((hb.block _ (by simp)).trans (by have h := heap_alloc_new (w.alloc (.cells #[Value.string s, Value.slice a1 n1 c1, Value.slice a2 n2 c2, Value.int IntKind.i64 g0, Value.int IntKind.i64 g1, Value.int IntKind.i64 g2, Value.int IntKind.i64 g3, Value.int IntKind.i64 g4, Value.int IntKind.i64 q, Value.int IntKind.i64 r] 34)) (.cells #[.map none, .map none] 72); rw [World.size_alloc] at h; exact h))
  have B1 : Hid (Below w.heap.size w w1) := hideP (below_more (below2 _ _ _) hb (by simp; omega))
  have hz1 : w.heap.size + 1 < w1.heap.size := by have := hb.size; simp at this; omega
  clear hb CG d1 d3
  cases gb with
  | false =>
    have HE : Hid (R = false) := hideP (by rw [HR2.out]; simp)
    have r0 : w1.cell? ⟨w.heap.size + 1, 0, none⟩ = some (.map none) := by rw [cell_of_row _ _ _ _ _ _ QR1.out]; rfl
    have r1 : w1.cell? ⟨w.heap.size + 1, 1, none⟩ = some (.map none) := by rw [cell_of_row _ _ _ _ _ _ QR1.out]; rfl
    have fz : ∀ j, w1.frozen? ⟨w.heap.size + 1, j, none⟩ = false := fun j => frozen_of_row _ _ _ _ _ QR1.out
    go_wp2
    refine bodyPost_ret (v := .tuple #[.agg #[.map none, .map none], .bool false]) (by simp [results, Try.results36, go_sem, r0, r1]) rfl ⟨none, none, by rw [HE.out], (fun h => by rw [HE.out] at h; cases h), ?_⟩
    have B2 := B1.out
    clear r0 r1 fz B1
    repeat (first | with_reducible exact B2 | (with_reducible refine Below.setCell ?_ ?_ _; rotate_left; focus (first | (simp; done) | (simp; omega))))
  | true =>
  obtain ⟨p0, p1, p2, p3, p4, p5, p6, p7, p8, p9⟩ := QF.out.at
  have hzB := QF.out.lt
  go_wp2_with fail
  refine (faceOf_any (f := ⟨s, g0, g1, g2, g3, g4, q, r⟩) (HX.out.below B1.out) (by rw [← HN.out.1]; exact hb1) (by rw [← HN.out.2]; exact hb2)).mono ?_
  rintro e w2 ⟨v, rfl, hface, hbw2⟩
  obtain ⟨b1, b2, rfl, hl1, hl2, _, _⟩ := hface.ex
  have QF2 : Hid (BoxF w2 w.heap.size #[Value.string s, Value.slice a1 n1 c1, Value.slice a2 n2 c2, Value.int IntKind.i64 g0, Value.int IntKind.i64 g1, Value.int IntKind.i64 g2, Value.int IntKind.i64 g3, Value.int IntKind.i64 g4, Value.int IntKind.i64 q, Value.int IntKind.i64 r]) := hideP (QF.out.below hbw2)
  have QR2 : Hid (w2.heap[w.heap.size + 1]? = some (.cells #[.map none, .map none] 72 (0, 0))) := hideP ((hbw2.block _ hz1).trans QR1.out)
  have B2 : Hid (Below w.heap.size w w2) := hideP (below_more B1.out hbw2 B1.out.size)
  have HFC := hideP hface
  have hz2 : w.heap.size + 1 < w2.heap.size := by have := hbw2.size; omega
  have HLO : Hid (w.heap.size + 1 < w1.heap.size) := hideP hz1
  clear hbw2 hface hl1 hl2 p0 p1 p2 p3 p4 p5 p6 p7 p8 p9 QF QR1 B1 hzB
  obtain ⟨p0, p1, p2, p3, p4, p5, p6, p7, p8, p9⟩ := QF2.out.at
  have hzB := QF2.out.lt
  go_wp2_with fail
  obtain ⟨W, hW⟩ : ∃ W, W = w2.alloc (.cells #[.map (some b1), .map (some b2)] 72) := ⟨_, rfl⟩
  have bW : Below w2.heap.size w2 W := by rw [hW]; exact below1 _ _
  have l0 : W.cell? ⟨w2.heap.size, 0, none⟩ = some (.map (some b1)) := by rw [hW]; simp [go_sem]
  have l1 : W.cell? ⟨w2.heap.size, 1, none⟩ = some (.map (some b2)) := by rw [hW]; simp [go_sem]
  have hWs : w2.heap.size < W.heap.size := by rw [hW]; simp
  rw [← hW]
  clear hW
  have BD : Hid (Below W.heap.size W W.drew) := hideP (Below.refl _ _).drew
  have BB : Hid (∀ x, Below W.heap.size W x → Below w.heap.size w x) := hideP (fun x hx => below_more B2.out (below_more bW hx bW.size) B2.out.size)
  have FC : Hid (∀ x, Below W.heap.size W x → Face x (.agg #[.map (some b1), .map (some b2)]) w1.heap.size gs ps) := hideP (fun x hx => HFC.out.below (below_more bW hx bW.size))
  have QR : Hid (∀ x : World, Below W.heap.size W x → x.cell? ⟨w.heap.size + 1, 0, none⟩ = some (.map none) ∧ x.cell? ⟨w.heap.size + 1, 1, none⟩ = some (.map none) ∧ x.frozen? ⟨w.heap.size + 1, 0, none⟩ = false ∧ x.frozen? ⟨w.heap.size + 1, 1, none⟩ = false) := hideP (fun x hx => by
    have hq : x.heap[w.heap.size + 1]? = some (.cells #[.map none, .map none] 72 (0, 0)) := ((below_more bW hx bW.size).block _ hz2).trans QR2.out
    exact ⟨by rw [cell_of_row _ _ _ _ _ _ hq]; rfl, by rw [cell_of_row _ _ _ _ _ _ hq]; rfl, frozen_of_row _ _ _ _ _ hq, frozen_of_row _ _ _ _ _ hq⟩)
  have Q : Hid (∀ x : World, Below W.heap.size W x → x.cell? ⟨w.heap.size, 2, none⟩ = some (.slice a2 n2 c2) ∧ x.cell? ⟨w.heap.size, 3, none⟩ = some (.int .i64 g0) ∧ x.cell? ⟨w.heap.size, 4, none⟩ = some (.int .i64 g1) ∧ x.cell? ⟨w.heap.size, 5, none⟩ = some (.int .i64 g2) ∧ x.cell? ⟨w.heap.size, 6, none⟩ = some (.int .i64 g3) ∧ x.cell? ⟨w.heap.size, 7, none⟩ = some (.int .i64 g4) ∧ x.cell? ⟨w.heap.size, 8, none⟩ = some (.int .i64 q) ∧ x.cell? ⟨w.heap.size, 9, none⟩ = some (.int .i64 r) ∧ x.cell? ⟨w2.heap.size, 0, none⟩ = some (.map (some b1)) ∧ x.cell? ⟨w2.heap.size, 1, none⟩ = some (.map (some b2))) := hideP (fun x hx => ⟨(hx.cell (p := ⟨w.heap.size, 2, none⟩) (Nat.lt_of_lt_of_le hzB bW.size)).trans ((bW.cell (p := ⟨w.heap.size, 2, none⟩) hzB).trans p2), (hx.cell (p := ⟨w.heap.size, 3, none⟩) (Nat.lt_of_lt_of_le hzB bW.size)).trans ((bW.cell (p := ⟨w.heap.size, 3, none⟩) hzB).trans p3), (hx.cell (p := ⟨w.heap.size, 4, none⟩) (Nat.lt_of_lt_of_le hzB bW.size)).trans ((bW.cell (p := ⟨w.heap.size, 4, none⟩) hzB).trans p4), (hx.cell (p := ⟨w.heap.size, 5, none⟩) (Nat.lt_of_lt_of_le hzB bW.size)).trans ((bW.cell (p := ⟨w.heap.size, 5, none⟩) hzB).trans p5), (hx.cell (p := ⟨w.heap.size, 6, none⟩) (Nat.lt_of_lt_of_le hzB bW.size)).trans ((bW.cell (p := ⟨w.heap.size, 6, none⟩) hzB).trans p6), (hx.cell (p := ⟨w.heap.size, 7, none⟩) (Nat.lt_of_lt_of_le hzB bW.size)).trans ((bW.cell (p := ⟨w.heap.size, 7, none⟩) hzB).trans p7), (hx.cell (p := ⟨w.heap.size, 8, none⟩) (Nat.lt_of_lt_of_le hzB bW.size)).trans ((bW.cell (p := ⟨w.heap.size, 8, none⟩) hzB).trans p8), (hx.cell (p := ⟨w.heap.size, 9, none⟩) (Nat.lt_of_lt_of_le hzB bW.size)).trans ((bW.cell (p := ⟨w.heap.size, 9, none⟩) hzB).trans p9), (hx.cell (p := ⟨w2.heap.size, 0, none⟩) hWs).trans l0, (hx.cell (p := ⟨w2.heap.size, 1, none⟩) hWs).trans l1⟩)
  have QS : Hid (∀ x : World, Below W.heap.size W x → (fun y : World => y.cell? ⟨w.heap.size, 2, none⟩ = some (.slice a2 n2 c2) ∧ y.cell? ⟨w.heap.size, 3, none⟩ = some (.int .i64 g0) ∧ y.cell? ⟨w.heap.size, 4, none⟩ = some (.int .i64 g1) ∧ y.cell? ⟨w.heap.size, 5, none⟩ = some (.int .i64 g2) ∧ y.cell? ⟨w.heap.size, 6, none⟩ = some (.int .i64 g3) ∧ y.cell? ⟨w.heap.size, 7, none⟩ = some (.int .i64 g4) ∧ y.cell? ⟨w.heap.size, 8, none⟩ = some (.int .i64 q) ∧ y.cell? ⟨w.heap.size, 9, none⟩ = some (.int .i64 r) ∧ y.cell? ⟨w2.heap.size, 0, none⟩ = some (.map (some b1)) ∧ y.cell? ⟨w2.heap.size, 1, none⟩ = some (.map (some b2))) ((x.setCell ⟨w.heap.size + 1, 0, none⟩ (.map (some b1))).setCell ⟨w.heap.size + 1, 1, none⟩ (.map (some b2)))) := hideP (fun x hx => by
    obtain ⟨x0, x1, x2, x3, x4, x5, x6, x7, x8, x9⟩ := Q.out x hx
    have hne1 : ¬ w2.heap.size = w.heap.size + 1 := by omega
    have hne2 : ¬ w.heap.size + 1 = w2.heap.size := by omega
    refine ⟨?_, ?_, ?_, ?_, ?_, ?_, ?_, ?_, ?_, ?_⟩ <;> simp [go_sem, x0, x1, x2, x3, x4, x5, x6, x7, x8, x9, hne1, hne2])
  have CP : Hid (∀ x, Below W.heap.size W x → Calls Try.prog 53 #[.slice a2 n2 c2, .func (.func 40) #[.agg #[.map (some b1), .map (some b2)]] #[]] x fun e w' => e = .returned (.bool pb) ∧ Below x.heap.size x w') := hideP (fun x hx => by rw [HPB.out]; exact pairsOk_any (FC.out x hx) (SRow.below qStable HX.out.p (BB.out x hx)) (by rw [← HN.out.2]; exact hb2))
  have CS : Hid (∀ x, Below W.heap.size W x → Calls Try.prog 54 #[.agg #[.int .i64 g0, .int .i64 g1, .int .i64 g2, .int .i64 g3, .int .i64 g4]] x fun e w' => e = .returned (.bool sb) ∧ Below x.heap.size x w') := hideP (fun x _ => CS0.out x)
  have CQ : Hid (∀ x, Below W.heap.size W x → Calls Try.prog 55 #[.int .i64 q] x fun e w' => e = .returned (.bool qb) ∧ Below x.heap.size x w') := hideP (fun x _ => CQ0.out x)
  have CRr : Hid (∀ x, Below W.heap.size W x → Calls Try.prog 55 #[.int .i64 r] x fun e w' => e = .returned (.bool rb) ∧ Below x.heap.size x w') := hideP (fun x _ => CR0.out x)
  clear bW l0 l1 p0 p1 p2 p3 p4 p5 p6 p7 p8 p9 CS0 CQ0 CR0 QF2 QR2 B2 HFC
  have B1r : Hid (w.heap.size + 1 < w1.heap.size) := HLO
  cases pb with
  | false =>
    have HE : Hid (R = false) := hideP (by rw [HR2.out]; simp)
    refine wp_region_held_drew (S := fun x => x.cell? ⟨w.heap.size, 2, none⟩ = some (.slice a2 n2 c2) ∧ x.cell? ⟨w.heap.size, 3, none⟩ = some (.int .i64 g0) ∧ x.cell? ⟨w.heap.size, 4, none⟩ = some (.int .i64 g1) ∧ x.cell? ⟨w.heap.size, 5, none⟩ = some (.int .i64 g2) ∧ x.cell? ⟨w.heap.size, 6, none⟩ = some (.int .i64 g3) ∧ x.cell? ⟨w.heap.size, 7, none⟩ = some (.int .i64 g4) ∧ x.cell? ⟨w.heap.size, 8, none⟩ = some (.int .i64 q) ∧ x.cell? ⟨w.heap.size, 9, none⟩ = some (.int .i64 r) ∧ x.cell? ⟨w2.heap.size, 0, none⟩ = some (.map (some b1)) ∧ x.cell? ⟨w2.heap.size, 1, none⟩ = some (.map (some b2))) (by kernel_rfl) (Q.out _ BD.out) (fun hS => ?_)
    refine wpAnyH_take (i := 0) (v := .agg #[.map (some b1), .map (some b2)]) rfl (by kernel_rfl) (by kernel_rfl) (by kernel_rfl) (fun _ _ _ h => h) (Or.inl ⟨by first | rfl | go_simp, fun wx hx => by obtain ⟨x0, x1, x2, x3, x4, x5, x6, x7, x8, x9⟩ := hx; go_simp⟩) hS ?_
    try simp only [Act.put, List.getElem_toArray, List.getElem_cons_zero, List.getElem_cons_succ, List.setIfInBounds_toArray, List.set_cons_zero, List.set_cons_succ]
    refine wpAnyH_take (i := 1) (v := .pointer (some ⟨w.heap.size, 2, none⟩)) rfl (by kernel_rfl) (by kernel_rfl) (by kernel_rfl) (fun _ _ _ h => h) (Or.inl ⟨by first | rfl | go_simp, fun wx hx => by obtain ⟨x0, x1, x2, x3, x4, x5, x6, x7, x8, x9⟩ := hx; go_simp⟩) hS ?_
    try simp only [Act.put, List.getElem_toArray, List.getElem_cons_zero, List.getElem_cons_succ, List.setIfInBounds_toArray, List.set_cons_zero, List.set_cons_succ]
    refine wpAnyH_take (i := 2) (v := .slice a2 n2 c2) rfl (by kernel_rfl) (by kernel_rfl) (by kernel_rfl) (fun _ _ _ h => h) (Or.inl ⟨by first | rfl | go_simp, fun wx hx => by obtain ⟨x0, x1, x2, x3, x4, x5, x6, x7, x8, x9⟩ := hx; go_simp⟩) hS ?_
    try simp only [Act.put, List.getElem_toArray, List.getElem_cons_zero, List.getElem_cons_succ, List.setIfInBounds_toArray, List.set_cons_zero, List.set_cons_succ]
    refine wpAnyH_take (i := 3) (v := .agg #[.map (some b1), .map (some b2)]) rfl (by kernel_rfl) (by kernel_rfl) (by kernel_rfl) (fun _ _ _ h => h) (Or.inl ⟨by first | rfl | go_simp, fun wx hx => by obtain ⟨x0, x1, x2, x3, x4, x5, x6, x7, x8, x9⟩ := hx; go_simp⟩) hS ?_
    try simp only [Act.put, List.getElem_toArray, List.getElem_cons_zero, List.getElem_cons_succ, List.setIfInBounds_toArray, List.set_cons_zero, List.set_cons_succ]
    refine wpAnyH_take (i := 4) (v := .func (.func 40) #[.agg #[.map (some b1), .map (some b2)]] #[]) rfl (by kernel_rfl) (by kernel_rfl) (by kernel_rfl) (fun _ _ _ h => h) (Or.inl ⟨by first | rfl | go_simp, fun wx hx => by obtain ⟨x0, x1, x2, x3, x4, x5, x6, x7, x8, x9⟩ := hx; go_simp⟩) hS ?_
    try simp only [Act.put, List.getElem_toArray, List.getElem_cons_zero, List.getElem_cons_succ, List.setIfInBounds_toArray, List.set_cons_zero, List.set_cons_succ]
    refine wpAnyH_ready (rs := [5]) (by kernel_rfl) (by simp) ?_
    refine AllReadyH.cons rfl (fun K hK => ?_) AllReadyH.nil
    rw [if_pos (by first | rfl | go_simp)]
    go_wp2_with (go_at_call 53; refine (CP.out _ BD.out).mono ?_; rintro e v1 ⟨rfl, hb1⟩; have B1 : Hid (Below W.heap.size W v1) := hideP (below_more BD.out hb1 BD.out.size); clear hb1)
    refine hK.out _ _ (Q.out _ B1.out) (fun hS1 => ?_)
    try simp only [Act.put, List.getElem_toArray, List.getElem_cons_zero, List.getElem_cons_succ, List.setIfInBounds_toArray, List.set_cons_zero, List.set_cons_succ]
    clear hK K
    refine wpAnyH_take (i := 6) (v := .bool false) rfl (by kernel_rfl) (by kernel_rfl) (by kernel_rfl) (fun _ _ _ h => h) (Or.inl ⟨by first | rfl | go_simp, fun wx hx => by obtain ⟨x0, x1, x2, x3, x4, x5, x6, x7, x8, x9⟩ := hx; go_simp⟩) hS1 ?_
    try simp only [Act.put, List.getElem_toArray, List.getElem_cons_zero, List.getElem_cons_succ, List.setIfInBounds_toArray, List.set_cons_zero, List.set_cons_succ]
    refine wpAnyH_take (i := 7) (v := undef) rfl (by kernel_rfl) (by kernel_rfl) (by kernel_rfl) (fun _ _ _ h => h) (Or.inr ⟨by first | (go_simp; done) | (go_simp; intro h; cases h; done) | (go_simp; simp [undef]; done), rfl⟩) hS1 ?_
    try simp only [Act.put, List.getElem_toArray, List.getElem_cons_zero, List.getElem_cons_succ, List.setIfInBounds_toArray, List.set_cons_zero, List.set_cons_succ]
    refine wpAnyH_take (i := 8) (v := undef) rfl (by kernel_rfl) (by kernel_rfl) (by kernel_rfl) (fun _ _ _ h => h) (Or.inr ⟨by first | (go_simp; done) | (go_simp; intro h; cases h; done) | (go_simp; simp [undef]; done), rfl⟩) hS1 ?_
    try simp only [Act.put, List.getElem_toArray, List.getElem_cons_zero, List.getElem_cons_succ, List.setIfInBounds_toArray, List.set_cons_zero, List.set_cons_succ]
    refine wpAnyH_take (i := 9) (v := undef) rfl (by kernel_rfl) (by kernel_rfl) (by kernel_rfl) (fun _ _ _ h => h) (Or.inr ⟨by first | (go_simp; done) | (go_simp; intro h; cases h; done) | (go_simp; simp [undef]; done), rfl⟩) hS1 ?_
    try simp only [Act.put, List.getElem_toArray, List.getElem_cons_zero, List.getElem_cons_succ, List.setIfInBounds_toArray, List.set_cons_zero, List.set_cons_succ]
    refine wpAnyH_take (i := 10) (v := .bool false) rfl (by kernel_rfl) (by kernel_rfl) (by kernel_rfl) (fun _ _ _ h => h) (Or.inl ⟨by first | rfl | go_simp, fun wx hx => by obtain ⟨x0, x1, x2, x3, x4, x5, x6, x7, x8, x9⟩ := hx; go_simp⟩) hS1 ?_
    try simp only [Act.put, List.getElem_toArray, List.getElem_cons_zero, List.getElem_cons_succ, List.setIfInBounds_toArray, List.set_cons_zero, List.set_cons_succ]
    refine wpAnyH_take (i := 11) (v := .bool false) rfl (by kernel_rfl) (by kernel_rfl) (by kernel_rfl) (fun _ _ _ h => h) (Or.inl ⟨by first | rfl | go_simp, fun wx hx => by obtain ⟨x0, x1, x2, x3, x4, x5, x6, x7, x8, x9⟩ := hx; go_simp⟩) hS1 ?_
    try simp only [Act.put, List.getElem_toArray, List.getElem_cons_zero, List.getElem_cons_succ, List.setIfInBounds_toArray, List.set_cons_zero, List.set_cons_succ]
    refine wpAnyH_take (i := 12) (v := undef) rfl (by kernel_rfl) (by kernel_rfl) (by kernel_rfl) (fun _ _ _ h => h) (Or.inr ⟨by first | (go_simp; done) | (go_simp; intro h; cases h; done) | (go_simp; simp [undef]; done), rfl⟩) hS1 ?_
    try simp only [Act.put, List.getElem_toArray, List.getElem_cons_zero, List.getElem_cons_succ, List.setIfInBounds_toArray, List.set_cons_zero, List.set_cons_succ]
    refine wpAnyH_take (i := 13) (v := undef) rfl (by kernel_rfl) (by kernel_rfl) (by kernel_rfl) (fun _ _ _ h => h) (Or.inr ⟨by first | (go_simp; done) | (go_simp; intro h; cases h; done) | (go_simp; simp [undef]; done), rfl⟩) hS1 ?_
    try simp only [Act.put, List.getElem_toArray, List.getElem_cons_zero, List.getElem_cons_succ, List.setIfInBounds_toArray, List.set_cons_zero, List.set_cons_succ]
    refine wpAnyH_take (i := 14) (v := undef) rfl (by kernel_rfl) (by kernel_rfl) (by kernel_rfl) (fun _ _ _ h => h) (Or.inr ⟨by first | (go_simp; done) | (go_simp; intro h; cases h; done) | (go_simp; simp [undef]; done), rfl⟩) hS1 ?_
    try simp only [Act.put, List.getElem_toArray, List.getElem_cons_zero, List.getElem_cons_succ, List.setIfInBounds_toArray, List.set_cons_zero, List.set_cons_succ]
    refine wpAnyH_take (i := 15) (v := .bool false) rfl (by kernel_rfl) (by kernel_rfl) (by kernel_rfl) (fun _ _ _ h => h) (Or.inl ⟨by first | rfl | go_simp, fun wx hx => by obtain ⟨x0, x1, x2, x3, x4, x5, x6, x7, x8, x9⟩ := hx; go_simp⟩) hS1 ?_
    try simp only [Act.put, List.getElem_toArray, List.getElem_cons_zero, List.getElem_cons_succ, List.setIfInBounds_toArray, List.set_cons_zero, List.set_cons_succ]
    refine wpAnyH_take (i := 16) (v := .bool false) rfl (by kernel_rfl) (by kernel_rfl) (by kernel_rfl) (fun _ _ _ h => h) (Or.inl ⟨by first | rfl | go_simp, fun wx hx => by obtain ⟨x0, x1, x2, x3, x4, x5, x6, x7, x8, x9⟩ := hx; go_simp⟩) hS1 ?_
    try simp only [Act.put, List.getElem_toArray, List.getElem_cons_zero, List.getElem_cons_succ, List.setIfInBounds_toArray, List.set_cons_zero, List.set_cons_succ]
    refine wpAnyH_take (i := 17) (v := undef) rfl (by kernel_rfl) (by kernel_rfl) (by kernel_rfl) (fun _ _ _ h => h) (Or.inr ⟨by first | (go_simp; done) | (go_simp; intro h; cases h; done) | (go_simp; simp [undef]; done), rfl⟩) hS1 ?_
    try simp only [Act.put, List.getElem_toArray, List.getElem_cons_zero, List.getElem_cons_succ, List.setIfInBounds_toArray, List.set_cons_zero, List.set_cons_succ]
    refine wpAnyH_take (i := 18) (v := undef) rfl (by kernel_rfl) (by kernel_rfl) (by kernel_rfl) (fun _ _ _ h => h) (Or.inr ⟨by first | (go_simp; done) | (go_simp; intro h; cases h; done) | (go_simp; simp [undef]; done), rfl⟩) hS1 ?_
    try simp only [Act.put, List.getElem_toArray, List.getElem_cons_zero, List.getElem_cons_succ, List.setIfInBounds_toArray, List.set_cons_zero, List.set_cons_succ]
    refine wpAnyH_take (i := 19) (v := undef) rfl (by kernel_rfl) (by kernel_rfl) (by kernel_rfl) (fun _ _ _ h => h) (Or.inr ⟨by first | (go_simp; done) | (go_simp; intro h; cases h; done) | (go_simp; simp [undef]; done), rfl⟩) hS1 ?_
    try simp only [Act.put, List.getElem_toArray, List.getElem_cons_zero, List.getElem_cons_succ, List.setIfInBounds_toArray, List.set_cons_zero, List.set_cons_succ]
    refine wpAnyH_take (i := 20) (v := .bool false) rfl (by kernel_rfl) (by kernel_rfl) (by kernel_rfl) (fun _ _ _ h => h) (Or.inl ⟨by first | rfl | go_simp, fun wx hx => by obtain ⟨x0, x1, x2, x3, x4, x5, x6, x7, x8, x9⟩ := hx; go_simp⟩) hS1 ?_
    try simp only [Act.put, List.getElem_toArray, List.getElem_cons_zero, List.getElem_cons_succ, List.setIfInBounds_toArray, List.set_cons_zero, List.set_cons_succ]
    obtain ⟨r0, r1, fz0, fz1⟩ := QR.out _ B1.out
    refine wpAnyH_ready (rs := [21]) (by kernel_rfl) (by simp) ?_
    refine AllReadyH.cons rfl (fun K hK => ?_) AllReadyH.nil
    rw [if_pos (by first | rfl | go_simp)]
    go_simp
    refine hK.out _ _ (QS.out _ B1.out) (fun hSs => ?_)
    try simp only [Act.put, List.getElem_toArray, List.getElem_cons_zero, List.getElem_cons_succ, List.setIfInBounds_toArray, List.set_cons_zero, List.set_cons_succ]
    clear hK K
    refine wpAnyH_take (i := 22) (v := .bool false) rfl (by kernel_rfl) (by kernel_rfl) (by kernel_rfl) (fun _ _ _ h => h) (Or.inl ⟨by first | rfl | go_simp, fun wx hx => by obtain ⟨x0, x1, x2, x3, x4, x5, x6, x7, x8, x9⟩ := hx; go_simp⟩) hSs ?_
    try simp only [Act.put, List.getElem_toArray, List.getElem_cons_zero, List.getElem_cons_succ, List.setIfInBounds_toArray, List.set_cons_zero, List.set_cons_succ]
    refine wpAnyH_done (by kernel_rfl) ?_ _
    clear hS hSs hS1
    go_wp2
    have HEND := chf_world v1 B1r.out (BB.out _ B1.out) (FC.out _ B1.out)
    refine bodyPost_ret (v := .tuple #[.agg #[.map (some b1), .map (some b2)], .bool false]) (by simp [results, Try.results36, go_sem, r0, r1]) rfl ⟨some b1, some b2, by rw [HE.out], fun _ => HEND.1, HEND.2⟩
  | true =>
  cases sb with
  | false =>
    have HE : Hid (R = false) := hideP (by rw [HR2.out]; simp)
    refine wp_region_held_drew (S := fun x => x.cell? ⟨w.heap.size, 2, none⟩ = some (.slice a2 n2 c2) ∧ x.cell? ⟨w.heap.size, 3, none⟩ = some (.int .i64 g0) ∧ x.cell? ⟨w.heap.size, 4, none⟩ = some (.int .i64 g1) ∧ x.cell? ⟨w.heap.size, 5, none⟩ = some (.int .i64 g2) ∧ x.cell? ⟨w.heap.size, 6, none⟩ = some (.int .i64 g3) ∧ x.cell? ⟨w.heap.size, 7, none⟩ = some (.int .i64 g4) ∧ x.cell? ⟨w.heap.size, 8, none⟩ = some (.int .i64 q) ∧ x.cell? ⟨w.heap.size, 9, none⟩ = some (.int .i64 r) ∧ x.cell? ⟨w2.heap.size, 0, none⟩ = some (.map (some b1)) ∧ x.cell? ⟨w2.heap.size, 1, none⟩ = some (.map (some b2))) (by kernel_rfl) (Q.out _ BD.out) (fun hS => ?_)
    refine wpAnyH_take (i := 0) (v := .agg #[.map (some b1), .map (some b2)]) rfl (by kernel_rfl) (by kernel_rfl) (by kernel_rfl) (fun _ _ _ h => h) (Or.inl ⟨by first | rfl | go_simp, fun wx hx => by obtain ⟨x0, x1, x2, x3, x4, x5, x6, x7, x8, x9⟩ := hx; go_simp⟩) hS ?_
    try simp only [Act.put, List.getElem_toArray, List.getElem_cons_zero, List.getElem_cons_succ, List.setIfInBounds_toArray, List.set_cons_zero, List.set_cons_succ]
    refine wpAnyH_take (i := 1) (v := .pointer (some ⟨w.heap.size, 2, none⟩)) rfl (by kernel_rfl) (by kernel_rfl) (by kernel_rfl) (fun _ _ _ h => h) (Or.inl ⟨by first | rfl | go_simp, fun wx hx => by obtain ⟨x0, x1, x2, x3, x4, x5, x6, x7, x8, x9⟩ := hx; go_simp⟩) hS ?_
    try simp only [Act.put, List.getElem_toArray, List.getElem_cons_zero, List.getElem_cons_succ, List.setIfInBounds_toArray, List.set_cons_zero, List.set_cons_succ]
    refine wpAnyH_take (i := 2) (v := .slice a2 n2 c2) rfl (by kernel_rfl) (by kernel_rfl) (by kernel_rfl) (fun _ _ _ h => h) (Or.inl ⟨by first | rfl | go_simp, fun wx hx => by obtain ⟨x0, x1, x2, x3, x4, x5, x6, x7, x8, x9⟩ := hx; go_simp⟩) hS ?_
    try simp only [Act.put, List.getElem_toArray, List.getElem_cons_zero, List.getElem_cons_succ, List.setIfInBounds_toArray, List.set_cons_zero, List.set_cons_succ]
    refine wpAnyH_take (i := 3) (v := .agg #[.map (some b1), .map (some b2)]) rfl (by kernel_rfl) (by kernel_rfl) (by kernel_rfl) (fun _ _ _ h => h) (Or.inl ⟨by first | rfl | go_simp, fun wx hx => by obtain ⟨x0, x1, x2, x3, x4, x5, x6, x7, x8, x9⟩ := hx; go_simp⟩) hS ?_
    try simp only [Act.put, List.getElem_toArray, List.getElem_cons_zero, List.getElem_cons_succ, List.setIfInBounds_toArray, List.set_cons_zero, List.set_cons_succ]
    refine wpAnyH_take (i := 4) (v := .func (.func 40) #[.agg #[.map (some b1), .map (some b2)]] #[]) rfl (by kernel_rfl) (by kernel_rfl) (by kernel_rfl) (fun _ _ _ h => h) (Or.inl ⟨by first | rfl | go_simp, fun wx hx => by obtain ⟨x0, x1, x2, x3, x4, x5, x6, x7, x8, x9⟩ := hx; go_simp⟩) hS ?_
    try simp only [Act.put, List.getElem_toArray, List.getElem_cons_zero, List.getElem_cons_succ, List.setIfInBounds_toArray, List.set_cons_zero, List.set_cons_succ]
    refine wpAnyH_ready (rs := [5]) (by kernel_rfl) (by simp) ?_
    refine AllReadyH.cons rfl (fun K hK => ?_) AllReadyH.nil
    rw [if_pos (by first | rfl | go_simp)]
    go_wp2_with (go_at_call 53; refine (CP.out _ BD.out).mono ?_; rintro e v1 ⟨rfl, hb1⟩; have B1 : Hid (Below W.heap.size W v1) := hideP (below_more BD.out hb1 BD.out.size); clear hb1)
    refine hK.out _ _ (Q.out _ B1.out) (fun hS1 => ?_)
    try simp only [Act.put, List.getElem_toArray, List.getElem_cons_zero, List.getElem_cons_succ, List.setIfInBounds_toArray, List.set_cons_zero, List.set_cons_succ]
    clear hK K
    refine wpAnyH_take (i := 6) (v := .bool true) rfl (by kernel_rfl) (by kernel_rfl) (by kernel_rfl) (fun _ _ _ h => h) (Or.inl ⟨by first | rfl | go_simp, fun wx hx => by obtain ⟨x0, x1, x2, x3, x4, x5, x6, x7, x8, x9⟩ := hx; go_simp⟩) hS1 ?_
    try simp only [Act.put, List.getElem_toArray, List.getElem_cons_zero, List.getElem_cons_succ, List.setIfInBounds_toArray, List.set_cons_zero, List.set_cons_succ]
    refine wpAnyH_take (i := 7) (v := .pointer (some ⟨w.heap.size, 3, none⟩)) rfl (by kernel_rfl) (by kernel_rfl) (by kernel_rfl) (fun _ _ _ h => h) (Or.inl ⟨by first | rfl | go_simp, fun wx hx => by obtain ⟨x0, x1, x2, x3, x4, x5, x6, x7, x8, x9⟩ := hx; go_simp⟩) hS1 ?_
    try simp only [Act.put, List.getElem_toArray, List.getElem_cons_zero, List.getElem_cons_succ, List.setIfInBounds_toArray, List.set_cons_zero, List.set_cons_succ]
    refine wpAnyH_take (i := 8) (v := .agg #[.int .i64 g0, .int .i64 g1, .int .i64 g2, .int .i64 g3, .int .i64 g4]) rfl (by kernel_rfl) (by kernel_rfl) (by kernel_rfl) (fun _ _ _ h => h) (Or.inl ⟨by first | rfl | go_simp, fun wx hx => by obtain ⟨x0, x1, x2, x3, x4, x5, x6, x7, x8, x9⟩ := hx; go_simp⟩) hS1 ?_
    try simp only [Act.put, List.getElem_toArray, List.getElem_cons_zero, List.getElem_cons_succ, List.setIfInBounds_toArray, List.set_cons_zero, List.set_cons_succ]
    refine wpAnyH_ready (rs := [9]) (by kernel_rfl) (by simp) ?_
    refine AllReadyH.cons rfl (fun K hK => ?_) AllReadyH.nil
    rw [if_pos (by first | rfl | go_simp)]
    go_wp2_with (go_at_call 54; refine (CS.out _ B1.out).mono ?_; rintro e v2 ⟨rfl, hb2⟩; have B2 : Hid (Below W.heap.size W v2) := hideP (below_more B1.out hb2 B1.out.size); clear hb2)
    refine hK.out _ _ (Q.out _ B2.out) (fun hS2 => ?_)
    try simp only [Act.put, List.getElem_toArray, List.getElem_cons_zero, List.getElem_cons_succ, List.setIfInBounds_toArray, List.set_cons_zero, List.set_cons_succ]
    clear hK K
    refine wpAnyH_take (i := 10) (v := .bool false) rfl (by kernel_rfl) (by kernel_rfl) (by kernel_rfl) (fun _ _ _ h => h) (Or.inl ⟨by first | rfl | go_simp, fun wx hx => by obtain ⟨x0, x1, x2, x3, x4, x5, x6, x7, x8, x9⟩ := hx; go_simp⟩) hS2 ?_
    try simp only [Act.put, List.getElem_toArray, List.getElem_cons_zero, List.getElem_cons_succ, List.setIfInBounds_toArray, List.set_cons_zero, List.set_cons_succ]
    refine wpAnyH_take (i := 11) (v := .bool false) rfl (by kernel_rfl) (by kernel_rfl) (by kernel_rfl) (fun _ _ _ h => h) (Or.inl ⟨by first | rfl | go_simp, fun wx hx => by obtain ⟨x0, x1, x2, x3, x4, x5, x6, x7, x8, x9⟩ := hx; go_simp⟩) hS2 ?_
    try simp only [Act.put, List.getElem_toArray, List.getElem_cons_zero, List.getElem_cons_succ, List.setIfInBounds_toArray, List.set_cons_zero, List.set_cons_succ]
    refine wpAnyH_take (i := 12) (v := undef) rfl (by kernel_rfl) (by kernel_rfl) (by kernel_rfl) (fun _ _ _ h => h) (Or.inr ⟨by first | (go_simp; done) | (go_simp; intro h; cases h; done) | (go_simp; simp [undef]; done), rfl⟩) hS2 ?_
    try simp only [Act.put, List.getElem_toArray, List.getElem_cons_zero, List.getElem_cons_succ, List.setIfInBounds_toArray, List.set_cons_zero, List.set_cons_succ]
    refine wpAnyH_take (i := 13) (v := undef) rfl (by kernel_rfl) (by kernel_rfl) (by kernel_rfl) (fun _ _ _ h => h) (Or.inr ⟨by first | (go_simp; done) | (go_simp; intro h; cases h; done) | (go_simp; simp [undef]; done), rfl⟩) hS2 ?_
    try simp only [Act.put, List.getElem_toArray, List.getElem_cons_zero, List.getElem_cons_succ, List.setIfInBounds_toArray, List.set_cons_zero, List.set_cons_succ]
    refine wpAnyH_take (i := 14) (v := undef) rfl (by kernel_rfl) (by kernel_rfl) (by kernel_rfl) (fun _ _ _ h => h) (Or.inr ⟨by first | (go_simp; done) | (go_simp; intro h; cases h; done) | (go_simp; simp [undef]; done), rfl⟩) hS2 ?_
    try simp only [Act.put, List.getElem_toArray, List.getElem_cons_zero, List.getElem_cons_succ, List.setIfInBounds_toArray, List.set_cons_zero, List.set_cons_succ]
    refine wpAnyH_take (i := 15) (v := .bool false) rfl (by kernel_rfl) (by kernel_rfl) (by kernel_rfl) (fun _ _ _ h => h) (Or.inl ⟨by first | rfl | go_simp, fun wx hx => by obtain ⟨x0, x1, x2, x3, x4, x5, x6, x7, x8, x9⟩ := hx; go_simp⟩) hS2 ?_
    try simp only [Act.put, List.getElem_toArray, List.getElem_cons_zero, List.getElem_cons_succ, List.setIfInBounds_toArray, List.set_cons_zero, List.set_cons_succ]
    refine wpAnyH_take (i := 16) (v := .bool false) rfl (by kernel_rfl) (by kernel_rfl) (by kernel_rfl) (fun _ _ _ h => h) (Or.inl ⟨by first | rfl | go_simp, fun wx hx => by obtain ⟨x0, x1, x2, x3, x4, x5, x6, x7, x8, x9⟩ := hx; go_simp⟩) hS2 ?_
    try simp only [Act.put, List.getElem_toArray, List.getElem_cons_zero, List.getElem_cons_succ, List.setIfInBounds_toArray, List.set_cons_zero, List.set_cons_succ]
    refine wpAnyH_take (i := 17) (v := undef) rfl (by kernel_rfl) (by kernel_rfl) (by kernel_rfl) (fun _ _ _ h => h) (Or.inr ⟨by first | (go_simp; done) | (go_simp; intro h; cases h; done) | (go_simp; simp [undef]; done), rfl⟩) hS2 ?_
    try simp only [Act.put, List.getElem_toArray, List.getElem_cons_zero, List.getElem_cons_succ, List.setIfInBounds_toArray, List.set_cons_zero, List.set_cons_succ]
    refine wpAnyH_take (i := 18) (v := undef) rfl (by kernel_rfl) (by kernel_rfl) (by kernel_rfl) (fun _ _ _ h => h) (Or.inr ⟨by first | (go_simp; done) | (go_simp; intro h; cases h; done) | (go_simp; simp [undef]; done), rfl⟩) hS2 ?_
    try simp only [Act.put, List.getElem_toArray, List.getElem_cons_zero, List.getElem_cons_succ, List.setIfInBounds_toArray, List.set_cons_zero, List.set_cons_succ]
    refine wpAnyH_take (i := 19) (v := undef) rfl (by kernel_rfl) (by kernel_rfl) (by kernel_rfl) (fun _ _ _ h => h) (Or.inr ⟨by first | (go_simp; done) | (go_simp; intro h; cases h; done) | (go_simp; simp [undef]; done), rfl⟩) hS2 ?_
    try simp only [Act.put, List.getElem_toArray, List.getElem_cons_zero, List.getElem_cons_succ, List.setIfInBounds_toArray, List.set_cons_zero, List.set_cons_succ]
    refine wpAnyH_take (i := 20) (v := .bool false) rfl (by kernel_rfl) (by kernel_rfl) (by kernel_rfl) (fun _ _ _ h => h) (Or.inl ⟨by first | rfl | go_simp, fun wx hx => by obtain ⟨x0, x1, x2, x3, x4, x5, x6, x7, x8, x9⟩ := hx; go_simp⟩) hS2 ?_
    try simp only [Act.put, List.getElem_toArray, List.getElem_cons_zero, List.getElem_cons_succ, List.setIfInBounds_toArray, List.set_cons_zero, List.set_cons_succ]
    obtain ⟨r0, r1, fz0, fz1⟩ := QR.out _ B2.out
    refine wpAnyH_ready (rs := [21]) (by kernel_rfl) (by simp) ?_
    refine AllReadyH.cons rfl (fun K hK => ?_) AllReadyH.nil
    rw [if_pos (by first | rfl | go_simp)]
    go_simp
    refine hK.out _ _ (QS.out _ B2.out) (fun hSs => ?_)
    try simp only [Act.put, List.getElem_toArray, List.getElem_cons_zero, List.getElem_cons_succ, List.setIfInBounds_toArray, List.set_cons_zero, List.set_cons_succ]
    clear hK K
    refine wpAnyH_take (i := 22) (v := .bool false) rfl (by kernel_rfl) (by kernel_rfl) (by kernel_rfl) (fun _ _ _ h => h) (Or.inl ⟨by first | rfl | go_simp, fun wx hx => by obtain ⟨x0, x1, x2, x3, x4, x5, x6, x7, x8, x9⟩ := hx; go_simp⟩) hSs ?_
    try simp only [Act.put, List.getElem_toArray, List.getElem_cons_zero, List.getElem_cons_succ, List.setIfInBounds_toArray, List.set_cons_zero, List.set_cons_succ]
    refine wpAnyH_done (by kernel_rfl) ?_ _
    clear hS hSs hS1 hS2
    go_wp2
    have HEND := chf_world v2 B1r.out (BB.out _ B2.out) (FC.out _ B2.out)
    refine bodyPost_ret (v := .tuple #[.agg #[.map (some b1), .map (some b2)], .bool false]) (by simp [results, Try.results36, go_sem, r0, r1]) rfl ⟨some b1, some b2, by rw [HE.out], fun _ => HEND.1, HEND.2⟩
  | true =>
  cases qb with
  | false =>
    have HE : Hid (R = false) := hideP (by rw [HR2.out]; simp)
    refine wp_region_held_drew (S := fun x => x.cell? ⟨w.heap.size, 2, none⟩ = some (.slice a2 n2 c2) ∧ x.cell? ⟨w.heap.size, 3, none⟩ = some (.int .i64 g0) ∧ x.cell? ⟨w.heap.size, 4, none⟩ = some (.int .i64 g1) ∧ x.cell? ⟨w.heap.size, 5, none⟩ = some (.int .i64 g2) ∧ x.cell? ⟨w.heap.size, 6, none⟩ = some (.int .i64 g3) ∧ x.cell? ⟨w.heap.size, 7, none⟩ = some (.int .i64 g4) ∧ x.cell? ⟨w.heap.size, 8, none⟩ = some (.int .i64 q) ∧ x.cell? ⟨w.heap.size, 9, none⟩ = some (.int .i64 r) ∧ x.cell? ⟨w2.heap.size, 0, none⟩ = some (.map (some b1)) ∧ x.cell? ⟨w2.heap.size, 1, none⟩ = some (.map (some b2))) (by kernel_rfl) (Q.out _ BD.out) (fun hS => ?_)
    refine wpAnyH_take (i := 0) (v := .agg #[.map (some b1), .map (some b2)]) rfl (by kernel_rfl) (by kernel_rfl) (by kernel_rfl) (fun _ _ _ h => h) (Or.inl ⟨by first | rfl | go_simp, fun wx hx => by obtain ⟨x0, x1, x2, x3, x4, x5, x6, x7, x8, x9⟩ := hx; go_simp⟩) hS ?_
    try simp only [Act.put, List.getElem_toArray, List.getElem_cons_zero, List.getElem_cons_succ, List.setIfInBounds_toArray, List.set_cons_zero, List.set_cons_succ]
    refine wpAnyH_take (i := 1) (v := .pointer (some ⟨w.heap.size, 2, none⟩)) rfl (by kernel_rfl) (by kernel_rfl) (by kernel_rfl) (fun _ _ _ h => h) (Or.inl ⟨by first | rfl | go_simp, fun wx hx => by obtain ⟨x0, x1, x2, x3, x4, x5, x6, x7, x8, x9⟩ := hx; go_simp⟩) hS ?_
    try simp only [Act.put, List.getElem_toArray, List.getElem_cons_zero, List.getElem_cons_succ, List.setIfInBounds_toArray, List.set_cons_zero, List.set_cons_succ]
    refine wpAnyH_take (i := 2) (v := .slice a2 n2 c2) rfl (by kernel_rfl) (by kernel_rfl) (by kernel_rfl) (fun _ _ _ h => h) (Or.inl ⟨by first | rfl | go_simp, fun wx hx => by obtain ⟨x0, x1, x2, x3, x4, x5, x6, x7, x8, x9⟩ := hx; go_simp⟩) hS ?_
    try simp only [Act.put, List.getElem_toArray, List.getElem_cons_zero, List.getElem_cons_succ, List.setIfInBounds_toArray, List.set_cons_zero, List.set_cons_succ]
    refine wpAnyH_take (i := 3) (v := .agg #[.map (some b1), .map (some b2)]) rfl (by kernel_rfl) (by kernel_rfl) (by kernel_rfl) (fun _ _ _ h => h) (Or.inl ⟨by first | rfl | go_simp, fun wx hx => by obtain ⟨x0, x1, x2, x3, x4, x5, x6, x7, x8, x9⟩ := hx; go_simp⟩) hS ?_
    try simp only [Act.put, List.getElem_toArray, List.getElem_cons_zero, List.getElem_cons_succ, List.setIfInBounds_toArray, List.set_cons_zero, List.set_cons_succ]
    refine wpAnyH_take (i := 4) (v := .func (.func 40) #[.agg #[.map (some b1), .map (some b2)]] #[]) rfl (by kernel_rfl) (by kernel_rfl) (by kernel_rfl) (fun _ _ _ h => h) (Or.inl ⟨by first | rfl | go_simp, fun wx hx => by obtain ⟨x0, x1, x2, x3, x4, x5, x6, x7, x8, x9⟩ := hx; go_simp⟩) hS ?_
    try simp only [Act.put, List.getElem_toArray, List.getElem_cons_zero, List.getElem_cons_succ, List.setIfInBounds_toArray, List.set_cons_zero, List.set_cons_succ]
    refine wpAnyH_ready (rs := [5]) (by kernel_rfl) (by simp) ?_
    refine AllReadyH.cons rfl (fun K hK => ?_) AllReadyH.nil
    rw [if_pos (by first | rfl | go_simp)]
    go_wp2_with (go_at_call 53; refine (CP.out _ BD.out).mono ?_; rintro e v1 ⟨rfl, hb1⟩; have B1 : Hid (Below W.heap.size W v1) := hideP (below_more BD.out hb1 BD.out.size); clear hb1)
    refine hK.out _ _ (Q.out _ B1.out) (fun hS1 => ?_)
    try simp only [Act.put, List.getElem_toArray, List.getElem_cons_zero, List.getElem_cons_succ, List.setIfInBounds_toArray, List.set_cons_zero, List.set_cons_succ]
    clear hK K
    refine wpAnyH_take (i := 6) (v := .bool true) rfl (by kernel_rfl) (by kernel_rfl) (by kernel_rfl) (fun _ _ _ h => h) (Or.inl ⟨by first | rfl | go_simp, fun wx hx => by obtain ⟨x0, x1, x2, x3, x4, x5, x6, x7, x8, x9⟩ := hx; go_simp⟩) hS1 ?_
    try simp only [Act.put, List.getElem_toArray, List.getElem_cons_zero, List.getElem_cons_succ, List.setIfInBounds_toArray, List.set_cons_zero, List.set_cons_succ]
    refine wpAnyH_take (i := 7) (v := .pointer (some ⟨w.heap.size, 3, none⟩)) rfl (by kernel_rfl) (by kernel_rfl) (by kernel_rfl) (fun _ _ _ h => h) (Or.inl ⟨by first | rfl | go_simp, fun wx hx => by obtain ⟨x0, x1, x2, x3, x4, x5, x6, x7, x8, x9⟩ := hx; go_simp⟩) hS1 ?_
    try simp only [Act.put, List.getElem_toArray, List.getElem_cons_zero, List.getElem_cons_succ, List.setIfInBounds_toArray, List.set_cons_zero, List.set_cons_succ]
    refine wpAnyH_take (i := 8) (v := .agg #[.int .i64 g0, .int .i64 g1, .int .i64 g2, .int .i64 g3, .int .i64 g4]) rfl (by kernel_rfl) (by kernel_rfl) (by kernel_rfl) (fun _ _ _ h => h) (Or.inl ⟨by first | rfl | go_simp, fun wx hx => by obtain ⟨x0, x1, x2, x3, x4, x5, x6, x7, x8, x9⟩ := hx; go_simp⟩) hS1 ?_
    try simp only [Act.put, List.getElem_toArray, List.getElem_cons_zero, List.getElem_cons_succ, List.setIfInBounds_toArray, List.set_cons_zero, List.set_cons_succ]
    refine wpAnyH_ready (rs := [9]) (by kernel_rfl) (by simp) ?_
    refine AllReadyH.cons rfl (fun K hK => ?_) AllReadyH.nil
    rw [if_pos (by first | rfl | go_simp)]
    go_wp2_with (go_at_call 54; refine (CS.out _ B1.out).mono ?_; rintro e v2 ⟨rfl, hb2⟩; have B2 : Hid (Below W.heap.size W v2) := hideP (below_more B1.out hb2 B1.out.size); clear hb2)
    refine hK.out _ _ (Q.out _ B2.out) (fun hS2 => ?_)
    try simp only [Act.put, List.getElem_toArray, List.getElem_cons_zero, List.getElem_cons_succ, List.setIfInBounds_toArray, List.set_cons_zero, List.set_cons_succ]
    clear hK K
    refine wpAnyH_take (i := 10) (v := .bool true) rfl (by kernel_rfl) (by kernel_rfl) (by kernel_rfl) (fun _ _ _ h => h) (Or.inl ⟨by first | rfl | go_simp, fun wx hx => by obtain ⟨x0, x1, x2, x3, x4, x5, x6, x7, x8, x9⟩ := hx; go_simp⟩) hS2 ?_
    try simp only [Act.put, List.getElem_toArray, List.getElem_cons_zero, List.getElem_cons_succ, List.setIfInBounds_toArray, List.set_cons_zero, List.set_cons_succ]
    refine wpAnyH_take (i := 11) (v := .bool true) rfl (by kernel_rfl) (by kernel_rfl) (by kernel_rfl) (fun _ _ _ h => h) (Or.inl ⟨by first | rfl | go_simp, fun wx hx => by obtain ⟨x0, x1, x2, x3, x4, x5, x6, x7, x8, x9⟩ := hx; go_simp⟩) hS2 ?_
    try simp only [Act.put, List.getElem_toArray, List.getElem_cons_zero, List.getElem_cons_succ, List.setIfInBounds_toArray, List.set_cons_zero, List.set_cons_succ]
    refine wpAnyH_take (i := 12) (v := .pointer (some ⟨w.heap.size, 8, none⟩)) rfl (by kernel_rfl) (by kernel_rfl) (by kernel_rfl) (fun _ _ _ h => h) (Or.inl ⟨by first | rfl | go_simp, fun wx hx => by obtain ⟨x0, x1, x2, x3, x4, x5, x6, x7, x8, x9⟩ := hx; go_simp⟩) hS2 ?_
    try simp only [Act.put, List.getElem_toArray, List.getElem_cons_zero, List.getElem_cons_succ, List.setIfInBounds_toArray, List.set_cons_zero, List.set_cons_succ]
    refine wpAnyH_take (i := 13) (v := .int .i64 q) rfl (by kernel_rfl) (by kernel_rfl) (by kernel_rfl) (fun _ _ _ h => h) (Or.inl ⟨by first | rfl | go_simp, fun wx hx => by obtain ⟨x0, x1, x2, x3, x4, x5, x6, x7, x8, x9⟩ := hx; go_simp⟩) hS2 ?_
    try simp only [Act.put, List.getElem_toArray, List.getElem_cons_zero, List.getElem_cons_succ, List.setIfInBounds_toArray, List.set_cons_zero, List.set_cons_succ]
    refine wpAnyH_ready (rs := [14]) (by kernel_rfl) (by simp) ?_
    refine AllReadyH.cons rfl (fun K hK => ?_) AllReadyH.nil
    rw [if_pos (by first | rfl | go_simp)]
    go_wp2_with (go_at_call 55; refine (CQ.out _ B2.out).mono ?_; rintro e v3 ⟨rfl, hb3⟩; have B3 : Hid (Below W.heap.size W v3) := hideP (below_more B2.out hb3 B2.out.size); clear hb3)
    refine hK.out _ _ (Q.out _ B3.out) (fun hS3 => ?_)
    try simp only [Act.put, List.getElem_toArray, List.getElem_cons_zero, List.getElem_cons_succ, List.setIfInBounds_toArray, List.set_cons_zero, List.set_cons_succ]
    clear hK K
    refine wpAnyH_take (i := 15) (v := .bool false) rfl (by kernel_rfl) (by kernel_rfl) (by kernel_rfl) (fun _ _ _ h => h) (Or.inl ⟨by first | rfl | go_simp, fun wx hx => by obtain ⟨x0, x1, x2, x3, x4, x5, x6, x7, x8, x9⟩ := hx; go_simp⟩) hS3 ?_
    try simp only [Act.put, List.getElem_toArray, List.getElem_cons_zero, List.getElem_cons_succ, List.setIfInBounds_toArray, List.set_cons_zero, List.set_cons_succ]
    refine wpAnyH_take (i := 16) (v := .bool false) rfl (by kernel_rfl) (by kernel_rfl) (by kernel_rfl) (fun _ _ _ h => h) (Or.inl ⟨by first | rfl | go_simp, fun wx hx => by obtain ⟨x0, x1, x2, x3, x4, x5, x6, x7, x8, x9⟩ := hx; go_simp⟩) hS3 ?_
    try simp only [Act.put, List.getElem_toArray, List.getElem_cons_zero, List.getElem_cons_succ, List.setIfInBounds_toArray, List.set_cons_zero, List.set_cons_succ]
    refine wpAnyH_take (i := 17) (v := undef) rfl (by kernel_rfl) (by kernel_rfl) (by kernel_rfl) (fun _ _ _ h => h) (Or.inr ⟨by first | (go_simp; done) | (go_simp; intro h; cases h; done) | (go_simp; simp [undef]; done), rfl⟩) hS3 ?_
    try simp only [Act.put, List.getElem_toArray, List.getElem_cons_zero, List.getElem_cons_succ, List.setIfInBounds_toArray, List.set_cons_zero, List.set_cons_succ]
    refine wpAnyH_take (i := 18) (v := undef) rfl (by kernel_rfl) (by kernel_rfl) (by kernel_rfl) (fun _ _ _ h => h) (Or.inr ⟨by first | (go_simp; done) | (go_simp; intro h; cases h; done) | (go_simp; simp [undef]; done), rfl⟩) hS3 ?_
    try simp only [Act.put, List.getElem_toArray, List.getElem_cons_zero, List.getElem_cons_succ, List.setIfInBounds_toArray, List.set_cons_zero, List.set_cons_succ]
    refine wpAnyH_take (i := 19) (v := undef) rfl (by kernel_rfl) (by kernel_rfl) (by kernel_rfl) (fun _ _ _ h => h) (Or.inr ⟨by first | (go_simp; done) | (go_simp; intro h; cases h; done) | (go_simp; simp [undef]; done), rfl⟩) hS3 ?_
    try simp only [Act.put, List.getElem_toArray, List.getElem_cons_zero, List.getElem_cons_succ, List.setIfInBounds_toArray, List.set_cons_zero, List.set_cons_succ]
    refine wpAnyH_take (i := 20) (v := .bool false) rfl (by kernel_rfl) (by kernel_rfl) (by kernel_rfl) (fun _ _ _ h => h) (Or.inl ⟨by first | rfl | go_simp, fun wx hx => by obtain ⟨x0, x1, x2, x3, x4, x5, x6, x7, x8, x9⟩ := hx; go_simp⟩) hS3 ?_
    try simp only [Act.put, List.getElem_toArray, List.getElem_cons_zero, List.getElem_cons_succ, List.setIfInBounds_toArray, List.set_cons_zero, List.set_cons_succ]
    obtain ⟨r0, r1, fz0, fz1⟩ := QR.out _ B3.out
    refine wpAnyH_ready (rs := [21]) (by kernel_rfl) (by simp) ?_
    refine AllReadyH.cons rfl (fun K hK => ?_) AllReadyH.nil
    rw [if_pos (by first | rfl | go_simp)]
    go_simp
    refine hK.out _ _ (QS.out _ B3.out) (fun hSs => ?_)
    try simp only [Act.put, List.getElem_toArray, List.getElem_cons_zero, List.getElem_cons_succ, List.setIfInBounds_toArray, List.set_cons_zero, List.set_cons_succ]
    clear hK K
    refine wpAnyH_take (i := 22) (v := .bool false) rfl (by kernel_rfl) (by kernel_rfl) (by kernel_rfl) (fun _ _ _ h => h) (Or.inl ⟨by first | rfl | go_simp, fun wx hx => by obtain ⟨x0, x1, x2, x3, x4, x5, x6, x7, x8, x9⟩ := hx; go_simp⟩) hSs ?_
    try simp only [Act.put, List.getElem_toArray, List.getElem_cons_zero, List.getElem_cons_succ, List.setIfInBounds_toArray, List.set_cons_zero, List.set_cons_succ]
    refine wpAnyH_done (by kernel_rfl) ?_ _
    clear hS hSs hS1 hS2 hS3
    go_wp2
    have HEND := chf_world v3 B1r.out (BB.out _ B3.out) (FC.out _ B3.out)
    refine bodyPost_ret (v := .tuple #[.agg #[.map (some b1), .map (some b2)], .bool false]) (by simp [results, Try.results36, go_sem, r0, r1]) rfl ⟨some b1, some b2, by rw [HE.out], fun _ => HEND.1, HEND.2⟩
  | true =>
    have HE : Hid (R = rb) := hideP (by rw [HR2.out]; simp)
    refine wp_region_held_drew (S := fun x => x.cell? ⟨w.heap.size, 2, none⟩ = some (.slice a2 n2 c2) ∧ x.cell? ⟨w.heap.size, 3, none⟩ = some (.int .i64 g0) ∧ x.cell? ⟨w.heap.size, 4, none⟩ = some (.int .i64 g1) ∧ x.cell? ⟨w.heap.size, 5, none⟩ = some (.int .i64 g2) ∧ x.cell? ⟨w.heap.size, 6, none⟩ = some (.int .i64 g3) ∧ x.cell? ⟨w.heap.size, 7, none⟩ = some (.int .i64 g4) ∧ x.cell? ⟨w.heap.size, 8, none⟩ = some (.int .i64 q) ∧ x.cell? ⟨w.heap.size, 9, none⟩ = some (.int .i64 r) ∧ x.cell? ⟨w2.heap.size, 0, none⟩ = some (.map (some b1)) ∧ x.cell? ⟨w2.heap.size, 1, none⟩ = some (.map (some b2))) (by kernel_rfl) (Q.out _ BD.out) (fun hS => ?_)
    refine wpAnyH_take (i := 0) (v := .agg #[.map (some b1), .map (some b2)]) rfl (by kernel_rfl) (by kernel_rfl) (by kernel_rfl) (fun _ _ _ h => h) (Or.inl ⟨by first | rfl | go_simp, fun wx hx => by obtain ⟨x0, x1, x2, x3, x4, x5, x6, x7, x8, x9⟩ := hx; go_simp⟩) hS ?_
    try simp only [Act.put, List.getElem_toArray, List.getElem_cons_zero, List.getElem_cons_succ, List.setIfInBounds_toArray, List.set_cons_zero, List.set_cons_succ]
    refine wpAnyH_take (i := 1) (v := .pointer (some ⟨w.heap.size, 2, none⟩)) rfl (by kernel_rfl) (by kernel_rfl) (by kernel_rfl) (fun _ _ _ h => h) (Or.inl ⟨by first | rfl | go_simp, fun wx hx => by obtain ⟨x0, x1, x2, x3, x4, x5, x6, x7, x8, x9⟩ := hx; go_simp⟩) hS ?_
    try simp only [Act.put, List.getElem_toArray, List.getElem_cons_zero, List.getElem_cons_succ, List.setIfInBounds_toArray, List.set_cons_zero, List.set_cons_succ]
    refine wpAnyH_take (i := 2) (v := .slice a2 n2 c2) rfl (by kernel_rfl) (by kernel_rfl) (by kernel_rfl) (fun _ _ _ h => h) (Or.inl ⟨by first | rfl | go_simp, fun wx hx => by obtain ⟨x0, x1, x2, x3, x4, x5, x6, x7, x8, x9⟩ := hx; go_simp⟩) hS ?_
    try simp only [Act.put, List.getElem_toArray, List.getElem_cons_zero, List.getElem_cons_succ, List.setIfInBounds_toArray, List.set_cons_zero, List.set_cons_succ]
    refine wpAnyH_take (i := 3) (v := .agg #[.map (some b1), .map (some b2)]) rfl (by kernel_rfl) (by kernel_rfl) (by kernel_rfl) (fun _ _ _ h => h) (Or.inl ⟨by first | rfl | go_simp, fun wx hx => by obtain ⟨x0, x1, x2, x3, x4, x5, x6, x7, x8, x9⟩ := hx; go_simp⟩) hS ?_
    try simp only [Act.put, List.getElem_toArray, List.getElem_cons_zero, List.getElem_cons_succ, List.setIfInBounds_toArray, List.set_cons_zero, List.set_cons_succ]
    refine wpAnyH_take (i := 4) (v := .func (.func 40) #[.agg #[.map (some b1), .map (some b2)]] #[]) rfl (by kernel_rfl) (by kernel_rfl) (by kernel_rfl) (fun _ _ _ h => h) (Or.inl ⟨by first | rfl | go_simp, fun wx hx => by obtain ⟨x0, x1, x2, x3, x4, x5, x6, x7, x8, x9⟩ := hx; go_simp⟩) hS ?_
    try simp only [Act.put, List.getElem_toArray, List.getElem_cons_zero, List.getElem_cons_succ, List.setIfInBounds_toArray, List.set_cons_zero, List.set_cons_succ]
    refine wpAnyH_ready (rs := [5]) (by kernel_rfl) (by simp) ?_
    refine AllReadyH.cons rfl (fun K hK => ?_) AllReadyH.nil
    rw [if_pos (by first | rfl | go_simp)]
    go_wp2_with (go_at_call 53; refine (CP.out _ BD.out).mono ?_; rintro e v1 ⟨rfl, hb1⟩; have B1 : Hid (Below W.heap.size W v1) := hideP (below_more BD.out hb1 BD.out.size); clear hb1)
    refine hK.out _ _ (Q.out _ B1.out) (fun hS1 => ?_)
    try simp only [Act.put, List.getElem_toArray, List.getElem_cons_zero, List.getElem_cons_succ, List.setIfInBounds_toArray, List.set_cons_zero, List.set_cons_succ]
    clear hK K
    refine wpAnyH_take (i := 6) (v := .bool true) rfl (by kernel_rfl) (by kernel_rfl) (by kernel_rfl) (fun _ _ _ h => h) (Or.inl ⟨by first | rfl | go_simp, fun wx hx => by obtain ⟨x0, x1, x2, x3, x4, x5, x6, x7, x8, x9⟩ := hx; go_simp⟩) hS1 ?_
    try simp only [Act.put, List.getElem_toArray, List.getElem_cons_zero, List.getElem_cons_succ, List.setIfInBounds_toArray, List.set_cons_zero, List.set_cons_succ]
    refine wpAnyH_take (i := 7) (v := .pointer (some ⟨w.heap.size, 3, none⟩)) rfl (by kernel_rfl) (by kernel_rfl) (by kernel_rfl) (fun _ _ _ h => h) (Or.inl ⟨by first | rfl | go_simp, fun wx hx => by obtain ⟨x0, x1, x2, x3, x4, x5, x6, x7, x8, x9⟩ := hx; go_simp⟩) hS1 ?_
    try simp only [Act.put, List.getElem_toArray, List.getElem_cons_zero, List.getElem_cons_succ, List.setIfInBounds_toArray, List.set_cons_zero, List.set_cons_succ]
    refine wpAnyH_take (i := 8) (v := .agg #[.int .i64 g0, .int .i64 g1, .int .i64 g2, .int .i64 g3, .int .i64 g4]) rfl (by kernel_rfl) (by kernel_rfl) (by kernel_rfl) (fun _ _ _ h => h) (Or.inl ⟨by first | rfl | go_simp, fun wx hx => by obtain ⟨x0, x1, x2, x3, x4, x5, x6, x7, x8, x9⟩ := hx; go_simp⟩) hS1 ?_
    try simp only [Act.put, List.getElem_toArray, List.getElem_cons_zero, List.getElem_cons_succ, List.setIfInBounds_toArray, List.set_cons_zero, List.set_cons_succ]
    refine wpAnyH_ready (rs := [9]) (by kernel_rfl) (by simp) ?_
    refine AllReadyH.cons rfl (fun K hK => ?_) AllReadyH.nil
    rw [if_pos (by first | rfl | go_simp)]
    go_wp2_with (go_at_call 54; refine (CS.out _ B1.out).mono ?_; rintro e v2 ⟨rfl, hb2⟩; have B2 : Hid (Below W.heap.size W v2) := hideP (below_more B1.out hb2 B1.out.size); clear hb2)
    refine hK.out _ _ (Q.out _ B2.out) (fun hS2 => ?_)
    try simp only [Act.put, List.getElem_toArray, List.getElem_cons_zero, List.getElem_cons_succ, List.setIfInBounds_toArray, List.set_cons_zero, List.set_cons_succ]
    clear hK K
    refine wpAnyH_take (i := 10) (v := .bool true) rfl (by kernel_rfl) (by kernel_rfl) (by kernel_rfl) (fun _ _ _ h => h) (Or.inl ⟨by first | rfl | go_simp, fun wx hx => by obtain ⟨x0, x1, x2, x3, x4, x5, x6, x7, x8, x9⟩ := hx; go_simp⟩) hS2 ?_
    try simp only [Act.put, List.getElem_toArray, List.getElem_cons_zero, List.getElem_cons_succ, List.setIfInBounds_toArray, List.set_cons_zero, List.set_cons_succ]
    refine wpAnyH_take (i := 11) (v := .bool true) rfl (by kernel_rfl) (by kernel_rfl) (by kernel_rfl) (fun _ _ _ h => h) (Or.inl ⟨by first | rfl | go_simp, fun wx hx => by obtain ⟨x0, x1, x2, x3, x4, x5, x6, x7, x8, x9⟩ := hx; go_simp⟩) hS2 ?_
    try simp only [Act.put, List.getElem_toArray, List.getElem_cons_zero, List.getElem_cons_succ, List.setIfInBounds_toArray, List.set_cons_zero, List.set_cons_succ]
    refine wpAnyH_take (i := 12) (v := .pointer (some ⟨w.heap.size, 8, none⟩)) rfl (by kernel_rfl) (by kernel_rfl) (by kernel_rfl) (fun _ _ _ h => h) (Or.inl ⟨by first | rfl | go_simp, fun wx hx => by obtain ⟨x0, x1, x2, x3, x4, x5, x6, x7, x8, x9⟩ := hx; go_simp⟩) hS2 ?_
    try simp only [Act.put, List.getElem_toArray, List.getElem_cons_zero, List.getElem_cons_succ, List.setIfInBounds_toArray, List.set_cons_zero, List.set_cons_succ]
    refine wpAnyH_take (i := 13) (v := .int .i64 q) rfl (by kernel_rfl) (by kernel_rfl) (by kernel_rfl) (fun _ _ _ h => h) (Or.inl ⟨by first | rfl | go_simp, fun wx hx => by obtain ⟨x0, x1, x2, x3, x4, x5, x6, x7, x8, x9⟩ := hx; go_simp⟩) hS2 ?_
    try simp only [Act.put, List.getElem_toArray, List.getElem_cons_zero, List.getElem_cons_succ, List.setIfInBounds_toArray, List.set_cons_zero, List.set_cons_succ]
    refine wpAnyH_ready (rs := [14]) (by kernel_rfl) (by simp) ?_
    refine AllReadyH.cons rfl (fun K hK => ?_) AllReadyH.nil
    rw [if_pos (by first | rfl | go_simp)]
    go_wp2_with (go_at_call 55; refine (CQ.out _ B2.out).mono ?_; rintro e v3 ⟨rfl, hb3⟩; have B3 : Hid (Below W.heap.size W v3) := hideP (below_more B2.out hb3 B2.out.size); clear hb3)
    refine hK.out _ _ (Q.out _ B3.out) (fun hS3 => ?_)
    try simp only [Act.put, List.getElem_toArray, List.getElem_cons_zero, List.getElem_cons_succ, List.setIfInBounds_toArray, List.set_cons_zero, List.set_cons_succ]
    clear hK K
    refine wpAnyH_take (i := 15) (v := .bool true) rfl (by kernel_rfl) (by kernel_rfl) (by kernel_rfl) (fun _ _ _ h => h) (Or.inl ⟨by first | rfl | go_simp, fun wx hx => by obtain ⟨x0, x1, x2, x3, x4, x5, x6, x7, x8, x9⟩ := hx; go_simp⟩) hS3 ?_
    try simp only [Act.put, List.getElem_toArray, List.getElem_cons_zero, List.getElem_cons_succ, List.setIfInBounds_toArray, List.set_cons_zero, List.set_cons_succ]
    refine wpAnyH_take (i := 16) (v := .bool true) rfl (by kernel_rfl) (by kernel_rfl) (by kernel_rfl) (fun _ _ _ h => h) (Or.inl ⟨by first | rfl | go_simp, fun wx hx => by obtain ⟨x0, x1, x2, x3, x4, x5, x6, x7, x8, x9⟩ := hx; go_simp⟩) hS3 ?_
    try simp only [Act.put, List.getElem_toArray, List.getElem_cons_zero, List.getElem_cons_succ, List.setIfInBounds_toArray, List.set_cons_zero, List.set_cons_succ]
    refine wpAnyH_take (i := 17) (v := .pointer (some ⟨w.heap.size, 9, none⟩)) rfl (by kernel_rfl) (by kernel_rfl) (by kernel_rfl) (fun _ _ _ h => h) (Or.inl ⟨by first | rfl | go_simp, fun wx hx => by obtain ⟨x0, x1, x2, x3, x4, x5, x6, x7, x8, x9⟩ := hx; go_simp⟩) hS3 ?_
    try simp only [Act.put, List.getElem_toArray, List.getElem_cons_zero, List.getElem_cons_succ, List.setIfInBounds_toArray, List.set_cons_zero, List.set_cons_succ]
    refine wpAnyH_take (i := 18) (v := .int .i64 r) rfl (by kernel_rfl) (by kernel_rfl) (by kernel_rfl) (fun _ _ _ h => h) (Or.inl ⟨by first | rfl | go_simp, fun wx hx => by obtain ⟨x0, x1, x2, x3, x4, x5, x6, x7, x8, x9⟩ := hx; go_simp⟩) hS3 ?_
    try simp only [Act.put, List.getElem_toArray, List.getElem_cons_zero, List.getElem_cons_succ, List.setIfInBounds_toArray, List.set_cons_zero, List.set_cons_succ]
    refine wpAnyH_ready (rs := [19]) (by kernel_rfl) (by simp) ?_
    refine AllReadyH.cons rfl (fun K hK => ?_) AllReadyH.nil
    rw [if_pos (by first | rfl | go_simp)]
    go_wp2_with (go_at_call 55; refine (CRr.out _ B3.out).mono ?_; rintro e v4 ⟨rfl, hb4⟩; have B4 : Hid (Below W.heap.size W v4) := hideP (below_more B3.out hb4 B3.out.size); clear hb4)
    refine hK.out _ _ (Q.out _ B4.out) (fun hS4 => ?_)
    try simp only [Act.put, List.getElem_toArray, List.getElem_cons_zero, List.getElem_cons_succ, List.setIfInBounds_toArray, List.set_cons_zero, List.set_cons_succ]
    clear hK K
    refine wpAnyH_take (i := 20) (v := .bool rb) rfl (by kernel_rfl) (by kernel_rfl) (by kernel_rfl) (fun _ _ _ h => h) (Or.inl ⟨by first | rfl | go_simp, fun wx hx => by obtain ⟨x0, x1, x2, x3, x4, x5, x6, x7, x8, x9⟩ := hx; go_simp⟩) hS4 ?_
    try simp only [Act.put, List.getElem_toArray, List.getElem_cons_zero, List.getElem_cons_succ, List.setIfInBounds_toArray, List.set_cons_zero, List.set_cons_succ]
    obtain ⟨r0, r1, fz0, fz1⟩ := QR.out _ B4.out
    refine wpAnyH_ready (rs := [21]) (by kernel_rfl) (by simp) ?_
    refine AllReadyH.cons rfl (fun K hK => ?_) AllReadyH.nil
    rw [if_pos (by first | rfl | go_simp)]
    go_simp
    refine hK.out _ _ (QS.out _ B4.out) (fun hSs => ?_)
    try simp only [Act.put, List.getElem_toArray, List.getElem_cons_zero, List.getElem_cons_succ, List.setIfInBounds_toArray, List.set_cons_zero, List.set_cons_succ]
    clear hK K
    refine wpAnyH_take (i := 22) (v := .bool rb) rfl (by kernel_rfl) (by kernel_rfl) (by kernel_rfl) (fun _ _ _ h => h) (Or.inl ⟨by first | rfl | go_simp, fun wx hx => by obtain ⟨x0, x1, x2, x3, x4, x5, x6, x7, x8, x9⟩ := hx; go_simp⟩) hSs ?_
    try simp only [Act.put, List.getElem_toArray, List.getElem_cons_zero, List.getElem_cons_succ, List.setIfInBounds_toArray, List.set_cons_zero, List.set_cons_succ]
    refine wpAnyH_done (by kernel_rfl) ?_ _
    clear hS hSs hS1 hS2 hS3 hS4
    go_wp2
    have HEND := chf_world v4 B1r.out (BB.out _ B4.out) (FC.out _ B4.out)
    refine bodyPost_ret (v := .tuple #[.agg #[.map (some b1), .map (some b2)], .bool rb]) (by simp [results, Try.results36, go_sem, r0, r1]) rfl ⟨some b1, some b2, by rw [HE.out], fun _ => HEND.1, HEND.2⟩
end Go.Proofs.Ytggcfgbpameppaa
