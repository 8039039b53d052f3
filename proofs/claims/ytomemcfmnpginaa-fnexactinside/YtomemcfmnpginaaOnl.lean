/-
  A list of one box: the program.
-/
import Derived.Test.YtomemcfmnpginaaLok
import Derived.Test.YtomemcfmnpginaaThq
namespace Go.Proofs.Ytomemcfmnpginaa
open Go.RowKit
set_option linter.unusedVariables false
set_option linter.unusedSimpArgs false

def oneB (xs : List Nd) : Bool := listB xs && decide (0 < xs.length) && decide ((xs.getD 0 Nd.none).kids = (xs.length : Int) - 1) && boxB (xs.getD 0 Nd.none)

set_option maxRecDepth 20000 in
set_option maxHeartbeats 4000000 in
theorem onlyBox_any {v : Value} {xs : List Nd} {w : World} (h : NRow 0 w v xs) (hs : xs.length ≤ 1048576) :
    Calls Try.prog 44 #[v] w fun e w' => (∃ a1 a2 a3 a4 a5 a6 : Int, e = .returned (.tuple #[.agg #[.int .i64 a1, .int .i64 a2, .int .i64 a3, .int .i64 a4, .int .i64 a5, .int .i64 a6], .bool (oneB xs)])) ∧ Below w.heap.size w w' := by
  have HC : Hid (∀ W, Below w.heap.size w W → Calls Try.prog 15 #[v] W fun e w' => e = .returned (.bool (listB xs)) ∧ Below W.heap.size W w') := hideP (fun W hW => implListOk_any (SRow.below ndStable h hW) hs)
  have hsm := hs
  obtain ⟨ao, n, cap, rfl, hl, hr⟩ := h
  obtain ⟨lb, hlb⟩ : ∃ lb, lb = listB xs := ⟨_, rfl⟩
  rw [← hlb] at HC
  have HLB := hideP hlb
  have HL := hideP hl
  have HR : Hid (0 < n → ∃ b off, ao = some ⟨b, off, none⟩ ∧ 0 ≤ b ∧ b < w.heap.size ∧ ∀ i, i < n → ∃ cs : List Value, cs.length = 15 ∧ NdR 0 w cs (xs.getD i Nd.none) ∧ ∀ j, j < 15 → w.cell? ⟨b, off + i * 15 + j, none⟩ = cs[j]?) := hideP hr
  obtain ⟨R, hR⟩ : ∃ R, R = oneB xs := ⟨_, rfl⟩
  rw [← hR]
  have HRR := hideP hR
  have hnm : n ≤ 1048576 := by rw [← hl]; exact hs
  clear hr hl hs hlb hR hsm
  go_enter Try.func44, Try.ntmps44
  go_wp2_with fail
  refine (HC.out _ (below1 _ _)).mono ?_
  rintro e w1 ⟨rfl, hb1⟩
  have hx1 : w.heap.size < w1.heap.size := by have := hb1.size; simp at this; omega
  have B1 : Hid (Below w.heap.size w w1) := hideP (below_more (below1 _ _) hb1 (by simp))
  have BZ := B1
  have QZ : Hid (∀ x, Below w1.heap.size w1 x → ∀ i, i < 6 → x.cell? ⟨w.heap.size, i, none⟩ = some (.int .i64 0)) := hideP (fun x hx i hi => by
    rw [Below.cell hx (p := ⟨w.heap.size, i, none⟩) hx1, Below.cell hb1 (p := ⟨w.heap.size, i, none⟩) (by simp)]
    have : i = 0 ∨ i = 1 ∨ i = 2 ∨ i = 3 ∨ i = 4 ∨ i = 5 := by omega
    rcases this with rfl | rfl | rfl | rfl | rfl | rfl <;> simp [go_sem])
  have QF : Hid (∀ x, Below w1.heap.size w1 x → ∀ i, x.frozen? ⟨w.heap.size, i, none⟩ = false) := hideP (fun x hx i => by
    rw [Below.frozen hx (p := ⟨w.heap.size, i, none⟩) hx1, Below.frozen hb1 (p := ⟨w.heap.size, i, none⟩) (by simp)]
    simp [go_sem])
  have z0 := QZ.out w1 (Below.refl _ _) 0 (by omega)
  have z1 := QZ.out w1 (Below.refl _ _) 1 (by omega)
  have z2 := QZ.out w1 (Below.refl _ _) 2 (by omega)
  have z3 := QZ.out w1 (Below.refl _ _) 3 (by omega)
  have z4 := QZ.out w1 (Below.refl _ _) 4 (by omega)
  have z5 := QZ.out w1 (Below.refl _ _) 5 (by omega)
  have zf := QF.out w1 (Below.refl _ _)
  have HB1 := hideP hb1
  clear hb1
  cases lb with
  | false =>
    have HE : Hid (R = false) := hideP (by rw [HRR.out]; unfold oneB; rw [← HLB.out]; rfl)
    go_wp2
    refine bodyPost_ret (v := .tuple #[.agg #[.int .i64 0, .int .i64 0, .int .i64 0, .int .i64 0, .int .i64 0, .int .i64 0], .bool false]) (by simp [results, Try.results44, go_sem, z0, z1, z2, z3, z4, z5]) rfl ⟨⟨0, 0, 0, 0, 0, 0, by rw [HE.out]⟩, ?_⟩
    (have BZ2 := BZ.out; repeat (first | with_reducible exact BZ2 | (with_reducible refine Below.alloc ?_ ?_ _; rotate_left; focus (first | (simp; done) | (simp; omega))) | (with_reducible refine Below.setCell ?_ ?_ _; rotate_left; focus (first | (simp; done) | (simp; omega)))))
  | true =>
    by_cases hn0 : n = 0
    · subst hn0
      have HE : Hid (R = false) := hideP (by rw [HRR.out]; unfold oneB; rw [HL.out]; simp)
      go_wp2
      refine bodyPost_ret (v := .tuple #[.agg #[.int .i64 0, .int .i64 0, .int .i64 0, .int .i64 0, .int .i64 0, .int .i64 0], .bool false]) (by simp [results, Try.results44, go_sem, z0, z1, z2, z3, z4, z5]) rfl ⟨⟨0, 0, 0, 0, 0, 0, by rw [HE.out]⟩, ?_⟩
      (have BZ2 := BZ.out; repeat (first | with_reducible exact BZ2 | (with_reducible refine Below.alloc ?_ ?_ _; rotate_left; focus (first | (simp; done) | (simp; omega))) | (with_reducible refine Below.setCell ?_ ?_ _; rotate_left; focus (first | (simp; done) | (simp; omega)))))
    · have hnp : 0 < n := by omega
      have hnz : ((n : Int) == 0) = false := by simp; omega
      obtain ⟨b, off, rfl, _, hb, hc⟩ := HR.out hnp
      obtain ⟨cs, hcl, hRel, hcj⟩ := hc 0 hnp
      obtain ⟨t, ht⟩ : ∃ t, t = xs.getD 0 Nd.none := ⟨_, rfl⟩
      rw [← ht] at hRel
      have HT := hideP ht
      have TC : Hid (∀ W : World, Calls Try.prog 37 #[ndV t] W fun r w' => (∃ v, r = .returned v ∧ ThingQ t v) ∧ Below W.heap.size W w') := hideP (fun W => thing_q t W)
      obtain ⟨bb, hbb⟩ : ∃ bb, bb = boxB t := ⟨_, rfl⟩
      have HBB := hideP hbb
      obtain ⟨kd, wd, hh, dp, sh, fo, ch, nn, gs, gp, gpo, gm, gmo, tx, kids⟩ := t
      rw [show cs = _ from hRel] at hcj
      simp only [Nd.cells, Nat.zero_mul, Nat.add_zero] at hcj
      have hnp' : (0 : Int) < (n : Int) := by omega
      have g0 : w1.cell? ⟨b, off, none⟩ = some (.int .i64 kd) := (B1.out.cell (p := ⟨b, off + 0, none⟩) hb).trans (by simpa using hcj 0 (by omega))
      have g1 : w1.cell? ⟨b, off + 1, none⟩ = some (.int .i64 wd) := (B1.out.cell (p := ⟨b, off + 1, none⟩) hb).trans (by simpa using hcj 1 (by omega))
      have g2 : w1.cell? ⟨b, off + 2, none⟩ = some (.int .i64 hh) := (B1.out.cell (p := ⟨b, off + 2, none⟩) hb).trans (by simpa using hcj 2 (by omega))
      have g3 : w1.cell? ⟨b, off + 3, none⟩ = some (.int .i64 dp) := (B1.out.cell (p := ⟨b, off + 3, none⟩) hb).trans (by simpa using hcj 3 (by omega))
      have g4 : w1.cell? ⟨b, off + 4, none⟩ = some (.int .i64 sh) := (B1.out.cell (p := ⟨b, off + 4, none⟩) hb).trans (by simpa using hcj 4 (by omega))
      have g5 : w1.cell? ⟨b, off + 5, none⟩ = some (.int .i64 fo) := (B1.out.cell (p := ⟨b, off + 5, none⟩) hb).trans (by simpa using hcj 5 (by omega))
      have g6 : w1.cell? ⟨b, off + 6, none⟩ = some (.int .i64 ch) := (B1.out.cell (p := ⟨b, off + 6, none⟩) hb).trans (by simpa using hcj 6 (by omega))
      have g7 : w1.cell? ⟨b, off + 7, none⟩ = some (.int .i64 nn) := (B1.out.cell (p := ⟨b, off + 7, none⟩) hb).trans (by simpa using hcj 7 (by omega))
      have g8 : w1.cell? ⟨b, off + 8, none⟩ = some (.int .i64 gs) := (B1.out.cell (p := ⟨b, off + 8, none⟩) hb).trans (by simpa using hcj 8 (by omega))
      have g9 : w1.cell? ⟨b, off + 9, none⟩ = some (.int .i64 gp) := (B1.out.cell (p := ⟨b, off + 9, none⟩) hb).trans (by simpa using hcj 9 (by omega))
      have g10 : w1.cell? ⟨b, off + 10, none⟩ = some (.int .i64 gpo) := (B1.out.cell (p := ⟨b, off + 10, none⟩) hb).trans (by simpa using hcj 10 (by omega))
      have g11 : w1.cell? ⟨b, off + 11, none⟩ = some (.int .i64 gm) := (B1.out.cell (p := ⟨b, off + 11, none⟩) hb).trans (by simpa using hcj 11 (by omega))
      have g12 : w1.cell? ⟨b, off + 12, none⟩ = some (.int .i64 gmo) := (B1.out.cell (p := ⟨b, off + 12, none⟩) hb).trans (by simpa using hcj 12 (by omega))
      have g13 : w1.cell? ⟨b, off + 13, none⟩ = some (.string tx) := (B1.out.cell (p := ⟨b, off + 13, none⟩) hb).trans (by simpa using hcj 13 (by omega))
      have g14 : w1.cell? ⟨b, off + 14, none⟩ = some (.int .i64 kids) := (B1.out.cell (p := ⟨b, off + 14, none⟩) hb).trans (by simpa using hcj 14 (by omega))
      clear hc hcj hcl ht hRel hbb
      by_cases hkd : kids = (n : Int) - 1
      · have hne : (kids != (n : Int) - 1) = false := by simp [hkd]
        have hne2 : (kids == (n : Int) - 1) = true := by simp [hkd]
        have HKD := hideP hkd
        clear hkd
        go_wp2_with fail
        refine (TC.out _).mono ?_
        rintro e w2 ⟨⟨vt, rfl, hth⟩, hb2⟩
        obtain ⟨a1, a2, a3, a4, a5, a6, hta⟩ := hth.2.bx
        rw [← HBB.out] at hta
        have HE : Hid (R = bb) := hideP (by rw [HRR.out]; unfold oneB; rw [← HLB.out, ← HT.out, ← HBB.out, HL.out, decide_eq_true hnp]; dsimp only; rw [decide_eq_true HKD.out]; simp)
        have BZ2 : Below w.heap.size w w2 := below_more B1.out hb2 B1.out.size
        have hx2 : w.heap.size < w2.heap.size := Nat.lt_of_lt_of_le hx1 hb2.size
        obtain ⟨hc2, hf2⟩ := bcell (HB1.out.trans (hb2.mono HB1.out.size))
        simp only [World.size_alloc] at hc2 hf2
        have BY := hideP BZ2
        have hsh : vt = .nilIface ∨ ∃ X p, vt = .iface X p := by
          rcases hth.1 with ⟨h, _⟩ | ⟨X, p, _, _, _, _, h, _⟩
          · exact .inl h
          · exact .inr ⟨X, p, h⟩
        clear hth hb2 z0 z1 z2 z3 z4 z5 zf g0 g1 g2 g3 g4 g5 g6 g7 g8 g9 g10 g11 g12 g13 g14 BZ2 QZ QF hne hne2 hnz hnp hnp' HC TC HR
        rcases hsh with rfl | ⟨X, p, rfl⟩
        all_goals
          go_wp2
          refine bodyPost_ret (v := .tuple #[.agg #[.int .i64 a1, .int .i64 a2, .int .i64 a3, .int .i64 a4, .int .i64 a5, .int .i64 a6], .bool bb]) (by simp [results, Try.results44, go_sem, hc2, hx2]) rfl ⟨⟨a1, a2, a3, a4, a5, a6, by rw [HE.out]⟩, ?_⟩
          have BY2 := BY.out
          clear hc2 hf2 BY
          repeat (first | with_reducible exact BY2 | (with_reducible refine Below.alloc ?_ ?_ _; rotate_left; focus (first | (simp; done) | (simp; omega))) | (with_reducible refine Below.setCell ?_ ?_ _; rotate_left; focus (first | (simp; done) | (simp; omega))))
      · have hne : (kids != (n : Int) - 1) = true := by simpa using hkd
        have hne2 : (kids == (n : Int) - 1) = false := by simpa using hkd
        have HE : Hid (R = false) := hideP (by rw [HRR.out]; unfold oneB; rw [← HT.out, HL.out]; dsimp only; rw [decide_eq_false hkd]; simp)
        go_wp2
        refine bodyPost_ret (v := .tuple #[.agg #[.int .i64 0, .int .i64 0, .int .i64 0, .int .i64 0, .int .i64 0, .int .i64 0], .bool false]) (by simp [results, Try.results44, go_sem, z0, z1, z2, z3, z4, z5]) rfl ⟨⟨0, 0, 0, 0, 0, 0, by rw [HE.out]⟩, ?_⟩
        (have BZ2 := BZ.out; repeat (first | with_reducible exact BZ2 | (with_reducible refine Below.alloc ?_ ?_ _; rotate_left; focus (first | (simp; done) | (simp; omega))) | (with_reducible refine Below.setCell ?_ ?_ _; rotate_left; focus (first | (simp; done) | (simp; omega)))))
end Go.Proofs.Ytomemcfmnpginaa
