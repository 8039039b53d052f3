/-
  The specification's ListOk, a list of one box, and where items begin.
-/
import Derived.Test.YtomemcfmnpginaaSpl
import Derived.Test.YtomemcfmnpginaaIns
namespace Go.Proofs.Ytomemcfmnpginaa
open Go.RowKit
set_option linter.unusedVariables false
set_option linter.unusedSimpArgs false

theorem nest_bigS {v : Value} {xs : List Nd} {w : World} (h : NRow 0 w v xs) (hbig : ¬ xs.length ≤ 20000) (hs : xs.length ≤ 1048576) :
    Calls Try.prog 35 #[v] w fun e w' => e = .returned (.int .i64 (-1)) ∧ Below w.heap.size w w' := by
  obtain ⟨ao, n, cap, rfl, hl, hr⟩ := h
  have hni : (20000 : Int) < (n : Int) := by omega
  clear hr
  go_enter Try.func35, Try.ntmps35
  go_wp2
  go_ret
  exact ⟨rfl, Below.refl _ _⟩
theorem nest_allS {v : Value} {xs : List Nd} {w : World} (h : NRow 0 w v xs) (hs : xs.length ≤ 1048576) :
    Calls Try.prog 35 #[v] w fun e w' => ∃ m : Int, e = .returned (.int .i64 m) ∧ (decide (0 ≤ m) && decide (m ≤ 41)) = listB xs ∧ Below w.heap.size w w' := by
  by_cases hbig : xs.length ≤ 20000
  · refine (nest_any h hbig).mono ?_
    rintro e w' ⟨m, rfl, hm, hb⟩
    refine ⟨m, rfl, ?_, hb⟩
    rw [hm]
    unfold listB
    rw [decide_eq_true hbig]
    rfl
  · refine (nest_bigS h hbig hs).mono ?_
    rintro e w' ⟨rfl, hb⟩
    refine ⟨-1, rfl, ?_, hb⟩
    unfold listB
    rw [decide_eq_false hbig]
    rfl
theorem specListOk_anyS {v : Value} {xs : List Nd} {w : World} (h : NRow 0 w v xs) (hs : xs.length ≤ 1048576) :
    Calls Try.prog 13 #[v] w fun e w' => e = .returned (.bool (listB xs)) ∧ Below w.heap.size w w' := by
  have HC := hideP (nest_allS h hs)
  obtain ⟨ao, n, cap, rfl, hl, hr⟩ := h
  clear hr hl hs
  go_enter Try.func13, Try.ntmps13
  go_wp2_with fail
  refine HC.out.mono ?_
  rintro e w1 ⟨m, rfl, hm, hb1⟩
  have B1 := hideP hb1
  have HM := hideP hm
  clear hb1 hm
  cases h1 : decide (0 ≤ m) with
  | false =>
    have HE : Hid (listB xs = false) := hideP (by rw [← HM.out, h1]; rfl)
    go_wp2
    go_ret
    exact ⟨retB HE.out.symm, B1.out⟩
  | true =>
    cases h2 : decide (m ≤ 41) with
    | false =>
      have HE : Hid (listB xs = false) := hideP (by rw [← HM.out, h1, h2]; rfl)
      go_wp2
      go_ret
      exact ⟨retB HE.out.symm, B1.out⟩
    | true =>
      have HE : Hid (listB xs = true) := hideP (by rw [← HM.out, h1, h2]; rfl)
      go_wp2
      go_ret
      exact ⟨retB HE.out.symm, B1.out⟩
theorem l8Box_any (x : Nd) (w : World) : Calls Try.prog 66 #[ndV x] w fun r w' => r = .returned (.bool (boxB x)) ∧ Below w.heap.size w w' := by
  obtain ⟨k, wd, ht, dp, sh, fo, ch, nn, gs, gp, gpo, gm, gmo, tx, kids⟩ := x
  simp only [ndV, boxB]
  cases h1 : (k == 6) <;> cases h2 : (k == 7)
  all_goals
    go_enter Try.func66, Try.ntmps66
    go_wp2
    go_ret
    exact ⟨rfl, below1 _ _⟩

set_option maxRecDepth 20000 in
set_option maxHeartbeats 4000000 in
theorem oneBox_any {v : Value} {xs : List Nd} {w : World} (h : NRow 0 w v xs) (hs : xs.length ≤ 1048576) :
    Calls Try.prog 43 #[v] w fun e w' => e = .returned (.bool (oneB xs)) ∧ Below w.heap.size w w' := by
  have HC := hideP (specListOk_anyS h hs)
  obtain ⟨ao, n, cap, rfl, hl, hr⟩ := h
  obtain ⟨lb, hlb⟩ : ∃ lb, lb = listB xs := ⟨_, rfl⟩
  rw [← hlb] at HC
  have HLB := hideP hlb
  have HL := hideP hl
  have HR : Hid (0 < n → ∃ b off, ao = some ⟨b, off, none⟩ ∧ 0 ≤ b ∧ b < w.heap.size ∧ ∀ i, i < n → ∃ cs : List Value, cs.length = 15 ∧ NdR 0 w cs (xs.getD i Nd.none) ∧ ∀ j, j < 15 → w.cell? ⟨b, off + i * 15 + j, none⟩ = cs[j]?) := hideP hr
  obtain ⟨R, hR⟩ : ∃ R, R = oneB xs := ⟨_, rfl⟩
  rw [← hR]
  have HRR := hideP hR
  have hnm : n ≤ 1048576 := by rw [← hl]; exact hs
  clear hr hl hs hlb hR
  by_cases hn0 : n = 0
  · subst hn0
    have HE : Hid (R = false) := hideP (by rw [HRR.out]; unfold oneB; rw [HL.out]; simp)
    go_enter Try.func43, Try.ntmps43
    go_wp2
    go_ret
    exact ⟨retB HE.out.symm, Below.refl _ _⟩
  · have hnp : 0 < n := by omega
    have hnp' : (0 : Int) < (n : Int) := by omega
    go_enter Try.func43, Try.ntmps43
    go_wp2_with fail
    refine HC.out.mono ?_
    rintro e w1 ⟨rfl, hb1⟩
    have B1 := hideP hb1
    clear HC
    cases lb with
    | false =>
      have HE : Hid (R = false) := hideP (by rw [HRR.out]; unfold oneB; rw [← HLB.out]; rfl)
      clear hb1
      go_wp2
      go_ret
      exact ⟨retB HE.out.symm, B1.out⟩
    | true =>
      obtain ⟨b, off, rfl, _, hb, hc⟩ := HR.out hnp
      obtain ⟨cs, hcl, hRel, hcj⟩ := hc 0 hnp
      obtain ⟨t, ht⟩ : ∃ t, t = xs.getD 0 Nd.none := ⟨_, rfl⟩
      rw [← ht] at hRel
      have HT := hideP ht
      obtain ⟨bb, hbb⟩ : ∃ bb, bb = boxB t := ⟨_, rfl⟩
      have TC : Hid (∀ W : World, Calls Try.prog 66 #[ndV t] W fun r w' => r = .returned (.bool bb) ∧ Below W.heap.size W w') := hideP (fun W => by rw [hbb]; exact l8Box_any t W)
      have HBB := hideP hbb
      obtain ⟨kd, wd, hh, dp, sh, fo, ch, nn, gs, gp, gpo, gm, gmo, tx, kids⟩ := t
      rw [show cs = _ from hRel] at hcj
      simp only [Nd.cells, Nat.zero_mul, Nat.add_zero] at hcj
      have g0 : w1.cell? ⟨b, off, none⟩ = some (.int .i64 kd) := (B1.out.cell (p := ⟨b, off + 0, none⟩) hb).trans (by simpa using hcj 0 (by omega))
      have g1 : w1.cell? ⟨b, off + 1, none⟩ = some (.int .i64 wd) := (B1.out.cell (p := ⟨b, off + 1, none⟩) hb).trans (by simpa using hcj 1 (by omega))
      have g2 : w1.cell? ⟨b, off + 2, none⟩ = some (.int .i64 hh) := (B1.out.cell (p := ⟨b, off + 2, none⟩) hb).trans (by simpa using hcj 2 (by omega))
      have g3 : w1.cell? ⟨b, off + 3, none⟩ = some (.int .i64 dp) := (B1.out.cell (p := ⟨b, off + 3, none⟩) hb).trans (by simpa using hcj 3 (by omega))
      have g4 : w1.cell? ⟨b, off + 4, none⟩ = some (.int .i64 sh) := (B1.out.cell (p := ⟨b, off + 4, none⟩) hb).trans (by simpa using hcj 4 (by omega))
      have g5 : w1.cell? ⟨b, off + 5, none⟩ = some (.int .i64 fo) := (B1.out.cell (p := ⟨b, off + 5, none⟩) hb).trans (by simpa using hcj 5 (by omega))
      have g6 : w1.cell? ⟨b, off + 6, none⟩ = some (.int .i64 ch) := (B1.out.cell (p := ⟨b, off + 6, none⟩) hb).trans (by simpa using hcj 6 (by omega))
      have g7 : w1.cell? ⟨b, off + 7, none⟩ = some (.int .i64 nn) := (B1.out.cell (p := ⟨b, off + 7, none⟩) hb).trans (by simpa using hcj 7 (by omega))
      have g8 : w1.cell? ⟨b, off + 8, none⟩ = some (.int .i64 gs) := (B1.out.cell (p := ⟨b, off + 8, none⟩) hb).trans (by simpa using hcj 8 (by omega))
      have g9 : w1.cell? ⟨b, off + 9, none⟩ = some (.int .i64 gp) := (B1.out.cell (p := ⟨b, off + 9, none⟩) hb).trans (by simpa using hcj 9 (by omega))
      have g10 : w1.cell? ⟨b, off + 10, none⟩ = some (.int .i64 gpo) := (B1.out.cell (p := ⟨b, off + 10, none⟩) hb).trans (by simpa using hcj 10 (by omega))
      have g11 : w1.cell? ⟨b, off + 11, none⟩ = some (.int .i64 gm) := (B1.out.cell (p := ⟨b, off + 11, none⟩) hb).trans (by simpa using hcj 11 (by omega))
      have g12 : w1.cell? ⟨b, off + 12, none⟩ = some (.int .i64 gmo) := (B1.out.cell (p := ⟨b, off + 12, none⟩) hb).trans (by simpa using hcj 12 (by omega))
      have g13 : w1.cell? ⟨b, off + 13, none⟩ = some (.string tx) := (B1.out.cell (p := ⟨b, off + 13, none⟩) hb).trans (by simpa using hcj 13 (by omega))
      have g14 : w1.cell? ⟨b, off + 14, none⟩ = some (.int .i64 kids) := (B1.out.cell (p := ⟨b, off + 14, none⟩) hb).trans (by simpa using hcj 14 (by omega))
      have Q14 : Hid (∀ x, Below w1.heap.size w1 x → x.cell? ⟨b, off + 14, none⟩ = some (.int .i64 kids)) := hideP (fun x hx => (Below.cell hx (p := ⟨b, off + 14, none⟩) (Nat.lt_of_lt_of_le hb B1.out.size)).trans g14)
      clear hc hcj hcl ht hRel hbb hb1
      go_wp2_with fail
      refine (TC.out _).mono ?_
      rintro e w2 ⟨rfl, hb2⟩
      have B2 := hideP (below_more B1.out hb2 B1.out.size)
      have k14 := Q14.out w2 hb2
      clear hb2 g0 g1 g2 g3 g4 g5 g6 g7 g8 g9 g10 g11 g12 g13 g14
      cases bb with
      | false =>
        have HE : Hid (R = false) := hideP (by rw [HRR.out]; unfold oneB; rw [← HT.out, ← HBB.out]; simp)
        go_wp2
        go_ret
        exact ⟨retB HE.out.symm, B2.out⟩
      | true =>
        cases hk : (kids == (n : Int) - 1) with
        | false =>
          have HE : Hid (R = false) := hideP (by rw [HRR.out]; unfold oneB; rw [← HT.out, HL.out, decide_eq_false (show ¬ kids = (n : Int) - 1 by simpa using hk)]; simp)
          go_wp2
          go_ret
          exact ⟨retB HE.out.symm, B2.out⟩
        | true =>
          have HE : Hid (R = true) := hideP (by rw [HRR.out]; unfold oneB; rw [← HLB.out, ← HT.out, ← HBB.out, HL.out, decide_eq_true (show kids = (n : Int) - 1 by simpa using hk), decide_eq_true hnp]; rfl)
          go_wp2
          go_ret
          exact ⟨retB HE.out.symm, B2.out⟩
end Go.Proofs.Ytomemcfmnpginaa
