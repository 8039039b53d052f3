/-
  The program's BookOk.
-/
import Derived.Test.YtejigikcpmhhoaaExi
namespace Go.Proofs.Ytejigikcpmhhoaa
open Go.RowKit
set_option linter.unusedVariables false
set_option linter.unusedSimpArgs false

abbrev BookP (ps ws : List Pt) : Prop := ps.length ≤ 5000 ∧ ws.length ≤ 5000 ∧ (∀ j, j < ps.length → patB (ps.getD j Pt.none).s (ps.getD j Pt.none).z = true) ∧ (∀ j, j < ws.length → exB (ws.getD j Pt.none) = true) ∧ AscS ws
def bookB (ps ws : List Pt) : Bool := decide (BookP ps ws)
theorem book_n1 {ps ws : List Pt} (h : 5000 < ps.length) : bookB ps ws = false := decide_eq_false fun hp => by have := hp.1; omega
theorem book_n2 {ps ws : List Pt} (h : 5000 < ws.length) : bookB ps ws = false := decide_eq_false fun hp => by have := hp.2.1; omega
theorem book_pat {ps ws : List Pt} {j : Nat} (hj : j < ps.length) (h : patB (ps.getD j Pt.none).s (ps.getD j Pt.none).z = false) : bookB ps ws = false := decide_eq_false fun hp => by rw [hp.2.2.1 j hj] at h; cases h
theorem book_ex {ps ws : List Pt} {j : Nat} (hj : j < ws.length) (h : exB (ws.getD j Pt.none) = false) : bookB ps ws = false := decide_eq_false fun hp => by rw [hp.2.2.2.1 j hj] at h; cases h
theorem book_asc {ps ws : List Pt} (h1 : ps.length ≤ 5000) (h2 : ws.length ≤ 5000) (hp : ∀ j, j < ps.length → patB (ps.getD j Pt.none).s (ps.getD j Pt.none).z = true) (he : ∀ j, j < ws.length → exB (ws.getD j Pt.none) = true) : bookB ps ws = decide (AscS ws) :=
  decide_eq_decide.2 ⟨fun h => h.2.2.2.2, fun h => ⟨h1, h2, hp, he, h⟩⟩

/-- A book in a block of its own. -/
def BK5 (x : World) (P : Nat) (a b : Value) : Prop := x.heap[P]? = some (.cells #[a, b] 50 (0, 0))
theorem BK5.at {w : World} {R : Nat} {x y : Value} (h : BK5 w R x y) : w.cell? ⟨R, 0, none⟩ = some x ∧ w.cell? ⟨R, 1, none⟩ = some y ∧ R < w.heap.size :=
  ⟨by rw [cell_of_row w _ _ _ _ _ h]; rfl, by rw [cell_of_row w _ _ _ _ _ h]; rfl, (Array.getElem?_eq_some_iff.1 h).1⟩
theorem BK5.below {x y : World} {P : Nat} {a b : Value} (h : BK5 x P a b) (hb : Below x.heap.size x y) : BK5 y P a b := (hb.block _ (Array.getElem?_eq_some_iff.1 h).1).trans h

/-- One element of a row, in its cells. -/
theorem elem_at {w wr : World} {ao : Option Addr} {n cap k : Nat} {xs : List Pt} (h : PRow 0 w (.slice ao n cap) xs) (hb : Below w.heap.size w wr) (hk : k < n) : ∃ (b off : Nat) (a : Option Addr) (m c : Nat), ao = some ⟨b, off, none⟩ ∧ b < wr.heap.size ∧ xs.length = n ∧
    wr.cell? ⟨b, off + k * 2, none⟩ = some (.string (xs.getD k Pt.none).s) ∧ wr.cell? ⟨b, off + k * 2 + 1, none⟩ = some (.slice a m c) ∧ Row wr (.slice a m c) (xs.getD k Pt.none).z := by
  obtain ⟨ao', n', cap', e, hn, hr⟩ := h
  cases e
  obtain ⟨b, off, rfl, hlo, hlt, hc⟩ := hr (by omega)
  obtain ⟨cs, hcl, hR, hcj⟩ := hc k hk
  obtain ⟨v, rfl, hin⟩ := hR
  obtain ⟨a, c, rfl⟩ := hin.shape
  exact ⟨b, off, a, _, c, rfl, Nat.lt_of_lt_of_le hlt hb.size, hn, (hb.cell (p := ⟨b, off + k * 2, none⟩) hlt).trans (hcj 0 (by omega)), (hb.cell (p := ⟨b, off + k * 2 + 1, none⟩) hlt).trans (hcj 1 (by omega)), hin.1.below hb⟩

def SmR (xs : List Pt) : Prop := xs.length ≤ 1048576 ∧ ∀ i, i < xs.length → SmP (xs.getD i Pt.none)

set_option maxRecDepth 20000 in
set_option maxHeartbeats 4000000 in
theorem implBook_any {vp vw : Value} {ps ws : List Pt} {w : World} (h1 : PRow 0 w vp ps) (h2 : PRow 0 w vw ws) (hs1 : SmR ps) (hs2 : SmR ws) :
    Calls Try.prog 26 #[.agg #[vp, vw]] w fun e w' => e = .returned (.bool (bookB ps ws)) ∧ Below w.heap.size w w' := by
  have H1 := hideP h1
  have H2 := hideP h2
  obtain ⟨a1, c1, rfl⟩ := h1.shape
  obtain ⟨a2, c2, rfl⟩ := h2.shape
  obtain ⟨n1, hn1⟩ : ∃ n, n = ps.length := ⟨_, rfl⟩
  obtain ⟨n2, hn2⟩ : ∃ n, n = ws.length := ⟨_, rfl⟩
  have S1 := hideP hs1
  have S2 := hideP hs2
  rw [← hn1] at H1
  rw [← hn2] at H2
  rw [← hn1, ← hn2]
  have HN1 := hideP hn1
  have HN2 := hideP hn2
  have hb1 : n1 ≤ 1048576 := by rw [hn1]; exact hs1.1
  have hb2 : n2 ≤ 1048576 := by rw [hn2]; exact hs2.1
  clear h1 h2 hn1 hn2 hs1 hs2
  by_cases hp5 : n1 ≤ 5000
  rotate_left
  · have e1 : decide (5000 < (n1 : Int)) = true := by simp; omega
    have HE : Hid (bookB ps ws = false) := hideP (book_n1 (by rw [← HN1.out]; omega))
    clear hp5
    go_enter Try.func26, Try.ntmps26
    go_wp2
    go_ret
    exact ⟨retB HE.out.symm, below1 _ _⟩
  by_cases hw5 : n2 ≤ 5000
  rotate_left
  · have e1 : decide (5000 < (n1 : Int)) = false := by simp; omega
    have e2 : decide (5000 < (n2 : Int)) = true := by simp; omega
    have HE : Hid (bookB ps ws = false) := hideP (book_n2 (by rw [← HN2.out]; omega))
    clear hp5 hw5
    go_enter Try.func26, Try.ntmps26
    go_wp2
    go_ret
    exact ⟨retB HE.out.symm, below1 _ _⟩
  have e1 : decide (5000 < (n1 : Int)) = false := by simp; omega
  have e2 : decide (5000 < (n2 : Int)) = false := by simp; omega
  have W0 : Hid (BK5 (w.alloc (.cells #[.slice a1 n1 c1, .slice a2 n2 c2] 50)) w.heap.size (.slice a1 n1 c1) (.slice a2 n2 c2) ∧ Below w.heap.size w (w.alloc (.cells #[.slice a1 n1 c1, .slice a2 n2 c2] 50))) := hideP ⟨heap_last w _, below1 _ _⟩
  obtain ⟨ab, hab⟩ : ∃ b, b = decide (AscS ws) := ⟨_, rfl⟩
  have CA : Hid (∀ W, Below w.heap.size w W → Calls Try.prog 49 #[.slice a2 n2 c2, .func (.func 50) #[] #[]] W fun e w' => e = .returned (.bool ab) ∧ Below W.heap.size W w') := hideP (fun W hW => by rw [hab]; exact ascS_any (SRow.below ptStable H2.out hW) S2.out.1)
  have HAB := hideP hab
  clear hab
  go_enter Try.func26, Try.ntmps26
  go_wp2
  go_loopw [20] (fun i wr => ∃ k : Nat, k ≤ n1 ∧ i = .int .i64 k ∧ Hid (∀ j, j < k → patB (ps.getD j Pt.none).s (ps.getD j Pt.none).z = true) ∧ Hid (BK5 wr w.heap.size (.slice a1 n1 c1) (.slice a2 n2 c2) ∧ Below w.heap.size w wr)) (fun i _ => n1 - (intOf i).toNat)
  case atStart => exact ⟨0, by omega, rfl, hideP (fun j hj => by omega), W0⟩
  case round =>
    obtain ⟨k, hk, rfl, HJ, HW⟩ := hrel
    clear W0
    by_cases hlt : k < n1
    · have hki : (k : Int) < (n1 : Int) := by omega
      obtain ⟨b, off, a, m, c, rfl, hb, hxn, g0, g1, hrow⟩ := elem_at H1.out HW.out.2 hlt
      have hsm := S1.out.2 k (by rw [hxn]; exact hlt)
      obtain ⟨t, ht⟩ : ∃ t, t = ps.getD k Pt.none := ⟨_, rfl⟩
      rw [← ht] at g0 hrow hsm
      have HT := hideP ht
      obtain ⟨x, z⟩ := t
      dsimp only at g0 hrow hsm
      obtain ⟨pb, hpb⟩ : ∃ b, b = patB x z := ⟨_, rfl⟩
      have CP : Hid (∀ W, Below wr.heap.size wr W → Calls Try.prog 12 #[patV x (.slice a m c)] W fun e w' => e = .returned (.bool pb) ∧ Below W.heap.size W w') := hideP (fun W hW => by rw [hpb]; exact implPatternOk_any (hrow.below hW) hsm.2 (by have h3 : x.size ≤ 1048576 := hsm.1; omega))
      have HPB := hideP hpb
      have HKL : Hid (k < ps.length) := hideP (by rw [hxn]; exact hlt)
      clear ht hrow hsm hpb hxn
      cases pb
      · have HE : Hid (bookB ps ws = false) := hideP (book_pat HKL.out (by rw [← HT.out]; exact HPB.out.symm))
        go_wp2_with fail
        refine (CP.out _ (below1 _ _)).mono ?_
        rintro e w2 ⟨rfl, hb2⟩
        have B2 := hideP (below_more HW.out.2 (below_more (below1 _ _) hb2 (by simp)) HW.out.2.size)
        clear hb2
        go_wp2
        go_ret
        exact ⟨retB HE.out.symm, B2.out⟩
      · go_wp2_with fail
        refine (CP.out _ (below1 _ _)).mono ?_
        rintro e w2 ⟨rfl, hb2⟩
        have bb := below_more (below1 wr (.cells #[.string x, .slice a m c] 26)) hb2 (by simp)
        have B2 : Hid (BK5 w2 w.heap.size (.slice (some ⟨b, off, none⟩) n1 c1) (.slice a2 n2 c2) ∧ Below w.heap.size w w2) := hideP ⟨HW.out.1.below bb, below_more HW.out.2 bb HW.out.2.size⟩
        clear hb2 bb
        go_wp2
        go_roundw
        case rel =>
          refine ⟨k + 1, by omega, by go_num, hideP (fun j hj => ?_), B2⟩
          by_cases hjk : j = k
          · subst hjk; rw [← HT.out]; exact HPB.out.symm
          · exact HJ.out j (by omega)
        case measure => simp [intOf]; omega
    · have hki : ¬ ((k : Int) < (n1 : Int)) := by omega
      obtain ⟨p0, p1, pz⟩ := HW.out.1.at
      have HPS : Hid (∀ j, j < ps.length → patB (ps.getD j Pt.none).s (ps.getD j Pt.none).z = true) := hideP (fun j hj => HJ.out j (by have := HN1.out; omega))
      clear HJ
      go_wp2
      go_loopw [31] (fun i wq => ∃ k : Nat, k ≤ n2 ∧ i = .int .i64 k ∧ Hid (∀ j, j < k → exB (ws.getD j Pt.none) = true) ∧ Hid (BK5 wq w.heap.size (.slice a1 n1 c1) (.slice a2 n2 c2) ∧ Below w.heap.size w wq)) (fun i _ => n2 - (intOf i).toNat)
      case atStart => exact ⟨0, by omega, rfl, hideP (fun j hj => by omega), HW⟩
      case round =>
        obtain ⟨q, hq, rfl, HJ, HQ⟩ := hrel
        clear HW p0 p1 pz
        by_cases hlq : q < n2
        · have hqi : (q : Int) < (n2 : Int) := by omega
          obtain ⟨b, off, a, m, c, rfl, hb, hxn, g0, g1, hrow⟩ := elem_at H2.out HQ.out.2 hlq
          have hsm := S2.out.2 q (by rw [hxn]; exact hlq)
          obtain ⟨t, ht⟩ : ∃ t, t = ws.getD q Pt.none := ⟨_, rfl⟩
          rw [← ht] at g0 hrow hsm
          have HT := hideP ht
          obtain ⟨x, z⟩ := t
          dsimp only at g0 hrow hsm
          obtain ⟨pb, hpb⟩ : ∃ b, b = exB ⟨x, z⟩ := ⟨_, rfl⟩
          have CP : Hid (∀ W, Below wr.heap.size wr W → Calls Try.prog 48 #[patV x (.slice a m c)] W fun e w' => e = .returned (.bool pb) ∧ Below W.heap.size W w') := hideP (fun W hW => by rw [hpb]; exact implEx_any (hrow.below hW) hsm.2 (by have h3 : x.size ≤ 1048576 := hsm.1; omega))
          have HPB := hideP hpb
          have HKL : Hid (q < ws.length) := hideP (by rw [hxn]; exact hlq)
          clear ht hrow hsm hpb hxn
          cases pb
          · have HE : Hid (bookB ps ws = false) := hideP (book_ex HKL.out (by rw [← HT.out]; exact HPB.out.symm))
            go_wp2_with fail
            refine (CP.out _ (below1 _ _)).mono ?_
            rintro e w2 ⟨rfl, hb2⟩
            have B2 := hideP (below_more HQ.out.2 (below_more (below1 _ _) hb2 (by simp)) HQ.out.2.size)
            clear hb2
            go_wp2
            go_ret
            exact ⟨retB HE.out.symm, B2.out⟩
          · go_wp2_with fail
            refine (CP.out _ (below1 _ _)).mono ?_
            rintro e w2 ⟨rfl, hb2⟩
            have bb := below_more (below1 wr (.cells #[.string x, .slice a m c] 74)) hb2 (by simp)
            have B2 : Hid (BK5 w2 w.heap.size (.slice a1 n1 c1) (.slice (some ⟨b, off, none⟩) n2 c2) ∧ Below w.heap.size w w2) := hideP ⟨HQ.out.1.below bb, below_more HQ.out.2 bb HQ.out.2.size⟩
            clear hb2 bb
            go_wp2
            go_roundw
            case rel =>
              refine ⟨q + 1, by omega, by go_num, hideP (fun j hj => ?_), B2⟩
              by_cases hjk : j = q
              · subst hjk; rw [← HT.out]; exact HPB.out.symm
              · exact HJ.out j (by omega)
            case measure => simp [intOf]; omega
        · have hqi : ¬ ((q : Int) < (n2 : Int)) := by omega
          obtain ⟨p0, p1, pz⟩ := HQ.out.1.at
          have HE : Hid (bookB ps ws = ab) := hideP (by rw [HAB.out]; exact book_asc (by have := HN1.out; omega) (by have := HN2.out; omega) HPS.out (fun j hj => HJ.out j (by have := HN2.out; omega)))
          go_wp2_with fail
          refine (CA.out _ HQ.out.2).mono ?_
          rintro e w2 ⟨rfl, hb2⟩
          have B2 := hideP (below_more HQ.out.2 hb2 HQ.out.2.size)
          clear hb2
          go_wp2
          go_ret
          exact ⟨retB HE.out.symm, B2.out⟩
end Go.Proofs.Ytejigikcpmhhoaa
