/-
  Pairs that can be, by a face.
-/
import Derived.Test.YtggcfgbpameppaaFac
namespace Go.Proofs.Ytggcfgbpameppaa
open Go.RowKit Go.Maps
set_option linter.unusedVariables false
set_option linter.unusedSimpArgs false

def hasB (gs : List Q4) (c : Int) : Bool := (look1 gs c).isSome
set_option maxHeartbeats 2000000 in
theorem has_any {v : Value} {lo : Nat} {gs ps : List Q4} {c : Int} {w : World} (h : Face w v lo gs ps) (hc : I64 c) : Calls Try.prog 40 #[v, .int .i64 c] w fun e w' => e = .returned (.bool (hasB gs c)) ∧ Below w.heap.size w w' := by
  obtain ⟨b1, b2, rfl, h1, h2, hg, hp⟩ := h.ex
  obtain ⟨n, F, hn, hM, hF⟩ := hg
  have HM : Hid (MapQ (w.alloc (.cells #[.map (some b1), .map (some b2)] 72)) 2 b1 n F) := hideP (hM.below (below1 _ _))
  obtain ⟨r, hr⟩ : ∃ r, r = (F (.int .i64 c)).isSome := ⟨_, rfl⟩
  obtain ⟨⟨xa, xb, xc, xd⟩, hx⟩ : ∃ x, x = (F (.int .i64 c)).getD Q4.none := ⟨_, rfl⟩
  have hr' : hasB gs c = r := by rw [hr, hF c hc]; rfl
  rw [hr']
  have HX := hideP (And.intro hx hr)
  clear hM hF hn hp h h1 h2 hr hx hr'
  go_enter Try.func40, Try.ntmps40
  go_wp2_with (first
    | (at_lookup; refine wpList_lookup_q _ rfl _ _ 69 rfl 2 39 keyedI und69 (zero39 _) b1 n F rfl HM.out _ _ rfl (keyI hc) ?_; rw [← HX.out.1, ← HX.out.2]; simp only [q4V]))
  go_ret
  exact ⟨rfl, below2 _ _ _⟩

/-- A pair that can be. -/
def pairB (gs : List Q4) (p : Q4) : Bool := if p.c = -1 then hasB gs p.a && hasB gs p.b && decide (-6553600 ≤ p.d ∧ p.d ≤ 6553600) else hasB gs p.a && hasB gs p.b && hasB gs p.c && decide (p.d = 0)
set_option maxHeartbeats 4000000 in
theorem pairOk_any {v : Value} {lo : Nat} {gs ps : List Q4} {p : Q4} {w : World} (h : Face w v lo gs ps) (hp : I64 p.a ∧ I64 p.b ∧ I64 p.c ∧ I64 p.d) : Calls Try.prog 64 #[q4V p, .func (.func 40) #[v] #[]] w fun e w' => e = .returned (.bool (pairB gs p)) ∧ Below w.heap.size w w' := by
  obtain ⟨a, b, c, d⟩ := p
  dsimp only at hp
  obtain ⟨ha, hb, hc, hd⟩ := hp
  obtain ⟨ra, hra⟩ : ∃ r, r = hasB gs a := ⟨_, rfl⟩
  obtain ⟨rb, hrb⟩ : ∃ r, r = hasB gs b := ⟨_, rfl⟩
  obtain ⟨rc, hrc⟩ : ∃ r, r = hasB gs c := ⟨_, rfl⟩
  obtain ⟨R, hR⟩ : ∃ R, R = pairB gs ⟨a, b, c, d⟩ := ⟨_, rfl⟩
  have HR : Hid (R = if c = -1 then ra && rb && decide (-6553600 ≤ d ∧ d ≤ 6553600) else ra && rb && rc && decide (d = 0)) := hideP (by rw [hR, hra, hrb, hrc]; rfl)
  rw [← hR]
  have CA : Hid (∀ W, Below w.heap.size w W → Calls Try.prog 40 #[v, .int .i64 a] W fun e w' => e = .returned (.bool ra) ∧ Below W.heap.size W w') := hideP (fun W hW => by rw [hra]; exact has_any (h.below hW) ha)
  have CB : Hid (∀ W, Below w.heap.size w W → Calls Try.prog 40 #[v, .int .i64 b] W fun e w' => e = .returned (.bool rb) ∧ Below W.heap.size W w') := hideP (fun W hW => by rw [hrb]; exact has_any (h.below hW) hb)
  have CC : Hid (∀ W, Below w.heap.size w W → Calls Try.prog 40 #[v, .int .i64 c] W fun e w' => e = .returned (.bool rc) ∧ Below W.heap.size W w') := hideP (fun W hW => by rw [hrc]; exact has_any (h.below hW) hc)
  clear h ha hb hc hd hra hrb hrc hR
  simp only [q4V]
  by_cases hc1 : c = -1
  · subst hc1
    go_enter Try.func64, Try.ntmps64
    go_wp2_with fail
    refine (CA.out _ (below1 _ _)).mono ?_
    rintro e w1 ⟨rfl, hb1⟩
    have hz1 : w.heap.size < w1.heap.size := by have := hb1.size; simp at this; omega
    have B1 : Hid (Below w.heap.size w w1) := hideP (below_more (below1 _ _) hb1 (by simp))
    obtain ⟨hc1, hf1⟩ := bcell hb1
    simp only [World.size_alloc] at hc1 hf1
    clear hb1
    cases ra
    · go_wp2
      go_ret
      exact ⟨retB (by rw [HR.out]; simp), B1.out⟩
    · go_wp2_with fail
      refine (CB.out _ B1.out).mono ?_
      rintro e w2 ⟨rfl, hb2⟩
      have hz2 : w.heap.size < w2.heap.size := by have := hb2.size; omega
      have B2 : Hid (Below w.heap.size w w2) := hideP (below_more B1.out hb2 B1.out.size)
      obtain ⟨hc2, hf2⟩ := bcell hb2
      clear hb2
      cases rb
      · go_wp2
        go_ret
        exact ⟨retB (by rw [HR.out]; simp), B2.out⟩
      · by_cases h1 : -6553600 ≤ d
        · go_wp2
          go_ret
          exact ⟨retB (by rw [HR.out]; simp [h1]), B2.out⟩
        · have h1' : decide (-6553600 ≤ d) = false := by simp; omega
          go_wp2
          go_ret
          exact ⟨retB (by rw [HR.out]; simp; omega), B2.out⟩
  · have hx1 : (c == -1) = false := by simp [hc1]
    have hx2 : decide (c = -1) = false := by simp [hc1]
    go_enter Try.func64, Try.ntmps64
    go_wp2_with fail
    refine (CA.out _ (below1 _ _)).mono ?_
    rintro e w1 ⟨rfl, hb1⟩
    have hz1 : w.heap.size < w1.heap.size := by have := hb1.size; simp at this; omega
    have B1 : Hid (Below w.heap.size w w1) := hideP (below_more (below1 _ _) hb1 (by simp))
    obtain ⟨hc1', hf1⟩ := bcell hb1
    simp only [World.size_alloc] at hc1' hf1
    clear hb1
    cases ra
    · go_wp2
      go_ret
      exact ⟨retB (by rw [HR.out]; simp [hc1]), B1.out⟩
    · go_wp2_with fail
      refine (CB.out _ B1.out).mono ?_
      rintro e w2 ⟨rfl, hb2⟩
      have hz2 : w.heap.size < w2.heap.size := by have := hb2.size; omega
      have B2 : Hid (Below w.heap.size w w2) := hideP (below_more B1.out hb2 B1.out.size)
      obtain ⟨hc2, hf2⟩ := bcell hb2
      clear hb2
      cases rb
      · go_wp2
        go_ret
        exact ⟨retB (by rw [HR.out]; simp [hc1]), B2.out⟩
      · go_wp2_with fail
        refine (CC.out _ B2.out).mono ?_
        rintro e w3 ⟨rfl, hb3⟩
        have hz3 : w.heap.size < w3.heap.size := by have := hb3.size; omega
        have B3 : Hid (Below w.heap.size w w3) := hideP (below_more B2.out hb3 B2.out.size)
        obtain ⟨hc3, hf3⟩ := bcell hb3
        clear hb3
        cases rc
        · go_wp2
          go_ret
          exact ⟨retB (by rw [HR.out]; simp [hc1]), B3.out⟩
        · go_wp2
          go_ret
          exact ⟨retB (by rw [HR.out]; simp [hc1, beqI]), B3.out⟩

abbrev AllP (gs ps : List Q4) : Prop := ∀ j, j < ps.length → pairB gs (ps.getD j Q4.none) = true
def psB (gs ps : List Q4) : Bool := decide (AllP gs ps ∧ AscP ps)
theorem ps_el {gs ps : List Q4} {j : Nat} (hj : j < ps.length) (h : pairB gs (ps.getD j Q4.none) = false) : psB gs ps = false := decide_eq_false fun hp => by rw [hp.1 j hj] at h; cases h
theorem ps_asc {gs ps : List Q4} (h : AllP gs ps) : psB gs ps = ascPB ps := decide_eq_decide.2 ⟨fun hp => hp.2, fun hp => ⟨h, hp⟩⟩

set_option maxHeartbeats 4000000 in
theorem pairsOk_any {v vp : Value} {lo : Nat} {gs ps qs : List Q4} {w : World} (hf : Face w v lo gs qs) (h : QRow 0 w vp ps) (hl : ps.length ≤ 1048576) : Calls Try.prog 53 #[vp, .func (.func 40) #[v] #[]] w fun e w' => e = .returned (.bool (psB gs ps)) ∧ Below w.heap.size w w' := by
  have HFC := hideP hf
  have HR := hideP h
  obtain ⟨ao, cap, rfl⟩ := h.shape
  obtain ⟨n, hn⟩ : ∃ n, n = ps.length := ⟨_, rfl⟩
  rw [← hn] at HR
  rw [← hn]
  have HN := hideP hn
  have hnl : n ≤ 1048576 := by omega
  clear h hn hl hf
  go_enter Try.func53, Try.ntmps53
  go_wp2
  go_loopw [9] (fun i wr => ∃ k : Nat, k ≤ n ∧ i = .int .i64 k ∧ Hid (∀ j, j < k → pairB gs (ps.getD j Q4.none) = true) ∧ Hid (Below w.heap.size w wr)) (fun i _ => n - (intOf i).toNat)
  case atStart => exact ⟨0, by omega, rfl, hideP (fun j hj => by omega), hideP (Below.refl _ _)⟩
  case round =>
    obtain ⟨k, hk, rfl, HJ, HB⟩ := hrel
    by_cases hlt : k < n
    · have hki : (k : Int) < (n : Int) := by omega
      obtain ⟨b, off, rfl, hb, _, g0, g1, g2, g3⟩ := HR.out.cells HB.out hlt
      have hrg := HR.out.rng (k := k) (by rw [← HN.out]; exact hlt)
      obtain ⟨x, hx⟩ : ∃ x, x = ps.getD k Q4.none := ⟨_, rfl⟩
      rw [← hx] at g0 g1 g2 g3 hrg
      obtain ⟨r, hr⟩ : ∃ r, r = pairB gs x := ⟨_, rfl⟩
      have C1 : Hid (∀ W, Below wr.heap.size wr W → Calls Try.prog 64 #[q4V x, .func (.func 40) #[v] #[]] W fun e w' => e = .returned (.bool r) ∧ Below W.heap.size W w') := hideP (fun W hW => by rw [hr]; exact pairOk_any ((HFC.out.below HB.out).below hW) hrg)
      have HX : Hid (pairB gs (ps.getD k Q4.none) = r) := hideP (by rw [← hx, hr])
      have HKL : Hid (k < ps.length) := hideP (by rw [← HN.out]; exact hlt)
      clear hx hr hrg
      obtain ⟨xa, xb, xc, xd⟩ := x
      dsimp only at g0 g1 g2 g3
      simp only [q4V] at C1
      cases r
      · go_wp2_with fail
        refine (C1.out _ (below1 _ _)).mono ?_
        rintro e w2 ⟨rfl, hb2⟩
        have B2 := hideP (below_more HB.out (below_more (below1 _ _) hb2 (by simp)) HB.out.size)
        clear hb2
        go_wp2
        go_ret
        exact ⟨retB (ps_el HKL.out HX.out).symm, B2.out⟩
      · go_wp2_with fail
        refine (C1.out _ (below1 _ _)).mono ?_
        rintro e w2 ⟨rfl, hb2⟩
        have B2 := hideP (below_more HB.out (below_more (below1 _ _) hb2 (by simp)) HB.out.size)
        clear hb2
        go_wp2
        go_roundw
        case rel =>
          refine ⟨k + 1, by omega, by go_num, hideP (fun j hj => ?_), B2⟩
          by_cases hjk : j = k
          · subst hjk; exact HX.out
          · exact HJ.out j (by omega)
        case measure => simp [intOf]; omega
    · have hki : ¬ (k : Int) < (n : Int) := by omega
      have HE : Hid (psB gs ps = ascPB ps) := hideP (ps_asc (fun j hj => HJ.out j (by have := HN.out; omega)))
      have hnl2 : Hid (ps.length ≤ 1048576) := hideP (by rw [← HN.out]; omega)
      go_wp2_with fail
      refine (ascP_any (SRow.below qStable HR.out HB.out) hnl2.out).mono ?_
      rintro e w2 ⟨rfl, hb2⟩
      have B2 := hideP (below_more HB.out hb2 HB.out.size)
      clear hb2
      go_wp2
      go_ret
      exact ⟨retB HE.out.symm, B2.out⟩
end Go.Proofs.Ytggcfgbpameppaa
