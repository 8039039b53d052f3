/-
  The specification's BookOk.
-/
import Derived.Test.YtejigikcpmhhoaaBki
import Derived.Deep.RegionHeld3
namespace Go.Proofs.Ytejigikcpmhhoaa
open Go.RowKit
set_option linter.unusedVariables false
set_option linter.unusedSimpArgs false

theorem book_ord {ps ws : List Pt} {j : Nat} (hj : j + 1 < ws.length) (h : ltS (ws.getD j Pt.none).s (ws.getD (j + 1) Pt.none).s = false) : bookB ps ws = false := decide_eq_false fun hp => by
  rw [hp.2.2.2.2 j (by omega)] at h; cases h

set_option maxRecDepth 20000 in
set_option maxHeartbeats 8000000 in
theorem specBook_any {vp vw : Value} {ps ws : List Pt} {w : World} (h1 : PRow 0 w vp ps) (h2 : PRow 0 w vw ws) (hs1 : SmR ps) (hs2 : SmR ws) :
    Calls Try.prog 24 #[.agg #[vp, vw]] w fun e w' => e = .returned (.bool (bookB ps ws)) ∧ Below w.heap.size w w' := by
  have H1 := hideP h1
  have H2 := hideP h2
  obtain ⟨a1, c1, rfl⟩ := h1.shape
  obtain ⟨a2, c2, rfl⟩ := h2.shape
  obtain ⟨n1, hn1⟩ : ∃ n, n = ps.length := ⟨_, rfl⟩
  obtain ⟨n2, hn2⟩ : ∃ n, n = ws.length := ⟨_, rfl⟩
  have S1 := hideP hs1
  have S2 := hideP hs2
  rw [← hn1] at H1
  rw [← hn2] at H2
  rw [← hn1, ← hn2]
  have HN1 := hideP hn1
  have HN2 := hideP hn2
  have hb1 : n1 ≤ 1048576 := by rw [hn1]; exact hs1.1
  have hb2 : n2 ≤ 1048576 := by rw [hn2]; exact hs2.1
  clear h1 h2 hn1 hn2 hs1 hs2
  by_cases hp5 : n1 ≤ 5000
  rotate_left
  · have e1 : decide (5000 < (n1 : Int)) = true := by simp; omega
    have HE : Hid (bookB ps ws = false) := hideP (book_n1 (by rw [← HN1.out]; omega))
    clear hp5
    go_enter Try.func24, Try.ntmps24
    go_wp2
    go_ret
    exact ⟨retB HE.out.symm, below1 _ _⟩
  by_cases hw5 : n2 ≤ 5000
  rotate_left
  · have e1 : decide (5000 < (n1 : Int)) = false := by simp; omega
    have e2 : decide (5000 < (n2 : Int)) = true := by simp; omega
    have HE : Hid (bookB ps ws = false) := hideP (book_n2 (by rw [← HN2.out]; omega))
    clear hp5 hw5
    go_enter Try.func24, Try.ntmps24
    go_wp2
    go_ret
    exact ⟨retB HE.out.symm, below1 _ _⟩
  have e1 : decide (5000 < (n1 : Int)) = false := by simp; omega
  have e2 : decide (5000 < (n2 : Int)) = false := by simp; omega
  have W0 : Hid (BK5 (w.alloc (.cells #[.slice a1 n1 c1, .slice a2 n2 c2] 50)) w.heap.size (.slice a1 n1 c1) (.slice a2 n2 c2) ∧ Below w.heap.size w (w.alloc (.cells #[.slice a1 n1 c1, .slice a2 n2 c2] 50))) := hideP ⟨heap_last w _, below1 _ _⟩
  go_enter Try.func24, Try.ntmps24
  go_wp2
  go_loopw [3] (fun i wr => ∃ k : Nat, k ≤ n1 ∧ i = .int .i64 k ∧ Hid (∀ j, j < k → patB (ps.getD j Pt.none).s (ps.getD j Pt.none).z = true) ∧ Hid (BK5 wr w.heap.size (.slice a1 n1 c1) (.slice a2 n2 c2) ∧ Below w.heap.size w wr)) (fun i _ => n1 - (intOf i).toNat)
  case atStart => exact ⟨0, by omega, rfl, hideP (fun j hj => by omega), W0⟩
  case round =>
    obtain ⟨k, hk, rfl, HJ, HW⟩ := hrel
    clear W0
    obtain ⟨p0, p1, pz⟩ := HW.out.1.at
    by_cases hlt : k < n1
    · have hki : (k : Int) < (n1 : Int) := by omega
      obtain ⟨b, off, a, m, c, rfl, hb, hxn, g0, g1, hrow⟩ := elem_at H1.out HW.out.2 hlt
      have hsm := S1.out.2 k (by rw [hxn]; exact hlt)
      obtain ⟨t, ht⟩ : ∃ t, t = ps.getD k Pt.none := ⟨_, rfl⟩
      rw [← ht] at g0 hrow hsm
      have HT := hideP ht
      obtain ⟨x, z⟩ := t
      dsimp only at g0 hrow hsm
      obtain ⟨pb, hpb⟩ : ∃ b, b = patB x z := ⟨_, rfl⟩
      have CP : Hid (Calls Try.prog 16 #[patV x (.slice a m c)] wr fun e w' => e = .returned (.bool pb) ∧ Below wr.heap.size wr w') := hideP (by rw [hpb]; exact specPatternOk_any hrow hsm.2 (by have h3 : x.size ≤ 1048576 := hsm.1; omega))
      have HPB := hideP hpb
      have HKL : Hid (k < ps.length) := hideP (by rw [hxn]; exact hlt)
      clear ht hrow hsm hpb hxn
      cases pb
      · have HE : Hid (bookB ps ws = false) := hideP (book_pat HKL.out (by rw [← HT.out]; exact HPB.out.symm))
        go_wp2_with fail
        refine CP.out.mono ?_
        rintro e w2 ⟨rfl, hb2⟩
        have B2 := hideP (below_more HW.out.2 hb2 HW.out.2.size)
        clear hb2
        go_wp2
        go_ret
        exact ⟨retB HE.out.symm, B2.out⟩
      · go_wp2_with fail
        refine CP.out.mono ?_
        rintro e w2 ⟨rfl, hb2⟩
        have B2 : Hid (BK5 w2 w.heap.size (.slice (some ⟨b, off, none⟩) n1 c1) (.slice a2 n2 c2) ∧ Below w.heap.size w w2) := hideP ⟨HW.out.1.below hb2, below_more HW.out.2 hb2 HW.out.2.size⟩
        clear hb2
        go_wp2
        go_roundw
        case rel =>
          refine ⟨k + 1, by omega, by go_num, hideP (fun j hj => ?_), B2⟩
          by_cases hjk : j = k
          · subst hjk; rw [← HT.out]; exact HPB.out.symm
          · exact HJ.out j (by omega)
        case measure => simp [intOf]; omega
    · have hki : ¬ ((k : Int) < (n1 : Int)) := by omega
      have HPS : Hid (∀ j, j < ps.length → patB (ps.getD j Pt.none).s (ps.getD j Pt.none).z = true) := hideP (fun j hj => HJ.out j (by have := HN1.out; omega))
      clear HJ
      go_wp2
      go_loopw [4] (fun i wq => ∃ k : Nat, k ≤ n2 ∧ i = .int .i64 k ∧ Hid (∀ j, j < k → exB (ws.getD j Pt.none) = true) ∧ Hid (∀ j, j + 1 < k → ltS (ws.getD j Pt.none).s (ws.getD (j + 1) Pt.none).s = true) ∧ Hid (BK5 wq w.heap.size (.slice a1 n1 c1) (.slice a2 n2 c2) ∧ Below w.heap.size w wq)) (fun i _ => n2 - (intOf i).toNat)
      case atStart => exact ⟨0, by omega, rfl, hideP (fun j hj => by omega), hideP (fun j hj => by omega), HW⟩
      case round =>
        obtain ⟨q, hq, rfl, HJ, HO, HQ⟩ := hrel
        clear HW p0 p1 pz
        obtain ⟨p0, p1, pz⟩ := HQ.out.1.at
        by_cases hlq : q < n2
        · have hqi : (q : Int) < (n2 : Int) := by omega
          obtain ⟨b, off, a, m, c, rfl, hb, hxn, g0, g1, hrow⟩ := elem_at H2.out HQ.out.2 hlq
          have hsm := S2.out.2 q (by rw [hxn]; exact hlq)
          obtain ⟨t, ht⟩ : ∃ t, t = ws.getD q Pt.none := ⟨_, rfl⟩
          rw [← ht] at g0 hrow hsm
          have HT := hideP ht
          obtain ⟨x0, z⟩ := t
          dsimp only at g0 hrow hsm
          obtain ⟨pb, hpb⟩ : ∃ b, b = exB ⟨x0, z⟩ := ⟨_, rfl⟩
          have CP : Hid (Calls Try.prog 45 #[patV x0 (.slice a m c)] wr.drew fun e w' => e = .returned (.bool pb) ∧ Below wr.drew.heap.size wr.drew w') := hideP (by rw [hpb]; exact specEx_any (hrow.below (Below.drew (Below.refl _ _))) hsm.2 (by have h3 : x0.size ≤ 1048576 := hsm.1; omega))
          have HPB := hideP hpb
          have HKL : Hid (q < ws.length) := hideP (by rw [hxn]; exact hlq)
          have BD : Hid (BK5 wr.drew w.heap.size (.slice a1 n1 c1) (.slice (some ⟨b, off, none⟩) n2 c2) ∧ Below w.heap.size w wr.drew ∧ Below wr.heap.size wr wr.drew) := hideP ⟨HQ.out.1, HQ.out.2.drew, Below.drew (Below.refl _ _)⟩
          clear ht hrow hsm hpb hxn
          cases pb
          · have HE : Hid (bookB ps ws = false) := hideP (book_ex HKL.out (by rw [← HT.out]; exact HPB.out.symm))
            go_wp2_with fail
            have Q : Hid (∀ x : World, Below wr.heap.size wr x → x.cell? ⟨w.heap.size, 1, none⟩ = some (.slice (some ⟨b, off, none⟩) n2 c2) ∧ x.cell? ⟨b, off + q * 2, none⟩ = some (.string x0) ∧ x.cell? ⟨b, off + q * 2 + 1, none⟩ = some (.slice a m c)) := fun x hx => ⟨(Below.cell hx (p := ⟨w.heap.size, 1, none⟩) pz).trans p1, (Below.cell hx (p := ⟨b, off + q * 2, none⟩) hb).trans g0, (Below.cell hx (p := ⟨b, off + q * 2 + 1, none⟩) hb).trans g1⟩
            clear p0 p1 g0 g1
            refine wp_region_held_drew (S := fun x => x.cell? ⟨w.heap.size, 1, none⟩ = some (.slice (some ⟨b, off, none⟩) n2 c2) ∧ x.cell? ⟨b, off + q * 2, none⟩ = some (.string x0) ∧ x.cell? ⟨b, off + q * 2 + 1, none⟩ = some (.slice a m c)) (by kernel_rfl) (Q _ BD.out.2.2) (fun hS => ?_)
            refine wpAnyH_take (i := 0) (v := .pointer (some ⟨w.heap.size, 1, none⟩)) rfl (by kernel_rfl) (by kernel_rfl) (by kernel_rfl) (fun _ _ _ h => h) (Or.inl ⟨by first | rfl | go_simp, fun wx hx => by obtain ⟨e0, e1, e2⟩ := hx; go_simp⟩) hS ?_
            try simp only [Act.put, List.getElem_toArray, List.getElem_cons_zero, List.getElem_cons_succ, List.setIfInBounds_toArray, List.set_cons_zero, List.set_cons_succ]
            refine wpAnyH_take (i := 1) (v := .slice (some ⟨b, off, none⟩) n2 c2) rfl (by kernel_rfl) (by kernel_rfl) (by kernel_rfl) (fun _ _ _ h => h) (Or.inl ⟨by first | rfl | go_simp, fun wx hx => by obtain ⟨e0, e1, e2⟩ := hx; go_simp⟩) hS ?_
            try simp only [Act.put, List.getElem_toArray, List.getElem_cons_zero, List.getElem_cons_succ, List.setIfInBounds_toArray, List.set_cons_zero, List.set_cons_succ]
            refine wpAnyH_take (i := 2) (v := .int .i64 (q : Int)) rfl (by kernel_rfl) (by kernel_rfl) (by kernel_rfl) (fun _ _ _ h => h) (Or.inl ⟨by first | rfl | go_simp, fun wx hx => by obtain ⟨e0, e1, e2⟩ := hx; go_simp⟩) hS ?_
            try simp only [Act.put, List.getElem_toArray, List.getElem_cons_zero, List.getElem_cons_succ, List.setIfInBounds_toArray, List.set_cons_zero, List.set_cons_succ]
            refine wpAnyH_take (i := 3) (v := .pointer (some ⟨b, off + q * 2, none⟩)) rfl (by kernel_rfl) (by kernel_rfl) (by kernel_rfl) (fun _ _ _ h => h) (Or.inl ⟨by first | rfl | go_simp, fun wx hx => by obtain ⟨e0, e1, e2⟩ := hx; go_simp⟩) hS ?_
            try simp only [Act.put, List.getElem_toArray, List.getElem_cons_zero, List.getElem_cons_succ, List.setIfInBounds_toArray, List.set_cons_zero, List.set_cons_succ]
            refine wpAnyH_take (i := 4) (v := .agg #[.string x0, .slice a m c]) rfl (by kernel_rfl) (by kernel_rfl) (by kernel_rfl) (fun _ _ _ h => h) (Or.inl ⟨by first | rfl | go_simp, fun wx hx => by obtain ⟨e0, e1, e2⟩ := hx; go_simp⟩) hS ?_
            try simp only [Act.put, List.getElem_toArray, List.getElem_cons_zero, List.getElem_cons_succ, List.setIfInBounds_toArray, List.set_cons_zero, List.set_cons_succ]
            refine wpAnyH_ready (rs := [5]) (by kernel_rfl) (by simp) ?_
            refine AllReadyH.cons rfl (fun K hK => ?_) AllReadyH.nil
            rw [if_pos (by first | rfl | go_simp)]
            go_wp2_with (go_at_call 45; refine CP.out.mono ?_; rintro e w6 ⟨rfl, hb6⟩; have hb3 : Hid (Below wr.heap.size wr w6) := below_more BD.out.2.2 hb6 (Below.size BD.out.2.2); have B6 := hideP (And.intro (BD.out.1.below hb6) (below_more BD.out.2.1 hb6 BD.out.2.1.size)); clear hb6)
            refine hK.out _ _ (Q _ ‹Hid (Below wr.heap.size wr w6)›) (fun hS3 => ?_)
            try simp only [Act.put, List.getElem_toArray, List.getElem_cons_zero, List.getElem_cons_succ, List.setIfInBounds_toArray, List.set_cons_zero, List.set_cons_succ]
            refine wpAnyH_take (i := 6) (v := .bool true) rfl (by kernel_rfl) (by kernel_rfl) (by kernel_rfl) (fun _ _ _ h => h) (Or.inl ⟨by first | rfl | go_simp, fun wx hx => by obtain ⟨e0, e1, e2⟩ := hx; go_simp⟩) hS3 ?_
            try simp only [Act.put, List.getElem_toArray, List.getElem_cons_zero, List.getElem_cons_succ, List.setIfInBounds_toArray, List.set_cons_zero, List.set_cons_succ]
            refine wpAnyH_take (i := 7) (v := .bool true) rfl (by kernel_rfl) (by kernel_rfl) (by kernel_rfl) (fun _ _ _ h => h) (Or.inl ⟨by first | rfl | go_simp, fun wx hx => by obtain ⟨e0, e1, e2⟩ := hx; go_simp⟩) hS3 ?_
            try simp only [Act.put, List.getElem_toArray, List.getElem_cons_zero, List.getElem_cons_succ, List.setIfInBounds_toArray, List.set_cons_zero, List.set_cons_succ]
            refine wpAnyH_take (i := 8) (v := undef) rfl (by kernel_rfl) (by kernel_rfl) (by kernel_rfl) (fun _ _ _ h => h) (Or.inr ⟨by first | (go_simp; done) | (go_simp; intro h; cases h; done) | (go_simp; simp [undef]; done), rfl⟩) hS3 ?_
            try simp only [Act.put, List.getElem_toArray, List.getElem_cons_zero, List.getElem_cons_succ, List.setIfInBounds_toArray, List.set_cons_zero, List.set_cons_succ]
            refine wpAnyH_take (i := 9) (v := undef) rfl (by kernel_rfl) (by kernel_rfl) (by kernel_rfl) (fun _ _ _ h => h) (Or.inr ⟨by first | (go_simp; done) | (go_simp; intro h; cases h; done) | (go_simp; simp [undef]; done), rfl⟩) hS3 ?_
            try simp only [Act.put, List.getElem_toArray, List.getElem_cons_zero, List.getElem_cons_succ, List.setIfInBounds_toArray, List.set_cons_zero, List.set_cons_succ]
            refine wpAnyH_take (i := 10) (v := undef) rfl (by kernel_rfl) (by kernel_rfl) (by kernel_rfl) (fun _ _ _ h => h) (Or.inr ⟨by first | (go_simp; done) | (go_simp; intro h; cases h; done) | (go_simp; simp [undef]; done), rfl⟩) hS3 ?_
            try simp only [Act.put, List.getElem_toArray, List.getElem_cons_zero, List.getElem_cons_succ, List.setIfInBounds_toArray, List.set_cons_zero, List.set_cons_succ]
            refine wpAnyH_take (i := 11) (v := undef) rfl (by kernel_rfl) (by kernel_rfl) (by kernel_rfl) (fun _ _ _ h => h) (Or.inr ⟨by first | (go_simp; done) | (go_simp; intro h; cases h; done) | (go_simp; simp [undef]; done), rfl⟩) hS3 ?_
            try simp only [Act.put, List.getElem_toArray, List.getElem_cons_zero, List.getElem_cons_succ, List.setIfInBounds_toArray, List.set_cons_zero, List.set_cons_succ]
            refine wpAnyH_take (i := 12) (v := undef) rfl (by kernel_rfl) (by kernel_rfl) (by kernel_rfl) (fun _ _ _ h => h) (Or.inr ⟨by first | (go_simp; done) | (go_simp; intro h; cases h; done) | (go_simp; simp [undef]; done), rfl⟩) hS3 ?_
            try simp only [Act.put, List.getElem_toArray, List.getElem_cons_zero, List.getElem_cons_succ, List.setIfInBounds_toArray, List.set_cons_zero, List.set_cons_succ]
            refine wpAnyH_take (i := 13) (v := undef) rfl (by kernel_rfl) (by kernel_rfl) (by kernel_rfl) (fun _ _ _ h => h) (Or.inr ⟨by first | (go_simp; done) | (go_simp; intro h; cases h; done) | (go_simp; simp [undef]; done), rfl⟩) hS3 ?_
            try simp only [Act.put, List.getElem_toArray, List.getElem_cons_zero, List.getElem_cons_succ, List.setIfInBounds_toArray, List.set_cons_zero, List.set_cons_succ]
            refine wpAnyH_take (i := 14) (v := undef) rfl (by kernel_rfl) (by kernel_rfl) (by kernel_rfl) (fun _ _ _ h => h) (Or.inr ⟨by first | (go_simp; done) | (go_simp; intro h; cases h; done) | (go_simp; simp [undef]; done), rfl⟩) hS3 ?_
            try simp only [Act.put, List.getElem_toArray, List.getElem_cons_zero, List.getElem_cons_succ, List.setIfInBounds_toArray, List.set_cons_zero, List.set_cons_succ]
            refine wpAnyH_take (i := 15) (v := undef) rfl (by kernel_rfl) (by kernel_rfl) (by kernel_rfl) (fun _ _ _ h => h) (Or.inr ⟨by first | (go_simp; done) | (go_simp; intro h; cases h; done) | (go_simp; simp [undef]; done), rfl⟩) hS3 ?_
            try simp only [Act.put, List.getElem_toArray, List.getElem_cons_zero, List.getElem_cons_succ, List.setIfInBounds_toArray, List.set_cons_zero, List.set_cons_succ]
            refine wpAnyH_take (i := 16) (v := undef) rfl (by kernel_rfl) (by kernel_rfl) (by kernel_rfl) (fun _ _ _ h => h) (Or.inr ⟨by first | (go_simp; done) | (go_simp; intro h; cases h; done) | (go_simp; simp [undef]; done), rfl⟩) hS3 ?_
            try simp only [Act.put, List.getElem_toArray, List.getElem_cons_zero, List.getElem_cons_succ, List.setIfInBounds_toArray, List.set_cons_zero, List.set_cons_succ]
            refine wpAnyH_take (i := 17) (v := undef) rfl (by kernel_rfl) (by kernel_rfl) (by kernel_rfl) (fun _ _ _ h => h) (Or.inr ⟨by first | (go_simp; done) | (go_simp; intro h; cases h; done) | (go_simp; simp [undef]; done), rfl⟩) hS3 ?_
            try simp only [Act.put, List.getElem_toArray, List.getElem_cons_zero, List.getElem_cons_succ, List.setIfInBounds_toArray, List.set_cons_zero, List.set_cons_succ]
            refine wpAnyH_take (i := 18) (v := undef) rfl (by kernel_rfl) (by kernel_rfl) (by kernel_rfl) (fun _ _ _ h => h) (Or.inr ⟨by first | (go_simp; done) | (go_simp; intro h; cases h; done) | (go_simp; simp [undef]; done), rfl⟩) hS3 ?_
            try simp only [Act.put, List.getElem_toArray, List.getElem_cons_zero, List.getElem_cons_succ, List.setIfInBounds_toArray, List.set_cons_zero, List.set_cons_succ]
            refine wpAnyH_take (i := 19) (v := undef) rfl (by kernel_rfl) (by kernel_rfl) (by kernel_rfl) (fun _ _ _ h => h) (Or.inr ⟨by first | (go_simp; done) | (go_simp; intro h; cases h; done) | (go_simp; simp [undef]; done), rfl⟩) hS3 ?_
            try simp only [Act.put, List.getElem_toArray, List.getElem_cons_zero, List.getElem_cons_succ, List.setIfInBounds_toArray, List.set_cons_zero, List.set_cons_succ]
            refine wpAnyH_take (i := 20) (v := undef) rfl (by kernel_rfl) (by kernel_rfl) (by kernel_rfl) (fun _ _ _ h => h) (Or.inr ⟨by first | (go_simp; done) | (go_simp; intro h; cases h; done) | (go_simp; simp [undef]; done), rfl⟩) hS3 ?_
            try simp only [Act.put, List.getElem_toArray, List.getElem_cons_zero, List.getElem_cons_succ, List.setIfInBounds_toArray, List.set_cons_zero, List.set_cons_succ]
            refine wpAnyH_take (i := 21) (v := undef) rfl (by kernel_rfl) (by kernel_rfl) (by kernel_rfl) (fun _ _ _ h => h) (Or.inr ⟨by first | (go_simp; done) | (go_simp; intro h; cases h; done) | (go_simp; simp [undef]; done), rfl⟩) hS3 ?_
            try simp only [Act.put, List.getElem_toArray, List.getElem_cons_zero, List.getElem_cons_succ, List.setIfInBounds_toArray, List.set_cons_zero, List.set_cons_succ]
            refine wpAnyH_take (i := 22) (v := undef) rfl (by kernel_rfl) (by kernel_rfl) (by kernel_rfl) (fun _ _ _ h => h) (Or.inr ⟨by first | (go_simp; done) | (go_simp; intro h; cases h; done) | (go_simp; simp [undef]; done), rfl⟩) hS3 ?_
            try simp only [Act.put, List.getElem_toArray, List.getElem_cons_zero, List.getElem_cons_succ, List.setIfInBounds_toArray, List.set_cons_zero, List.set_cons_succ]
            refine wpAnyH_take (i := 23) (v := undef) rfl (by kernel_rfl) (by kernel_rfl) (by kernel_rfl) (fun _ _ _ h => h) (Or.inr ⟨by first | (go_simp; done) | (go_simp; intro h; cases h; done) | (go_simp; simp [undef]; done), rfl⟩) hS3 ?_
            try simp only [Act.put, List.getElem_toArray, List.getElem_cons_zero, List.getElem_cons_succ, List.setIfInBounds_toArray, List.set_cons_zero, List.set_cons_succ]
            refine wpAnyH_take (i := 24) (v := undef) rfl (by kernel_rfl) (by kernel_rfl) (by kernel_rfl) (fun _ _ _ h => h) (Or.inr ⟨by first | (go_simp; done) | (go_simp; intro h; cases h; done) | (go_simp; simp [undef]; done), rfl⟩) hS3 ?_
            try simp only [Act.put, List.getElem_toArray, List.getElem_cons_zero, List.getElem_cons_succ, List.setIfInBounds_toArray, List.set_cons_zero, List.set_cons_succ]
            refine wpAnyH_take (i := 25) (v := undef) rfl (by kernel_rfl) (by kernel_rfl) (by kernel_rfl) (fun _ _ _ h => h) (Or.inr ⟨by first | (go_simp; done) | (go_simp; intro h; cases h; done) | (go_simp; simp [undef]; done), rfl⟩) hS3 ?_
            try simp only [Act.put, List.getElem_toArray, List.getElem_cons_zero, List.getElem_cons_succ, List.setIfInBounds_toArray, List.set_cons_zero, List.set_cons_succ]
            refine wpAnyH_take (i := 26) (v := .bool true) rfl (by kernel_rfl) (by kernel_rfl) (by kernel_rfl) (fun _ _ _ h => h) (Or.inl ⟨by first | rfl | go_simp, fun wx hx => by obtain ⟨e0, e1, e2⟩ := hx; go_simp⟩) hS3 ?_
            try simp only [Act.put, List.getElem_toArray, List.getElem_cons_zero, List.getElem_cons_succ, List.setIfInBounds_toArray, List.set_cons_zero, List.set_cons_succ]
            refine wpAnyH_done (by kernel_rfl) ?_ _
            clear hS hS3 hK Q
            go_wp2
            go_ret
            exact ⟨retB HE.out.symm, B6.out.2⟩
          · have HEX : Hid (exB (ws.getD q Pt.none) = true) := hideP (by rw [← HT.out]; exact HPB.out.symm)
            by_cases hq0 : q = 0
            · have hqz : ¬ ((0 : Int) < (q : Int)) := by omega
              have hqz2 : ¬ (0 < q) := by omega
              have HQ0 := hideP hq0
              clear hq0
              go_wp2_with fail
              have Q : Hid (∀ x : World, Below wr.heap.size wr x → x.cell? ⟨w.heap.size, 1, none⟩ = some (.slice (some ⟨b, off, none⟩) n2 c2) ∧ x.cell? ⟨b, off + q * 2, none⟩ = some (.string x0) ∧ x.cell? ⟨b, off + q * 2 + 1, none⟩ = some (.slice a m c)) := fun x hx => ⟨(Below.cell hx (p := ⟨w.heap.size, 1, none⟩) pz).trans p1, (Below.cell hx (p := ⟨b, off + q * 2, none⟩) hb).trans g0, (Below.cell hx (p := ⟨b, off + q * 2 + 1, none⟩) hb).trans g1⟩
              clear p0 p1 g0 g1
              refine wp_region_held_drew (S := fun x => x.cell? ⟨w.heap.size, 1, none⟩ = some (.slice (some ⟨b, off, none⟩) n2 c2) ∧ x.cell? ⟨b, off + q * 2, none⟩ = some (.string x0) ∧ x.cell? ⟨b, off + q * 2 + 1, none⟩ = some (.slice a m c)) (by kernel_rfl) (Q _ BD.out.2.2) (fun hS => ?_)
              refine wpAnyH_take (i := 0) (v := .pointer (some ⟨w.heap.size, 1, none⟩)) rfl (by kernel_rfl) (by kernel_rfl) (by kernel_rfl) (fun _ _ _ h => h) (Or.inl ⟨by first | rfl | go_simp, fun wx hx => by obtain ⟨e0, e1, e2⟩ := hx; go_simp⟩) hS ?_
              try simp only [Act.put, List.getElem_toArray, List.getElem_cons_zero, List.getElem_cons_succ, List.setIfInBounds_toArray, List.set_cons_zero, List.set_cons_succ]
              refine wpAnyH_take (i := 1) (v := .slice (some ⟨b, off, none⟩) n2 c2) rfl (by kernel_rfl) (by kernel_rfl) (by kernel_rfl) (fun _ _ _ h => h) (Or.inl ⟨by first | rfl | go_simp, fun wx hx => by obtain ⟨e0, e1, e2⟩ := hx; go_simp⟩) hS ?_
              try simp only [Act.put, List.getElem_toArray, List.getElem_cons_zero, List.getElem_cons_succ, List.setIfInBounds_toArray, List.set_cons_zero, List.set_cons_succ]
              refine wpAnyH_take (i := 2) (v := .int .i64 (q : Int)) rfl (by kernel_rfl) (by kernel_rfl) (by kernel_rfl) (fun _ _ _ h => h) (Or.inl ⟨by first | rfl | go_simp, fun wx hx => by obtain ⟨e0, e1, e2⟩ := hx; go_simp⟩) hS ?_
              try simp only [Act.put, List.getElem_toArray, List.getElem_cons_zero, List.getElem_cons_succ, List.setIfInBounds_toArray, List.set_cons_zero, List.set_cons_succ]
              refine wpAnyH_take (i := 3) (v := .pointer (some ⟨b, off + q * 2, none⟩)) rfl (by kernel_rfl) (by kernel_rfl) (by kernel_rfl) (fun _ _ _ h => h) (Or.inl ⟨by first | rfl | go_simp, fun wx hx => by obtain ⟨e0, e1, e2⟩ := hx; go_simp⟩) hS ?_
              try simp only [Act.put, List.getElem_toArray, List.getElem_cons_zero, List.getElem_cons_succ, List.setIfInBounds_toArray, List.set_cons_zero, List.set_cons_succ]
              refine wpAnyH_take (i := 4) (v := .agg #[.string x0, .slice a m c]) rfl (by kernel_rfl) (by kernel_rfl) (by kernel_rfl) (fun _ _ _ h => h) (Or.inl ⟨by first | rfl | go_simp, fun wx hx => by obtain ⟨e0, e1, e2⟩ := hx; go_simp⟩) hS ?_
              try simp only [Act.put, List.getElem_toArray, List.getElem_cons_zero, List.getElem_cons_succ, List.setIfInBounds_toArray, List.set_cons_zero, List.set_cons_succ]
              refine wpAnyH_ready (rs := [5]) (by kernel_rfl) (by simp) ?_
              refine AllReadyH.cons rfl (fun K hK => ?_) AllReadyH.nil
              rw [if_pos (by first | rfl | go_simp)]
              go_wp2_with (go_at_call 45; refine CP.out.mono ?_; rintro e w6 ⟨rfl, hb6⟩; have hb3 : Hid (Below wr.heap.size wr w6) := below_more BD.out.2.2 hb6 (Below.size BD.out.2.2); have B6 := hideP (And.intro (BD.out.1.below hb6) (below_more BD.out.2.1 hb6 BD.out.2.1.size)); clear hb6)
              refine hK.out _ _ (Q _ ‹Hid (Below wr.heap.size wr w6)›) (fun hS3 => ?_)
              try simp only [Act.put, List.getElem_toArray, List.getElem_cons_zero, List.getElem_cons_succ, List.setIfInBounds_toArray, List.set_cons_zero, List.set_cons_succ]
              refine wpAnyH_take (i := 6) (v := .bool false) rfl (by kernel_rfl) (by kernel_rfl) (by kernel_rfl) (fun _ _ _ h => h) (Or.inl ⟨by first | rfl | go_simp, fun wx hx => by obtain ⟨e0, e1, e2⟩ := hx; go_simp⟩) hS3 ?_
              try simp only [Act.put, List.getElem_toArray, List.getElem_cons_zero, List.getElem_cons_succ, List.setIfInBounds_toArray, List.set_cons_zero, List.set_cons_succ]
              refine wpAnyH_take (i := 7) (v := .bool false) rfl (by kernel_rfl) (by kernel_rfl) (by kernel_rfl) (fun _ _ _ h => h) (Or.inl ⟨by first | rfl | go_simp, fun wx hx => by obtain ⟨e0, e1, e2⟩ := hx; go_simp⟩) hS3 ?_
              try simp only [Act.put, List.getElem_toArray, List.getElem_cons_zero, List.getElem_cons_succ, List.setIfInBounds_toArray, List.set_cons_zero, List.set_cons_succ]
              refine wpAnyH_take (i := 8) (v := .int .i64 (q : Int)) rfl (by kernel_rfl) (by kernel_rfl) (by kernel_rfl) (fun _ _ _ h => h) (Or.inl ⟨by first | rfl | go_simp, fun wx hx => by obtain ⟨e0, e1, e2⟩ := hx; go_simp⟩) hS3 ?_
              try simp only [Act.put, List.getElem_toArray, List.getElem_cons_zero, List.getElem_cons_succ, List.setIfInBounds_toArray, List.set_cons_zero, List.set_cons_succ]
              refine wpAnyH_take (i := 9) (v := .bool false) rfl (by kernel_rfl) (by kernel_rfl) (by kernel_rfl) (fun _ _ _ h => h) (Or.inl ⟨by first | rfl | go_simp, fun wx hx => by obtain ⟨e0, e1, e2⟩ := hx; go_simp⟩) hS3 ?_
              try simp only [Act.put, List.getElem_toArray, List.getElem_cons_zero, List.getElem_cons_succ, List.setIfInBounds_toArray, List.set_cons_zero, List.set_cons_succ]
              refine wpAnyH_take (i := 10) (v := .bool false) rfl (by kernel_rfl) (by kernel_rfl) (by kernel_rfl) (fun _ _ _ h => h) (Or.inl ⟨by first | rfl | go_simp, fun wx hx => by obtain ⟨e0, e1, e2⟩ := hx; go_simp⟩) hS3 ?_
              try simp only [Act.put, List.getElem_toArray, List.getElem_cons_zero, List.getElem_cons_succ, List.setIfInBounds_toArray, List.set_cons_zero, List.set_cons_succ]
              refine wpAnyH_take (i := 11) (v := undef) rfl (by kernel_rfl) (by kernel_rfl) (by kernel_rfl) (fun _ _ _ h => h) (Or.inr ⟨by first | (go_simp; done) | (go_simp; intro h; cases h; done) | (go_simp; simp [undef]; done), rfl⟩) hS3 ?_
              try simp only [Act.put, List.getElem_toArray, List.getElem_cons_zero, List.getElem_cons_succ, List.setIfInBounds_toArray, List.set_cons_zero, List.set_cons_succ]
              refine wpAnyH_take (i := 12) (v := undef) rfl (by kernel_rfl) (by kernel_rfl) (by kernel_rfl) (fun _ _ _ h => h) (Or.inr ⟨by first | (go_simp; done) | (go_simp; intro h; cases h; done) | (go_simp; simp [undef]; done), rfl⟩) hS3 ?_
              try simp only [Act.put, List.getElem_toArray, List.getElem_cons_zero, List.getElem_cons_succ, List.setIfInBounds_toArray, List.set_cons_zero, List.set_cons_succ]
              refine wpAnyH_take (i := 13) (v := undef) rfl (by kernel_rfl) (by kernel_rfl) (by kernel_rfl) (fun _ _ _ h => h) (Or.inr ⟨by first | (go_simp; done) | (go_simp; intro h; cases h; done) | (go_simp; simp [undef]; done), rfl⟩) hS3 ?_
              try simp only [Act.put, List.getElem_toArray, List.getElem_cons_zero, List.getElem_cons_succ, List.setIfInBounds_toArray, List.set_cons_zero, List.set_cons_succ]
              refine wpAnyH_take (i := 14) (v := undef) rfl (by kernel_rfl) (by kernel_rfl) (by kernel_rfl) (fun _ _ _ h => h) (Or.inr ⟨by first | (go_simp; done) | (go_simp; intro h; cases h; done) | (go_simp; simp [undef]; done), rfl⟩) hS3 ?_
              try simp only [Act.put, List.getElem_toArray, List.getElem_cons_zero, List.getElem_cons_succ, List.setIfInBounds_toArray, List.set_cons_zero, List.set_cons_succ]
              refine wpAnyH_take (i := 15) (v := undef) rfl (by kernel_rfl) (by kernel_rfl) (by kernel_rfl) (fun _ _ _ h => h) (Or.inr ⟨by first | (go_simp; done) | (go_simp; intro h; cases h; done) | (go_simp; simp [undef]; done), rfl⟩) hS3 ?_
              try simp only [Act.put, List.getElem_toArray, List.getElem_cons_zero, List.getElem_cons_succ, List.setIfInBounds_toArray, List.set_cons_zero, List.set_cons_succ]
              refine wpAnyH_take (i := 16) (v := undef) rfl (by kernel_rfl) (by kernel_rfl) (by kernel_rfl) (fun _ _ _ h => h) (Or.inr ⟨by first | (go_simp; done) | (go_simp; intro h; cases h; done) | (go_simp; simp [undef]; done), rfl⟩) hS3 ?_
              try simp only [Act.put, List.getElem_toArray, List.getElem_cons_zero, List.getElem_cons_succ, List.setIfInBounds_toArray, List.set_cons_zero, List.set_cons_succ]
              refine wpAnyH_take (i := 17) (v := undef) rfl (by kernel_rfl) (by kernel_rfl) (by kernel_rfl) (fun _ _ _ h => h) (Or.inr ⟨by first | (go_simp; done) | (go_simp; intro h; cases h; done) | (go_simp; simp [undef]; done), rfl⟩) hS3 ?_
              try simp only [Act.put, List.getElem_toArray, List.getElem_cons_zero, List.getElem_cons_succ, List.setIfInBounds_toArray, List.set_cons_zero, List.set_cons_succ]
              refine wpAnyH_take (i := 18) (v := undef) rfl (by kernel_rfl) (by kernel_rfl) (by kernel_rfl) (fun _ _ _ h => h) (Or.inr ⟨by first | (go_simp; done) | (go_simp; intro h; cases h; done) | (go_simp; simp [undef]; done), rfl⟩) hS3 ?_
              try simp only [Act.put, List.getElem_toArray, List.getElem_cons_zero, List.getElem_cons_succ, List.setIfInBounds_toArray, List.set_cons_zero, List.set_cons_succ]
              refine wpAnyH_take (i := 19) (v := undef) rfl (by kernel_rfl) (by kernel_rfl) (by kernel_rfl) (fun _ _ _ h => h) (Or.inr ⟨by first | (go_simp; done) | (go_simp; intro h; cases h; done) | (go_simp; simp [undef]; done), rfl⟩) hS3 ?_
              try simp only [Act.put, List.getElem_toArray, List.getElem_cons_zero, List.getElem_cons_succ, List.setIfInBounds_toArray, List.set_cons_zero, List.set_cons_succ]
              refine wpAnyH_take (i := 20) (v := undef) rfl (by kernel_rfl) (by kernel_rfl) (by kernel_rfl) (fun _ _ _ h => h) (Or.inr ⟨by first | (go_simp; done) | (go_simp; intro h; cases h; done) | (go_simp; simp [undef]; done), rfl⟩) hS3 ?_
              try simp only [Act.put, List.getElem_toArray, List.getElem_cons_zero, List.getElem_cons_succ, List.setIfInBounds_toArray, List.set_cons_zero, List.set_cons_succ]
              refine wpAnyH_take (i := 21) (v := undef) rfl (by kernel_rfl) (by kernel_rfl) (by kernel_rfl) (fun _ _ _ h => h) (Or.inr ⟨by first | (go_simp; done) | (go_simp; intro h; cases h; done) | (go_simp; simp [undef]; done), rfl⟩) hS3 ?_
              try simp only [Act.put, List.getElem_toArray, List.getElem_cons_zero, List.getElem_cons_succ, List.setIfInBounds_toArray, List.set_cons_zero, List.set_cons_succ]
              refine wpAnyH_take (i := 22) (v := undef) rfl (by kernel_rfl) (by kernel_rfl) (by kernel_rfl) (fun _ _ _ h => h) (Or.inr ⟨by first | (go_simp; done) | (go_simp; intro h; cases h; done) | (go_simp; simp [undef]; done), rfl⟩) hS3 ?_
              try simp only [Act.put, List.getElem_toArray, List.getElem_cons_zero, List.getElem_cons_succ, List.setIfInBounds_toArray, List.set_cons_zero, List.set_cons_succ]
              refine wpAnyH_take (i := 23) (v := undef) rfl (by kernel_rfl) (by kernel_rfl) (by kernel_rfl) (fun _ _ _ h => h) (Or.inr ⟨by first | (go_simp; done) | (go_simp; intro h; cases h; done) | (go_simp; simp [undef]; done), rfl⟩) hS3 ?_
              try simp only [Act.put, List.getElem_toArray, List.getElem_cons_zero, List.getElem_cons_succ, List.setIfInBounds_toArray, List.set_cons_zero, List.set_cons_succ]
              refine wpAnyH_take (i := 24) (v := undef) rfl (by kernel_rfl) (by kernel_rfl) (by kernel_rfl) (fun _ _ _ h => h) (Or.inr ⟨by first | (go_simp; done) | (go_simp; intro h; cases h; done) | (go_simp; simp [undef]; done), rfl⟩) hS3 ?_
              try simp only [Act.put, List.getElem_toArray, List.getElem_cons_zero, List.getElem_cons_succ, List.setIfInBounds_toArray, List.set_cons_zero, List.set_cons_succ]
              refine wpAnyH_take (i := 25) (v := .bool false) rfl (by kernel_rfl) (by kernel_rfl) (by kernel_rfl) (fun _ _ _ h => h) (Or.inl ⟨by first | rfl | go_simp, fun wx hx => by obtain ⟨e0, e1, e2⟩ := hx; go_simp⟩) hS3 ?_
              try simp only [Act.put, List.getElem_toArray, List.getElem_cons_zero, List.getElem_cons_succ, List.setIfInBounds_toArray, List.set_cons_zero, List.set_cons_succ]
              refine wpAnyH_take (i := 26) (v := .bool false) rfl (by kernel_rfl) (by kernel_rfl) (by kernel_rfl) (fun _ _ _ h => h) (Or.inl ⟨by first | rfl | go_simp, fun wx hx => by obtain ⟨e0, e1, e2⟩ := hx; go_simp⟩) hS3 ?_
              try simp only [Act.put, List.getElem_toArray, List.getElem_cons_zero, List.getElem_cons_succ, List.setIfInBounds_toArray, List.set_cons_zero, List.set_cons_succ]
              refine wpAnyH_done (by kernel_rfl) ?_ _
              clear hS hS3 hK Q
              go_wp2
              go_roundw
              case rel =>
                refine ⟨q + 1, by omega, by go_num, hideP (fun j hj => ?_), hideP (fun j hj => by have := HQ0.out; omega), B6⟩
                obtain rfl : j = q := by have := HQ0.out; omega
                exact HEX.out
              case measure => simp [intOf]; omega
            · obtain ⟨r, rfl⟩ : ∃ r, q = r + 1 := ⟨q - 1, by omega⟩
              obtain ⟨b', off', a', m', c', e9, hb', hxn', f0, f1, -⟩ := elem_at H2.out HQ.out.2 (show r < n2 by omega)
              cases e9
              obtain ⟨y0, hy0⟩ : ∃ y0, y0 = (ws.getD r Pt.none).s := ⟨_, rfl⟩
              rw [← hy0] at f0
              have HY := hideP hy0
              clear hy0 f1 hxn' hq0
              have hw1 : IntKind.i64.wrap (((r + 1 : Nat) : Int) - 1) = (r : Int) := by rw [IntKind.wrap_i64]; omega
              have hw2 : IntKind.i64.wrap ((r : Int) + 1 - 1) = (r : Int) := by rw [IntKind.wrap_i64]; omega
              have hw3 : IntKind.i64.wrap (r : Int) = (r : Int) := by rw [IntKind.wrap_i64]; omega
              have hr0 : (r : Int) < (n2 : Int) := by omega
              have hr1 : ((r + 1 : Nat) : Int) < (n2 : Int) := by omega
              have hr2 : (r : Int) + 1 < (n2 : Int) := by omega
              have hr3 : (0 : Int) ≤ (r : Int) + 1 := by omega
              have HXS : Hid (x0 = (ws.getD (r + 1) Pt.none).s) := hideP (by rw [← HT.out])
              have Q : Hid (∀ x : World, Below wr.heap.size wr x → x.cell? ⟨w.heap.size, 1, none⟩ = some (.slice (some ⟨b, off, none⟩) n2 c2) ∧ x.cell? ⟨b, off + (r + 1) * 2, none⟩ = some (.string x0) ∧ x.cell? ⟨b, off + (r + 1) * 2 + 1, none⟩ = some (.slice a m c) ∧ x.cell? ⟨b, off + r * 2, none⟩ = some (.string y0)) := fun x hx => ⟨(Below.cell hx (p := ⟨w.heap.size, 1, none⟩) pz).trans p1, (Below.cell hx (p := ⟨b, off + (r + 1) * 2, none⟩) hb).trans g0, (Below.cell hx (p := ⟨b, off + (r + 1) * 2 + 1, none⟩) hb).trans g1, (Below.cell hx (p := ⟨b, off + r * 2, none⟩) hb).trans f0⟩
              cases hlb : Op.bytesLess y0.toList x0.toList
              · have HE : Hid (bookB ps ws = false) := hideP (book_ord (j := r) HKL.out (by rw [← HY.out, ← HXS.out]; exact hlb))
                go_wp2_with fail
                go_region_held3 (fun x => x.cell? ⟨w.heap.size, 1, none⟩ = some (.slice (some ⟨b, off, none⟩) n2 c2) ∧ x.cell? ⟨b, off + (r + 1) * 2, none⟩ = some (.string x0) ∧ x.cell? ⟨b, off + (r + 1) * 2 + 1, none⟩ = some (.slice a m c) ∧ x.cell? ⟨b, off + r * 2, none⟩ = some (.string y0)) (first | exact Q _ BD.out.2.2 | exact Q _ ‹Hid (Below wr.heap.size wr _)›) ((go_at_call 45; refine CP.out.mono ?_; rintro e w6 ⟨rfl, hb6⟩; have hb3 : Hid (Below wr.heap.size wr w6) := below_more BD.out.2.2 hb6 (Below.size BD.out.2.2); have B6 := hideP (And.intro (BD.out.1.below hb6) (below_more BD.out.2.1 hb6 BD.out.2.1.size)); clear hb6))
                all_goals
                  go_wp2
                  go_ret
                  exact ⟨retB HE.out.symm, B6.out.2⟩
              · have HLT : Hid (ltS (ws.getD r Pt.none).s (ws.getD (r + 1) Pt.none).s = true) := hideP (by rw [← HY.out, ← HXS.out]; exact hlb)
                go_wp2_with fail
                go_region_held3 (fun x => x.cell? ⟨w.heap.size, 1, none⟩ = some (.slice (some ⟨b, off, none⟩) n2 c2) ∧ x.cell? ⟨b, off + (r + 1) * 2, none⟩ = some (.string x0) ∧ x.cell? ⟨b, off + (r + 1) * 2 + 1, none⟩ = some (.slice a m c) ∧ x.cell? ⟨b, off + r * 2, none⟩ = some (.string y0)) (first | exact Q _ BD.out.2.2 | exact Q _ ‹Hid (Below wr.heap.size wr _)›) ((go_at_call 45; refine CP.out.mono ?_; rintro e w6 ⟨rfl, hb6⟩; have hb3 : Hid (Below wr.heap.size wr w6) := below_more BD.out.2.2 hb6 (Below.size BD.out.2.2); have B6 := hideP (And.intro (BD.out.1.below hb6) (below_more BD.out.2.1 hb6 BD.out.2.1.size)); clear hb6))
                all_goals
                  go_wp2
                  go_roundw
                  case rel =>
                    refine ⟨r + 1 + 1, by omega, by go_num, hideP (fun j hj => ?_), hideP (fun j hj => ?_), B6⟩
                    · by_cases hjk : j = r + 1
                      · subst hjk; exact HEX.out
                      · exact HJ.out j (by omega)
                    · by_cases hjk : j = r
                      · subst hjk; exact HLT.out
                      · exact HO.out j (by omega)
                  case measure => simp [intOf]; omega
        · have hqi : ¬ ((q : Int) < (n2 : Int)) := by omega
          have HE : Hid (bookB ps ws = true) := hideP (by
            rw [book_asc (by have := HN1.out; omega) (by have := HN2.out; omega) HPS.out (fun j hj => HJ.out j (by have := HN2.out; omega))]
            exact decide_eq_true (fun j hj => HO.out j (by have := HN2.out; omega)))
          go_wp2
          go_ret
          exact ⟨retB HE.out.symm, HQ.out.2⟩
end Go.Proofs.Ytejigikcpmhhoaa
