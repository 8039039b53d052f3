import Derived.Test.YtlohbaoigfaneaaGreatTrn
import Derived.Test.YtlohbaoigfaneaaGreatAdl
import Derived.Test.YtlohbaoigfaneaaGreatLms
import Derived.Test.YtlohbaoigfaneaaGreatPay
import Derived.Test.YtlohbaoigfaneaaGreatBdt
import Derived.Test.YtlohbaoigfaneaaGreatSln
import Derived.Test.YtlohbaoigfaneaaGreatLnn
namespace Go.Proofs.YtlohbaoigfaneaaGreat
open Go.RowKit
set_option linter.unusedVariables false
set_option linter.unusedSimpArgs false
theorem SmT.setL {c3 c4 c5 : Value} {W : World} {A P M : Nat} {x : Int} {p m : List Int} (h : SmT c3 c4 c5 W A P M x p m) (v : Value) : SmT v c4 c5 (W.setCell ⟨A, 3, none⟩ v) A P M x p m :=
 ⟨heap_setCell_same _ _ 3 _ 104 _ h.hA, (blk_set W A 3 _ h.hP.lt (Ne.symm h.ne.1)).trans h.hP, (blk_set W A 3 _ h.hM.lt (Ne.symm h.ne.2.1)).trans h.hM, h.ne, h.pl, h.ml⟩
theorem SmT.cells3 {c3 c4 c5 : Value} {W : World} {A P M : Nat} {x : Int} {p m : List Int} (h : SmT c3 c4 c5 W A P M x p m) : W.cell? ⟨A, 3, none⟩ = some c3 ∧ W.cell? ⟨A, 4, none⟩ = some c4 ∧ W.cell? ⟨A, 5, none⟩ = some c5 :=
 ⟨by rw [cell_of_row _ _ _ _ _ _ h.hA]; rfl, by rw [cell_of_row _ _ _ _ _ _ h.hA]; rfl, by rw [cell_of_row _ _ _ _ _ _ h.hA]; rfl⟩
def pAdd (x : Nd) (s : List Int × Int) : List Int × Int :=
 if x.k = 5 ∨ x.k = 6 ∨ x.k = 7 then (s.1.set 0 (wrap64 (wrap64 (s.1.getD 0 0 + s.2) + x.ht)), x.dp)
 else if x.k = 2 then (s.1.set 0 (wrap64 (wrap64 (s.1.getD 0 0 + s.2) + x.wd)), 0)
 else if x.k = 3 then (glA 0 x.gpo.toNat x.gmo.toNat x.gs x.gp x.gm (s.1.set 0 (wrap64 (s.1.getD 0 0 + s.2))), 0)
 else (s.1.set 0 (wrap64 (s.1.getD 0 0 + s.2)), 0)
theorem set0_get {zs : List Int} (h : zs.length = 9) (y : Int) : (zs.set 0 y).getD 0 0 = y ∧ Shr.pl4 (zs.set 0 y) = Shr.pl4 zs ∧ Shr.mi4 (zs.set 0 y) = Shr.mi4 zs := by
 obtain ⟨a, b, c, d, e, f, g, i, j, rfl⟩ := nine_of zs h
 exact ⟨rfl, rfl, rfl⟩
theorem pAdd_len (x : Nd) (s : List Int × Int) : (pAdd x s).1.length = s.1.length := by
 unfold pAdd
 split
 ·simp
 ·split
  ·simp
  ·split
   ·rw [glA_len]; simp
   ·simp
set_option maxRecDepth 20000 in
set_option maxHeartbeats 8000000 in
theorem l10Add_any {W : World} {A P M : Nat} {zs : List Int} {la : Int} {c4 c5 : Value} (x : Nd) (h : SmT (.int .i64 la) c4 c5 W A P M (zs.getD 0 0) (Shr.pl4 zs) (Shr.mi4 zs)) (hz : zs.length = 9) (hx : Ord x) :
 Calls Tryz.prog 86 #[.pointer (some ⟨A, 0, none⟩), .agg x.cells.toArray] W fun e w' => (∃ v, e = .returned v) ∧ SmT (.int .i64 (pAdd x (zs, la)).2) c4 c5 w' A P M ((pAdd x (zs, la)).1.getD 0 0) (Shr.pl4 (pAdd x (zs, la)).1) (Shr.mi4 (pAdd x (zs, la)).1) ∧ Fr3 A P M W w' := by
 have n1 := h.ne.1
 have n2 := h.ne.2.1
 have n3 := h.ne.2.2
 have hAl := h.alt
 have hPl := h.hP.lt
 have hMl := h.hM.lt
 obtain ⟨z0, hz0⟩ : ∃ z, z = zs.getD 0 0 := ⟨_, rfl⟩
 obtain ⟨pl, hpl⟩ : ∃ z, z = Shr.pl4 zs := ⟨_, rfl⟩
 obtain ⟨ml, hml⟩ : ∃ z, z = Shr.mi4 zs := ⟨_, rfl⟩
 rw [← hz0, ← hpl, ← hml] at h
 obtain ⟨y, hy⟩ : ∃ y, y = pAdd x (zs, la) := ⟨_, rfl⟩
 rw [← hy]
 obtain ⟨z1, hz1⟩ : ∃ z, z = wrap64 (z0 + la) := ⟨_, rfl⟩
 have HY : Hid (y = if x.k = 5 ∨ x.k = 6 ∨ x.k = 7 then (zs.set 0 (wrap64 (z1 + x.ht)), x.dp) else if x.k = 2 then (zs.set 0 (wrap64 (z1 + x.wd)), 0) else if x.k = 3 then (glA 0 x.gpo.toNat x.gmo.toNat x.gs x.gp x.gm (zs.set 0 z1), 0) else (zs.set 0 z1, 0)) := hideP (by rw [hy, hz1, hz0]; rfl)
 have S0 : Hid (∀ v : Int, (zs.set 0 v).getD 0 0 = v ∧ Shr.pl4 (zs.set 0 v) = pl ∧ Shr.mi4 (zs.set 0 v) = ml) := hideP (fun v => by rw [hpl, hml]; exact set0_get hz v)
 have HZ1 : Hid (wrap64 (z0 + la) = z1) := hideP hz1.symm
 have HZ := hideP hz
 have HI := hideP h
 have HXO := hideP hx
 clear h hz hz0 hpl hml hy hz1 hx
 obtain ⟨k, wd, ht, dp, sh, fo, ch, nn, gs, gp, gpo, gm, gmo, tx, kids⟩ := x
 simp only at HY
 obtain ⟨pn, mn, hpn, hmn, hp4, hm4⟩ : ∃ pn mn : Nat, gpo = (pn : Int) ∧ gmo = (mn : Int) ∧ pn < 4 ∧ mn < 4 := by
  have h9 := HXO.out
  unfold Ord at h9
  simp only at h9
  exact ⟨gpo.toNat, gmo.toNat, by omega, by omega, by omega, by omega⟩
 subst hpn hmn
 clear HXO
 simp only [Nd.cells]
 go_enter Tryz.func86, Tryz.ntmps86
 go_upto_region 1 with fail
 obtain ⟨G, hG⟩ : ∃ G, G = W.heap.size := ⟨_, rfl⟩
 have gA : G ≠ A := by omega
 have gP : G ≠ P := by omega
 have gM : G ≠ M := by omega
 obtain ⟨W1, hW1⟩ : ∃ X, X = W.alloc (.cells #[.int .i64 k, .int .i64 wd, .int .i64 ht, .int .i64 dp, .int .i64 sh, .int .i64 fo, .int .i64 ch, .int .i64 nn, .int .i64 gs, .int .i64 gp, .int .i64 (pn : Int), .int .i64 gm, .int .i64 (mn : Int), .string tx, .int .i64 kids] 61) := ⟨_, rfl⟩
 have F1 : Hid (SmT (.int .i64 la) c4 c5 W1 A P M z0 pl ml ∧ Fr3 A P M W W1) := hideP (by rw [hW1]; exact ⟨HI.out.alloc _, (Fr3.refl _ _ _ _).alloc _⟩)
 have G1 : Hid (W1.heap[G]? = some (.cells #[.int .i64 k, .int .i64 wd, .int .i64 ht, .int .i64 dp, .int .i64 sh, .int .i64 fo, .int .i64 ch, .int .i64 nn, .int .i64 gs, .int .i64 gp, .int .i64 (pn : Int), .int .i64 gm, .int .i64 (mn : Int), .string tx, .int .i64 kids] 61 (0, 0))) := hideP (by rw [hW1, hG]; exact heap_alloc_new W _)
 have hGl1 : G < W1.heap.size := (Array.getElem?_eq_some_iff.1 G1.out).1
 rw [← hW1, ← hG]
 have HG := hideP hG
 clear hW1 hG HI
 have GC : Hid (∀ X : World, Fr3 A P M W1 X → X.heap[G]? = some (.cells #[.int .i64 k, .int .i64 wd, .int .i64 ht, .int .i64 dp, .int .i64 sh, .int .i64 fo, .int .i64 ch, .int .i64 nn, .int .i64 gs, .int .i64 gp, .int .i64 (pn : Int), .int .i64 gm, .int .i64 (mn : Int), .string tx, .int .i64 kids] 61 (0, 0))) := hideP (fun X hX => (hX.2.2.2.2 G hGl1 gA gP gM).trans G1.out)
 obtain ⟨a0, a1, a2⟩ := F1.out.1.cells
 obtain ⟨a3, -, -⟩ := F1.out.1.cells3
 have fA : ∀ j, W1.frozen? ⟨A, j, none⟩ = false := fun j => frozen_of_row _ _ j _ 104 F1.out.1.hA
 go_cut [] (fun wc => Hid (SmT (.int .i64 la) c4 c5 wc A P M z1 pl ml ∧ Fr3 A P M W1 wc))
 case first =>
  go_region
  go_wp2_with fail
  go_meet
  case rel =>
   obtain ⟨f1, f2⟩ := F1.out
   refine hideP ⟨?_, ?_⟩
   ·rw [← HZ1.out]
    repeat (first | with_reducible exact f1.setA _ | with_reducible exact f1 | with_reducible refine SmT.drew ?_)
   ·repeat (first | with_reducible exact Fr3.refl _ _ _ _ | with_reducible refine Fr3.set ?_ _ _ (.inl rfl) | with_reducible refine Fr3.drew ?_)
 case rest =>
  clear a0 a1 a2 a3 fA
  have F2 := hcut
  clear hcut
  obtain ⟨W2, rfl⟩ : ∃ X, X = wc := ⟨_, rfl⟩
  obtain ⟨a0, a1, a2⟩ := F2.out.1.cells
  obtain ⟨a3, -, -⟩ := F2.out.1.cells3
  have fA : ∀ j, W2.frozen? ⟨A, j, none⟩ = false := fun j => frozen_of_row _ _ j _ 104 F2.out.1.hA
  go_upto_region 3 with fail
  obtain ⟨W3, hW3⟩ : ∃ X, X = W2.setCell ⟨A, 3, none⟩ (.int .i64 0) := ⟨_, rfl⟩
  have F3a : Hid (SmT (.int .i64 0) c4 c5 W3 A P M z1 pl ml ∧ Fr3 A P M W1 W3) := hideP (by rw [hW3]; exact ⟨F2.out.1.setL _, F2.out.2.set _ _ (.inl rfl)⟩)
  have F3 : Hid (SmT (.int .i64 0) c4 c5 W3 A P M z1 pl ml ∧ Fr3 A P M W W3) := hideP ⟨F3a.out.1, F1.out.2.trans F3a.out.2⟩
  have g3 := GC.out W3 F3a.out.2
  rw [← hW3]
  clear hW3 a0 a1 a2 a3 fA F2 F3a F1 GC G1 hGl1
  have hGl : G < W3.heap.size := (Array.getElem?_eq_some_iff.1 g3).1
  obtain ⟨a0, a1, a2⟩ := F3.out.1.cells
  obtain ⟨a3, -, -⟩ := F3.out.1.cells3
  have fA : ∀ j, W3.frozen? ⟨A, j, none⟩ = false := fun j => frozen_of_row _ _ j _ 104 F3.out.1.hA
  have b0 : W3.cell? ⟨G, 0, none⟩ = some (.int .i64 k) := by rw [cell_of_row _ _ _ _ _ _ g3]; rfl
  have b1 : W3.cell? ⟨G, 1, none⟩ = some (.int .i64 wd) := by rw [cell_of_row _ _ _ _ _ _ g3]; rfl
  have b2 : W3.cell? ⟨G, 2, none⟩ = some (.int .i64 ht) := by rw [cell_of_row _ _ _ _ _ _ g3]; rfl
  have b3 : W3.cell? ⟨G, 3, none⟩ = some (.int .i64 dp) := by rw [cell_of_row _ _ _ _ _ _ g3]; rfl
  have hg8 : ∀ j, j < 5 → W3.cell? ⟨G, 8 + j, none⟩ = [Value.int .i64 gs, .int .i64 gp, .int .i64 (pn : Int), .int .i64 gm, .int .i64 (mn : Int)][j]? := fun j hj => by
   rw [cell_of_row _ _ _ _ _ _ g3]
   rcases (show j = 0 ∨ j = 1 ∨ j = 2 ∨ j = 3 ∨ j = 4 by omega) with rfl | rfl | rfl | rfl | rfl <;> rfl
  clear g3
  by_cases h5 : k = 5 ∨ k = 6 ∨ k = 7
  ·have HE : Hid (y = (zs.set 0 (wrap64 (z1 + ht)), dp)) := hideP (by rw [HY.out, if_pos h5])
   clear HY
   rcases h5 with rfl | rfl | rfl
   all_goals
    go_wp2
    go_region
    go_wp2
    go_end0
    obtain ⟨f1, f2⟩ := F3.out
    rw [HE.out]
    refine ⟨⟨_, rfl⟩, ?_, ?_⟩
    ·rw [(S0.out _).1, (S0.out _).2.1, (S0.out _).2.2]
     repeat (first | with_reducible exact (SmT.drew (f1.setA _)).setL _ | with_reducible exact (f1.setA _).setL _ | with_reducible refine SmT.drew ?_)
    ·repeat (first | with_reducible exact f2 | with_reducible refine Fr3.set ?_ _ _ (.inl rfl) | with_reducible refine Fr3.drew ?_)
  ·have k5 : ¬ k = 5 := fun e => h5 (.inl e)
   have k6 : ¬ k = 6 := fun e => h5 (.inr (.inl e))
   have k7 : ¬ k = 7 := fun e => h5 (.inr (.inr e))
   have k5b : (k == 5) = false := by simpa using k5
   have k6b : (k == 6) = false := by simpa using k6
   have k7b : (k == 7) = false := by simpa using k7
   by_cases h2 : k = 2
   ·have HE : Hid (y = (zs.set 0 (wrap64 (z1 + wd)), 0)) := hideP (by rw [HY.out, if_neg h5, if_pos h2])
    clear HY h5 k5 k6 k7 k5b k6b k7b
    subst h2
    go_wp2
    go_region
    go_wp2
    go_end0
    obtain ⟨f1, f2⟩ := F3.out
    rw [HE.out]
    refine ⟨⟨_, rfl⟩, ?_, ?_⟩
    ·rw [(S0.out _).1, (S0.out _).2.1, (S0.out _).2.2]
     repeat (first | with_reducible exact f1.setA _ | with_reducible refine SmT.drew ?_)
    ·repeat (first | with_reducible exact f2 | with_reducible refine Fr3.set ?_ _ _ (.inl rfl) | with_reducible refine Fr3.drew ?_)
   ·by_cases h3 : k = 3
    ·have HE : Hid (y.2 = 0 ∧ y.1.getD 0 0 = wrap64 (z1 + gs) ∧ Shr.pl4 y.1 = pl.set pn (wrap64 (pl.getD pn 0 + gp)) ∧ Shr.mi4 y.1 = ml.set mn (wrap64 (ml.getD mn 0 + gm))) := hideP (by
      rw [HY.out, if_neg h5, if_neg h2, if_pos h3]
      have h9 : (zs.set 0 z1).length = 9 := by rw [List.length_set]; exact HZ.out
      simp only [Int.toNat_natCast]
      refine ⟨trivial, ?_, ?_, ?_⟩
      ·rw [w_glA h9 hp4 hm4, (S0.out z1).1]
      ·rw [pl4_glA h9 hp4 hm4, (S0.out z1).2.1]
      ·rw [mi4_glA h9 hp4 hm4, (S0.out z1).2.2])
     clear HY h5 k5 k6 k7 k5b k6b k7b h2
     subst h3
     go_upto_region 12 with fail
     refine wp_region_held_drew (S := fun Y : World => ∀ j, j < 5 → Y.cell? ⟨G, 8 + j, none⟩ = [Value.int .i64 gs, .int .i64 gp, .int .i64 (pn : Int), .int .i64 gm, .int .i64 (mn : Int)][j]?) (by kernel_rfl) (fun j hj => hg8 j hj) (fun hS => ?_)
     refine tkS (i := 0) (v := .pointer (some ⟨A, 0, none⟩)) rfl hS ?_
     try simp only [Act.put, List.getElem_toArray, List.getElem_cons_zero, List.getElem_cons_succ, List.setIfInBounds_toArray, List.set_cons_zero, List.set_cons_succ]
     refine tkS (i := 1) (v := .pointer (some ⟨A, 0, none⟩)) rfl hS ?_
     try simp only [Act.put, List.getElem_toArray, List.getElem_cons_zero, List.getElem_cons_succ, List.setIfInBounds_toArray, List.set_cons_zero, List.set_cons_succ]
     refine tkS (i := 2) (v := .pointer (some ⟨A, 0, none⟩)) rfl hS ?_
     try simp only [Act.put, List.getElem_toArray, List.getElem_cons_zero, List.getElem_cons_succ, List.setIfInBounds_toArray, List.set_cons_zero, List.set_cons_succ]
     refine tkS (i := 3) (v := .pointer (some ⟨G, 8, none⟩)) rfl hS ?_
     try simp only [Act.put, List.getElem_toArray, List.getElem_cons_zero, List.getElem_cons_succ, List.setIfInBounds_toArray, List.set_cons_zero, List.set_cons_succ]
     refine tkS (i := 4) (v := .agg #[.int .i64 gs, .int .i64 gp, .int .i64 (pn : Int), .int .i64 gm, .int .i64 (mn : Int)]) rfl hS ?_ (hr := fun wx hx => by have e0 := hx 0 (by omega); have e1 := hx 1 (by omega); have e2 := hx 2 (by omega); have e3 := hx 3 (by omega); have e4 := hx 4 (by omega); simp only [List.getElem?_cons_zero, List.getElem?_cons_succ, Nat.add_zero, Nat.reduceAdd] at e0 e1 e2 e3 e4; go_simp)
     try simp only [Act.put, List.getElem_toArray, List.getElem_cons_zero, List.getElem_cons_succ, List.setIfInBounds_toArray, List.set_cons_zero, List.set_cons_succ]
     refine rdS (i := 5) rfl (fun K hK => ?_)
     go_simp
     go_at_call 61
     refine (show Calls Tryz.prog 61 #[.pointer (some ⟨A, 0, none⟩), .agg #[.int .i64 gs, .int .i64 gp, .int .i64 (pn : Int), .int .i64 gm, .int .i64 (mn : Int)]] _ _ from addGlueT_any pn mn gs gp gm (SmT.drew F3.out.1) hp4 hm4).mono ?_
     rintro e v1 ⟨⟨v9, rfl⟩, hs9, hf9⟩
     refine hK.out _ _ (fun j hj => ((World.cell?_of_block (a := ⟨G, 8 + j, none⟩) (hf9.2.2.2.2 G hGl gA gP gM)).trans (hg8 j hj))) (fun _ => ?_)
     try simp only [Act.put, List.getElem_toArray, List.getElem_cons_zero, List.getElem_cons_succ, List.setIfInBounds_toArray, List.set_cons_zero, List.set_cons_succ]
     clear hK K
     refine wpAnyH_done (by kernel_rfl) ?_ _
     go_wp2
     go_end0
     exact ⟨⟨_, rfl⟩, by rw [HE.out.1, HE.out.2.1, HE.out.2.2.1, HE.out.2.2.2]; exact hs9, F3.out.2.trans hf9⟩
    ·have HE : Hid (y = (zs.set 0 z1, 0)) := hideP (by rw [HY.out, if_neg h5, if_neg h2, if_neg h3])
     have k2b : (k == 2) = false := by simpa using h2
     have k3b : (k == 3) = false := by simpa using h3
     clear HY h5
     go_wp2
     go_end0
     rw [HE.out]
     refine ⟨⟨_, rfl⟩, ?_, F3.out.2⟩
     rw [(S0.out _).1, (S0.out _).2.1, (S0.out _).2.2]
     exact F3.out.1
end Go.Proofs.YtlohbaoigfaneaaGreat
