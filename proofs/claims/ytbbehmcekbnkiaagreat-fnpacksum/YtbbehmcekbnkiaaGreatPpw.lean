import Derived.Test.YtbbehmcekbnkiaaGreatLok
import Derived.Test.YtbbehmcekbnkiaaGreatThq
import Derived.RangeFuncNested
import Derived.RangeFuncBound
import Derived.RangeFuncCalls
import Derived.RangeFuncLeaves
import Derived.Shelf.Abstract
import Derived.Shelf.RegionOpen
import Derived.WalkKit
import Derived.OwnWalkIn
import Derived.TacticsInMore
import Derived.LoopNIn
import Derived.LoopIn
import Derived.Test.YtbbehmcekbnkiaaGreatItk
import Derived.Test.YtbbehmcekbnkiaaGreatSdp
import Derived.Test.YtbbehmcekbnkiaaGreatCln
namespace Go.Proofs.YtbbehmcekbnkiaaGreat
open Go.RowKit
set_option linter.unusedVariables false
set_option linter.unusedSimpArgs false
def oneB (xs : List Nd) : Bool := listB xs && decide (0 < xs.length) && decide ((xs.getD 0 Nd.none).kids = (xs.length : Int) - 1) && boxB (xs.getD 0 Nd.none)
set_option maxRecDepth 20000 in
set_option maxHeartbeats 4000000 in
theorem onlyBox_any {v : Value} {xs : List Nd} {w : World} (h : NRow 0 w v xs) (hs : xs.length ≤ 1048576) :
 Calls Tryz.prog 33 #[v] w fun e w' => (∃ a1 a2 a3 a4 a5 a6 : Int, e = .returned (.tuple #[.agg #[.int .i64 a1, .int .i64 a2, .int .i64 a3, .int .i64 a4, .int .i64 a5, .int .i64 a6], .bool (oneB xs)])) ∧ Below w.heap.size w w' := by
 have HC : Hid (∀ W, Below w.heap.size w W → Calls Tryz.prog 36 #[v] W fun e w' => e = .returned (.bool (listB xs)) ∧ Below W.heap.size W w') := hideP (fun W hW => implListOk_any (SRow.below ndStable h hW) hs)
 have hsm := hs
 obtain ⟨ao, n, cap, rfl, hl, hr⟩ := h
 obtain ⟨lb, hlb⟩ : ∃ lb, lb = listB xs := ⟨_, rfl⟩
 rw [← hlb] at HC
 have HLB := hideP hlb
 have HL := hideP hl
 have HR : Hid (0 < n → ∃ b off, ao = some ⟨b, off, none⟩ ∧ 0 ≤ b ∧ b < w.heap.size ∧ ∀ i, i < n → ∃ cs : List Value, cs.length = 15 ∧ NdR 0 w cs (xs.getD i Nd.none) ∧ ∀ j, j < 15 → w.cell? ⟨b, off + i * 15 + j, none⟩ = cs[j]?) := hideP hr
 obtain ⟨R, hR⟩ : ∃ R, R = oneB xs := ⟨_, rfl⟩
 rw [← hR]
 have HRR := hideP hR
 have hnm : n ≤ 1048576 := by rw [← hl]; exact hs
 clear hr hl hs hlb hR hsm
 go_enter Tryz.func33, Tryz.ntmps33
 go_wp2_with fail
 refine (HC.out _ (below1 _ _)).mono ?_
 rintro e w1 ⟨rfl, hb1⟩
 have hx1 : w.heap.size < w1.heap.size := by have := hb1.size; simp at this; omega
 have B1 : Hid (Below w.heap.size w w1) := hideP (below_more (below1 _ _) hb1 (by simp))
 have BZ := B1
 have QZ : Hid (∀ x, Below w1.heap.size w1 x → ∀ i, i < 6 → x.cell? ⟨w.heap.size, i, none⟩ = some (.int .i64 0)) := hideP (fun x hx i hi => by
  rw [Below.cell hx (p := ⟨w.heap.size, i, none⟩) hx1, Below.cell hb1 (p := ⟨w.heap.size, i, none⟩) (by simp)]
  have : i = 0 ∨ i = 1 ∨ i = 2 ∨ i = 3 ∨ i = 4 ∨ i = 5 := by omega
  rcases this with rfl | rfl | rfl | rfl | rfl | rfl <;> simp [go_sem])
 have QF : Hid (∀ x, Below w1.heap.size w1 x → ∀ i, x.frozen? ⟨w.heap.size, i, none⟩ = false) := hideP (fun x hx i => by
  rw [Below.frozen hx (p := ⟨w.heap.size, i, none⟩) hx1, Below.frozen hb1 (p := ⟨w.heap.size, i, none⟩) (by simp)]
  simp [go_sem])
 have z0 := QZ.out w1 (Below.refl _ _) 0 (by omega)
 have z1 := QZ.out w1 (Below.refl _ _) 1 (by omega)
 have z2 := QZ.out w1 (Below.refl _ _) 2 (by omega)
 have z3 := QZ.out w1 (Below.refl _ _) 3 (by omega)
 have z4 := QZ.out w1 (Below.refl _ _) 4 (by omega)
 have z5 := QZ.out w1 (Below.refl _ _) 5 (by omega)
 have zf := QF.out w1 (Below.refl _ _)
 have HB1 := hideP hb1
 clear hb1
 cases lb with
 | false =>
  have HE : Hid (R = false) := hideP (by rw [HRR.out]; unfold oneB; rw [← HLB.out]; rfl)
  go_wp2
  refine bodyPost_ret (v := .tuple #[.agg #[.int .i64 0, .int .i64 0, .int .i64 0, .int .i64 0, .int .i64 0, .int .i64 0], .bool false]) (by simp [results, Tryz.results33, go_sem, z0, z1, z2, z3, z4, z5]) rfl ⟨⟨0, 0, 0, 0, 0, 0, by rw [HE.out]⟩, ?_⟩
  (have BZ2 := BZ.out; repeat (first | with_reducible exact BZ2 | (with_reducible refine Below.alloc ?_ ?_ _; rotate_left; focus (first | (simp; done) | (simp; omega))) | (with_reducible refine Below.setCell ?_ ?_ _; rotate_left; focus (first | (simp; done) | (simp; omega)))))
 | true =>
  by_cases hn0 : n = 0
  ·subst hn0
   have HE : Hid (R = false) := hideP (by rw [HRR.out]; unfold oneB; rw [HL.out]; simp)
   go_wp2
   refine bodyPost_ret (v := .tuple #[.agg #[.int .i64 0, .int .i64 0, .int .i64 0, .int .i64 0, .int .i64 0, .int .i64 0], .bool false]) (by simp [results, Tryz.results33, go_sem, z0, z1, z2, z3, z4, z5]) rfl ⟨⟨0, 0, 0, 0, 0, 0, by rw [HE.out]⟩, ?_⟩
   (have BZ2 := BZ.out; repeat (first | with_reducible exact BZ2 | (with_reducible refine Below.alloc ?_ ?_ _; rotate_left; focus (first | (simp; done) | (simp; omega))) | (with_reducible refine Below.setCell ?_ ?_ _; rotate_left; focus (first | (simp; done) | (simp; omega)))))
  ·have hnp : 0 < n := by omega
   have hnz : ((n : Int) == 0) = false := by simp; omega
   obtain ⟨b, off, rfl, _, hb, hc⟩ := HR.out hnp
   obtain ⟨cs, hcl, hRel, hcj⟩ := hc 0 hnp
   obtain ⟨t, ht⟩ : ∃ t, t = xs.getD 0 Nd.none := ⟨_, rfl⟩
   rw [← ht] at hRel
   have HT := hideP ht
   have TC : Hid (∀ W : World, Calls Tryz.prog 62 #[ndV t] W fun r w' => (∃ v, r = .returned v ∧ ThingQ t v) ∧ Below W.heap.size W w') := hideP (fun W => thing_q t W)
   obtain ⟨bb, hbb⟩ : ∃ bb, bb = boxB t := ⟨_, rfl⟩
   have HBB := hideP hbb
   obtain ⟨kd, wd, hh, dp, sh, fo, ch, nn, gs, gp, gpo, gm, gmo, tx, kids⟩ := t
   rw [show cs = _ from hRel] at hcj
   simp only [Nd.cells, Nat.zero_mul, Nat.add_zero] at hcj
   have hnp' : (0 : Int) < (n : Int) := by omega
   have g0 : w1.cell? ⟨b, off, none⟩ = some (.int .i64 kd) := (B1.out.cell (p := ⟨b, off + 0, none⟩) hb).trans (by simpa using hcj 0 (by omega))
   have g1 : w1.cell? ⟨b, off + 1, none⟩ = some (.int .i64 wd) := (B1.out.cell (p := ⟨b, off + 1, none⟩) hb).trans (by simpa using hcj 1 (by omega))
   have g2 : w1.cell? ⟨b, off + 2, none⟩ = some (.int .i64 hh) := (B1.out.cell (p := ⟨b, off + 2, none⟩) hb).trans (by simpa using hcj 2 (by omega))
   have g3 : w1.cell? ⟨b, off + 3, none⟩ = some (.int .i64 dp) := (B1.out.cell (p := ⟨b, off + 3, none⟩) hb).trans (by simpa using hcj 3 (by omega))
   have g4 : w1.cell? ⟨b, off + 4, none⟩ = some (.int .i64 sh) := (B1.out.cell (p := ⟨b, off + 4, none⟩) hb).trans (by simpa using hcj 4 (by omega))
   have g5 : w1.cell? ⟨b, off + 5, none⟩ = some (.int .i64 fo) := (B1.out.cell (p := ⟨b, off + 5, none⟩) hb).trans (by simpa using hcj 5 (by omega))
   have g6 : w1.cell? ⟨b, off + 6, none⟩ = some (.int .i64 ch) := (B1.out.cell (p := ⟨b, off + 6, none⟩) hb).trans (by simpa using hcj 6 (by omega))
   have g7 : w1.cell? ⟨b, off + 7, none⟩ = some (.int .i64 nn) := (B1.out.cell (p := ⟨b, off + 7, none⟩) hb).trans (by simpa using hcj 7 (by omega))
   have g8 : w1.cell? ⟨b, off + 8, none⟩ = some (.int .i64 gs) := (B1.out.cell (p := ⟨b, off + 8, none⟩) hb).trans (by simpa using hcj 8 (by omega))
   have g9 : w1.cell? ⟨b, off + 9, none⟩ = some (.int .i64 gp) := (B1.out.cell (p := ⟨b, off + 9, none⟩) hb).trans (by simpa using hcj 9 (by omega))
   have g10 : w1.cell? ⟨b, off + 10, none⟩ = some (.int .i64 gpo) := (B1.out.cell (p := ⟨b, off + 10, none⟩) hb).trans (by simpa using hcj 10 (by omega))
   have g11 : w1.cell? ⟨b, off + 11, none⟩ = some (.int .i64 gm) := (B1.out.cell (p := ⟨b, off + 11, none⟩) hb).trans (by simpa using hcj 11 (by omega))
   have g12 : w1.cell? ⟨b, off + 12, none⟩ = some (.int .i64 gmo) := (B1.out.cell (p := ⟨b, off + 12, none⟩) hb).trans (by simpa using hcj 12 (by omega))
   have g13 : w1.cell? ⟨b, off + 13, none⟩ = some (.string tx) := (B1.out.cell (p := ⟨b, off + 13, none⟩) hb).trans (by simpa using hcj 13 (by omega))
   have g14 : w1.cell? ⟨b, off + 14, none⟩ = some (.int .i64 kids) := (B1.out.cell (p := ⟨b, off + 14, none⟩) hb).trans (by simpa using hcj 14 (by omega))
   clear hc hcj hcl ht hRel hbb
   by_cases hkd : kids = (n : Int) - 1
   ·have hne : (kids != (n : Int) - 1) = false := by simp [hkd]
    have hne2 : (kids == (n : Int) - 1) = true := by simp [hkd]
    have HKD := hideP hkd
    clear hkd
    go_wp2_with fail
    refine (TC.out _).mono ?_
    rintro e w2 ⟨⟨vt, rfl, hth⟩, hb2⟩
    obtain ⟨a1, a2, a3, a4, a5, a6, hta⟩ := hth.2.1.bx
    rw [← HBB.out] at hta
    have HE : Hid (R = bb) := hideP (by rw [HRR.out]; unfold oneB; rw [← HLB.out, ← HT.out, ← HBB.out, HL.out, decide_eq_true hnp]; dsimp only; rw [decide_eq_true HKD.out]; simp)
    have BZ2 : Below w.heap.size w w2 := below_more B1.out hb2 B1.out.size
    have hx2 : w.heap.size < w2.heap.size := Nat.lt_of_lt_of_le hx1 hb2.size
    obtain ⟨hc2, hf2⟩ := bcell (HB1.out.trans (hb2.mono HB1.out.size))
    simp only [World.size_alloc] at hc2 hf2
    have BY := hideP BZ2
    have hsh : vt = .nilIface ∨ ∃ X p, vt = .iface X p := by
     rcases hth.1 with ⟨h, _⟩ | ⟨X, p, _, _, _, _, h, _⟩
     ·exact .inl h
     ·exact .inr ⟨X, p, h⟩
    clear hth hb2 z0 z1 z2 z3 z4 z5 zf g0 g1 g2 g3 g4 g5 g6 g7 g8 g9 g10 g11 g12 g13 g14 BZ2 QZ QF hne hne2 hnz hnp hnp' HC TC HR
    rcases hsh with rfl | ⟨X, p, rfl⟩
    all_goals
     go_wp2
     refine bodyPost_ret (v := .tuple #[.agg #[.int .i64 a1, .int .i64 a2, .int .i64 a3, .int .i64 a4, .int .i64 a5, .int .i64 a6], .bool bb]) (by simp [results, Tryz.results33, go_sem, hc2, hx2]) rfl ⟨⟨a1, a2, a3, a4, a5, a6, by rw [HE.out]⟩, ?_⟩
     have BY2 := BY.out
     clear hc2 hf2 BY
     repeat (first | with_reducible exact BY2 | (with_reducible refine Below.alloc ?_ ?_ _; rotate_left; focus (first | (simp; done) | (simp; omega))) | (with_reducible refine Below.setCell ?_ ?_ _; rotate_left; focus (first | (simp; done) | (simp; omega))))
   ·have hne : (kids != (n : Int) - 1) = true := by simpa using hkd
    have hne2 : (kids == (n : Int) - 1) = false := by simpa using hkd
    have HE : Hid (R = false) := hideP (by rw [HRR.out]; unfold oneB; rw [← HT.out, HL.out]; dsimp only; rw [decide_eq_false hkd]; simp)
    go_wp2
    refine bodyPost_ret (v := .tuple #[.agg #[.int .i64 0, .int .i64 0, .int .i64 0, .int .i64 0, .int .i64 0, .int .i64 0], .bool false]) (by simp [results, Tryz.results33, go_sem, z0, z1, z2, z3, z4, z5]) rfl ⟨⟨0, 0, 0, 0, 0, 0, by rw [HE.out]⟩, ?_⟩
    (have BZ2 := BZ.out; repeat (first | with_reducible exact BZ2 | (with_reducible refine Below.alloc ?_ ?_ _; rotate_left; focus (first | (simp; done) | (simp; omega))) | (with_reducible refine Below.setCell ?_ ?_ _; rotate_left; focus (first | (simp; done) | (simp; omega)))))
end Go.Proofs.YtbbehmcekbnkiaaGreat
namespace Go.Proofs.YtbbehmcekbnkiaaGreat.Wk
open Go.RowKit Go.Shelf
set_option linter.unusedVariables false
set_option linter.unusedSimpArgs false
attribute [local go_sem] Oper.semAt_some
def zeroAt (ys : List Nd) (i : Nat) : List Nd := if glueB (ys.getD i Nd.none) then ys.set i { ys.getD i Nd.none with wd := 0 } else ys
def zeroAll (ys : List Nd) (ps : List Nat) : List Nd := ps.foldl zeroAt ys
def insideOf (xs : List Nd) : List Nd := if oneB xs then zeroAll (xs.drop 1) (starts (xs.drop 1) ((xs.drop 1).length + 1) 0) else []
theorem zeroAt_len (ys : List Nd) (i : Nat) : (zeroAt ys i).length = ys.length := by unfold zeroAt; split <;> simp
theorem zeroAll_len : ∀ (ps : List Nat) (ys : List Nd), (zeroAll ys ps).length = ys.length
 | [], _ => rfl
 | p :: ps, ys => by rw [show zeroAll ys (p :: ps) = zeroAll (zeroAt ys p) ps from rfl, zeroAll_len ps, zeroAt_len]
theorem zeroAt_kin (ys : List Nd) (i j : Nat) : kin ((zeroAt ys i).getD j Nd.none) (ys.getD j Nd.none) := by
 unfold zeroAt
 split
 ·by_cases hij : i = j
  ·subst hij
   by_cases hl : i < ys.length
   ·simp [List.getD, List.getElem?_set, hl, kin]
   ·simp [List.getD, List.getElem?_set, hl, kin]
  ·simp [List.getD, List.getElem?_set, hij, kin]
 ·exact ⟨rfl, rfl⟩
theorem zeroAll_kin : ∀ (ps : List Nat) (ys : List Nd) (j : Nat), kin ((zeroAll ys ps).getD j Nd.none) (ys.getD j Nd.none)
 | [], _, _ => ⟨rfl, rfl⟩
 | p :: ps, ys, j => by
  have h1 := zeroAll_kin ps (zeroAt ys p) j
  have h2 := zeroAt_kin ys p j
  exact ⟨h1.1.trans h2.1, h1.2.trans h2.2⟩
theorem zeroAll_snoc (ys : List Nd) (ps : List Nat) (p : Nat) : zeroAll ys (ps ++ [p]) = zeroAt (zeroAll ys ps) p := by simp [zeroAll]
theorem flatN_set : ∀ (xs : List Nd) (i : Nat), i < xs.length → (flatN xs).set (i * 15 + 1) (.int .i64 0) = flatN (xs.set i { xs.getD i Nd.none with wd := 0 })
 | [], i, h => by simp at h
 | x :: xs, 0, h => by
  simp only [flatN, List.getD_cons_zero, List.set_cons_zero]
  rfl
 | x :: xs, i + 1, h => by
  simp only [List.length_cons] at h
  simp only [flatN, List.getD_cons_succ, List.set_cons_succ]
  rw [List.set_append_right _ _ (by rw [cells_len]; omega), cells_len, show (i + 1) * 15 + 1 - 15 = i * 15 + 1 by omega, flatN_set xs i (by omega)]
theorem one_all {xs : List Nd} (h : oneB xs = true) : xs.length ≤ 20000 ∧ ∀ i, i < xs.length → goodB (xs.getD i Nd.none) = true ∧ (xs.getD i Nd.none).kids ≤ xs.length := by
 unfold oneB listB at h
 simp only [Bool.and_eq_true, decide_eq_true_eq] at h
 obtain ⟨⟨⟨⟨h1, h2⟩, _⟩, _⟩, _⟩ := h
 refine ⟨h1, fun i hi => ok_all xs 0 [] (by omega) (by simp) h2 _ ?_⟩
 simp [List.getD, List.getElem?_eq_getElem hi]
theorem one_tail {xs : List Nd} (h : oneB xs = true) : ∀ i, i < (xs.drop 1).length → goodB ((xs.drop 1).getD i Nd.none) = true ∧ ((xs.drop 1).getD i Nd.none).kids ≤ xs.length := by
 intro i hi
 have h2 := (one_all h).2 (i + 1) (by simp at hi; omega)
 rw [show (xs.drop 1).getD i Nd.none = xs.getD (i + 1) Nd.none by simp [List.getD, Nat.add_comm]]
 exact h2
theorem Src.kept {xs : List Nd} {ao : Option Addr} {Bs b off cap : Nat} {A B : World} {row : Option Nat} (h : Src xs ao Bs b off cap A) (hg : A.grownBy B row) (hr : ∀ r, row = some r → ∃ o : Obj, A.heap[r]? = some o ∧ o.isCells = false) : Src xs ao Bs b off cap B := by
 refine ⟨cell_kept h.box hg hr, h.some_, fun i hi => ?_⟩
 obtain ⟨y, hk, hc⟩ := h.at_ i hi
 refine ⟨y, hk, fun j hj => ?_⟩
 have h1 := hc j hj
 rw [List.getElem?_eq_getElem (show j < y.cells.length from hj)] at h1 ⊢
 exact cell_kept h1 hg hr
theorem Src.zero {xs : List Nd} {ao : Option Addr} {Bs g cap i : Nat} {A : World} (h : Src xs ao Bs g 0 cap A) (hB : g ≠ Bs) : Src xs ao Bs g 0 cap (A.setCell ⟨g, i * 15 + 1, none⟩ (.int .i64 0)) := by
 refine ⟨?_, h.some_, fun k hk => ?_⟩
 ·rw [World.cell?_setCell_other _ _ _ _ (by intro e; simp only [Addr.mk.injEq] at e; omega)]
  exact h.box
 ·obtain ⟨y, hkin, hc⟩ := h.at_ k hk
  by_cases hik : k = i
  ·subst hik
   refine ⟨{ y with wd := 0 }, hkin, fun j hj => ?_⟩
   by_cases hj1 : j = 1
   ·subst hj1
    rw [show 0 + k * 15 + 1 = k * 15 + 1 by omega]
    have h1 := hc 1 hj
    rw [show 0 + k * 15 + 1 = k * 15 + 1 by omega] at h1
    exact World.cell?_setCell_same' _ _ _ (by rw [h1]; rfl)
   ·rw [World.cell?_setCell_other _ _ _ _ (by intro e; simp only [Addr.mk.injEq] at e; omega), hc j hj]
    have : j = 0 ∨ j = 2 ∨ j = 3 ∨ j = 4 ∨ j = 5 ∨ j = 6 ∨ j = 7 ∨ j = 8 ∨ j = 9 ∨ j = 10 ∨ j = 11 ∨ j = 12 ∨ j = 13 ∨ j = 14 := by omega
    rcases this with rfl | rfl | rfl | rfl | rfl | rfl | rfl | rfl | rfl | rfl | rfl | rfl | rfl | rfl <;> rfl
  ·refine ⟨y, hkin, fun j hj => ?_⟩
   rw [World.cell?_setCell_other _ _ _ _ (by intro e; simp only [Addr.mk.injEq] at e; omega)]
   exact hc j hj
theorem tail_cells {w : World} {b off : Nat} {xs : List Nd} (hp : 0 < xs.length) (hc : ∀ j u, (flatN xs)[j]? = some u → w.cell? ⟨b, off + j, none⟩ = some u) : ∀ j u, (flatN (xs.drop 1))[j]? = some u → w.cell? ⟨b, off + 15 + j, none⟩ = some u := by
 intro j u hj
 cases xs with
 | nil => simp at hp
 | cons x xs =>
  have := hc (15 + j) u (by simp only [flatN]; rw [List.getElem?_append_right (by rw [cells_len]; omega), cells_len, show 15 + j - 15 = j by omega]; simpa using hj)
  rw [show off + 15 + j = off + (15 + j) by omega]
  exact this
set_option maxRecDepth 100000 in
set_option maxHeartbeats 4000000 in
theorem implInside_in {v : Value} {xs : List Nd} {w : World} (h : NRow 0 w v xs) (hs : xs.length ≤ 1048576) (hcp : ∀ a n c, v = .slice a n c → n ≤ c ∧ c ≤ 9223372036854775807) :
 CallsIn Fence.wide 5 Tryz.prog 11 #[v] w fun e W' => (∃ u, e = .returned u ∧ W'.ownsRow w.heap.size 36 15 u (insideOf xs).length (flatN (insideOf xs))) ∧ Below w.heap.size w W' := by
 have OC : Hid (∀ W, Below w.heap.size w W → Calls Tryz.prog 33 #[v] W fun e w' => (∃ a1 a2 a3 a4 a5 a6 : Int, e = .returned (.tuple #[.agg #[.int .i64 a1, .int .i64 a2, .int .i64 a3, .int .i64 a4, .int .i64 a5, .int .i64 a6], .bool (oneB xs)])) ∧ Below W.heap.size W w') := hideP (fun W hW => onlyBox_any (SRow.below ndStable h hW) hs)
 obtain ⟨ao, n, cap, rfl, hl, hr⟩ := h
 have hcap := hcp _ _ _ rfl
 obtain ⟨hcap1, hcap2⟩ := hcap
 have hnm : n ≤ 1048576 := by rw [← hl]; exact hs
 have HL := hideP hl
 have HR : Hid (0 < n → ∃ b off, ao = some ⟨b, off, none⟩ ∧ 0 ≤ b ∧ b < w.heap.size ∧ ∀ i, i < n → ∃ cs : List Value, cs.length = 15 ∧ NdR 0 w cs (xs.getD i Nd.none) ∧ ∀ j, j < 15 → w.cell? ⟨b, off + i * 15 + j, none⟩ = cs[j]?) := hideP hr
 obtain ⟨ob, hob⟩ : ∃ ob, ob = oneB xs := ⟨_, rfl⟩
 rw [← hob] at OC
 have HOB := hideP hob
 clear hob hr hl hcp
 refine callsIn_of_wp_marks Tryz.func11 rfl trivial ?_ rfl
 simp only [Tryz.ntmps11, List.size_toArray, List.length_cons, List.length_nil, Nat.reduceAdd, Nat.reduceSub, Array.replicate_succ, Array.replicate_zero, List.push_toArray, List.append_toArray, List.nil_append, List.cons_append]
 gi_wp2_with fail
 refine ⟨trivial, CallsIn.mono (callsIn_wide.2 (OC.out w (Below.refl _ _))) ?_⟩
 rintro e w1 ⟨⟨a1, a2, a3, a4, a5, a6, rfl⟩, hb1⟩
 have B1 := hideP hb1
 clear hb1
 cases ob with
 | false =>
  have HE : Hid (insideOf xs = []) := hideP (by unfold insideOf; rw [if_neg (by rw [← HOB.out]; simp)])
  gi_wp2
  refine ⟨_, results_tmp rfl _ _ _, ⟨.slice (some ⟨w1.heap.size + 1, 0, none⟩) 0 0, rfl, ?_⟩, ?_⟩
  ·rw [HE.out]
   exact ⟨rfl, .inr ⟨w1.heap.size + 1, 0, #[], rfl, by have := B1.out.size; omega, by have := heap_alloc_new (w1.alloc (.cells #[.int .i64 a1, .int .i64 a2, .int .i64 a3, .int .i64 a4, .int .i64 a5, .int .i64 a6] 78)) (.cells #[] 36); rw [World.size_alloc] at this; exact this, Nat.le_refl _, by decide, rfl, rfl⟩⟩
  ·exact (B1.out.alloc B1.out.size _).alloc (by have := B1.out.size; simp; omega) _
 | true =>
  have hnp : 0 < n := by
   have h := HOB.out
   unfold oneB at h
   simp at h
   rw [← HL.out]
   exact List.length_pos_iff.2 (by intro e; simp [e] at h)
  obtain ⟨b, off, rfl, _, hb, hc⟩ := HR.out hnp
  have HNN : Hid (∀ W, Below w.heap.size w W → ∀ o', (o' = off + 15 ∨ cap = 1) → NN 0 W (.slice (some ⟨b, o', none⟩) (n - 1) (cap - 1)) (xs.drop 1)) := hideP (fun W hW o' ho => by
   have hl1 : (xs.drop 1).length = n - 1 := by rw [List.length_drop, HL.out]
   refine .inr ⟨b, o', cap - 1, by rw [hl1], by rw [hl1]; omega, Nat.zero_le _, fun _ => Nat.lt_of_lt_of_le hb hW.size, fun j u hj => ?_⟩
   have hjl : j < (flatN (xs.drop 1)).length := (List.getElem?_eq_some_iff.1 hj).1
   rw [flatN_len, hl1] at hjl
   rcases ho with rfl | ho
   ·rw [Below.cell hW (p := ⟨b, off + 15 + j, none⟩) hb]
    exact tail_cells (by rw [HL.out]; exact hnp) (row_cells (fun i hi => hc i (by rw [← HL.out]; exact hi))) j u hj
   ·omega)
  clear hc HR
  have hl1 : (xs.drop 1).length = n - 1 := by rw [List.length_drop, HL.out]
  obtain ⟨ys, hys⟩ : ∃ ys, ys = xs.drop 1 := ⟨_, rfl⟩
  rw [← hys] at HNN hl1
  have HYS := hideP hys
  obtain ⟨m, hm⟩ : ∃ m, m = n - 1 := ⟨_, rfl⟩
  rw [← hm] at HNN hl1
  have HM := hideP hm
  have HLY := hideP hl1
  have hmm : m ≤ 1048576 := by omega
  have CC : Hid (∀ W, Below w.heap.size w W → ∀ o', (o' = off + 15 ∨ cap = 1) → Calls Tryz.prog 34 #[.slice (some ⟨b, o', none⟩) m (cap - 1)] W fun e w' => ∃ v', e = .returned v' ∧ w'.ownsRow W.heap.size 36 15 v' m (flatN ys) ∧ Below W.heap.size W w') := hideP (fun W hW o' ho => by
   have := copyNodes_any (HNN.out W hW o' ho) (by rw [hl1]; exact hmm) (fun i hi => by have := good_text (one_tail HOB.out.symm i (by rw [← HYS.out]; exact hi)).1; rw [← HYS.out] at this; omega)
   rw [hl1] at this
   exact this)
  clear HNN hys hl1
  have hin : (m : Int) = (n : Int) - 1 := by omega
  by_cases hce : cap = 1
  ·subst hce
   obtain rfl : n = 1 := by omega
   obtain rfl : m = 0 := by omega
   gi_wp2_with fail
   refine ⟨trivial, CallsIn.mono (callsIn_wide.2 (CC.out _ (below_more B1.out (below1 _ _) B1.out.size) off (by simp))) ?_⟩
   rintro e w2 ⟨v2, rfl, hown, hb2⟩
   obtain ⟨a2', c2, rfl, hg2⟩ := own_shape hown
   have BB : Below w.heap.size w w2 := below_more (below_more B1.out (below1 _ _) B1.out.size) hb2 (by have := B1.out.size; simp; omega)
   have HO := hideP hown
   have HBB := hideP BB
   have HG := hideP hg2
   clear hown hb2 BB hg2 hm hin
   gi_wp2_with fail
   refine ⟨trivial, CallsIn.mono (callsIn_wide.2 (eachItem_any a2' 0 c2 _)) ?_⟩
   rintro e w3 ⟨rfl, rfl⟩
   gi_wp2_with fail
   obtain ⟨g, hg⟩ : ∃ g : Nat, g = 0 := ⟨_, rfl⟩
   have HO2 : Hid (w2.ownsRow w.heap.size 36 15 (.slice a2' 0 c2) 0 (flatN ys)) := hideP (own_mono HO.out (by have := B1.out.size; simp; omega))
   have bS : ((w2.alloc (.cells #[.slice a2' 0 c2] 24)).alloc (.cells #[.slice a2' 0 c2] 24)).cell? ⟨w2.heap.size + 1, 0, none⟩ = some (.slice a2' 0 c2) := by simp [go_sem]
   have hB0 : Below w.heap.size w ((w2.alloc (.cells #[.slice a2' 0 c2] 24)).alloc (.cells #[.slice a2' 0 c2] 24)) := (HBB.out.alloc HBB.out.size _).alloc (by have := HBB.out.size; simp; omega) _
   have hOW : ((w2.alloc (.cells #[.slice a2' 0 c2] 24)).alloc (.cells #[.slice a2' 0 c2] 24)).ownsRow w.heap.size 36 15 (.slice a2' 0 c2) 0 (flatN ys) := (HO2.out.alloc _).alloc _
   have hIW : ((w2.alloc (.cells #[.slice a2' 0 c2] 24)).alloc (.cells #[.slice a2' 0 c2] 24)).cell? ⟨w2.heap.size, 0, none⟩ = some (.slice a2' 0 c2) := by simp [go_sem]
   obtain ⟨W0, hW0⟩ : ∃ W0, (w2.alloc (.cells #[.slice a2' 0 c2] 24)).alloc (.cells #[.slice a2' 0 c2] 24) = W0 := ⟨_, rfl⟩
   have hsz : W0.heap.size = w2.heap.size + 1 + 1 := by rw [← hW0]; simp
   rw [hW0] at hB0 hOW hIW bS ⊢
   clear hW0
   have HSR : Hid (Src ys a2' (w2.heap.size + 1) g 0 c2 W0) := hideP ⟨by rw [HLY.out]; exact bS, fun h => absurd h (by rw [HLY.out]; omega), fun i hi => absurd hi (by rw [HLY.out]; omega)⟩
   have hys2 : ys.length ≤ 20000 ∧ ∀ i, i < ys.length → 0 ≤ (ys.getD i Nd.none).kids ∧ (ys.getD i Nd.none).kids ≤ 20000 := ⟨by rw [HLY.out]; omega, fun i hi => absurd hi (by rw [HLY.out]; omega)⟩
   refine wpIn_rangeFunc_ownF (F := Fence.wide) (n := 5) rfl (by omega) (gf := 65) (lb := #[.pointer (some ⟨w2.heap.size + 1, 0, none⟩)]) rfl trivial (enters_of Tryz.func65 (by kernel_rfl) rfl)
    (each_stops 4 (by omega) ys a2' (w2.heap.size + 1) g 0 c2 hys2.1 hys2.2 W0 HSR.out) (fun h1 h2 h => h2 (h1 h)) ?keepb (Below.refl _ _) (fun _ => rfl)
    (fun pre W => (W.cell? ⟨w2.heap.size, 0, none⟩ = some (.slice a2' 0 c2) ∧ W.ownsRow w.heap.size 36 15 (.slice a2' 0 c2) 0 (flatN (zeroAll ys (pre.map (·.1.1))))) ∧ Below w.heap.size w W)
    (fun _ _ _ => False) ?ownI (fun _ _ _ _ _ hs _ _ => hs) ⟨⟨hIW, hOW⟩, hB0⟩ ?a1z ?assign ?body ?done ?stop
   case assign =>
    intro l x W K hK
    simp only [Item.encs]
    gi_wp2
    exact hK
   case keepb =>
    intro W l o o' hl hlo hoc _ hsrc
    exact hsrc.kept (grownBy_putObj' W l o') (fun r e => by cases e; exact ⟨o, hlo, hoc⟩)
   case ownI =>
    exact OwnFrom.and (Own.from (fun s A B row hs hg hr => ⟨cell_kept hs.1 hg hr, own_row_kept hs.2 hg hr⟩) _) (ownFrom_below (Nat.le_refl _) (by have := HBB.out.size; omega))
   case body =>
    rintro l pre x W _ _
    have hx1 := x.2.1
    have hl0 := HLY.out
    omega
   case done =>
    rintro D its W hD hst ⟨⟨hbx, how⟩, hB⟩ hK
    have HIN : Hid (insideOf xs = zeroAll ys (starts ys (ys.length + 1) 0)) := hideP (by unfold insideOf; rw [if_pos HOB.out.symm, ← HYS.out])
    gi_wp2
    refine ⟨by simp, .inl ⟨_, _, rfl, run_takeDeferred hK, ?_⟩⟩
    refine ⟨_, results_tmp rfl _ _ _, ⟨.slice a2' 0 c2, rfl, ?_⟩, hB.trans (belowK_b (w := w) (Nat.le_refl _) W D _ _ (by have := HBB.out.size; omega) hK rfl rfl)⟩
    have hlen2 : (zeroAll ys (starts ys (ys.length + 1) 0)).length = 0 := by rw [zeroAll_len]; exact HLY.out
    rw [HIN.out, hlen2]
    have h1 := ownsRow_putObj how (.deferred none) hK rfl
    rw [hst] at h1
    exact h1
   case stop =>
    rintro D c pre W _ _ h _
    exact h.elim
  ·have hc1 : 1 < cap := by omega
   gi_wp2_with fail
   rw [← hm]
   refine ⟨trivial, CallsIn.mono (callsIn_wide.2 (CC.out _ (below_more B1.out (below1 _ _) B1.out.size) _ (.inl rfl))) ?_⟩
   rintro e w2 ⟨v2, rfl, hown, hb2⟩
   obtain ⟨a2', c2, rfl, hg2⟩ := own_shape hown
   have BB : Below w.heap.size w w2 := below_more (below_more B1.out (below1 _ _) B1.out.size) hb2 (by have := B1.out.size; simp; omega)
   have HO := hideP hown
   have HBB := hideP BB
   have HG := hideP hg2
   clear hown hb2 BB hg2 hm hin
   gi_wp2_with fail
   refine ⟨trivial, CallsIn.mono (callsIn_wide.2 (eachItem_any a2' m c2 _)) ?_⟩
   rintro e w3 ⟨rfl, rfl⟩
   gi_wp2_with fail
   obtain ⟨g, hg⟩ : ∃ g, 0 < m → a2' = some ⟨g, 0, none⟩ ∧ w.heap.size ≤ g ∧ g < w2.heap.size := by
    by_cases hm0 : 0 < m
    ·obtain ⟨g, e1, e2, e3⟩ := HG.out hm0
     exact ⟨g, fun _ => ⟨e1, by have := B1.out.size; simp at e2; omega, e3⟩⟩
    ·exact ⟨0, fun h => absurd h hm0⟩
   have HO2 : Hid (w2.ownsRow w.heap.size 36 15 (.slice a2' m c2) m (flatN ys)) := hideP (own_mono HO.out (by have := B1.out.size; simp; omega))
   have bS : ((w2.alloc (.cells #[.slice a2' m c2] 24)).alloc (.cells #[.slice a2' m c2] 24)).cell? ⟨w2.heap.size + 1, 0, none⟩ = some (.slice a2' m c2) := by simp [go_sem]
   have hB0 : Below w.heap.size w ((w2.alloc (.cells #[.slice a2' m c2] 24)).alloc (.cells #[.slice a2' m c2] 24)) := (HBB.out.alloc HBB.out.size _).alloc (by have := HBB.out.size; simp; omega) _
   have hOW : ((w2.alloc (.cells #[.slice a2' m c2] 24)).alloc (.cells #[.slice a2' m c2] 24)).ownsRow w.heap.size 36 15 (.slice a2' m c2) m (flatN ys) := (HO2.out.alloc _).alloc _
   have hIW : ((w2.alloc (.cells #[.slice a2' m c2] 24)).alloc (.cells #[.slice a2' m c2] 24)).cell? ⟨w2.heap.size, 0, none⟩ = some (.slice a2' m c2) := by simp [go_sem]
   obtain ⟨W0, hW0⟩ : ∃ W0, (w2.alloc (.cells #[.slice a2' m c2] 24)).alloc (.cells #[.slice a2' m c2] 24) = W0 := ⟨_, rfl⟩
   have hsz : W0.heap.size = w2.heap.size + 1 + 1 := by rw [← hW0]; simp
   rw [hW0] at hB0 hOW hIW bS ⊢
   clear hW0
   have HSR : Hid (Src ys a2' (w2.heap.size + 1) g 0 c2 W0) := hideP (by
    refine ⟨by rw [HLY.out]; exact bS, fun h => (hg (by rw [← HLY.out]; exact h)).1, fun i hi => ⟨ys.getD i Nd.none, ⟨rfl, rfl⟩, fun j hj => ?_⟩⟩
    obtain ⟨rfl, _, _⟩ := hg (by rw [← HLY.out]; omega)
    have h1 := flatN_get ys i hi j hj
    rw [List.getElem?_eq_getElem (show j < (ys.getD i Nd.none).cells.length from hj)] at h1 ⊢
    rw [show 0 + i * 15 + j = i * 15 + j by omega]
    exact (own_cell hOW h1).1)
   have hys2 : ys.length ≤ 20000 ∧ ∀ i, i < ys.length → 0 ≤ (ys.getD i Nd.none).kids ∧ (ys.getD i Nd.none).kids ≤ 20000 := by
    have h1 := one_all HOB.out.symm
    have h2 := one_tail HOB.out.symm
    rw [← HYS.out] at h2
    refine ⟨by rw [HLY.out, HM.out, ← HL.out]; omega, fun i hi => ⟨good_kids (h2 i hi).1, Int.le_trans (h2 i hi).2 (by omega)⟩⟩
   refine wpIn_rangeFunc_ownF (F := Fence.wide) (n := 5) rfl (by omega) (gf := 65) (lb := #[.pointer (some ⟨w2.heap.size + 1, 0, none⟩)]) rfl trivial (enters_of Tryz.func65 (by kernel_rfl) rfl)
    (each_stops 4 (by omega) ys a2' (w2.heap.size + 1) g 0 c2 hys2.1 hys2.2 W0 HSR.out) (fun h1 h2 h => h2 (h1 h)) ?keepb (Below.refl _ _) (fun _ => rfl)
    (fun pre W => (W.cell? ⟨w2.heap.size, 0, none⟩ = some (.slice a2' m c2) ∧ W.ownsRow w.heap.size 36 15 (.slice a2' m c2) m (flatN (zeroAll ys (pre.map (·.1.1))))) ∧ Below w.heap.size w W)
    (fun _ _ _ => False) ?ownI (fun _ _ _ _ _ hs _ _ => hs) ⟨⟨hIW, hOW⟩, hB0⟩ ?a1 ?assign ?body ?done ?stop
   case assign =>
    intro l x W K hK
    simp only [Item.encs]
    gi_wp2
    exact hK
   case keepb =>
    intro W l o o' hl hlo hoc _ hsrc
    exact hsrc.kept (grownBy_putObj' W l o') (fun r e => by cases e; exact ⟨o, hlo, hoc⟩)
   case ownI =>
    exact OwnFrom.and (Own.from (fun s A B row hs hg hr => ⟨cell_kept hs.1 hg hr, own_row_kept hs.2 hg hr⟩) _) (ownFrom_below (Nat.le_refl _) (by have := HBB.out.size; omega))
   case body =>
    rintro l pre x W ⟨⟨hbx, how⟩, hB⟩ _
    have hat := x.2.1
    obtain ⟨y, hkin, hq⟩ := x.2.2
    obtain ⟨at_, ha⟩ : ∃ a, x.1.1 = a := ⟨_, rfl⟩
    obtain ⟨vt, hv⟩ : ∃ v, x.1.2 = v := ⟨_, rfl⟩
    rw [ha] at hat hkin
    rw [hv] at hq
    rw [ha, hv]
    have HA : Hid ((pre ++ [x]).map (·.1.1) = pre.map (·.1.1) ++ [at_]) := hideP (by rw [List.map_append, List.map_singleton, ha])
    clear ha hv
    obtain ⟨s1, s2, s3, s4, s5, s6, hta⟩ := hq.2.1.sp
    have hgl : glueB y = glueB ((zeroAll ys (pre.map (·.1.1))).getD at_ Nd.none) := by
     unfold glueB
     rw [(zeroAll_kin (pre.map (·.1.1)) ys at_).1, hkin.1]
    obtain ⟨gb, hgb⟩ : ∃ gb, gb = glueB y := ⟨_, rfl⟩
    rw [← hgb] at hta hgl
    have HGL := hideP hgl
    have HOW := hideP how
    have HB := hideP hB
    have hatm : at_ < m := by rw [← HLY.out]; exact hat
    obtain ⟨rfl, hgw, hg2⟩ := hg (by omega)
    have hgW : g < W.heap.size := (World.ownsRow.lt how g rfl).2
    have hwW : w2.heap.size < W.heap.size := World.block_lt_of_cell? W _ hbx
    clear hgl hgb how hB hq
    have HZL : Hid (at_ < (zeroAll ys (pre.map (·.1.1))).length) := hideP (by rw [zeroAll_len]; exact hat)
    cases gb with
    | false =>
     have HZ : Hid (zeroAll ys ((pre ++ [x]).map (·.1.1)) = zeroAll ys (pre.map (·.1.1))) := hideP (by rw [HA.out, zeroAll_snoc]; unfold zeroAt; rw [← HGL.out]; rfl)
     gi_wp2
     refine ⟨KeepsOthers.alloc _ _, fun h => h.grown (below1 _ _), ⟨(Below.cell (below1 W _) (p := ⟨w2.heap.size, 0, none⟩) hwW).trans hbx, ?_⟩, HB.out.alloc HB.out.size _⟩
     rw [HZ.out]
     exact HOW.out.alloc _
    | true =>
     have HZ : Hid (flatN (zeroAll ys ((pre ++ [x]).map (·.1.1))) = (flatN (zeroAll ys (pre.map (·.1.1)))).set (at_ * 15 + 1) (.int .i64 0)) := hideP (by rw [flatN_set _ _ HZL.out, HA.out, zeroAll_snoc]; unfold zeroAt; rw [← HGL.out]; rfl)
     obtain ⟨hcw, hfz⟩ := own_cell HOW.out (flatN_at _ at_ HZL.out 1 (by omega) (u := .int .i64 ((zeroAll ys (pre.map (·.1.1))).getD at_ Nd.none).wd) rfl)
     obtain ⟨wd0, hwd0⟩ : ∃ z, z = ((zeroAll ys (pre.map (·.1.1))).getD at_ Nd.none).wd := ⟨_, rfl⟩
     rw [← hwd0] at hcw
     clear hwd0
     have hati : (at_ : Int) < (m : Int) := by omega
     gi_wp2
     have hset : Below w.heap.size w (W.setCell ⟨g, at_ * 15 + 1, none⟩ (.int .i64 0)) := HB.out.setCell (p := ⟨g, at_ * 15 + 1, none⟩) hgw _
     refine ⟨(KeepsOthers.setCell _ _ _).trans (KeepsOthers.alloc _ _), fun h => (h.zero (by omega)).grown (below1 _ _), ⟨?_, ?_⟩, hset.alloc hset.size _⟩
     ·rw [Below.cell (below1 (W.setCell ⟨g, at_ * 15 + 1, none⟩ (.int .i64 0)) _) (p := ⟨w2.heap.size, 0, none⟩) (by simpa using hwW), World.cell?_setCell_other _ _ _ _ (by intro e; simp only [Addr.mk.injEq] at e; omega)]
      exact hbx
     ·rw [HZ.out]
      exact (own_set HOW.out _ _).alloc _
   case done =>
    rintro D its W hD hst ⟨⟨hbx, how⟩, hB⟩ hK
    have HIN : Hid (insideOf xs = zeroAll ys (starts ys (ys.length + 1) 0)) := hideP (by unfold insideOf; rw [if_pos HOB.out.symm, ← HYS.out])
    gi_wp2
    refine ⟨by simp, .inl ⟨_, _, rfl, run_takeDeferred hK, ?_⟩⟩
    refine ⟨_, results_tmp rfl _ _ _, ⟨.slice a2' m c2, rfl, ?_⟩, hB.trans (belowK_b (w := w) (Nat.le_refl _) W D _ _ (by have := HBB.out.size; omega) hK rfl rfl)⟩
    have hlen2 : (zeroAll ys (starts ys (ys.length + 1) 0)).length = m := by rw [zeroAll_len]; exact HLY.out
    rw [HIN.out, hlen2]
    have h1 := ownsRow_putObj how (.deferred none) hK rfl
    rw [hst] at h1
    exact h1
   case stop =>
    rintro D c pre W _ _ h _
    exact h.elim
theorem implInside_any {v : Value} {xs : List Nd} {w : World} (h : NRow 0 w v xs) (hs : xs.length ≤ 1048576) (hcp : ∀ a n c, v = .slice a n c → n ≤ c ∧ c ≤ 9223372036854775807) :
 Calls Tryz.prog 11 #[v] w fun e W' => (∃ u, e = .returned u ∧ W'.ownsRow w.heap.size 36 15 u (insideOf xs).length (flatN (insideOf xs))) ∧ Below w.heap.size w W' := callsIn_wide.1 (implInside_in h hs hcp)
end Go.Proofs.YtbbehmcekbnkiaaGreat.Wk
namespace Go.Proofs.YtbbehmcekbnkiaaGreat
open Go.RowKit
set_option linter.unusedVariables false
set_option linter.unusedSimpArgs false
theorem zeroAll_setL : ∀ (Z : List Nat) (ys : List Nd), Z.Pairwise (· < ·) → Wk.zeroAll ys Z = setL (gluesAt ys Z) (List.replicate (gluesAt ys Z).length 0) ys
 | [], ys, _ => by simp [Wk.zeroAll, gluesAt, setL]
 | p :: Z, ys, hp => by
  obtain ⟨hp1, hp2⟩ := List.pairwise_cons.1 hp
  have hne : ∀ q ∈ Z, q ≠ p := fun q hq => by have := hp1 q hq; omega
  have e0 : Wk.zeroAll ys (p :: Z) = Wk.zeroAll (Wk.zeroAt ys p) Z := rfl
  rw [e0, zeroAll_setL Z _ hp2]
  by_cases h3 : (ys.getD p Nd.none).k = 3
  ·have hg : gluesAt ys (p :: Z) = p :: gluesAt ys Z := by unfold gluesAt; rw [List.filter_cons_of_pos (by simpa using h3)]
   have hz : Wk.zeroAt ys p = ys.set p ((ys.getD p Nd.none).wide 0) := by
    unfold Wk.zeroAt
    rw [if_pos (by unfold glueB; rw [h3]; rfl)]
    rfl
   rw [hg, hz, glues_set hne, List.length_cons, List.replicate_succ]
   rfl
  ·have hg : gluesAt ys (p :: Z) = gluesAt ys Z := by unfold gluesAt; rw [List.filter_cons_of_neg (by simpa using h3)]
   have hz : Wk.zeroAt ys p = ys := by
    unfold Wk.zeroAt
    rw [if_neg (by unfold glueB; simpa using h3)]
   rw [hg, hz]
theorem inside_packed {xs : List Nd} {mode size : Int} (hA : hpOk xs mode size = true) : Wk.insideOf (hpN xs mode size) = bare xs := by
 obtain ⟨hcan, hlist, hgl, hto, hw, hh, hd, hfit⟩ := hpOk_parts hA
 have hasc : (gluesAt xs (begins xs)).Pairwise (· < ·) := List.Pairwise.filter _ (starts_asc xs _ _).2
 have hin : ∀ p ∈ gluesAt xs (begins xs), p < xs.length ∧ (xs.getD p Nd.none).k = 3 := fun p hp => ⟨starts_lt xs _ _ p (List.mem_filter.1 hp).1, by simpa using (List.mem_filter.1 hp).2⟩
 have hgood : xs.all goodB = true := list_good hlist
 have hL : listB (hpN xs mode size) = true := by
  unfold hpN
  rw [box_list (.inl rfl) _ _ _ (hpL_len xs mode size) hasc hin hgood, hcan, hto, hh, hd, hfit]
  rfl
 have hone : oneB (hpN xs mode size) = true := by
  unfold oneB
  rw [hL]
  simp only [hpN, Bool.true_and, Bool.and_eq_true, decide_eq_true_eq, List.length_cons, setL_len, List.getD_cons_zero]
  refine ⟨⟨by omega, ?_⟩, ?_⟩
  ·simp only [boxN]; omega
  ·rfl
 unfold Wk.insideOf
 rw [if_pos hone]
 have hd1 : (hpN xs mode size).drop 1 = setL (gluesAt xs (begins xs)) (hpL xs mode size) xs := rfl
 rw [hd1]
 have hb : starts (setL (gluesAt xs (begins xs)) (hpL xs mode size) xs) ((setL (gluesAt xs (begins xs)) (hpL xs mode size) xs).length + 1) 0 = begins xs := begins_setL _ _ _
 rw [hb, zeroAll_setL (begins xs) _ (starts_asc xs (xs.length + 1) 0).2, glues_setL]
 exact setL_twice _ _ _ _ hasc (fun p hp => (hin p hp).1) (by simp) (hpL_len xs mode size)
set_option maxRecDepth 20000 in
set_option maxHeartbeats 8000000 in
theorem drawHPack_any (ao : Option Addr) (len cap : Nat) (w : World) (hB : Bytes w ao len cap) :
 Calls Tryz.prog 9 #[.slice ao len cap] w fun e w' => ∃ (u : Value) (xs : List Nd) (m s : Int), (e = .returned (.tuple #[u, .int .i64 m, .int .i64 s]) ∧ w'.ownsRow w.heap.size 36 15 u xs.length (flatN xs) ∧ xs.length ≤ 20001) ∧ Below w.heap.size w w' := by
 have HB := hideD hB
 clear hB
 go_enter Tryz.func9, Tryz.ntmps9
 go_wp2_with fail
 refine (new_any ao len cap w HB.out).mono ?_
 rintro e w1 ⟨rfl, c1⟩
 have C1 := hideP c1
 have hlt := c1.lt
 clear c1
 go_wp2_with fail
 refine (drawAny_any ao len cap w w1 HB.out C1.out).mono ?_
 rintro e w2 ⟨u, n, rfl, hou, hn, c2, f2⟩
 obtain ⟨ua, uc, hue⟩ := hou.shape
 subst hue
 have D2 : Hid (DS w w1 w2 ao len cap w1.heap.size (.slice ua n uc) n) := hideP ⟨c2, f2, hou⟩
 clear hou c2 f2 C1
 go_wp2_with fail
 refine (drawMode_any ao len cap w _ HB.out D2.out.1).mono ?_
 rintro e w3 ⟨m, s, rfl, c3, f3⟩
 have D3 := hideP (DS.fram D2.out hlt f3 c3)
 clear D2 c3 f3
 obtain ⟨xs, hl, hx⟩ := D3.out.2.2
 obtain ⟨i, h, _, _, _, hbel⟩ := D3.out.1
 have HX : Hid (w3.ownsRow w.heap.size 36 15 (.slice ua n uc) xs.length (flatN xs) ∧ xs.length ≤ 20001 ∧ Below w.heap.size w w3) := hideP ⟨by rw [hl]; exact own_mon hx (by omega), by omega, hbel⟩
 clear hl hx hbel D3
 go_wp2
 refine bodyPost_ret (v := .tuple #[.slice ua n uc, .int .i64 m, .int .i64 s]) (by simp [results, Tryz.results9, go_sem]) rfl ?_
 exact ⟨_, xs, m, s, ⟨rfl, HX.out.1, HX.out.2.1⟩, HX.out.2.2⟩
set_option maxRecDepth 20000 in
set_option maxHeartbeats 4000000 in
theorem alongR_any (x : Nd) (w : World) : Calls Tryz.prog 13 #[ndV x, .bool true] w fun e w' => e = .returned (.int .i64 (alR x)) ∧ Below w.heap.size w w' := by
 obtain ⟨k, wd, ht, dp, sh, fo, ch, nn, gs, gp, gpo, gm, gmo, tx, kids⟩ := x
 rcases (show k = 2 ∨ k = 3 ∨ k = 1 ∨ k = 5 ∨ k = 6 ∨ k = 7 ∨ (k ≠ 2 ∧ k ≠ 3 ∧ k ≠ 1 ∧ k ≠ 5 ∧ k ≠ 6 ∧ k ≠ 7) by omega) with rfl | rfl | rfl | rfl | rfl | rfl | ⟨q1, q2, q3, q4, q5, q6⟩
 all_goals
  simp only [ndV]
  go_enter Tryz.func13, Tryz.ntmps13
  go_wp2
  go_ret
  refine ⟨?_, below1 _ _⟩
  simp [alR, tallB, *]
theorem alR_bd {x : Nd} (h : NdIn x) : -1073741823 ≤ alR x ∧ alR x ≤ 1073741823 := by
 have := h.wd
 unfold alR
 split
 ·omega
 ·split <;> omega
theorem alRSum_bd {ys : List Nd} (h : ∀ i, i < (begins ys).length → -1073741823 ≤ alR (hdN ys i) ∧ alR (hdN ys i) ≤ 1073741823) : ∀ i, i ≤ (begins ys).length → -(1073741823 * (i : Int)) ≤ alRSum ys i ∧ alRSum ys i ≤ 1073741823 * (i : Int)
 | 0, _ => by simp [alRSum]
 | i + 1, hi => by
  have h1 := alRSum_bd h i (by omega)
  have h2 := h i (by omega)
  rw [alRSum]
  push_cast
  omega
theorem hp_empty : (hpR [] 0 0).length = 1 := by
 have : hpOk [] 0 0 = true := by kernel_rfl
 unfold hpR
 rw [if_pos this, hpN_len]
 rfl
theorem starts_offs {xs : List Nd} (h : AllOk xs) : ∀ (f i0 j : Nat), j < (starts xs f i0).length → (starts xs f i0).getD j 0 = i0 + (((starts xs f i0).take j).map (fun p => (itemAt xs p).length)).sum
 | 0, i0, j, hj => by simp [starts] at hj
 | f + 1, i0, j, hj => by
  simp only [starts] at hj ⊢
  split at hj
  ·rename_i hlt
   rw [if_pos hlt]
   cases j with
   | zero => simp
   | succ j =>
    have ih := starts_offs h f (i0 + 1 + (xs.getD i0 Nd.none).kids.toNat) j (by simpa using hj)
    rw [List.getD_cons_succ, ih, List.take_succ_cons, List.map_cons, List.sum_cons, itemAt_len h hlt]
    omega
  ·simp at hj
def ofN (xs : List Nd) (i : Nat) : Nat := (((begins xs).take i).map (fun p => (itemAt xs p).length)).sum
theorem ofN_zero (xs : List Nd) : ofN xs 0 = 0 := by simp [ofN]
theorem ofN_begin {xs : List Nd} (h : listB xs = true) {i : Nat} (hi : i < (begins xs).length) : (begins xs).getD i 0 = ofN xs i := by
 have h1 := starts_offs (allOk h) (xs.length + 1) 0 i hi
 unfold ofN begins
 rw [Nat.zero_add] at h1
 exact h1
theorem ofN_succ {xs : List Nd} (h : listB xs = true) {i : Nat} (hi : i < (begins xs).length) : ofN xs (i + 1) = ofN xs i + ((itemsOf xs).getD i []).length := by
 have e : (itemsOf xs).getD i [] = itemAt xs ((begins xs).getD i 0) := by
  unfold itemsOf
  rw [if_pos h]
  simp only [List.getD, List.getElem?_map, begins]
  rw [List.getElem?_eq_getElem (show i < (starts xs (xs.length + 1) 0).length from hi)]
  rfl
 unfold ofN
 rw [List.take_add_one, List.getElem?_eq_getElem hi, List.map_append, List.sum_append, e]
 simp [List.getD, List.getElem?_eq_getElem hi]
theorem starts_sumN {xs : List Nd} (h : AllOk xs) : ∀ (f i : Nat), i ≤ xs.length → ((starts xs f i).map (fun p => (itemAt xs p).length)).sum ≤ xs.length - i
 | 0, i, hi => by simp [starts]
 | f + 1, i, hi => by
  simp only [starts]
  split
  ·rename_i hlt
   have h1 := h.kids i hlt
   have h2 := starts_sumN h f (i + 1 + (xs.getD i Nd.none).kids.toNat) (by omega)
   rw [List.map_cons, List.sum_cons, itemAt_len h hlt]
   omega
  ·simp
theorem ofN_le {xs : List Nd} (h : listB xs = true) (i : Nat) : ofN xs i ≤ xs.length := by
 have h1 := starts_sumN (allOk h) (xs.length + 1) 0 (Nat.zero_le _)
 have h2 : ofN xs i ≤ ((begins xs).map (fun p => (itemAt xs p).length)).sum := by
  unfold ofN
  conv => rhs; rw [← List.take_append_drop i (begins xs), List.map_append, List.sum_append]
  omega
 unfold begins at h2
 omega
def zerN (xs : List Nd) (i : Nat) : List Nd := Wk.zeroAll xs ((begins xs).take i)
theorem zerN_len (xs : List Nd) (i : Nat) : (zerN xs i).length = xs.length := Wk.zeroAll_len _ _
theorem zerN_succ {xs : List Nd} {i : Nat} (hi : i < (begins xs).length) : zerN xs (i + 1) = Wk.zeroAt (zerN xs i) ((begins xs).getD i 0) := by
 unfold zerN
 rw [List.take_add_one, List.getElem?_eq_getElem hi, show (some (begins xs)[i]).toList = [(begins xs)[i]] from rfl, Wk.zeroAll_snoc]
 simp [List.getD, List.getElem?_eq_getElem hi]
theorem zerN_all (xs : List Nd) : zerN xs (begins xs).length = bare xs := by
 unfold zerN bare
 rw [List.take_length, zeroAll_setL (begins xs) _ (starts_asc xs (xs.length + 1) 0).2]
theorem zerN_k (xs : List Nd) (i j : Nat) : ((zerN xs i).getD j Nd.none).k = (xs.getD j Nd.none).k := (Wk.zeroAll_kin _ _ _).1
end Go.Proofs.YtbbehmcekbnkiaaGreat
