/-
  What is in a box: the program.
-/
import Derived.RangeFuncNested
import Derived.RangeFuncBound
import Derived.RangeFuncCalls
import Derived.RangeFuncLeaves
import Derived.Shelf.Abstract
import Derived.Shelf.RegionOpen
import Derived.WalkKit
import Derived.OwnWalkIn
import Derived.TacticsInMore
import Derived.LoopNIn
import Derived.LoopIn
import Derived.Test.YtomemcfmnpginaaItr
import Derived.Test.YtomemcfmnpginaaCln
import Derived.Test.YtomemcfmnpginaaOnl
namespace Go.Proofs.Ytomemcfmnpginaa
open Go.RowKit Go.Shelf
set_option linter.unusedVariables false
set_option linter.unusedSimpArgs false
attribute [local go_sem] Oper.semAt_some

/-- A glue's Width is put back to 0. -/
def zeroAt (ys : List Nd) (i : Nat) : List Nd := if glueB (ys.getD i Nd.none) then ys.set i { ys.getD i Nd.none with wd := 0 } else ys
def zeroAll (ys : List Nd) (ps : List Nat) : List Nd := ps.foldl zeroAt ys
def insideOf (xs : List Nd) : List Nd := if oneB xs then zeroAll (xs.drop 1) (starts (xs.drop 1) ((xs.drop 1).length + 1) 0) else []
theorem zeroAt_len (ys : List Nd) (i : Nat) : (zeroAt ys i).length = ys.length := by unfold zeroAt; split <;> simp
theorem zeroAll_len : ∀ (ps : List Nat) (ys : List Nd), (zeroAll ys ps).length = ys.length
  | [], _ => rfl
  | p :: ps, ys => by rw [show zeroAll ys (p :: ps) = zeroAll (zeroAt ys p) ps from rfl, zeroAll_len ps, zeroAt_len]
theorem zeroAt_kin (ys : List Nd) (i j : Nat) : kin ((zeroAt ys i).getD j Nd.none) (ys.getD j Nd.none) := by
  unfold zeroAt
  split
  · by_cases hij : i = j
    · subst hij
      by_cases hl : i < ys.length
      · simp [List.getD, List.getElem?_set, hl, kin]
      · simp [List.getD, List.getElem?_set, hl, kin]
    · simp [List.getD, List.getElem?_set, hij, kin]
  · exact ⟨rfl, rfl⟩
theorem zeroAll_kin : ∀ (ps : List Nat) (ys : List Nd) (j : Nat), kin ((zeroAll ys ps).getD j Nd.none) (ys.getD j Nd.none)
  | [], _, _ => ⟨rfl, rfl⟩
  | p :: ps, ys, j => by
    have h1 := zeroAll_kin ps (zeroAt ys p) j
    have h2 := zeroAt_kin ys p j
    exact ⟨h1.1.trans h2.1, h1.2.trans h2.2⟩
theorem zeroAll_snoc (ys : List Nd) (ps : List Nat) (p : Nat) : zeroAll ys (ps ++ [p]) = zeroAt (zeroAll ys ps) p := by simp [zeroAll]
theorem flatN_set : ∀ (xs : List Nd) (i : Nat), i < xs.length → (flatN xs).set (i * 15 + 1) (.int .i64 0) = flatN (xs.set i { xs.getD i Nd.none with wd := 0 })
  | [], i, h => by simp at h
  | x :: xs, 0, h => by
    simp only [flatN, List.getD_cons_zero, List.set_cons_zero]
    rfl
  | x :: xs, i + 1, h => by
    simp only [List.length_cons] at h
    simp only [flatN, List.getD_cons_succ, List.set_cons_succ]
    rw [List.set_append_right _ _ (by rw [cells_len]; omega), cells_len, show (i + 1) * 15 + 1 - 15 = i * 15 + 1 by omega, flatN_set xs i (by omega)]

theorem ok_all {len : Int} : ∀ (xs : List Nd) (i : Int) (T : List Int), 0 ≤ i → (∀ y ∈ T, y ≤ len) → okFrom len i T xs = true → ∀ x ∈ xs, goodB x = true ∧ x.kids ≤ len
  | [], _, _, _, _, _ => by simp
  | x :: xs, i, T, hi, hT, h => by
    simp only [okFrom, Bool.and_eq_true] at h
    obtain ⟨⟨⟨hg, hk⟩, _⟩, hr⟩ := h
    have hk := of_decide_eq_true hk
    have hh : (T.dropWhile (· == i)).headD len ≤ len := by
      cases he : T.dropWhile (· == i) with
      | nil => simp
      | cons a U => simpa using hT a (drop_mem (by rw [he]; exact List.mem_cons_self ..))
    have hU : ∀ y ∈ T.dropWhile (· == i), y ≤ len := fun y hy => hT y (drop_mem hy)
    intro y hy
    rcases List.mem_cons.1 hy with rfl | hy
    · exact ⟨hg, by omega⟩
    · refine ok_all xs (i + 1) _ (by omega) ?_ hr y hy
      intro z hz
      split at hz
      · rcases List.mem_cons.1 hz with rfl | hz
        · omega
        · exact hU z hz
      · exact hU z hz
theorem good_kids {x : Nd} (h : goodB x = true) : 0 ≤ x.kids := by
  unfold goodB at h
  simp at h
  exact h.2
theorem good_text {x : Nd} (h : goodB x = true) : x.tx.size ≤ 1000 := by
  unfold goodB specB at h
  simp only [Bool.and_eq_true, decide_eq_true_eq] at h
  have := h.1.2
  omega
theorem one_all {xs : List Nd} (h : oneB xs = true) : xs.length ≤ 20000 ∧ ∀ i, i < xs.length → goodB (xs.getD i Nd.none) = true ∧ (xs.getD i Nd.none).kids ≤ xs.length := by
  unfold oneB listB at h
  simp only [Bool.and_eq_true, decide_eq_true_eq] at h
  obtain ⟨⟨⟨⟨h1, h2⟩, _⟩, _⟩, _⟩ := h
  refine ⟨h1, fun i hi => ok_all xs 0 [] (by omega) (by simp) h2 _ ?_⟩
  simp [List.getD, List.getElem?_eq_getElem hi]
theorem one_tail {xs : List Nd} (h : oneB xs = true) : ∀ i, i < (xs.drop 1).length → goodB ((xs.drop 1).getD i Nd.none) = true ∧ ((xs.drop 1).getD i Nd.none).kids ≤ xs.length := by
  intro i hi
  have h2 := (one_all h).2 (i + 1) (by simp at hi; omega)
  rw [show (xs.drop 1).getD i Nd.none = xs.getD (i + 1) Nd.none by simp [List.getD, Nat.add_comm]]
  exact h2
theorem own_row_kept {v : Value} {base n : Nat} {xs : List Value} {A B : World} {row : Option Nat} (h : A.ownsRow base 57 15 v n xs) (hg : A.grownBy B row) (hr : ∀ r, row = some r → ∃ o : Obj, A.heap[r]? = some o ∧ o.isCells = false) : B.ownsRow base 57 15 v n xs := by
  refine World.ownsRow.kept h hg ?_
  obtain ⟨hl, ⟨rfl, _⟩ | ⟨g, cap, cur, rfl, _, hb, _⟩⟩ := h
  · exact .inl rfl
  · refine .inr fun e => ?_
    obtain ⟨o, ho, hc⟩ := hr g e.symm
    rw [hb] at ho
    cases ho
    cases hc
theorem Src.kept {xs : List Nd} {ao : Option Addr} {Bs b off cap : Nat} {A B : World} {row : Option Nat} (h : Src xs ao Bs b off cap A) (hg : A.grownBy B row) (hr : ∀ r, row = some r → ∃ o : Obj, A.heap[r]? = some o ∧ o.isCells = false) : Src xs ao Bs b off cap B := by
  refine ⟨cell_kept h.box hg hr, h.some_, fun i hi => ?_⟩
  obtain ⟨y, hk, hc⟩ := h.at_ i hi
  refine ⟨y, hk, fun j hj => ?_⟩
  have h1 := hc j hj
  rw [List.getElem?_eq_getElem (show j < y.cells.length from hj)] at h1 ⊢
  exact cell_kept h1 hg hr
theorem Src.zero {xs : List Nd} {ao : Option Addr} {Bs g cap i : Nat} {A : World} (h : Src xs ao Bs g 0 cap A) (hB : g ≠ Bs) : Src xs ao Bs g 0 cap (A.setCell ⟨g, i * 15 + 1, none⟩ (.int .i64 0)) := by
  refine ⟨?_, h.some_, fun k hk => ?_⟩
  · rw [World.cell?_setCell_other _ _ _ _ (by intro e; simp only [Addr.mk.injEq] at e; omega)]
    exact h.box
  · obtain ⟨y, hkin, hc⟩ := h.at_ k hk
    by_cases hik : k = i
    · subst hik
      refine ⟨{ y with wd := 0 }, hkin, fun j hj => ?_⟩
      by_cases hj1 : j = 1
      · subst hj1
        rw [show 0 + k * 15 + 1 = k * 15 + 1 by omega]
        have h1 := hc 1 hj
        rw [show 0 + k * 15 + 1 = k * 15 + 1 by omega] at h1
        exact World.cell?_setCell_same' _ _ _ (by rw [h1]; rfl)
      · rw [World.cell?_setCell_other _ _ _ _ (by intro e; simp only [Addr.mk.injEq] at e; omega), hc j hj]
        have : j = 0 ∨ j = 2 ∨ j = 3 ∨ j = 4 ∨ j = 5 ∨ j = 6 ∨ j = 7 ∨ j = 8 ∨ j = 9 ∨ j = 10 ∨ j = 11 ∨ j = 12 ∨ j = 13 ∨ j = 14 := by omega
        rcases this with rfl | rfl | rfl | rfl | rfl | rfl | rfl | rfl | rfl | rfl | rfl | rfl | rfl | rfl <;> rfl
    · refine ⟨y, hkin, fun j hj => ?_⟩
      rw [World.cell?_setCell_other _ _ _ _ (by intro e; simp only [Addr.mk.injEq] at e; omega)]
      exact hc j hj
theorem own_mono {w : World} {base base' n : Nat} {v : Value} {xs : List Value} (h : w.ownsRow base 57 15 v n xs) (hb : base' ≤ base) : w.ownsRow base' 57 15 v n xs := by
  obtain ⟨hl, h | ⟨g, cap, cur, e, hg, hr⟩⟩ := h
  · exact ⟨hl, .inl h⟩
  · exact ⟨hl, .inr ⟨g, cap, cur, e, Nat.le_trans hb hg, hr⟩⟩
theorem row_cells {w : World} {b off : Nat} {xs : List Nd} (hc : ∀ i, i < xs.length → ∃ cs : List Value, cs.length = 15 ∧ NdR 0 w cs (xs.getD i Nd.none) ∧ ∀ j, j < 15 → w.cell? ⟨b, off + i * 15 + j, none⟩ = cs[j]?) :
    ∀ j u, (flatN xs)[j]? = some u → w.cell? ⟨b, off + j, none⟩ = some u := by
  intro j u hj
  have hlt : j < (flatN xs).length := (List.getElem?_eq_some_iff.1 hj).1
  rw [flatN_len] at hlt
  have hi : j / 15 < xs.length := by omega
  obtain ⟨cs, hcl, hR, hcc⟩ := hc (j / 15) hi
  have h1 := flatN_get xs (j / 15) hi (j % 15) (by omega)
  rw [show j / 15 * 15 + j % 15 = j by omega, hj] at h1
  have h2 := hcc (j % 15) (by omega)
  rw [show off + j / 15 * 15 + j % 15 = off + j by omega, show cs = _ from hR, ← h1] at h2
  exact h2
theorem tail_cells {w : World} {b off : Nat} {xs : List Nd} (hp : 0 < xs.length) (hc : ∀ j u, (flatN xs)[j]? = some u → w.cell? ⟨b, off + j, none⟩ = some u) : ∀ j u, (flatN (xs.drop 1))[j]? = some u → w.cell? ⟨b, off + 15 + j, none⟩ = some u := by
  intro j u hj
  cases xs with
  | nil => simp at hp
  | cons x xs =>
    have := hc (15 + j) u (by simp only [flatN]; rw [List.getElem?_append_right (by rw [cells_len]; omega), cells_len, show 15 + j - 15 = j by omega]; simpa using hj)
    rw [show off + 15 + j = off + (15 + j) by omega]
    exact this

set_option maxRecDepth 100000 in
set_option maxHeartbeats 4000000 in
theorem implInside_in {v : Value} {xs : List Nd} {w : World} (h : NRow 0 w v xs) (hs : xs.length ≤ 1048576) (hcp : ∀ a n c, v = .slice a n c → n ≤ c ∧ c ≤ 9223372036854775807) :
    CallsIn Fence.wide 5 Try.prog 24 #[v] w fun e W' => (∃ u, e = .returned u ∧ W'.ownsRow w.heap.size 57 15 u (insideOf xs).length (flatN (insideOf xs))) ∧ Below w.heap.size w W' := by
  have OC : Hid (∀ W, Below w.heap.size w W → Calls Try.prog 44 #[v] W fun e w' => (∃ a1 a2 a3 a4 a5 a6 : Int, e = .returned (.tuple #[.agg #[.int .i64 a1, .int .i64 a2, .int .i64 a3, .int .i64 a4, .int .i64 a5, .int .i64 a6], .bool (oneB xs)])) ∧ Below W.heap.size W w') := hideP (fun W hW => onlyBox_any (SRow.below ndStable h hW) hs)
  obtain ⟨ao, n, cap, rfl, hl, hr⟩ := h
  have hcap := hcp _ _ _ rfl
  obtain ⟨hcap1, hcap2⟩ := hcap
  have hnm : n ≤ 1048576 := by rw [← hl]; exact hs
  have HL := hideP hl
  have HR : Hid (0 < n → ∃ b off, ao = some ⟨b, off, none⟩ ∧ 0 ≤ b ∧ b < w.heap.size ∧ ∀ i, i < n → ∃ cs : List Value, cs.length = 15 ∧ NdR 0 w cs (xs.getD i Nd.none) ∧ ∀ j, j < 15 → w.cell? ⟨b, off + i * 15 + j, none⟩ = cs[j]?) := hideP hr
  obtain ⟨ob, hob⟩ : ∃ ob, ob = oneB xs := ⟨_, rfl⟩
  rw [← hob] at OC
  have HOB := hideP hob
  clear hob hr hl hcp
  refine callsIn_of_wp_marks Try.func24 rfl trivial ?_ rfl
  simp only [Try.ntmps24, List.size_toArray, List.length_cons, List.length_nil, Nat.reduceAdd, Nat.reduceSub, Array.replicate_succ, Array.replicate_zero, List.push_toArray, List.append_toArray, List.nil_append, List.cons_append]
  gi_wp2_with fail
  refine ⟨trivial, CallsIn.mono (callsIn_wide.2 (OC.out w (Below.refl _ _))) ?_⟩
  rintro e w1 ⟨⟨a1, a2, a3, a4, a5, a6, rfl⟩, hb1⟩
  have B1 := hideP hb1
  clear hb1
  cases ob with
  | false =>
    have HE : Hid (insideOf xs = []) := hideP (by unfold insideOf; rw [if_neg (by rw [← HOB.out]; simp)])
    gi_wp2
    refine ⟨_, results_tmp rfl _ _ _, ⟨.slice (some ⟨w1.heap.size + 1, 0, none⟩) 0 0, rfl, ?_⟩, ?_⟩
    · rw [HE.out]
      exact ⟨rfl, .inr ⟨w1.heap.size + 1, 0, #[], rfl, by have := B1.out.size; omega, by have := heap_alloc_new (w1.alloc (.cells #[.int .i64 a1, .int .i64 a2, .int .i64 a3, .int .i64 a4, .int .i64 a5, .int .i64 a6] 77)) (.cells #[] 57); rw [World.size_alloc] at this; exact this, Nat.le_refl _, by decide, rfl, rfl⟩⟩
    · exact (B1.out.alloc B1.out.size _).alloc (by have := B1.out.size; simp; omega) _
  | true =>
    have hnp : 0 < n := by
      have h := HOB.out
      unfold oneB at h
      simp at h
      rw [← HL.out]
      exact List.length_pos_iff.2 (by intro e; simp [e] at h)
    obtain ⟨b, off, rfl, _, hb, hc⟩ := HR.out hnp
    have HNN : Hid (∀ W, Below w.heap.size w W → ∀ o', (o' = off + 15 ∨ cap = 1) → NN 0 W (.slice (some ⟨b, o', none⟩) (n - 1) (cap - 1)) (xs.drop 1)) := hideP (fun W hW o' ho => by
      have hl1 : (xs.drop 1).length = n - 1 := by rw [List.length_drop, HL.out]
      refine .inr ⟨b, o', cap - 1, by rw [hl1], by rw [hl1]; omega, Nat.zero_le _, fun _ => Nat.lt_of_lt_of_le hb hW.size, fun j u hj => ?_⟩
      have hjl : j < (flatN (xs.drop 1)).length := (List.getElem?_eq_some_iff.1 hj).1
      rw [flatN_len, hl1] at hjl
      rcases ho with rfl | ho
      · rw [Below.cell hW (p := ⟨b, off + 15 + j, none⟩) hb]
        exact tail_cells (by rw [HL.out]; exact hnp) (row_cells (fun i hi => hc i (by rw [← HL.out]; exact hi))) j u hj
      · omega)
    clear hc HR
    have hl1 : (xs.drop 1).length = n - 1 := by rw [List.length_drop, HL.out]
    obtain ⟨ys, hys⟩ : ∃ ys, ys = xs.drop 1 := ⟨_, rfl⟩
    rw [← hys] at HNN hl1
    have HYS := hideP hys
    obtain ⟨m, hm⟩ : ∃ m, m = n - 1 := ⟨_, rfl⟩
    rw [← hm] at HNN hl1
    have HM := hideP hm
    have HLY := hideP hl1
    have hmm : m ≤ 1048576 := by omega
    have CC : Hid (∀ W, Below w.heap.size w W → ∀ o', (o' = off + 15 ∨ cap = 1) → Calls Try.prog 41 #[.slice (some ⟨b, o', none⟩) m (cap - 1)] W fun e w' => ∃ v', e = .returned v' ∧ w'.ownsRow W.heap.size 57 15 v' m (flatN ys) ∧ Below W.heap.size W w') := hideP (fun W hW o' ho => by
      have := copyNodes_any (HNN.out W hW o' ho) (by rw [hl1]; exact hmm) (fun i hi => by have := good_text (one_tail HOB.out.symm i (by rw [← HYS.out]; exact hi)).1; rw [← HYS.out] at this; omega)
      rw [hl1] at this
      exact this)
    clear HNN hys hl1
    have hin : (m : Int) = (n : Int) - 1 := by omega
    by_cases hce : cap = 1
    · subst hce
      obtain rfl : n = 1 := by omega
      obtain rfl : m = 0 := by omega
      gi_wp2_with fail
      refine ⟨trivial, CallsIn.mono (callsIn_wide.2 (CC.out _ (below_more B1.out (below1 _ _) B1.out.size) off (by simp))) ?_⟩
      rintro e w2 ⟨v2, rfl, hown, hb2⟩
      obtain ⟨a2', c2, rfl, hg2⟩ := own_shape hown
      have BB : Below w.heap.size w w2 := below_more (below_more B1.out (below1 _ _) B1.out.size) hb2 (by have := B1.out.size; simp; omega)
      have HO := hideP hown
      have HBB := hideP BB
      have HG := hideP hg2
      clear hown hb2 BB hg2 hm hin
      gi_wp2_with fail
      refine ⟨trivial, CallsIn.mono (callsIn_wide.2 (eachItem_any a2' 0 c2 _)) ?_⟩
      rintro e w3 ⟨rfl, rfl⟩
      gi_wp2_with fail
      obtain ⟨g, hg⟩ : ∃ g : Nat, g = 0 := ⟨_, rfl⟩
      have HO2 : Hid (w2.ownsRow w.heap.size 57 15 (.slice a2' 0 c2) 0 (flatN ys)) := hideP (own_mono HO.out (by have := B1.out.size; simp; omega))
      have bS : ((w2.alloc (.cells #[.slice a2' 0 c2] 33)).alloc (.cells #[.slice a2' 0 c2] 33)).cell? ⟨w2.heap.size + 1, 0, none⟩ = some (.slice a2' 0 c2) := by simp [go_sem]
      have hB0 : Below w.heap.size w ((w2.alloc (.cells #[.slice a2' 0 c2] 33)).alloc (.cells #[.slice a2' 0 c2] 33)) := (HBB.out.alloc HBB.out.size _).alloc (by have := HBB.out.size; simp; omega) _
      have hOW : ((w2.alloc (.cells #[.slice a2' 0 c2] 33)).alloc (.cells #[.slice a2' 0 c2] 33)).ownsRow w.heap.size 57 15 (.slice a2' 0 c2) 0 (flatN ys) := (HO2.out.alloc _).alloc _
      have hIW : ((w2.alloc (.cells #[.slice a2' 0 c2] 33)).alloc (.cells #[.slice a2' 0 c2] 33)).cell? ⟨w2.heap.size, 0, none⟩ = some (.slice a2' 0 c2) := by simp [go_sem]
      obtain ⟨W0, hW0⟩ : ∃ W0, (w2.alloc (.cells #[.slice a2' 0 c2] 33)).alloc (.cells #[.slice a2' 0 c2] 33) = W0 := ⟨_, rfl⟩
      have hsz : W0.heap.size = w2.heap.size + 1 + 1 := by rw [← hW0]; simp
      rw [hW0] at hB0 hOW hIW bS ⊢
      clear hW0
      have HSR : Hid (Src ys a2' (w2.heap.size + 1) g 0 c2 W0) := hideP ⟨by rw [HLY.out]; exact bS, fun h => absurd h (by rw [HLY.out]; omega), fun i hi => absurd hi (by rw [HLY.out]; omega)⟩
      have hys2 : ys.length ≤ 20000 ∧ ∀ i, i < ys.length → 0 ≤ (ys.getD i Nd.none).kids ∧ (ys.getD i Nd.none).kids ≤ 20000 := ⟨by rw [HLY.out]; omega, fun i hi => absurd hi (by rw [HLY.out]; omega)⟩
      refine wpIn_rangeFunc_ownF (F := Fence.wide) (n := 5) rfl (by omega) (gf := 63) (lb := #[.pointer (some ⟨w2.heap.size + 1, 0, none⟩)]) rfl trivial (enters_of Try.func63 (by kernel_rfl) rfl)
        (each_stops 4 (by omega) ys a2' (w2.heap.size + 1) g 0 c2 hys2.1 hys2.2 W0 HSR.out) (fun h1 h2 h => h2 (h1 h)) ?keepb (Below.refl _ _) (fun _ => rfl)
        (fun pre W => (W.cell? ⟨w2.heap.size, 0, none⟩ = some (.slice a2' 0 c2) ∧ W.ownsRow w.heap.size 57 15 (.slice a2' 0 c2) 0 (flatN (zeroAll ys (pre.map (·.1.1))))) ∧ Below w.heap.size w W)
        (fun _ _ _ => False) ?ownI (fun _ _ _ _ _ hs _ _ => hs) ⟨⟨hIW, hOW⟩, hB0⟩ ?a1z ?assign ?body ?done ?stop
      case assign =>
        intro l x W K hK
        simp only [Item.encs]
        gi_wp2
        exact hK
      case keepb =>
        intro W l o o' hl hlo hoc _ hsrc
        exact hsrc.kept (grownBy_putObj' W l o') (fun r e => by cases e; exact ⟨o, hlo, hoc⟩)
      case ownI =>
        exact OwnFrom.and (Own.from (fun s A B row hs hg hr => ⟨cell_kept hs.1 hg hr, own_row_kept hs.2 hg hr⟩) _) (ownFrom_below (Nat.le_refl _) (by have := HBB.out.size; omega))
      case body =>
        rintro l pre x W _ _
        have hx1 := x.2.1
        have hl0 := HLY.out
        omega
      case done =>
        rintro D its W hD hst ⟨⟨hbx, how⟩, hB⟩ hK
        have HIN : Hid (insideOf xs = zeroAll ys (starts ys (ys.length + 1) 0)) := hideP (by unfold insideOf; rw [if_pos HOB.out.symm, ← HYS.out])
        gi_wp2
        refine ⟨by simp, .inl ⟨_, _, rfl, run_takeDeferred hK, ?_⟩⟩
        refine ⟨_, results_tmp rfl _ _ _, ⟨.slice a2' 0 c2, rfl, ?_⟩, hB.trans (belowK_b (w := w) (Nat.le_refl _) W D _ _ (by have := HBB.out.size; omega) hK rfl rfl)⟩
        have hlen2 : (zeroAll ys (starts ys (ys.length + 1) 0)).length = 0 := by rw [zeroAll_len]; exact HLY.out
        rw [HIN.out, hlen2]
        have h1 := ownsRow_putObj how (.deferred none) hK rfl
        rw [hst] at h1
        exact h1
      case stop =>
        rintro D c pre W _ _ h _
        exact h.elim
    · have hc1 : 1 < cap := by omega
      gi_wp2_with fail
      rw [← hm]
      refine ⟨trivial, CallsIn.mono (callsIn_wide.2 (CC.out _ (below_more B1.out (below1 _ _) B1.out.size) _ (.inl rfl))) ?_⟩
      rintro e w2 ⟨v2, rfl, hown, hb2⟩
      obtain ⟨a2', c2, rfl, hg2⟩ := own_shape hown
      have BB : Below w.heap.size w w2 := below_more (below_more B1.out (below1 _ _) B1.out.size) hb2 (by have := B1.out.size; simp; omega)
      have HO := hideP hown
      have HBB := hideP BB
      have HG := hideP hg2
      clear hown hb2 BB hg2 hm hin
      gi_wp2_with fail
      refine ⟨trivial, CallsIn.mono (callsIn_wide.2 (eachItem_any a2' m c2 _)) ?_⟩
      rintro e w3 ⟨rfl, rfl⟩
      gi_wp2_with fail
      obtain ⟨g, hg⟩ : ∃ g, 0 < m → a2' = some ⟨g, 0, none⟩ ∧ w.heap.size ≤ g ∧ g < w2.heap.size := by
        by_cases hm0 : 0 < m
        · obtain ⟨g, e1, e2, e3⟩ := HG.out hm0
          exact ⟨g, fun _ => ⟨e1, by have := B1.out.size; simp at e2; omega, e3⟩⟩
        · exact ⟨0, fun h => absurd h hm0⟩
      have HO2 : Hid (w2.ownsRow w.heap.size 57 15 (.slice a2' m c2) m (flatN ys)) := hideP (own_mono HO.out (by have := B1.out.size; simp; omega))
      have bS : ((w2.alloc (.cells #[.slice a2' m c2] 33)).alloc (.cells #[.slice a2' m c2] 33)).cell? ⟨w2.heap.size + 1, 0, none⟩ = some (.slice a2' m c2) := by simp [go_sem]
      have hB0 : Below w.heap.size w ((w2.alloc (.cells #[.slice a2' m c2] 33)).alloc (.cells #[.slice a2' m c2] 33)) := (HBB.out.alloc HBB.out.size _).alloc (by have := HBB.out.size; simp; omega) _
      have hOW : ((w2.alloc (.cells #[.slice a2' m c2] 33)).alloc (.cells #[.slice a2' m c2] 33)).ownsRow w.heap.size 57 15 (.slice a2' m c2) m (flatN ys) := (HO2.out.alloc _).alloc _
      have hIW : ((w2.alloc (.cells #[.slice a2' m c2] 33)).alloc (.cells #[.slice a2' m c2] 33)).cell? ⟨w2.heap.size, 0, none⟩ = some (.slice a2' m c2) := by simp [go_sem]
      obtain ⟨W0, hW0⟩ : ∃ W0, (w2.alloc (.cells #[.slice a2' m c2] 33)).alloc (.cells #[.slice a2' m c2] 33) = W0 := ⟨_, rfl⟩
      have hsz : W0.heap.size = w2.heap.size + 1 + 1 := by rw [← hW0]; simp
      rw [hW0] at hB0 hOW hIW bS ⊢
      clear hW0
      have HSR : Hid (Src ys a2' (w2.heap.size + 1) g 0 c2 W0) := hideP (by
        refine ⟨by rw [HLY.out]; exact bS, fun h => (hg (by rw [← HLY.out]; exact h)).1, fun i hi => ⟨ys.getD i Nd.none, ⟨rfl, rfl⟩, fun j hj => ?_⟩⟩
        obtain ⟨rfl, _, _⟩ := hg (by rw [← HLY.out]; omega)
        have h1 := flatN_get ys i hi j hj
        rw [List.getElem?_eq_getElem (show j < (ys.getD i Nd.none).cells.length from hj)] at h1 ⊢
        rw [show 0 + i * 15 + j = i * 15 + j by omega]
        exact (own_cell hOW h1).1)
      have hys2 : ys.length ≤ 20000 ∧ ∀ i, i < ys.length → 0 ≤ (ys.getD i Nd.none).kids ∧ (ys.getD i Nd.none).kids ≤ 20000 := by
        have h1 := one_all HOB.out.symm
        have h2 := one_tail HOB.out.symm
        rw [← HYS.out] at h2
        refine ⟨by rw [HLY.out, HM.out, ← HL.out]; omega, fun i hi => ⟨good_kids (h2 i hi).1, Int.le_trans (h2 i hi).2 (by omega)⟩⟩
      refine wpIn_rangeFunc_ownF (F := Fence.wide) (n := 5) rfl (by omega) (gf := 63) (lb := #[.pointer (some ⟨w2.heap.size + 1, 0, none⟩)]) rfl trivial (enters_of Try.func63 (by kernel_rfl) rfl)
        (each_stops 4 (by omega) ys a2' (w2.heap.size + 1) g 0 c2 hys2.1 hys2.2 W0 HSR.out) (fun h1 h2 h => h2 (h1 h)) ?keepb (Below.refl _ _) (fun _ => rfl)
        (fun pre W => (W.cell? ⟨w2.heap.size, 0, none⟩ = some (.slice a2' m c2) ∧ W.ownsRow w.heap.size 57 15 (.slice a2' m c2) m (flatN (zeroAll ys (pre.map (·.1.1))))) ∧ Below w.heap.size w W)
        (fun _ _ _ => False) ?ownI (fun _ _ _ _ _ hs _ _ => hs) ⟨⟨hIW, hOW⟩, hB0⟩ ?a1 ?assign ?body ?done ?stop
      case assign =>
        intro l x W K hK
        simp only [Item.encs]
        gi_wp2
        exact hK
      case keepb =>
        intro W l o o' hl hlo hoc _ hsrc
        exact hsrc.kept (grownBy_putObj' W l o') (fun r e => by cases e; exact ⟨o, hlo, hoc⟩)
      case ownI =>
        exact OwnFrom.and (Own.from (fun s A B row hs hg hr => ⟨cell_kept hs.1 hg hr, own_row_kept hs.2 hg hr⟩) _) (ownFrom_below (Nat.le_refl _) (by have := HBB.out.size; omega))
      case body =>
        rintro l pre x W ⟨⟨hbx, how⟩, hB⟩ _
        have hat := x.2.1
        obtain ⟨y, hkin, hq⟩ := x.2.2
        obtain ⟨at_, ha⟩ : ∃ a, x.1.1 = a := ⟨_, rfl⟩
        obtain ⟨vt, hv⟩ : ∃ v, x.1.2 = v := ⟨_, rfl⟩
        rw [ha] at hat hkin
        rw [hv] at hq
        rw [ha, hv]
        have HA : Hid ((pre ++ [x]).map (·.1.1) = pre.map (·.1.1) ++ [at_]) := hideP (by rw [List.map_append, List.map_singleton, ha])
        clear ha hv
        obtain ⟨s1, s2, s3, s4, s5, s6, hta⟩ := hq.2.sp
        have hgl : glueB y = glueB ((zeroAll ys (pre.map (·.1.1))).getD at_ Nd.none) := by
          unfold glueB
          rw [(zeroAll_kin (pre.map (·.1.1)) ys at_).1, hkin.1]
        obtain ⟨gb, hgb⟩ : ∃ gb, gb = glueB y := ⟨_, rfl⟩
        rw [← hgb] at hta hgl
        have HGL := hideP hgl
        have HOW := hideP how
        have HB := hideP hB
        have hatm : at_ < m := by rw [← HLY.out]; exact hat
        obtain ⟨rfl, hgw, hg2⟩ := hg (by omega)
        have hgW : g < W.heap.size := (World.ownsRow.lt how g rfl).2
        have hwW : w2.heap.size < W.heap.size := World.block_lt_of_cell? W _ hbx
        clear hgl hgb how hB hq
        have HZL : Hid (at_ < (zeroAll ys (pre.map (·.1.1))).length) := hideP (by rw [zeroAll_len]; exact hat)
        cases gb with
        | false =>
          have HZ : Hid (zeroAll ys ((pre ++ [x]).map (·.1.1)) = zeroAll ys (pre.map (·.1.1))) := hideP (by rw [HA.out, zeroAll_snoc]; unfold zeroAt; rw [← HGL.out]; rfl)
          gi_wp2
          refine ⟨KeepsOthers.alloc _ _, fun h => h.grown (below1 _ _), ⟨(Below.cell (below1 W _) (p := ⟨w2.heap.size, 0, none⟩) hwW).trans hbx, ?_⟩, HB.out.alloc HB.out.size _⟩
          rw [HZ.out]
          exact HOW.out.alloc _
        | true =>
          have HZ : Hid (flatN (zeroAll ys ((pre ++ [x]).map (·.1.1))) = (flatN (zeroAll ys (pre.map (·.1.1)))).set (at_ * 15 + 1) (.int .i64 0)) := hideP (by rw [flatN_set _ _ HZL.out, HA.out, zeroAll_snoc]; unfold zeroAt; rw [← HGL.out]; rfl)
          obtain ⟨hcw, hfz⟩ := own_cell HOW.out (flatN_at _ at_ HZL.out 1 (by omega) (u := .int .i64 ((zeroAll ys (pre.map (·.1.1))).getD at_ Nd.none).wd) rfl)
          obtain ⟨wd0, hwd0⟩ : ∃ z, z = ((zeroAll ys (pre.map (·.1.1))).getD at_ Nd.none).wd := ⟨_, rfl⟩
          rw [← hwd0] at hcw
          clear hwd0
          have hati : (at_ : Int) < (m : Int) := by omega
          gi_wp2
          have hset : Below w.heap.size w (W.setCell ⟨g, at_ * 15 + 1, none⟩ (.int .i64 0)) := HB.out.setCell (p := ⟨g, at_ * 15 + 1, none⟩) hgw _
          refine ⟨(KeepsOthers.setCell _ _ _).trans (KeepsOthers.alloc _ _), fun h => (h.zero (by omega)).grown (below1 _ _), ⟨?_, ?_⟩, hset.alloc hset.size _⟩
          · rw [Below.cell (below1 (W.setCell ⟨g, at_ * 15 + 1, none⟩ (.int .i64 0)) _) (p := ⟨w2.heap.size, 0, none⟩) (by simpa using hwW), World.cell?_setCell_other _ _ _ _ (by intro e; simp only [Addr.mk.injEq] at e; omega)]
            exact hbx
          · rw [HZ.out]
            exact (own_set HOW.out _ _).alloc _
      case done =>
        rintro D its W hD hst ⟨⟨hbx, how⟩, hB⟩ hK
        have HIN : Hid (insideOf xs = zeroAll ys (starts ys (ys.length + 1) 0)) := hideP (by unfold insideOf; rw [if_pos HOB.out.symm, ← HYS.out])
        gi_wp2
        refine ⟨by simp, .inl ⟨_, _, rfl, run_takeDeferred hK, ?_⟩⟩
        refine ⟨_, results_tmp rfl _ _ _, ⟨.slice a2' m c2, rfl, ?_⟩, hB.trans (belowK_b (w := w) (Nat.le_refl _) W D _ _ (by have := HBB.out.size; omega) hK rfl rfl)⟩
        have hlen2 : (zeroAll ys (starts ys (ys.length + 1) 0)).length = m := by rw [zeroAll_len]; exact HLY.out
        rw [HIN.out, hlen2]
        have h1 := ownsRow_putObj how (.deferred none) hK rfl
        rw [hst] at h1
        exact h1
      case stop =>
        rintro D c pre W _ _ h _
        exact h.elim

theorem implInside_any {v : Value} {xs : List Nd} {w : World} (h : NRow 0 w v xs) (hs : xs.length ≤ 1048576) (hcp : ∀ a n c, v = .slice a n c → n ≤ c ∧ c ≤ 9223372036854775807) :
    Calls Try.prog 24 #[v] w fun e W' => (∃ u, e = .returned u ∧ W'.ownsRow w.heap.size 57 15 u (insideOf xs).length (flatN (insideOf xs))) ∧ Below w.heap.size w W' := callsIn_wide.1 (implInside_in h hs hcp)
end Go.Proofs.Ytomemcfmnpginaa
