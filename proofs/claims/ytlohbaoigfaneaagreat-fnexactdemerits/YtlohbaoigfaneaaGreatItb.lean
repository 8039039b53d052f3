import Derived.Test.YtlohbaoigfaneaaGreatSst
import Derived.Laws.BytesArg
import Derived.Deep.RegionWith
import Derived.Deep.RegionHeld3
import Derived.RangeFuncNested
import Derived.RangeFuncBound
import Derived.RangeFuncCalls
import Derived.RangeFuncLeaves
import Derived.Shelf.Abstract
import Derived.Shelf.RegionOpen
import Derived.WalkKit
import Derived.OwnWalkIn
import Derived.TacticsInMore
import Derived.LoopNIn
import Derived.LoopIn
import Derived.Test.YtlohbaoigfaneaaGreatNdo
import Derived.Test.YtlohbaoigfaneaaGreatNdq
import Derived.Test.YtlohbaoigfaneaaGreatSpl
import Derived.OrdersHeld
import Derived.Deep.RegionHeld
import Derived.OrdersIn
import Derived.Test.YtlohbaoigfaneaaGreatNod
import Derived.Maps.AppendAt
namespace Go.Proofs.YtlohbaoigfaneaaGreat
open Go.RowKit
set_option linter.unusedVariables false
set_option linter.unusedSimpArgs false
def mtGo (k : Nat) (out : ByteArray) : ByteArray := if h : k = 0 then out else mtGo (k / 10) (strOfNums [48 + (k : Int) % 10] ++ out)
def mtext (k : Nat) : ByteArray := ⟨#[109]⟩ ++ mtGo k ⟨#[]⟩
def mkN (q : Nat) : Nd := ⟨(q : Int), (q : Int) + 1, (q : Int) + 2, (q : Int) + 3, (q : Int) + 4, (q : Int) + 5, (q : Int) + 6, (q : Int) + 7, (q : Int) + 8, (q : Int) + 9, (q : Int) + 10, (q : Int) + 11, (q : Int) + 12, mtext (q + 13), (q : Int) + 14⟩
def marksN (k n : Nat) : List Nd := (List.range n).map (fun i => mkN (k + 15 * i))
structure Sole (g : Nat) (w w' : World) : Prop where
 below : Below g w w'
 other : ∀ b, b < w.heap.size → b ≠ g → w'.heap[b]? = w.heap[b]?
theorem Sole.refl (g : Nat) (w : World) : Sole g w w := ⟨Below.refl _ _, fun _ _ _ => rfl⟩
theorem Sole.set {g o : Nat} {w w' : World} (h : Sole g w w') (x : Value) : Sole g w (w'.setCell ⟨g, o, none⟩ x) :=
 ⟨h.below.setCell (Nat.le_refl _) _, fun b hb hn => (Below.heap_setCell _ _ _ _ (by simpa using hn)).trans (h.other b hb hn)⟩
theorem Sole.below_more {g : Nat} {w w' w2 : World} (h : Sole g w w') (hb : Below w'.heap.size w' w2) (hg : g < w'.heap.size) : Sole g w w2 :=
 ⟨h.below.trans (hb.mono (by omega)), fun b hb2 hn => (hb.block b (Nat.lt_of_lt_of_le hb2 h.below.size)).trans (h.other b hb2 hn)⟩
end Go.Proofs.YtlohbaoigfaneaaGreat
namespace Go.Proofs.YtlohbaoigfaneaaGreat
open Go.RowKit Go.Shelf
set_option linter.unusedVariables false
set_option linter.unusedSimpArgs false
attribute [local go_sem] Oper.semAt_some
theorem ok_all {len : Int} : ∀ (xs : List Nd) (i : Int) (T : List Int), 0 ≤ i → (∀ y ∈ T, y ≤ len) → okFrom len i T xs = true → ∀ x ∈ xs, goodB x = true ∧ x.kids ≤ len
 | [], _, _, _, _, _ => by simp
 | x :: xs, i, T, hi, hT, h => by
  simp only [okFrom, Bool.and_eq_true] at h
  obtain ⟨⟨⟨hg, hk⟩, _⟩, hr⟩ := h
  have hk := of_decide_eq_true hk
  have hh : (T.dropWhile (· == i)).headD len ≤ len := by
   cases he : T.dropWhile (· == i) with
   | nil => simp
   | cons a U => simpa using hT a (drop_mem (by rw [he]; exact List.mem_cons_self ..))
  have hU : ∀ y ∈ T.dropWhile (· == i), y ≤ len := fun y hy => hT y (drop_mem hy)
  intro y hy
  rcases List.mem_cons.1 hy with rfl | hy
  ·exact ⟨hg, by omega⟩
  ·refine ok_all xs (i + 1) _ (by omega) ?_ hr y hy
   intro z hz
   split at hz
   ·rcases List.mem_cons.1 hz with rfl | hz
    ·omega
    ·exact hU z hz
   ·exact hU z hz
theorem good_kids {x : Nd} (h : goodB x = true) : 0 ≤ x.kids := by
 unfold goodB at h
 simp at h
 exact h.2
theorem good_text {x : Nd} (h : goodB x = true) : x.tx.size ≤ 1000 := by
 unfold goodB specB at h
 simp only [Bool.and_eq_true, decide_eq_true_eq] at h
 have := h.1.2
 omega
theorem own_row_kept {v : Value} {base n : Nat} {xs : List Value} {A B : World} {row : Option Nat} (h : A.ownsRow base 61 15 v n xs) (hg : A.grownBy B row) (hr : ∀ r, row = some r → ∃ o : Obj, A.heap[r]? = some o ∧ o.isCells = false) : B.ownsRow base 61 15 v n xs := by
 refine World.ownsRow.kept h hg ?_
 obtain ⟨hl, ⟨rfl, _⟩ | ⟨g, cap, cur, rfl, _, hb, _⟩⟩ := h
 ·exact .inl rfl
 ·refine .inr fun e => ?_
  obtain ⟨o, ho, hc⟩ := hr g e.symm
  rw [hb] at ho
  cases ho
  cases hc
theorem Src.kept {xs : List Nd} {ao : Option Addr} {Bs b off cap : Nat} {A B : World} {row : Option Nat} (h : Src xs ao Bs b off cap A) (hg : A.grownBy B row) (hr : ∀ r, row = some r → ∃ o : Obj, A.heap[r]? = some o ∧ o.isCells = false) : Src xs ao Bs b off cap B := by
 refine ⟨cell_kept h.box hg hr, h.some_, fun i hi => ?_⟩
 obtain ⟨y, hk, hc⟩ := h.at_ i hi
 refine ⟨y, hk, fun j hj => ?_⟩
 have h1 := hc j hj
 rw [List.getElem?_eq_getElem (show j < y.cells.length from hj)] at h1 ⊢
 exact cell_kept h1 hg hr
theorem own_mono {w : World} {base base' n : Nat} {v : Value} {xs : List Value} (h : w.ownsRow base 61 15 v n xs) (hb : base' ≤ base) : w.ownsRow base' 61 15 v n xs := by
 obtain ⟨hl, h | ⟨g, cap, cur, e, hg, hr⟩⟩ := h
 ·exact ⟨hl, .inl h⟩
 ·exact ⟨hl, .inr ⟨g, cap, cur, e, Nat.le_trans hb hg, hr⟩⟩
theorem row_cells {w : World} {b off : Nat} {xs : List Nd} (hc : ∀ i, i < xs.length → ∃ cs : List Value, cs.length = 15 ∧ NdR 0 w cs (xs.getD i Nd.none) ∧ ∀ j, j < 15 → w.cell? ⟨b, off + i * 15 + j, none⟩ = cs[j]?) :
 ∀ j u, (flatN xs)[j]? = some u → w.cell? ⟨b, off + j, none⟩ = some u := by
 intro j u hj
 have hlt : j < (flatN xs).length := (List.getElem?_eq_some_iff.1 hj).1
 rw [flatN_len] at hlt
 have hi : j / 15 < xs.length := by omega
 obtain ⟨cs, hcl, hR, hcc⟩ := hc (j / 15) hi
 have h1 := flatN_get xs (j / 15) hi (j % 15) (by omega)
 rw [show j / 15 * 15 + j % 15 = j by omega, hj] at h1
 have h2 := hcc (j % 15) (by omega)
 rw [show off + j / 15 * 15 + j % 15 = off + j by omega, show cs = _ from hR, ← h1] at h2
 exact h2
theorem starts_lt (xs : List Nd) : ∀ (f i p : Nat), p ∈ starts xs f i → p < xs.length
 | 0, _, _, h => by simp [starts] at h
 | f + 1, i, p, h => by
  simp only [starts] at h
  split at h
  ·rcases List.mem_cons.1 h with rfl | h
   ·assumption
   ·exact starts_lt xs f _ p h
  ·simp at h
theorem own_NRow {w : World} {base n : Nat} {v : Value} {xs : List Nd} (h : w.ownsRow base 61 15 v n (flatN xs)) (hn : xs.length = n) : NRow base w v xs := by
 obtain ⟨ao, cap, rfl, hg⟩ := own_shape h
 refine ⟨ao, n, cap, rfl, hn, fun hp => ?_⟩
 obtain ⟨g, rfl, hb, hlt⟩ := hg hp
 refine ⟨g, 0, rfl, hb, hlt, fun i hi => ⟨(xs.getD i Nd.none).cells, rfl, rfl, fun j hj => ?_⟩⟩
 have h1 := flatN_get xs i (by omega) j hj
 rw [List.getElem?_eq_getElem (show j < (xs.getD i Nd.none).cells.length from hj)] at h1 ⊢
 rw [show 0 + i * 15 + j = i * 15 + j by omega]
 exact (own_cell h h1).1
theorem own_cap {w : World} {base n : Nat} {v : Value} {xs : List Value} (h : w.ownsRow base 61 15 v n xs) : ∀ a n c, v = .slice a n c → n ≤ c ∧ c ≤ 9223372036854775807 := by
 intro a n' c e
 obtain ⟨hl, ⟨rfl, rfl⟩ | ⟨g, cap, cur, rfl, _, _, hn, hm, _⟩⟩ := h
 ·simp at e
  omega
 ·simp at e
  unfold maxLen at hm
  omega
theorem take_snoc {α : Type} (Z : List α) (j : Nat) (d : α) (h : j < Z.length) : Z.take (j + 1) = Z.take j ++ [Z.getD j d] := by
 rw [List.take_add_one, List.getElem?_eq_getElem h]
 simp [List.getD, List.getElem?_eq_getElem h]
theorem natI_at {w : World} {base g r c : Nat} {Z : List Nat} (h : IR w base (.slice (some ⟨g, 0, none⟩) r c) r (natI Z)) (hr : Z.length = r) {j : Nat} (hj : j < r) : w.cell? ⟨g, j, none⟩ = some (.int .i64 ((Z.getD j 0 : Nat) : Int)) := by
 rw [World.ownsRow.cellAt h j (by omega)]
 unfold natI
 simp [List.getElem?_map, List.getD, List.getElem?_eq_getElem (show j < Z.length by omega)]
end Go.Proofs.YtlohbaoigfaneaaGreat
namespace Go.Proofs.YtlohbaoigfaneaaGreat
open Go.RowKit
set_option linter.unusedVariables false
set_option linter.unusedSimpArgs false
def RR (w : World) (v : Value) (n : Nat) (f : Nat → List Nd) : Prop :=
 ∃ ao cap, v = .slice ao n cap ∧ (0 < n → ∃ b off, ao = some ⟨b, off, none⟩ ∧ b < w.heap.size ∧ ∀ i, i < n → ∃ u, w.cell? ⟨b, off + i, none⟩ = some u ∧ NRow 0 w u (f i))
theorem RR.below {w w' : World} {v : Value} {n : Nat} {f : Nat → List Nd} (h : RR w v n f) (hb : Below w.heap.size w w') : RR w' v n f := by
 obtain ⟨ao, cap, rfl, hc⟩ := h
 refine ⟨ao, cap, rfl, fun hp => ?_⟩
 obtain ⟨b, off, rfl, hlt, hcell⟩ := hc hp
 refine ⟨b, off, rfl, Nat.lt_of_lt_of_le hlt hb.size, fun i hi => ?_⟩
 obtain ⟨u, hu, hr⟩ := hcell i hi
 exact ⟨u, (hb.cell (p := ⟨b, off + i, none⟩) hlt).trans hu, SRow.below ndStable hr hb⟩
structure Lsts (base : Nat) (w : World) (vs : List Value) (f : Nat → List Nd) : Prop where
 own : ∀ (i : Nat) (u : Value), vs[i]? = some u → w.ownsRow base 61 15 u (f i).length (flatN (f i))
 apart : ∀ (i j : Nat) (u t : Value), i ≠ j → vs[i]? = some u → vs[j]? = some t → ∀ b, u.ownBlock = some b → t.ownBlock ≠ some b
theorem own25_cell {base g n cap : Nat} {w : World} {xs : List Value} (h : w.ownsRow base 31 1 (.slice (some ⟨g, 0, none⟩) n cap) n xs) {j : Nat} {x : Value} (hj : xs[j]? = some x) : w.cell? ⟨g, j, none⟩ = some x ∧ w.frozen? ⟨g, j, none⟩ = false := by
 obtain ⟨hl, ⟨h, _⟩ | ⟨g', cap', cur, e, _, hb, hn, hm, hs, hx⟩⟩ := h
 ·simp at h
 ·simp only [Value.slice.injEq, Option.some.injEq, Addr.mk.injEq, and_true, true_and] at e
  obtain ⟨rfl, rfl⟩ := e
  refine ⟨?_, frozen_of_row w g j cur 31 hb⟩
  rw [cell_of_row w g _ cur 31 _ hb, ← Array.getElem?_toList]
  rw [← hx, List.getElem?_take] at hj
  split at hj
  ·exact hj
  ·simp at hj
theorem own25_shape {base n : Nat} {w : World} {v : Value} {xs : List Value} (h : w.ownsRow base 31 1 v n xs) : ∃ ao cap, v = .slice ao n cap ∧ (0 < n → ∃ g, ao = some ⟨g, 0, none⟩ ∧ base ≤ g ∧ g < w.heap.size) := by
 obtain ⟨hl, ⟨rfl, rfl⟩ | ⟨g, cap, cur, rfl, hg, hb, _⟩⟩ := h
 ·exact ⟨_, _, rfl, fun h => absurd h (Nat.lt_irrefl _)⟩
 ·exact ⟨_, _, rfl, fun _ => ⟨g, rfl, hg, (Array.getElem?_eq_some_iff.1 hb).1⟩⟩
theorem own25_len {base n : Nat} {w : World} {v : Value} {xs : List Value} (h : w.ownsRow base 31 1 v n xs) : xs.length = n := by
 have := h.1
 omega
theorem other_block {base base' n m : Nat} {w : World} {v u : Value} {xs ys : List Value} (h : w.ownsRow base 31 1 v n xs) (k : w.ownsRow base' 61 15 u m ys) : ∀ b, v.ownBlock = some b → u.ownBlock ≠ some b := by
 intro b hb hu
 obtain ⟨_, ⟨rfl, _⟩ | ⟨g, cap, cur, rfl, _, hg, _⟩⟩ := h
 ·simp [Value.ownBlock] at hb
 ·obtain ⟨_, ⟨rfl, _⟩ | ⟨g', cap', cur', rfl, _, hg', _⟩⟩ := k
  ·simp [Value.ownBlock] at hu
  ·simp [Value.ownBlock] at hb hu
   subst hb hu
   rw [hg] at hg'
   simp at hg'
def offs (f : Nat → List Nd) : Nat → Nat
 | 0 => 0
 | j + 1 => offs f j + (f j).length
def marked (k : Nat) (f : Nat → List Nd) (j : Nat) : List Nd := marksN (k + 15 * offs f j) (f j).length
theorem own25_below {base n : Nat} {w w' : World} {v : Value} {xs : List Value} (h : w.ownsRow base 31 1 v n xs) (hb : Below w.heap.size w w') : w'.ownsRow base 31 1 v n xs := by
 obtain ⟨hl, h | ⟨g, cap, cur, rfl, hg, hbk, hr⟩⟩ := h
 ·exact ⟨hl, .inl h⟩
 ·exact ⟨hl, .inr ⟨g, cap, cur, rfl, hg, (hb.block g (Array.getElem?_eq_some_iff.1 hbk).1).trans hbk, hr⟩⟩
theorem Lsts.below {base : Nat} {w w' : World} {vs : List Value} {f : Nat → List Nd} (h : Lsts base w vs f) (hb : Below w.heap.size w w') : Lsts base w' vs f :=
 ⟨fun i u hu => own_below (h.own i u hu) hb, h.apart⟩
theorem operIn_round {P : Program} {o : Oper} {a : Act} {w : World} {K : Act → World → Prop} {Q : Exit → Act → World → Prop} {l n : Nat} (hnd : ∀ c, o.op ≠ .defer c) (h : Oper.wp P o a w K Q) : Oper.wpIn (Fence.wide.inRound l) n P o a w K Q := by
 unfold Oper.wp at h
 unfold Oper.wpIn
 refine ⟨fun f _ => trivial, ?_⟩
 rw [Fence.inRound_round, Oper.semAt_some l _ _ hnd]
 generalize (execOp a.eval o).run P w = r at *
 cases r with
 | ok x w' =>
  cases x
  case value v => exact h
  case skip => exact h
  case defer d => exact h
  case enter f args => exact ⟨(fun e => by cases e), CallsIn.inRound l (callsIn_wide.2 h)⟩
  case row row args =>
   refine ⟨(fun e => by cases e), fun c cs hr => ?_⟩
   obtain ⟨v, w2, r, s⟩ := h c cs
   exact ⟨v, w2, r, stepsIn_wide.2 s⟩
  all_goals exact h.elim
 | halt x w' =>
  cases x <;> first | exact h | exact h.elim
theorem anyIn_round {P : Program} {md : Region.Mode} {ops : Array Oper} {Q : Exit → Act → World → Prop} {l n : Nat} (hnd : ∀ (i : Nat) (o : Oper), ops[i]? = some o → ∀ c, o.op ≠ .defer c) (hQ : ¬ LetsOut Q) :
 ∀ (fuel : Nat) (listed : Array Bool) (a : Act) (w : World), wpAny P md ops Q fuel listed a w → wpAnyIn (Fence.wide.inRound l) n P md ops Q fuel listed a w
 | 0, _, _, _, h => h
 | fuel + 1, listed, a, w, h => by
  refine ⟨h.1, fun i hi => ?_⟩
  have h2 := h.2 i hi
  unfold wpOp at h2
  unfold wpOpIn
  cases ho : ops[i]? with
  | none =>
   rw [ho] at h2
   exact anyIn_round hnd hQ fuel _ _ _ h2
  | some o =>
   rw [ho] at h2
   simp only at h2 ⊢
   split
   ·rename_i hw
    rw [if_pos hw] at h2
    rcases h2 with h2 | h2
    ·exact Oper.wpIn_mono (fun a w h => anyIn_round hnd hQ fuel _ a w h) (operIn_round (hnd i o ho) h2)
    ·exact absurd h2.2 hQ
   ·rename_i hw
    rw [if_neg hw] at h2
    exact ⟨fun f _ => trivial, anyIn_round hnd hQ fuel _ _ _ h2⟩
theorem region_heldR {P : Program} {ops : Array Oper} {Q : Exit → Act → World → Prop} {S : World → Prop} {l n id : Nat} {a : Act} {w : World} (hm : P.follows .mixedOrders = true) (hnd : ∀ (i : Nat) (o : Oper), ops[i]? = some o → ∀ c, o.op ≠ .defer c) (hQ : ¬ LetsOut Q)
 (h : wpAnyH P .any ops Q S ops.size (Array.replicate ops.size false) a w.drew) : (Code.region id ops true).wpIn (Fence.wide.inRound l) n P Q a w :=
 wpIn_region_any hm (anyIn_round hnd hQ _ _ _ _ (wpAny_of_held _ _ _ _ h))
end Go.Proofs.YtlohbaoigfaneaaGreat
namespace Go.Proofs.YtlohbaoigfaneaaGreat
open Go.RowKit Go.Shelf
set_option linter.unusedVariables false
set_option linter.unusedSimpArgs false
attribute [local go_sem] Oper.semAt_some
def itemAt (xs : List Nd) (p : Nat) : List Nd := (xs.drop p).take (1 + (xs.getD p Nd.none).kids.toNat)
def itemsOf (xs : List Nd) : List (List Nd) := if listB xs then (starts xs (xs.length + 1) 0).map (itemAt xs) else []
theorem ok_end {len : Int} : ∀ (xs : List Nd) (i : Int) (T : List Int), 0 ≤ i → (∀ y ∈ T, y ≤ len) → okFrom len i T xs = true → ∀ j, j < xs.length → i + j + 1 + (xs.getD j Nd.none).kids ≤ len
 | [], _, _, _, _, _, j, hj => by simp at hj
 | x :: xs, i, T, hi, hT, h, j, hj => by
  simp only [okFrom, Bool.and_eq_true] at h
  obtain ⟨⟨⟨hg, hk⟩, _⟩, hr⟩ := h
  have hk := of_decide_eq_true hk
  have hh : (T.dropWhile (· == i)).headD len ≤ len := by
   cases he : T.dropWhile (· == i) with
   | nil => simp
   | cons a U => simpa using hT a (drop_mem (by rw [he]; exact List.mem_cons_self ..))
  have hU : ∀ y ∈ T.dropWhile (· == i), y ≤ len := fun y hy => hT y (drop_mem hy)
  cases j with
  | zero => simp only [List.getD_cons_zero]; omega
  | succ j =>
   simp only [List.getD_cons_succ]
   have h2 := ok_end xs (i + 1) _ (by omega) (by
    intro z hz
    split at hz
    ·rcases List.mem_cons.1 hz with rfl | hz
     ·omega
     ·exact hU z hz
    ·exact hU z hz) hr j (by simpa using hj)
   omega
structure AllOk (xs : List Nd) : Prop where
 len : xs.length ≤ 20000
 kids : ∀ i, i < xs.length → 0 ≤ (xs.getD i Nd.none).kids ∧ (i : Int) + 1 + (xs.getD i Nd.none).kids ≤ xs.length
 text : ∀ i, i < xs.length → (xs.getD i Nd.none).tx.size ≤ 1000
theorem allOk {xs : List Nd} (h : listB xs = true) : AllOk xs := by
 unfold listB at h
 simp only [Bool.and_eq_true, decide_eq_true_eq] at h
 obtain ⟨h1, h2⟩ := h
 have hmem : ∀ i, i < xs.length → xs.getD i Nd.none ∈ xs := fun i hi => by simp [List.getD, List.getElem?_eq_getElem hi]
 have hall := ok_all xs 0 [] (by omega) (by simp) h2
 refine ⟨h1, fun i hi => ⟨good_kids (hall _ (hmem i hi)).1, ?_⟩, fun i hi => good_text (hall _ (hmem i hi)).1⟩
 have := ok_end xs 0 [] (by omega) (by simp) h2 i hi
 omega
theorem AllOk.weak {xs : List Nd} (h : AllOk xs) : ∀ i, i < xs.length → 0 ≤ (xs.getD i Nd.none).kids ∧ (xs.getD i Nd.none).kids ≤ 20000 := fun i hi => by
 have h1 := h.kids i hi
 have h2 := h.len
 omega
theorem itemAt_len {xs : List Nd} (h : AllOk xs) {p : Nat} (hp : p < xs.length) : (itemAt xs p).length = 1 + (xs.getD p Nd.none).kids.toNat := by
 have h1 := h.kids p hp
 unfold itemAt
 rw [List.length_take, List.length_drop]
 omega
theorem starts_count {xs : List Nd} : ∀ (f i : Nat), (starts xs f i).length ≤ xs.length - i
 | 0, i => by simp [starts]
 | f + 1, i => by
  simp only [starts]
  split
  ·have := starts_count (xs := xs) f (i + 1 + (xs.getD i Nd.none).kids.toNat)
   rw [List.length_cons]
   omega
  ·simp
theorem itemAt_flat {xs : List Nd} {w : World} {b off p : Nat} (hc : ∀ j u, (flatN xs)[j]? = some u → w.cell? ⟨b, off + j, none⟩ = some u) : ∀ j u, (flatN (itemAt xs p))[j]? = some u → w.cell? ⟨b, off + p * 15 + j, none⟩ = some u := by
 intro j u hj
 have hlt : j < (flatN (itemAt xs p)).length := (List.getElem?_eq_some_iff.1 hj).1
 rw [flatN_len] at hlt
 have hi : j / 15 < (itemAt xs p).length := by omega
 have h1 := flatN_get (itemAt xs p) (j / 15) hi (j % 15) (by omega)
 rw [show j / 15 * 15 + j % 15 = j by omega, hj] at h1
 have hi2 : p + j / 15 < xs.length ∧ (itemAt xs p).getD (j / 15) Nd.none = xs.getD (p + j / 15) Nd.none := by
  unfold itemAt at hi ⊢
  generalize 1 + (xs.getD p Nd.none).kids.toNat = m at hi ⊢
  rw [List.length_take, List.length_drop] at hi
  refine ⟨by omega, ?_⟩
  simp only [List.getD, List.getElem?_take, List.getElem?_drop]
  rw [if_pos (by omega)]
 rw [hi2.2] at h1
 have h2 := flatN_get xs (p + j / 15) hi2.1 (j % 15) (by omega)
 rw [← h1] at h2
 have h3 := hc _ _ h2
 rw [show off + p * 15 + j = off + ((p + j / 15) * 15 + j % 15) by omega]
 exact h3
theorem boxed_kept {A B : World} {row : Option Nat} {k : Nat} {t : TypeId} {v : Value} (h : Boxed A k t v) (hg : A.grownBy B row) (hr : ∀ r, row = some r → ∃ o : Obj, A.heap[r]? = some o ∧ o.isCells = false) : Boxed B k t v :=
 h.kept hg (fun e => by
  obtain ⟨o, ho, hc⟩ := hr k e.symm
  rw [show A.heap[k]? = _ from h] at ho
  cases ho
  cases hc)
theorem Lsts.kept {base : Nat} {vs : List Value} {f : Nat → List Nd} {A B : World} {row : Option Nat} (h : Lsts base A vs f) (hg : A.grownBy B row) (hr : ∀ r, row = some r → ∃ o : Obj, A.heap[r]? = some o ∧ o.isCells = false) : Lsts base B vs f :=
 ⟨fun i u hu => own_row_kept (h.own i u hu) hg hr, h.apart⟩
def plainOp (o : Oper) : Bool := match o.op with | .defer _ => false | _ => true
theorem plain_spec {ops : Array Oper} (h : ops.all plainOp = true) : ∀ (i : Nat) (o : Oper), ops[i]? = some o → ∀ c, o.op ≠ .defer c := by
 intro i o ho c hc
 have h1 := Array.all_eq_true_iff_forall_mem.1 h o (Array.mem_of_getElem? ho)
 unfold plainOp at h1
 rw [hc] at h1
 cases h1
theorem wp_append_at {P : Program} {w : World} {o : Oper} {a : Act} {K : Act → World → Prop} {Q : Exit → Act → World → Prop} (s x : Operand) (t : TypeId)
 (ho : o.op = .call { callee := .builtin .append, args := #[s, x], argTypes := #[t, t] })
 (base : Nat) (e : TypeId) (i : TypeInfo) (z : Value) (size bytes : Nat) (ht : P.underlying t = some (.slice e)) (hi : P.info? e = some i) (hz : i.zero = some z)
 (hsize : i.size = size) (hby : i.bytes = bytes) (hzs : z.cells.size = size) (hsz : 0 < size)
 (v : Value) (n : Nat) (xs : List Value) (hs : a.eval s = v) (hown : w.ownsRow base e size v n xs)
 (ad : Addr) (m c : Nat) (news : List Value) (hx : a.eval x = .slice (some ad) m c) (hl : news.length = m * size) (hnews : ∀ j u, news[j]? = some u → w.cell? (ad.add j) = some u) (h1 : ∀ u ∈ news, u.oneCell' = true)
 (h63 : n + m ≤ maxLen) (hbytes : (n + m) * bytes ≤ 140737488355328) (hbase : base ≤ w.heap.size)
 (h : ∀ v' w', w'.ownsRow base e size v' (n + m) (xs ++ news) → w.grownBy w' v.ownBlock → (v' = .slice none 0 0 ↔ v = .slice none 0 0 ∧ m = 0) → (v'.ownBlock = v.ownBlock ∨ v'.ownBlock = some w.heap.size) → K (a.put o.dst v') w') : o.wp P a w K Q := by
 obtain ⟨v', w', hr, h2, h3, h4, h5⟩ := run_append_own_at (P := P) w base t o.type e i z size bytes ht hi hz hsize hby hzs hsz v n xs hown ad m c news hl hnews h1 h63 hbytes hbase
 unfold Oper.wp execOp
 simp only [ho, resolve, invoke, builtin, Sem.run_bind, Sem.run_pure, Result.andThen_ok, List.map_toArray, List.map_cons, List.map_nil, hs, hx, hr]
 exact h v' w' h2 h3 h4 h5
structure Round (xs : List Nd) (ao : Option Addr) (Bs b off cap base B k : Nat) (w W : World) (V u : Value) (vs : List Value) (f : Nat → List Nd) : Prop where
 hbx : Boxed W base 31 V
 hbu : Boxed W B 53 u
 how : W.ownsRow base 31 1 u k vs
 hls : Lsts base W vs f
 hne : ∀ g, u.ownBlock = some g → g ≠ base ∧ g ≠ Bs
 hB : Below base w W
 hbs : Bs < W.heap.size
end Go.Proofs.YtlohbaoigfaneaaGreat
