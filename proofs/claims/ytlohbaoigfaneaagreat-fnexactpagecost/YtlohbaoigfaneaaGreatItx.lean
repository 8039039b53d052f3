import Derived.Test.YtlohbaoigfaneaaGreatNdo
import Derived.Laws.BytesArg
import Derived.Deep.RegionWith
import Derived.Deep.RegionHeld3
import Derived.RangeFuncNested
import Derived.RangeFuncBound
import Derived.RangeFuncCalls
import Derived.RangeFuncLeaves
import Derived.Shelf.Abstract
import Derived.Shelf.RegionOpen
import Derived.WalkKit
import Derived.OwnWalkIn
import Derived.TacticsInMore
import Derived.LoopNIn
import Derived.LoopIn
import Derived.Test.YtlohbaoigfaneaaGreatNdq
import Derived.Test.YtlohbaoigfaneaaGreatSpl
import Derived.OrdersHeld
import Derived.Deep.RegionHeld
import Derived.OrdersIn
import Derived.Test.YtlohbaoigfaneaaGreatNod
import Derived.Maps.AppendAt
import Derived.Test.YtlohbaoigfaneaaGreatBrk
import Derived.Test.YtlohbaoigfaneaaGreatAdl
import Derived.Test.YtlohbaoigfaneaaGreatLok
namespace Go.Proofs.YtlohbaoigfaneaaGreat
open Go.RowKit
set_option linter.unusedVariables false
set_option linter.unusedSimpArgs false
def mtGo (k : Nat) (out : ByteArray) : ByteArray := if h : k = 0 then out else mtGo (k / 10) (strOfNums [48 + (k : Int) % 10] ++ out)
def mtext (k : Nat) : ByteArray := ⟨#[109]⟩ ++ mtGo k ⟨#[]⟩
def mkN (q : Nat) : Nd := ⟨(q : Int), (q : Int) + 1, (q : Int) + 2, (q : Int) + 3, (q : Int) + 4, (q : Int) + 5, (q : Int) + 6, (q : Int) + 7, (q : Int) + 8, (q : Int) + 9, (q : Int) + 10, (q : Int) + 11, (q : Int) + 12, mtext (q + 13), (q : Int) + 14⟩
def marksN (k n : Nat) : List Nd := (List.range n).map (fun i => mkN (k + 15 * i))
structure Sole (g : Nat) (w w' : World) : Prop where
 below : Below g w w'
 other : ∀ b, b < w.heap.size → b ≠ g → w'.heap[b]? = w.heap[b]?
theorem Sole.refl (g : Nat) (w : World) : Sole g w w := ⟨Below.refl _ _, fun _ _ _ => rfl⟩
theorem Sole.set {g o : Nat} {w w' : World} (h : Sole g w w') (x : Value) : Sole g w (w'.setCell ⟨g, o, none⟩ x) :=
 ⟨h.below.setCell (Nat.le_refl _) _, fun b hb hn => (Below.heap_setCell _ _ _ _ (by simpa using hn)).trans (h.other b hb hn)⟩
theorem Sole.below_more {g : Nat} {w w' w2 : World} (h : Sole g w w') (hb : Below w'.heap.size w' w2) (hg : g < w'.heap.size) : Sole g w w2 :=
 ⟨h.below.trans (hb.mono (by omega)), fun b hb2 hn => (hb.block b (Nat.lt_of_lt_of_le hb2 h.below.size)).trans (h.other b hb2 hn)⟩
end Go.Proofs.YtlohbaoigfaneaaGreat
namespace Go.Proofs.YtlohbaoigfaneaaGreat
open Go.RowKit Go.Shelf
set_option linter.unusedVariables false
set_option linter.unusedSimpArgs false
attribute [local go_sem] Oper.semAt_some
theorem ok_all {len : Int} : ∀ (xs : List Nd) (i : Int) (T : List Int), 0 ≤ i → (∀ y ∈ T, y ≤ len) → okFrom len i T xs = true → ∀ x ∈ xs, goodB x = true ∧ x.kids ≤ len
 | [], _, _, _, _, _ => by simp
 | x :: xs, i, T, hi, hT, h => by
  simp only [okFrom, Bool.and_eq_true] at h
  obtain ⟨⟨⟨hg, hk⟩, _⟩, hr⟩ := h
  have hk := of_decide_eq_true hk
  have hh : (T.dropWhile (· == i)).headD len ≤ len := by
   cases he : T.dropWhile (· == i) with
   | nil => simp
   | cons a U => simpa using hT a (drop_mem (by rw [he]; exact List.mem_cons_self ..))
  have hU : ∀ y ∈ T.dropWhile (· == i), y ≤ len := fun y hy => hT y (drop_mem hy)
  intro y hy
  rcases List.mem_cons.1 hy with rfl | hy
  ·exact ⟨hg, by omega⟩
  ·refine ok_all xs (i + 1) _ (by omega) ?_ hr y hy
   intro z hz
   split at hz
   ·rcases List.mem_cons.1 hz with rfl | hz
    ·omega
    ·exact hU z hz
   ·exact hU z hz
theorem good_kids {x : Nd} (h : goodB x = true) : 0 ≤ x.kids := by
 unfold goodB at h
 simp at h
 exact h.2
theorem good_text {x : Nd} (h : goodB x = true) : x.tx.size ≤ 1000 := by
 unfold goodB specB at h
 simp only [Bool.and_eq_true, decide_eq_true_eq] at h
 have := h.1.2
 omega
theorem own_row_kept {v : Value} {base n : Nat} {xs : List Value} {A B : World} {row : Option Nat} (h : A.ownsRow base 61 15 v n xs) (hg : A.grownBy B row) (hr : ∀ r, row = some r → ∃ o : Obj, A.heap[r]? = some o ∧ o.isCells = false) : B.ownsRow base 61 15 v n xs := by
 refine World.ownsRow.kept h hg ?_
 obtain ⟨hl, ⟨rfl, _⟩ | ⟨g, cap, cur, rfl, _, hb, _⟩⟩ := h
 ·exact .inl rfl
 ·refine .inr fun e => ?_
  obtain ⟨o, ho, hc⟩ := hr g e.symm
  rw [hb] at ho
  cases ho
  cases hc
theorem Src.kept {xs : List Nd} {ao : Option Addr} {Bs b off cap : Nat} {A B : World} {row : Option Nat} (h : Src xs ao Bs b off cap A) (hg : A.grownBy B row) (hr : ∀ r, row = some r → ∃ o : Obj, A.heap[r]? = some o ∧ o.isCells = false) : Src xs ao Bs b off cap B := by
 refine ⟨cell_kept h.box hg hr, h.some_, fun i hi => ?_⟩
 obtain ⟨y, hk, hc⟩ := h.at_ i hi
 refine ⟨y, hk, fun j hj => ?_⟩
 have h1 := hc j hj
 rw [List.getElem?_eq_getElem (show j < y.cells.length from hj)] at h1 ⊢
 exact cell_kept h1 hg hr
theorem own_mono {w : World} {base base' n : Nat} {v : Value} {xs : List Value} (h : w.ownsRow base 61 15 v n xs) (hb : base' ≤ base) : w.ownsRow base' 61 15 v n xs := by
 obtain ⟨hl, h | ⟨g, cap, cur, e, hg, hr⟩⟩ := h
 ·exact ⟨hl, .inl h⟩
 ·exact ⟨hl, .inr ⟨g, cap, cur, e, Nat.le_trans hb hg, hr⟩⟩
theorem row_cells {w : World} {b off : Nat} {xs : List Nd} (hc : ∀ i, i < xs.length → ∃ cs : List Value, cs.length = 15 ∧ NdR 0 w cs (xs.getD i Nd.none) ∧ ∀ j, j < 15 → w.cell? ⟨b, off + i * 15 + j, none⟩ = cs[j]?) :
 ∀ j u, (flatN xs)[j]? = some u → w.cell? ⟨b, off + j, none⟩ = some u := by
 intro j u hj
 have hlt : j < (flatN xs).length := (List.getElem?_eq_some_iff.1 hj).1
 rw [flatN_len] at hlt
 have hi : j / 15 < xs.length := by omega
 obtain ⟨cs, hcl, hR, hcc⟩ := hc (j / 15) hi
 have h1 := flatN_get xs (j / 15) hi (j % 15) (by omega)
 rw [show j / 15 * 15 + j % 15 = j by omega, hj] at h1
 have h2 := hcc (j % 15) (by omega)
 rw [show off + j / 15 * 15 + j % 15 = off + j by omega, show cs = _ from hR, ← h1] at h2
 exact h2
theorem starts_lt (xs : List Nd) : ∀ (f i p : Nat), p ∈ starts xs f i → p < xs.length
 | 0, _, _, h => by simp [starts] at h
 | f + 1, i, p, h => by
  simp only [starts] at h
  split at h
  ·rcases List.mem_cons.1 h with rfl | h
   ·assumption
   ·exact starts_lt xs f _ p h
  ·simp at h
theorem own_NRow {w : World} {base n : Nat} {v : Value} {xs : List Nd} (h : w.ownsRow base 61 15 v n (flatN xs)) (hn : xs.length = n) : NRow base w v xs := by
 obtain ⟨ao, cap, rfl, hg⟩ := own_shape h
 refine ⟨ao, n, cap, rfl, hn, fun hp => ?_⟩
 obtain ⟨g, rfl, hb, hlt⟩ := hg hp
 refine ⟨g, 0, rfl, hb, hlt, fun i hi => ⟨(xs.getD i Nd.none).cells, rfl, rfl, fun j hj => ?_⟩⟩
 have h1 := flatN_get xs i (by omega) j hj
 rw [List.getElem?_eq_getElem (show j < (xs.getD i Nd.none).cells.length from hj)] at h1 ⊢
 rw [show 0 + i * 15 + j = i * 15 + j by omega]
 exact (own_cell h h1).1
theorem own_cap {w : World} {base n : Nat} {v : Value} {xs : List Value} (h : w.ownsRow base 61 15 v n xs) : ∀ a n c, v = .slice a n c → n ≤ c ∧ c ≤ 9223372036854775807 := by
 intro a n' c e
 obtain ⟨hl, ⟨rfl, rfl⟩ | ⟨g, cap, cur, rfl, _, _, hn, hm, _⟩⟩ := h
 ·simp at e
  omega
 ·simp at e
  unfold maxLen at hm
  omega
theorem take_snoc {α : Type} (Z : List α) (j : Nat) (d : α) (h : j < Z.length) : Z.take (j + 1) = Z.take j ++ [Z.getD j d] := by
 rw [List.take_add_one, List.getElem?_eq_getElem h]
 simp [List.getD, List.getElem?_eq_getElem h]
theorem natI_at {w : World} {base g r c : Nat} {Z : List Nat} (h : IR w base (.slice (some ⟨g, 0, none⟩) r c) r (natI Z)) (hr : Z.length = r) {j : Nat} (hj : j < r) : w.cell? ⟨g, j, none⟩ = some (.int .i64 ((Z.getD j 0 : Nat) : Int)) := by
 rw [World.ownsRow.cellAt h j (by omega)]
 unfold natI
 simp [List.getElem?_map, List.getD, List.getElem?_eq_getElem (show j < Z.length by omega)]
end Go.Proofs.YtlohbaoigfaneaaGreat
namespace Go.Proofs.YtlohbaoigfaneaaGreat
open Go.RowKit
set_option linter.unusedVariables false
set_option linter.unusedSimpArgs false
def RR (w : World) (v : Value) (n : Nat) (f : Nat → List Nd) : Prop :=
 ∃ ao cap, v = .slice ao n cap ∧ (0 < n → ∃ b off, ao = some ⟨b, off, none⟩ ∧ b < w.heap.size ∧ ∀ i, i < n → ∃ u, w.cell? ⟨b, off + i, none⟩ = some u ∧ NRow 0 w u (f i))
theorem RR.below {w w' : World} {v : Value} {n : Nat} {f : Nat → List Nd} (h : RR w v n f) (hb : Below w.heap.size w w') : RR w' v n f := by
 obtain ⟨ao, cap, rfl, hc⟩ := h
 refine ⟨ao, cap, rfl, fun hp => ?_⟩
 obtain ⟨b, off, rfl, hlt, hcell⟩ := hc hp
 refine ⟨b, off, rfl, Nat.lt_of_lt_of_le hlt hb.size, fun i hi => ?_⟩
 obtain ⟨u, hu, hr⟩ := hcell i hi
 exact ⟨u, (hb.cell (p := ⟨b, off + i, none⟩) hlt).trans hu, SRow.below ndStable hr hb⟩
structure Lsts (base : Nat) (w : World) (vs : List Value) (f : Nat → List Nd) : Prop where
 own : ∀ (i : Nat) (u : Value), vs[i]? = some u → w.ownsRow base 61 15 u (f i).length (flatN (f i))
 apart : ∀ (i j : Nat) (u t : Value), i ≠ j → vs[i]? = some u → vs[j]? = some t → ∀ b, u.ownBlock = some b → t.ownBlock ≠ some b
theorem own25_cell {base g n cap : Nat} {w : World} {xs : List Value} (h : w.ownsRow base 31 1 (.slice (some ⟨g, 0, none⟩) n cap) n xs) {j : Nat} {x : Value} (hj : xs[j]? = some x) : w.cell? ⟨g, j, none⟩ = some x ∧ w.frozen? ⟨g, j, none⟩ = false := by
 obtain ⟨hl, ⟨h, _⟩ | ⟨g', cap', cur, e, _, hb, hn, hm, hs, hx⟩⟩ := h
 ·simp at h
 ·simp only [Value.slice.injEq, Option.some.injEq, Addr.mk.injEq, and_true, true_and] at e
  obtain ⟨rfl, rfl⟩ := e
  refine ⟨?_, frozen_of_row w g j cur 31 hb⟩
  rw [cell_of_row w g _ cur 31 _ hb, ← Array.getElem?_toList]
  rw [← hx, List.getElem?_take] at hj
  split at hj
  ·exact hj
  ·simp at hj
theorem own25_shape {base n : Nat} {w : World} {v : Value} {xs : List Value} (h : w.ownsRow base 31 1 v n xs) : ∃ ao cap, v = .slice ao n cap ∧ (0 < n → ∃ g, ao = some ⟨g, 0, none⟩ ∧ base ≤ g ∧ g < w.heap.size) := by
 obtain ⟨hl, ⟨rfl, rfl⟩ | ⟨g, cap, cur, rfl, hg, hb, _⟩⟩ := h
 ·exact ⟨_, _, rfl, fun h => absurd h (Nat.lt_irrefl _)⟩
 ·exact ⟨_, _, rfl, fun _ => ⟨g, rfl, hg, (Array.getElem?_eq_some_iff.1 hb).1⟩⟩
theorem own25_len {base n : Nat} {w : World} {v : Value} {xs : List Value} (h : w.ownsRow base 31 1 v n xs) : xs.length = n := by
 have := h.1
 omega
theorem other_block {base base' n m : Nat} {w : World} {v u : Value} {xs ys : List Value} (h : w.ownsRow base 31 1 v n xs) (k : w.ownsRow base' 61 15 u m ys) : ∀ b, v.ownBlock = some b → u.ownBlock ≠ some b := by
 intro b hb hu
 obtain ⟨_, ⟨rfl, _⟩ | ⟨g, cap, cur, rfl, _, hg, _⟩⟩ := h
 ·simp [Value.ownBlock] at hb
 ·obtain ⟨_, ⟨rfl, _⟩ | ⟨g', cap', cur', rfl, _, hg', _⟩⟩ := k
  ·simp [Value.ownBlock] at hu
  ·simp [Value.ownBlock] at hb hu
   subst hb hu
   rw [hg] at hg'
   simp at hg'
def offs (f : Nat → List Nd) : Nat → Nat
 | 0 => 0
 | j + 1 => offs f j + (f j).length
def marked (k : Nat) (f : Nat → List Nd) (j : Nat) : List Nd := marksN (k + 15 * offs f j) (f j).length
theorem own25_below {base n : Nat} {w w' : World} {v : Value} {xs : List Value} (h : w.ownsRow base 31 1 v n xs) (hb : Below w.heap.size w w') : w'.ownsRow base 31 1 v n xs := by
 obtain ⟨hl, h | ⟨g, cap, cur, rfl, hg, hbk, hr⟩⟩ := h
 ·exact ⟨hl, .inl h⟩
 ·exact ⟨hl, .inr ⟨g, cap, cur, rfl, hg, (hb.block g (Array.getElem?_eq_some_iff.1 hbk).1).trans hbk, hr⟩⟩
theorem Lsts.below {base : Nat} {w w' : World} {vs : List Value} {f : Nat → List Nd} (h : Lsts base w vs f) (hb : Below w.heap.size w w') : Lsts base w' vs f :=
 ⟨fun i u hu => own_below (h.own i u hu) hb, h.apart⟩
theorem operIn_round {P : Program} {o : Oper} {a : Act} {w : World} {K : Act → World → Prop} {Q : Exit → Act → World → Prop} {l n : Nat} (hnd : ∀ c, o.op ≠ .defer c) (h : Oper.wp P o a w K Q) : Oper.wpIn (Fence.wide.inRound l) n P o a w K Q := by
 unfold Oper.wp at h
 unfold Oper.wpIn
 refine ⟨fun f _ => trivial, ?_⟩
 rw [Fence.inRound_round, Oper.semAt_some l _ _ hnd]
 generalize (execOp a.eval o).run P w = r at *
 cases r with
 | ok x w' =>
  cases x
  case value v => exact h
  case skip => exact h
  case defer d => exact h
  case enter f args => exact ⟨(fun e => by cases e), CallsIn.inRound l (callsIn_wide.2 h)⟩
  case row row args =>
   refine ⟨(fun e => by cases e), fun c cs hr => ?_⟩
   obtain ⟨v, w2, r, s⟩ := h c cs
   exact ⟨v, w2, r, stepsIn_wide.2 s⟩
  all_goals exact h.elim
 | halt x w' =>
  cases x <;> first | exact h | exact h.elim
theorem anyIn_round {P : Program} {md : Region.Mode} {ops : Array Oper} {Q : Exit → Act → World → Prop} {l n : Nat} (hnd : ∀ (i : Nat) (o : Oper), ops[i]? = some o → ∀ c, o.op ≠ .defer c) (hQ : ¬ LetsOut Q) :
 ∀ (fuel : Nat) (listed : Array Bool) (a : Act) (w : World), wpAny P md ops Q fuel listed a w → wpAnyIn (Fence.wide.inRound l) n P md ops Q fuel listed a w
 | 0, _, _, _, h => h
 | fuel + 1, listed, a, w, h => by
  refine ⟨h.1, fun i hi => ?_⟩
  have h2 := h.2 i hi
  unfold wpOp at h2
  unfold wpOpIn
  cases ho : ops[i]? with
  | none =>
   rw [ho] at h2
   exact anyIn_round hnd hQ fuel _ _ _ h2
  | some o =>
   rw [ho] at h2
   simp only at h2 ⊢
   split
   ·rename_i hw
    rw [if_pos hw] at h2
    rcases h2 with h2 | h2
    ·exact Oper.wpIn_mono (fun a w h => anyIn_round hnd hQ fuel _ a w h) (operIn_round (hnd i o ho) h2)
    ·exact absurd h2.2 hQ
   ·rename_i hw
    rw [if_neg hw] at h2
    exact ⟨fun f _ => trivial, anyIn_round hnd hQ fuel _ _ _ h2⟩
theorem region_heldR {P : Program} {ops : Array Oper} {Q : Exit → Act → World → Prop} {S : World → Prop} {l n id : Nat} {a : Act} {w : World} (hm : P.follows .mixedOrders = true) (hnd : ∀ (i : Nat) (o : Oper), ops[i]? = some o → ∀ c, o.op ≠ .defer c) (hQ : ¬ LetsOut Q)
 (h : wpAnyH P .any ops Q S ops.size (Array.replicate ops.size false) a w.drew) : (Code.region id ops true).wpIn (Fence.wide.inRound l) n P Q a w :=
 wpIn_region_any hm (anyIn_round hnd hQ _ _ _ _ (wpAny_of_held _ _ _ _ h))
end Go.Proofs.YtlohbaoigfaneaaGreat
namespace Go.Proofs.YtlohbaoigfaneaaGreat
open Go.RowKit Go.Shelf
set_option linter.unusedVariables false
set_option linter.unusedSimpArgs false
attribute [local go_sem] Oper.semAt_some
def itemAt (xs : List Nd) (p : Nat) : List Nd := (xs.drop p).take (1 + (xs.getD p Nd.none).kids.toNat)
def itemsOf (xs : List Nd) : List (List Nd) := if listB xs then (starts xs (xs.length + 1) 0).map (itemAt xs) else []
theorem ok_end {len : Int} : ∀ (xs : List Nd) (i : Int) (T : List Int), 0 ≤ i → (∀ y ∈ T, y ≤ len) → okFrom len i T xs = true → ∀ j, j < xs.length → i + j + 1 + (xs.getD j Nd.none).kids ≤ len
 | [], _, _, _, _, _, j, hj => by simp at hj
 | x :: xs, i, T, hi, hT, h, j, hj => by
  simp only [okFrom, Bool.and_eq_true] at h
  obtain ⟨⟨⟨hg, hk⟩, _⟩, hr⟩ := h
  have hk := of_decide_eq_true hk
  have hh : (T.dropWhile (· == i)).headD len ≤ len := by
   cases he : T.dropWhile (· == i) with
   | nil => simp
   | cons a U => simpa using hT a (drop_mem (by rw [he]; exact List.mem_cons_self ..))
  have hU : ∀ y ∈ T.dropWhile (· == i), y ≤ len := fun y hy => hT y (drop_mem hy)
  cases j with
  | zero => simp only [List.getD_cons_zero]; omega
  | succ j =>
   simp only [List.getD_cons_succ]
   have h2 := ok_end xs (i + 1) _ (by omega) (by
    intro z hz
    split at hz
    ·rcases List.mem_cons.1 hz with rfl | hz
     ·omega
     ·exact hU z hz
    ·exact hU z hz) hr j (by simpa using hj)
   omega
structure AllOk (xs : List Nd) : Prop where
 len : xs.length ≤ 20000
 kids : ∀ i, i < xs.length → 0 ≤ (xs.getD i Nd.none).kids ∧ (i : Int) + 1 + (xs.getD i Nd.none).kids ≤ xs.length
 text : ∀ i, i < xs.length → (xs.getD i Nd.none).tx.size ≤ 1000
theorem allOk {xs : List Nd} (h : listB xs = true) : AllOk xs := by
 unfold listB at h
 simp only [Bool.and_eq_true, decide_eq_true_eq] at h
 obtain ⟨h1, h2⟩ := h
 have hmem : ∀ i, i < xs.length → xs.getD i Nd.none ∈ xs := fun i hi => by simp [List.getD, List.getElem?_eq_getElem hi]
 have hall := ok_all xs 0 [] (by omega) (by simp) h2
 refine ⟨h1, fun i hi => ⟨good_kids (hall _ (hmem i hi)).1, ?_⟩, fun i hi => good_text (hall _ (hmem i hi)).1⟩
 have := ok_end xs 0 [] (by omega) (by simp) h2 i hi
 omega
theorem AllOk.weak {xs : List Nd} (h : AllOk xs) : ∀ i, i < xs.length → 0 ≤ (xs.getD i Nd.none).kids ∧ (xs.getD i Nd.none).kids ≤ 20000 := fun i hi => by
 have h1 := h.kids i hi
 have h2 := h.len
 omega
theorem itemAt_len {xs : List Nd} (h : AllOk xs) {p : Nat} (hp : p < xs.length) : (itemAt xs p).length = 1 + (xs.getD p Nd.none).kids.toNat := by
 have h1 := h.kids p hp
 unfold itemAt
 rw [List.length_take, List.length_drop]
 omega
theorem starts_sum {xs : List Nd} (h : AllOk xs) : ∀ (f i : Nat), i ≤ xs.length → ((starts xs f i).map (fun p => (itemAt xs p).length)).sum ≤ xs.length - i
 | 0, i, hi => by simp [starts]
 | f + 1, i, hi => by
  simp only [starts]
  split
  ·rename_i hlt
   have h1 := h.kids i hlt
   have h2 := starts_sum h f (i + 1 + (xs.getD i Nd.none).kids.toNat) (by omega)
   rw [List.map_cons, List.sum_cons, itemAt_len h hlt]
   omega
  ·simp
theorem starts_count {xs : List Nd} : ∀ (f i : Nat), (starts xs f i).length ≤ xs.length - i
 | 0, i => by simp [starts]
 | f + 1, i => by
  simp only [starts]
  split
  ·have := starts_count (xs := xs) f (i + 1 + (xs.getD i Nd.none).kids.toNat)
   rw [List.length_cons]
   omega
  ·simp
theorem itemAt_flat {xs : List Nd} {w : World} {b off p : Nat} (hc : ∀ j u, (flatN xs)[j]? = some u → w.cell? ⟨b, off + j, none⟩ = some u) : ∀ j u, (flatN (itemAt xs p))[j]? = some u → w.cell? ⟨b, off + p * 15 + j, none⟩ = some u := by
 intro j u hj
 have hlt : j < (flatN (itemAt xs p)).length := (List.getElem?_eq_some_iff.1 hj).1
 rw [flatN_len] at hlt
 have hi : j / 15 < (itemAt xs p).length := by omega
 have h1 := flatN_get (itemAt xs p) (j / 15) hi (j % 15) (by omega)
 rw [show j / 15 * 15 + j % 15 = j by omega, hj] at h1
 have hi2 : p + j / 15 < xs.length ∧ (itemAt xs p).getD (j / 15) Nd.none = xs.getD (p + j / 15) Nd.none := by
  unfold itemAt at hi ⊢
  generalize 1 + (xs.getD p Nd.none).kids.toNat = m at hi ⊢
  rw [List.length_take, List.length_drop] at hi
  refine ⟨by omega, ?_⟩
  simp only [List.getD, List.getElem?_take, List.getElem?_drop]
  rw [if_pos (by omega)]
 rw [hi2.2] at h1
 have h2 := flatN_get xs (p + j / 15) hi2.1 (j % 15) (by omega)
 rw [← h1] at h2
 have h3 := hc _ _ h2
 rw [show off + p * 15 + j = off + ((p + j / 15) * 15 + j % 15) by omega]
 exact h3
theorem boxed_kept {A B : World} {row : Option Nat} {k : Nat} {t : TypeId} {v : Value} (h : Boxed A k t v) (hg : A.grownBy B row) (hr : ∀ r, row = some r → ∃ o : Obj, A.heap[r]? = some o ∧ o.isCells = false) : Boxed B k t v :=
 h.kept hg (fun e => by
  obtain ⟨o, ho, hc⟩ := hr k e.symm
  rw [show A.heap[k]? = _ from h] at ho
  cases ho
  cases hc)
theorem Lsts.kept {base : Nat} {vs : List Value} {f : Nat → List Nd} {A B : World} {row : Option Nat} (h : Lsts base A vs f) (hg : A.grownBy B row) (hr : ∀ r, row = some r → ∃ o : Obj, A.heap[r]? = some o ∧ o.isCells = false) : Lsts base B vs f :=
 ⟨fun i u hu => own_row_kept (h.own i u hu) hg hr, h.apart⟩
def plainOp (o : Oper) : Bool := match o.op with | .defer _ => false | _ => true
theorem plain_spec {ops : Array Oper} (h : ops.all plainOp = true) : ∀ (i : Nat) (o : Oper), ops[i]? = some o → ∀ c, o.op ≠ .defer c := by
 intro i o ho c hc
 have h1 := Array.all_eq_true_iff_forall_mem.1 h o (Array.mem_of_getElem? ho)
 unfold plainOp at h1
 rw [hc] at h1
 cases h1
theorem wp_append_at {P : Program} {w : World} {o : Oper} {a : Act} {K : Act → World → Prop} {Q : Exit → Act → World → Prop} (s x : Operand) (t : TypeId)
 (ho : o.op = .call { callee := .builtin .append, args := #[s, x], argTypes := #[t, t] })
 (base : Nat) (e : TypeId) (i : TypeInfo) (z : Value) (size bytes : Nat) (ht : P.underlying t = some (.slice e)) (hi : P.info? e = some i) (hz : i.zero = some z)
 (hsize : i.size = size) (hby : i.bytes = bytes) (hzs : z.cells.size = size) (hsz : 0 < size)
 (v : Value) (n : Nat) (xs : List Value) (hs : a.eval s = v) (hown : w.ownsRow base e size v n xs)
 (ad : Addr) (m c : Nat) (news : List Value) (hx : a.eval x = .slice (some ad) m c) (hl : news.length = m * size) (hnews : ∀ j u, news[j]? = some u → w.cell? (ad.add j) = some u) (h1 : ∀ u ∈ news, u.oneCell' = true)
 (h63 : n + m ≤ maxLen) (hbytes : (n + m) * bytes ≤ 140737488355328) (hbase : base ≤ w.heap.size)
 (h : ∀ v' w', w'.ownsRow base e size v' (n + m) (xs ++ news) → w.grownBy w' v.ownBlock → (v' = .slice none 0 0 ↔ v = .slice none 0 0 ∧ m = 0) → (v'.ownBlock = v.ownBlock ∨ v'.ownBlock = some w.heap.size) → K (a.put o.dst v') w') : o.wp P a w K Q := by
 obtain ⟨v', w', hr, h2, h3, h4, h5⟩ := run_append_own_at (P := P) w base t o.type e i z size bytes ht hi hz hsize hby hzs hsz v n xs hown ad m c news hl hnews h1 h63 hbytes hbase
 unfold Oper.wp execOp
 simp only [ho, resolve, invoke, builtin, Sem.run_bind, Sem.run_pure, Result.andThen_ok, List.map_toArray, List.map_cons, List.map_nil, hs, hx, hr]
 exact h v' w' h2 h3 h4 h5
structure Round (xs : List Nd) (ao : Option Addr) (Bs b off cap base B k : Nat) (w W : World) (V u : Value) (vs : List Value) (f : Nat → List Nd) : Prop where
 hbx : Boxed W base 31 V
 hbu : Boxed W B 53 u
 how : W.ownsRow base 31 1 u k vs
 hls : Lsts base W vs f
 hne : ∀ g, u.ownBlock = some g → g ≠ base ∧ g ≠ Bs
 hB : Below base w W
 hbs : Bs < W.heap.size
attribute [local go_sem] Oper.semAt_some
def itAt (xs : List Nd) (i : Nat) : It := (xs.getD i Nd.none, (i : Int), (i : Int) + 1 + (xs.getD i Nd.none).kids)
def its (xs : List Nd) : List It := (starts xs (xs.length + 1) 0).map (itAt xs)
def flatI (ys : List It) : List Value := ys.flatMap (fun y => [thV y.1, .int .i64 y.2.1, .int .i64 y.2.2])
theorem flatI_snoc (ys : List It) (y : It) : flatI (ys ++ [y]) = flatI ys ++ [thV y.1, .int .i64 y.2.1, .int .i64 y.2.2] := by simp [flatI]
theorem Tryz.info141i : (Tryz.prog.info? 186).map (fun i => (i.zero, i.size, i.bytes)) = some (some (.agg #[.nilIface, .int .i64 0, .int .i64 0]), 3, 32) := by kernel_rfl
theorem ownG_kept {v : Value} {base e s n : Nat} {xs : List Value} {A B : World} {row : Option Nat} (h : A.ownsRow base e s v n xs) (hg : A.grownBy B row) (hr : ∀ r, row = some r → ∃ o : Obj, A.heap[r]? = some o ∧ o.isCells = false) : B.ownsRow base e s v n xs := by
 refine World.ownsRow.kept h hg ?_
 obtain ⟨hl, ⟨rfl, _⟩ | ⟨g, cap, cur, rfl, _, hb, _⟩⟩ := h
 ·exact .inl rfl
 ·refine .inr fun e => ?_
  obtain ⟨o, ho, hc⟩ := hr g e.symm
  rw [hb] at ho
  cases ho
  cases hc
theorem ownG_shape {base e s n : Nat} {w : World} {v : Value} {xs : List Value} (h : w.ownsRow base e s v n xs) : ∃ ao cap, v = .slice ao n cap := by
 obtain ⟨hl, ⟨rfl, rfl⟩ | ⟨g, cap, cur, rfl, hg, hb, _⟩⟩ := h
 ·exact ⟨_, _, rfl⟩
 ·exact ⟨_, _, rfl⟩
theorem ownG_below {base e s n : Nat} {w w' : World} {v : Value} {xs : List Value} (h : w.ownsRow base e s v n xs) (hb : Below w.heap.size w w') : w'.ownsRow base e s v n xs := by
 obtain ⟨hl, h | ⟨g, cap, cur, rfl, hg, hbk, hr⟩⟩ := h
 ·exact ⟨hl, .inl h⟩
 ·exact ⟨hl, .inr ⟨g, cap, cur, rfl, hg, (hb.block g (Array.getElem?_eq_some_iff.1 hbk).1).trans hbk, hr⟩⟩
theorem cell_three_new (w : World) (x y z : Value) (t : TypeId) : ∀ j u, [x, y, z][j]? = some u → (w.alloc (.cells #[x, y, z] t)).cell? ((⟨w.heap.size, 0, none⟩ : Addr).add j) = some u := by
 intro j u hj
 match j, hj with
 | 0, hj => simp at hj; subst hj; simp [go_sem, Addr.add]
 | 1, hj => simp at hj; subst hj; simp [go_sem, Addr.add]
 | 2, hj => simp at hj; subst hj; simp [go_sem, Addr.add]
 | j + 3, hj => simp at hj
theorem itf_done {xs : List Nd} {ao : Option Addr} {Bs b off cap base B k m : Nat} {w W w5 : World} {V u v' : Value} {vs news : List Value} {tmp : Obj}
 (hbx : Boxed W base 31 V) (hbu : Boxed W B 86 u) (how : W.ownsRow base 186 3 u k vs) (hne : ∀ g, u.ownBlock = some g → g ≠ base ∧ g ≠ Bs) (hB : Below base w W) (hbs : Bs < W.heap.size)
 (hBB : base < B) (hBs : B < Bs) (hb : 0 < xs.length → b < base) (hW : base ≤ W.heap.size)
 (ho5 : w5.ownsRow base 186 3 v' m (vs ++ news)) (hg5' : (W.alloc tmp).drew.grownBy w5 u.ownBlock) (hat : v'.ownBlock = u.ownBlock ∨ v'.ownBlock = some (W.alloc tmp).drew.heap.size) :
 KeepsOthers W (w5.setCell ⟨B, 0, none⟩ v') ∧ (Src xs ao Bs b off cap W → Src xs ao Bs b off cap (w5.setCell ⟨B, 0, none⟩ v')) ∧ Boxed (w5.setCell ⟨B, 0, none⟩ v') base 31 V ∧ Boxed (w5.setCell ⟨B, 0, none⟩ v') B 86 v' ∧
  (w5.setCell ⟨B, 0, none⟩ v').ownsRow base 186 3 v' m (vs ++ news) ∧ (∀ g, v'.ownBlock = some g → g ≠ base ∧ g ≠ Bs) ∧ Bs < (w5.setCell ⟨B, 0, none⟩ v').heap.size ∧ Below base w (w5.setCell ⟨B, 0, none⟩ v') ∧ Boxed w5 B 86 u := by
 have hg5 : (W.drew.alloc tmp).grownBy w5 u.ownBlock := hg5'
 have hbu3 : Boxed W.drew B 86 u := hbu
 have how3 : W.drew.ownsRow base 186 3 u k vs := how
 obtain ⟨p1, p2, p3, p4, p5⟩ := Boxed.appended hbu3 (by decide) how3 hW (by omega) ho5 hg5
 have hbase : ∀ g, u.ownBlock = some g → base ≤ g := fun g hg => (World.ownsRow.lt how g hg).1
 have hblk : ∀ q, q < W.heap.size → u.ownBlock ≠ some q → q ≠ B → (w5.setCell ⟨B, 0, none⟩ v').heap[q]? = W.heap[q]? := by
  intro q hq hu hqB
  rw [Below.heap_setCell _ _ _ _ (by simpa using hqB), hg5.block q (by simp; exact Nat.lt_succ_of_lt hq) (fun e => hu e.symm), (below1 W.drew tmp).block q hq]
  rfl
 have hne' : ∀ g, v'.ownBlock = some g → g ≠ base ∧ g ≠ Bs := by
  intro g hg
  rcases hat with e | e
  ·exact hne g (by rw [← e]; exact hg)
  ·rw [hg] at e
   have h1 := Option.some.inj e
   have h2 : (W.alloc tmp).drew.heap.size = W.heap.size + 1 := by show (W.alloc tmp).heap.size = _; simp
   omega
 have p4' : KeepsOthers W (w5.setCell ⟨B, 0, none⟩ v') := ⟨p4.1, fun q o h hn => p4.2 q o h hn⟩
 refine ⟨p4', ?_, ?_, p2, p3, hne', ?_, ?_, p1⟩
 ·intro hsrc
  refine ⟨?_, hsrc.some_, fun i hi => ?_⟩
  ·have hlt := World.block_lt_of_cell? W _ hsrc.box
   exact (World.cell?_of_block (w := W) (a := ⟨Bs, 0, none⟩) (hblk Bs hlt (fun e => (hne Bs e).2 rfl) (by omega))).trans hsrc.box
  ·obtain ⟨y, hk, hcy⟩ := hsrc.at_ i hi
   have hbl := hb (by omega)
   refine ⟨y, hk, fun j hj => ?_⟩
   exact (World.cell?_of_block (w := W) (a := ⟨b, off + i * 15 + j, none⟩) (hblk b (by omega) (fun e => by have := hbase b e; omega) (by omega))).trans (hcy j hj)
 ·exact (hblk base hbx.lt (fun e => (hne base e).1 rfl) (by omega)).trans hbx
 ·have h3 := p5.size
  have h2 : W.drew.heap.size = W.heap.size := rfl
  omega
 ·exact hB.trans ⟨p5.os, p5.tape, p5.output, p5.size, fun q hq => p5.block q hq⟩
set_option maxRecDepth 100000 in
set_option maxHeartbeats 8000000 in
theorem itemsOf_in {v : Value} {xs : List Nd} {w : World} (h : NRow 0 w v xs) (hcp : ∀ a n c, v = .slice a n c → n ≤ c ∧ c ≤ 9223372036854775807) (AOK0 : AllOk xs) :
 CallsIn Fence.wide 5 Tryz.prog 89 #[v] w fun e W' => (∃ u, e = .returned u ∧ W'.ownsRow w.heap.size 186 3 u (its xs).length (flatI (its xs))) ∧ Below w.heap.size w W' := by
 have AOK := hideP AOK0
 obtain ⟨ao, n, cap, rfl, hl, hr⟩ := h
 have hcap := hcp _ _ _ rfl
 obtain ⟨hcap1, hcap2⟩ := hcap
 have hnm : n ≤ 20000 := by rw [← hl]; exact AOK0.len
 have HL := hideP hl
 obtain ⟨b, off, hbo⟩ : ∃ b off, 0 < n → ao = some ⟨b, off, none⟩ ∧ b < w.heap.size ∧ ∀ j u, (flatN xs)[j]? = some u → w.cell? ⟨b, off + j, none⟩ = some u := by
  by_cases hn0 : 0 < n
  ·obtain ⟨b, off, e, _, hb, hc⟩ := hr hn0
   exact ⟨b, off, fun _ => ⟨e, hb, row_cells (fun i hi => hc i (by rw [← hl]; exact hi))⟩⟩
  ·exact ⟨0, 0, fun h => absurd h hn0⟩
 have HBO := hideP hbo
 clear hr hl hcp hbo AOK0
 refine callsIn_of_wp_marks Tryz.func89 rfl trivial ?_ rfl
 simp only [Tryz.ntmps89, List.size_toArray, List.length_cons, List.length_nil, Nat.reduceAdd, Nat.reduceSub, Array.replicate_succ, Array.replicate_zero, List.push_toArray, List.append_toArray, List.nil_append, List.cons_append]
 gi_wp2_with fail
 refine ⟨trivial, CallsIn.mono (callsIn_wide.2 (eachItem_any ao n cap _)) ?_⟩
 rintro e w2 ⟨rfl, rfl⟩
 gi_wp2_with fail
 have B1 : Below w.heap.size w (((w.alloc (.cells #[.slice ao n cap] 31)).alloc (.cells #[] 186)).alloc (.cells #[.slice (some ⟨w.heap.size + 1, 0, none⟩) 0 0] 86)) := below3 _ _ _ _
 have q0 : Boxed (((w.alloc (.cells #[.slice ao n cap] 31)).alloc (.cells #[] 186)).alloc (.cells #[.slice (some ⟨w.heap.size + 1, 0, none⟩) 0 0] 86)) w.heap.size 31 (.slice ao n cap) := ((Boxed.new w 31 (.slice ao n cap)).alloc _).alloc _
 have q2 : Boxed (((w.alloc (.cells #[.slice ao n cap] 31)).alloc (.cells #[] 186)).alloc (.cells #[.slice (some ⟨w.heap.size + 1, 0, none⟩) 0 0] 86)) (w.heap.size + 1 + 1) 86 (.slice (some ⟨w.heap.size + 1, 0, none⟩) 0 0) := by
  have h := Boxed.new ((w.alloc (.cells #[.slice ao n cap] 31)).alloc (.cells #[] 186)) 86 (.slice (some ⟨w.heap.size + 1, 0, none⟩) 0 0)
  rw [World.size_alloc, World.size_alloc] at h
  exact h
 have q1 : (((w.alloc (.cells #[.slice ao n cap] 31)).alloc (.cells #[] 186)).alloc (.cells #[.slice (some ⟨w.heap.size + 1, 0, none⟩) 0 0] 86)).heap[w.heap.size + 1]? = some (.cells #[] 186) := by
  have h := World.alloc_heap_new (w.alloc (.cells #[.slice ao n cap] 31)) (.cells #[] 186)
  rw [World.size_alloc] at h
  exact ((below1 _ _).block _ (by simp)).trans h
 have hO1 : (((w.alloc (.cells #[.slice ao n cap] 31)).alloc (.cells #[] 186)).alloc (.cells #[.slice (some ⟨w.heap.size + 1, 0, none⟩) 0 0] 86)).ownsRow w.heap.size 186 3 (.slice (some ⟨w.heap.size + 1, 0, none⟩) 0 0) 0 [] := ⟨rfl, .inr ⟨_, _, _, rfl, by omega, q1, by omega, by unfold maxLen; omega, rfl, rfl⟩⟩
 have hw1s : (((w.alloc (.cells #[.slice ao n cap] 31)).alloc (.cells #[] 186)).alloc (.cells #[.slice (some ⟨w.heap.size + 1, 0, none⟩) 0 0] 86)).heap.size = w.heap.size + 3 := by simp
 obtain ⟨w1, hw1⟩ : ∃ w1, (((w.alloc (.cells #[.slice ao n cap] 31)).alloc (.cells #[] 186)).alloc (.cells #[.slice (some ⟨w.heap.size + 1, 0, none⟩) 0 0] 86)) = w1 := ⟨_, rfl⟩
 rw [hw1] at B1 q0 q2 hO1 hw1s ⊢
 have hbs3 : w.heap.size + 1 + 1 + 1 = w1.heap.size := by omega
 try rw [hbs3]
 clear q1 hw1
 have bS : (w1.alloc (.cells #[.slice ao n cap] 31)).cell? ⟨w1.heap.size, 0, none⟩ = some (.slice ao n cap) := by simp [go_sem]
 have hB0 : Below w.heap.size w (w1.alloc (.cells #[.slice ao n cap] 31)) := B1.alloc B1.size _
 have hOW := hO1.alloc (.cells #[.slice ao n cap] 31)
 have hI0 := q0.alloc (.cells #[.slice ao n cap] 31)
 have hI2 := q2.alloc (.cells #[.slice ao n cap] 31)
 have hws : w.heap.size + 1 + 1 < w1.heap.size := by omega
 clear hbs3 hw1s
 obtain ⟨Bs, hBs⟩ : ∃ B, B = w1.heap.size := ⟨_, rfl⟩
 obtain ⟨W0, hW0⟩ : ∃ W0, w1.alloc (.cells #[.slice ao n cap] 31) = W0 := ⟨_, rfl⟩
 have hsz : W0.heap.size = Bs + 1 := by rw [← hW0, hBs]; simp
 rw [hW0] at hB0 hOW hI0 hI2 bS ⊢
 rw [← hBs] at bS hws ⊢
 clear hW0 q0 q2 hO1
 have HSR : Hid (Src xs ao Bs b off cap W0) := hideP (by
  refine ⟨by rw [HL.out]; exact bS, fun h => (HBO.out (by rw [← HL.out]; exact h)).1, fun i hi => ⟨xs.getD i Nd.none, ⟨rfl, rfl⟩, fun j hj => ?_⟩⟩
  obtain ⟨_, hbw, hcell⟩ := HBO.out (by rw [← HL.out]; omega)
  have h1 := flatN_get xs i hi j hj
  rw [List.getElem?_eq_getElem (show j < (xs.getD i Nd.none).cells.length from hj)] at h1 ⊢
  have h2 := hcell _ _ h1
  rw [show off + i * 15 + j = off + (i * 15 + j) by omega]
  exact (hB0.cell (p := ⟨b, off + (i * 15 + j), none⟩) hbw).trans h2)
 have hys2 : xs.length ≤ 20000 ∧ ∀ i, i < xs.length → 0 ≤ (xs.getD i Nd.none).kids ∧ (xs.getD i Nd.none).kids ≤ 20000 := ⟨AOK.out.len, AOK.out.weak⟩
 refine wpIn_rangeFunc_ownF (F := Fence.wide) (n := 5) rfl (by omega) (gf := 108) (lb := #[.pointer (some ⟨Bs, 0, none⟩)]) rfl trivial (enters_of Tryz.func108 (by kernel_rfl) rfl)
  (each_stops 4 (by omega) xs ao Bs b off cap hys2.1 hys2.2 W0 HSR.out) (fun h1 h2 h => h2 (h1 h)) ?keepb (Below.refl _ _) (fun _ => rfl)
  (fun pre W => (Boxed W w.heap.size 31 (.slice ao n cap) ∧ ∃ u, Boxed W (w.heap.size + 1 + 1) 86 u ∧ W.ownsRow w.heap.size 186 3 u pre.length (flatI (pre.map (fun x => itAt xs x.1.1))) ∧ (∀ g, u.ownBlock = some g → g ≠ w.heap.size ∧ g ≠ Bs) ∧ Bs < W.heap.size) ∧ Below w.heap.size w W)
  (fun _ _ _ => False) ?ownI (fun _ _ _ _ _ hs _ _ => hs) ?start ?a1z ?assign ?body ?done ?stop
 case assign =>
  intro l x W K hK
  simp [Item.encs]
  gi_wp2
  exact hK
 case start =>
  refine ⟨⟨hI0, _, hI2, hOW, ?_, by omega⟩, hB0⟩
  intro g hg
  simp [Value.ownBlock] at hg
  omega
 case keepb =>
  intro W l o o' hl hlo hoc _ hsrc
  exact hsrc.kept (grownBy_putObj' W l o') (fun r e => by cases e; exact ⟨o, hlo, hoc⟩)
 case ownI =>
  refine OwnFrom.and (Own.from ?_ _) (ownFrom_below (Nat.le_refl _) (by omega))
  rintro s A B row ⟨h1, u, h2, h3, h5, h6⟩ hg hr
  exact ⟨boxed_kept h1 hg hr, u, boxed_kept h2 hg hr, ownG_kept h3 hg hr, h5, Nat.lt_of_lt_of_le h6 hg.size⟩
 case stop =>
  rintro D c pre W _ _ h _
  exact h.elim
 case done =>
  rintro D its' W hD hst ⟨⟨h1, u, h2, h3, h5, _⟩, hB⟩ hK
  have hc2 := h2.cell
  have HF : Hid (its'.length = (its xs).length ∧ its'.map (fun x => itAt xs x.1.1) = its xs) := hideP (by
   have e : its'.map (fun x => itAt xs x.1.1) = its xs := by
    unfold its
    rw [← hst, List.map_map]
    rfl
   exact ⟨by rw [← e, List.length_map], e⟩)
  have H3 := hideP h3
  have HBB := hideP hB
  clear h3 hB
  gi_wp2
  refine ⟨by simp, .inl ⟨_, _, rfl, run_takeDeferred hK, ?_⟩⟩
  refine ⟨_, results_tmp rfl _ _ _, ⟨u, rfl, ?_⟩, HBB.out.trans (belowK_b (w := w) (Nat.le_refl _) W D _ _ (by omega) hK rfl rfl)⟩
  rw [← HF.out.1, ← HF.out.2]
  exact ownsRow_putObj H3.out (.deferred none) hK rfl
 case body =>
  rintro l pre x W ⟨⟨hbx, u, hbu, how, hne, hbsW⟩, hB⟩ hpl
  have hat := x.2.1
  obtain ⟨y, hy, hyq⟩ := x.2.2
  have hvt : x.1.2 = thV (xs.getD x.1.1 Nd.none) := by rw [hyq.2.2, hy.1]
  obtain ⟨at_, ha⟩ : ∃ a, x.1.1 = a := ⟨_, rfl⟩
  obtain ⟨vt, hv⟩ : ∃ v, x.1.2 = v := ⟨_, rfl⟩
  rw [hv, ha] at hvt
  rw [ha] at hat
  rw [ha, hv]
  have HA : Hid ((pre ++ [x]).map (fun x => itAt xs x.1.1) = pre.map (fun x => itAt xs x.1.1) ++ [itAt xs at_]) := hideP (by rw [List.map_append, List.map_singleton, ha])
  clear ha hv hy hyq
  have hatn : at_ < n := by rw [← HL.out]; exact hat
  obtain ⟨rfl, hbw, hcell⟩ := HBO.out (by omega)
  have hkk := AOK.out.kids at_ hat
  have hn20 : n ≤ 20000 := by rw [← HL.out]; exact AOK.out.len
  rw [HL.out] at hkk
  obtain ⟨kids, hkd⟩ : ∃ z, z = (xs.getD at_ Nd.none).kids := ⟨_, rfl⟩
  rw [← hkd] at hkk
  obtain ⟨kn, rfl⟩ : ∃ kn : Nat, kids = (kn : Int) := ⟨kids.toNat, by omega⟩
  have hsum : at_ + 1 + kn ≤ n := by omega
  have HIT : Hid (itAt xs at_ = (xs.getD at_ Nd.none, (at_ : Int), (at_ : Int) + 1 + (kn : Int)) ∧ vt = thV (xs.getD at_ Nd.none)) := hideP ⟨by unfold itAt; rw [← hkd], hvt⟩
  have g14 : W.cell? ⟨b, off + at_ * 15 + 14, none⟩ = some (.int .i64 (kn : Int)) := by
   have h1 := flatN_at xs at_ hat 14 (by omega) (u := .int .i64 (xs.getD at_ Nd.none).kids) rfl
   rw [← hkd] at h1
   have h2 := hcell _ _ h1
   rw [show off + at_ * 15 + 14 = off + (at_ * 15 + 14) by omega]
   exact (hB.cell (p := ⟨b, off + (at_ * 15 + 14), none⟩) hbw).trans h2
  obtain ⟨ua, uc, rfl⟩ := ownG_shape how
  have hbxc := hbx.cell
  have hbuc := hbu.cell
  have hbuf := hbu.frozen
  have hpn : pre.length ≤ 20001 := by have := HL.out; omega
  have HRO : Hid (Boxed W w.heap.size 31 (.slice (some ⟨b, off, none⟩) n cap) ∧ Boxed W (w.heap.size + 1 + 1) 86 (.slice ua pre.length uc) ∧ W.ownsRow w.heap.size 186 3 (.slice ua pre.length uc) pre.length (flatI (pre.map (fun x => itAt xs x.1.1))) ∧ (∀ g, (Value.slice ua pre.length uc).ownBlock = some g → g ≠ w.heap.size ∧ g ≠ Bs) ∧ Bs < W.heap.size ∧ Below w.heap.size w W) := hideP ⟨hbx, hbu, how, hne, hbsW, hB⟩
  have hone : vt.oneCell' = true := by
   rw [hvt]
   rcases thV_shape (xs.getD at_ Nd.none) with h | ⟨X, q, h⟩ <;> rw [h] <;> rfl
  have hsh := thV_shape (xs.getD at_ Nd.none)
  rw [← hvt] at hsh
  clear hkk hkd hcell hbx hbu how hne hB hvt
  rcases hsh with rfl | ⟨X, q, rfl⟩
  ·gi_wp2_with fail
   refine region_heldR (S := fun X => X.cell? ⟨w.heap.size, 0, none⟩ = some (.slice (some ⟨b, off, none⟩) n cap) ∧ X.cell? ⟨b, off + at_ * 15 + 14, none⟩ = some (.int .i64 (kn : Int))) (by kernel_rfl) (plain_spec (by kernel_rfl)) (by rintro ⟨a, w, h⟩; exact h) ?_
   have hS : W.drew.cell? ⟨w.heap.size, 0, none⟩ = some (.slice (some ⟨b, off, none⟩) n cap) ∧ W.drew.cell? ⟨b, off + at_ * 15 + 14, none⟩ = some (.int .i64 (kn : Int)) := ⟨hbxc, g14⟩
   refine wpAnyH_take (i := 1) (v := .nilIface) rfl (by kernel_rfl) (by kernel_rfl) (by kernel_rfl) (fun _ _ _ h => h) (Or.inl ⟨by first | rfl | go_simp, fun wx hx => by obtain ⟨hx1, hx2⟩ := hx; go_simp⟩) hS ?_
   try simp only [Act.put, List.getElem_toArray, List.getElem_cons_zero, List.getElem_cons_succ, List.setIfInBounds_toArray, List.set_cons_zero, List.set_cons_succ]
   refine wpAnyH_take (i := 2) (v := .int .i64 (at_ : Int)) rfl (by kernel_rfl) (by kernel_rfl) (by kernel_rfl) (fun _ _ _ h => h) (Or.inl ⟨by first | rfl | go_simp, fun wx hx => by obtain ⟨hx1, hx2⟩ := hx; go_simp⟩) hS ?_
   try simp only [Act.put, List.getElem_toArray, List.getElem_cons_zero, List.getElem_cons_succ, List.setIfInBounds_toArray, List.set_cons_zero, List.set_cons_succ]
   refine wpAnyH_take (i := 3) (v := .int .i64 (at_ : Int)) rfl (by kernel_rfl) (by kernel_rfl) (by kernel_rfl) (fun _ _ _ h => h) (Or.inl ⟨by first | rfl | go_simp, fun wx hx => by obtain ⟨hx1, hx2⟩ := hx; go_simp⟩) hS ?_
   try simp only [Act.put, List.getElem_toArray, List.getElem_cons_zero, List.getElem_cons_succ, List.setIfInBounds_toArray, List.set_cons_zero, List.set_cons_succ]
   refine wpAnyH_take (i := 4) (v := .int .i64 ((at_ : Int) + 1)) rfl (by kernel_rfl) (by kernel_rfl) (by kernel_rfl) (fun _ _ _ h => h) (Or.inl ⟨by first | rfl | go_simp, fun wx hx => by obtain ⟨hx1, hx2⟩ := hx; go_simp; first | (go_num; done) | (go_bits; done) | (go_bits; trivial)⟩) hS ?_
   try simp only [Act.put, List.getElem_toArray, List.getElem_cons_zero, List.getElem_cons_succ, List.setIfInBounds_toArray, List.set_cons_zero, List.set_cons_succ]
   refine wpAnyH_take (i := 5) (v := .slice (some ⟨b, off, none⟩) n cap) rfl (by kernel_rfl) (by kernel_rfl) (by kernel_rfl) (fun _ _ _ h => h) (Or.inl ⟨by first | rfl | go_simp, fun wx hx => by obtain ⟨hx1, hx2⟩ := hx; go_simp⟩) hS ?_
   try simp only [Act.put, List.getElem_toArray, List.getElem_cons_zero, List.getElem_cons_succ, List.setIfInBounds_toArray, List.set_cons_zero, List.set_cons_succ]
   refine wpAnyH_take (i := 6) (v := .int .i64 (at_ : Int)) rfl (by kernel_rfl) (by kernel_rfl) (by kernel_rfl) (fun _ _ _ h => h) (Or.inl ⟨by first | rfl | go_simp, fun wx hx => by obtain ⟨hx1, hx2⟩ := hx; go_simp⟩) hS ?_
   try simp only [Act.put, List.getElem_toArray, List.getElem_cons_zero, List.getElem_cons_succ, List.setIfInBounds_toArray, List.set_cons_zero, List.set_cons_succ]
   refine wpAnyH_take (i := 7) (v := .pointer (some ⟨b, off + at_ * 15, none⟩)) rfl (by kernel_rfl) (by kernel_rfl) (by kernel_rfl) (fun _ _ _ h => h) (Or.inl ⟨by first | rfl | go_simp, fun wx hx => by obtain ⟨hx1, hx2⟩ := hx; go_simp⟩) hS ?_
   try simp only [Act.put, List.getElem_toArray, List.getElem_cons_zero, List.getElem_cons_succ, List.setIfInBounds_toArray, List.set_cons_zero, List.set_cons_succ]
   refine wpAnyH_take (i := 8) (v := .pointer (some ⟨b, off + at_ * 15 + 14, none⟩)) rfl (by kernel_rfl) (by kernel_rfl) (by kernel_rfl) (fun _ _ _ h => h) (Or.inl ⟨by first | rfl | go_simp, fun wx hx => by obtain ⟨hx1, hx2⟩ := hx; go_simp⟩) hS ?_
   try simp only [Act.put, List.getElem_toArray, List.getElem_cons_zero, List.getElem_cons_succ, List.setIfInBounds_toArray, List.set_cons_zero, List.set_cons_succ]
   refine wpAnyH_take (i := 9) (v := .int .i64 (kn : Int)) rfl (by kernel_rfl) (by kernel_rfl) (by kernel_rfl) (fun _ _ _ h => h) (Or.inl ⟨by first | rfl | go_simp, fun wx hx => by obtain ⟨hx1, hx2⟩ := hx; go_simp⟩) hS ?_
   try simp only [Act.put, List.getElem_toArray, List.getElem_cons_zero, List.getElem_cons_succ, List.setIfInBounds_toArray, List.set_cons_zero, List.set_cons_succ]
   refine wpAnyH_take (i := 10) (v := .int .i64 ((at_ : Int) + 1 + (kn : Int))) rfl (by kernel_rfl) (by kernel_rfl) (by kernel_rfl) (fun _ _ _ h => h) (Or.inl ⟨by first | rfl | go_simp, fun wx hx => by obtain ⟨hx1, hx2⟩ := hx; go_simp; first | (go_num; done) | (go_bits; done) | (go_bits; trivial)⟩) hS ?_
   try simp only [Act.put, List.getElem_toArray, List.getElem_cons_zero, List.getElem_cons_succ, List.setIfInBounds_toArray, List.set_cons_zero, List.set_cons_succ]
   refine wpAnyH_take (i := 11) (v := .agg #[.nilIface, .int .i64 (at_ : Int), .int .i64 ((at_ : Int) + 1 + (kn : Int))]) rfl (by kernel_rfl) (by kernel_rfl) (by kernel_rfl) (fun _ _ _ h => h) (Or.inl ⟨by first | rfl | go_simp, fun wx hx => by obtain ⟨hx1, hx2⟩ := hx; go_simp⟩) hS ?_
   try simp only [Act.put, List.getElem_toArray, List.getElem_cons_zero, List.getElem_cons_succ, List.setIfInBounds_toArray, List.set_cons_zero, List.set_cons_succ]
   obtain ⟨i0, hi0, hz0, hz1, hz2⟩ := info_parts Tryz.info141i
   have hwW : w.heap.size < W.heap.size := HRO.out.1.lt
   have hbW : b < W.heap.size := by omega
   have S4 : (W.alloc (.cells #[.nilIface, .int .i64 (at_ : Int), .int .i64 ((at_ : Int) + 1 + (kn : Int))] 186)).drew.cell? ⟨w.heap.size, 0, none⟩ = some (.slice (some ⟨b, off, none⟩) n cap) ∧ (W.alloc (.cells #[.nilIface, .int .i64 (at_ : Int), .int .i64 ((at_ : Int) + 1 + (kn : Int))] 186)).drew.cell? ⟨b, off + at_ * 15 + 14, none⟩ = some (.int .i64 (kn : Int)) := ⟨((below1 W _).cell (p := ⟨w.heap.size, 0, none⟩) hwW).trans hS.1, ((below1 W _).cell (p := ⟨b, off + at_ * 15 + 14, none⟩) hbW).trans hS.2⟩
   have U4 : Boxed (W.alloc (.cells #[.nilIface, .int .i64 (at_ : Int), .int .i64 ((at_ : Int) + 1 + (kn : Int))] 186)).drew (w.heap.size + 1 + 1) 86 (.slice ua pre.length uc) := Boxed.alloc HRO.out.2.1 _
   have hcu4 := U4.cell
   clear U4
   refine wpAnyH_ready (rs := [0, 12]) (by kernel_rfl) (by simp) ?_
   refine AllReadyH.cons rfl (fun K hK => ?_) (AllReadyH.cons rfl (fun K hK => ?_) AllReadyH.nil)
   ·rw [if_pos (by first | rfl | go_simp)]
    have hcu := hbuc
    go_simp
    refine hK.out _ _ hS (fun _ => ?_)
    try simp only [Act.put, List.getElem_toArray, List.getElem_cons_zero, List.getElem_cons_succ, List.setIfInBounds_toArray, List.set_cons_zero, List.set_cons_succ]
    clear hK K
    refine wpAnyH_ready (rs := [12]) (by kernel_rfl) (by simp) ?_
    refine AllReadyH.cons rfl (fun K hK => ?_) AllReadyH.nil
    rw [if_pos (by first | rfl | go_simp)]
    go_simp
    refine hK.out _ _ S4 (fun _ => ?_)
    try simp only [Act.put, List.getElem_toArray, List.getElem_cons_zero, List.getElem_cons_succ, List.setIfInBounds_toArray, List.set_cons_zero, List.set_cons_succ]
    clear hK K
    refine wpAnyH_ready (rs := [13]) (by kernel_rfl) (by simp) ?_
    refine AllReadyH.cons rfl (fun K hK => ?_) AllReadyH.nil
    rw [if_pos (by first | rfl | go_simp)]
    refine wp_append_at _ _ 86 rfl w.heap.size 186 i0 (.agg #[.nilIface, .int .i64 0, .int .i64 0]) 3 32 Tryz.underlying86 hi0 hz0 hz1 hz2 rfl (by decide) (.slice ua pre.length uc) pre.length _ rfl (show ((W.alloc (.cells #[.nilIface, .int .i64 (at_ : Int), .int .i64 ((at_ : Int) + 1 + (kn : Int))] 186)).drew).ownsRow _ _ _ _ _ _ from World.ownsRow.alloc HRO.out.2.2.1 _) ⟨W.heap.size, 0, none⟩ 1 1 [.nilIface, .int .i64 (at_ : Int), .int .i64 ((at_ : Int) + 1 + (kn : Int))] rfl rfl (fun j u hj => cell_three_new W _ _ _ _ j u hj) (by intro z hz; simp at hz; rcases hz with rfl | rfl | rfl; exact hone; rfl; rfl) (by unfold maxLen; omega) (by omega) (by simp; omega) ?_
    intro v5 w5 ho5 hg5 hnil5 hat5
    obtain ⟨g5, c5, rfl⟩ := ownsRow_succ ho5
    obtain ⟨d1, d2, d3, d4, d5, d6, d7, d8, d9⟩ := itf_done (xs := xs) (ao := some ⟨b, off, none⟩) (Bs := Bs) (b := b) (off := off) (cap := cap) HRO.out.1 HRO.out.2.1 HRO.out.2.2.1 HRO.out.2.2.2.1 HRO.out.2.2.2.2.2 HRO.out.2.2.2.2.1 (by omega) hws (fun _ => hbw) (by omega) ho5 hg5 hat5
    have hcu5 := d9.cell
    have hfu5 := d9.frozen
    have S5 : w5.cell? ⟨w.heap.size, 0, none⟩ = some (.slice (some ⟨b, off, none⟩) n cap) ∧ w5.cell? ⟨b, off + at_ * 15 + 14, none⟩ = some (.int .i64 (kn : Int)) := by
     have e1 : ∀ p : Addr, p.block ≠ w.heap.size + 1 + 1 → (w5.setCell ⟨w.heap.size + 1 + 1, 0, none⟩ (.slice (some ⟨g5, 0, none⟩) (pre.length + 1) c5)).cell? p = w5.cell? p := fun p hp => World.cell?_setCell_far _ _ _ _ (Ne.symm hp)
     refine ⟨?_, ?_⟩
     ·rw [← e1 _ (by simp; omega)]
      exact d3.cell
     ·rw [← e1 _ (by simp; omega)]
      exact (d8.cell (p := ⟨b, off + at_ * 15 + 14, none⟩) hbw).trans ((HRO.out.2.2.2.2.2.cell (p := ⟨b, off + at_ * 15 + 14, none⟩) hbw).symm.trans g14)
    have S6 : (w5.setCell ⟨w.heap.size + 1 + 1, 0, none⟩ (.slice (some ⟨g5, 0, none⟩) (pre.length + 1) c5)).cell? ⟨w.heap.size, 0, none⟩ = some (.slice (some ⟨b, off, none⟩) n cap) ∧ (w5.setCell ⟨w.heap.size + 1 + 1, 0, none⟩ (.slice (some ⟨g5, 0, none⟩) (pre.length + 1) c5)).cell? ⟨b, off + at_ * 15 + 14, none⟩ = some (.int .i64 (kn : Int)) := ⟨d3.cell, (d8.cell (p := ⟨b, off + at_ * 15 + 14, none⟩) hbw).trans ((HRO.out.2.2.2.2.2.cell (p := ⟨b, off + at_ * 15 + 14, none⟩) hbw).symm.trans g14)⟩
    have HD := hideP d1
    have D2 := hideP d2
    have D3 := hideP d3
    have D4 := hideP d4
    have D5 := hideP d5
    have D6 := hideP d6
    have D7 := hideP d7
    have D8 := hideP d8
    clear d1 d2 d3 d4 d5 d6 d7 d8 d9 ho5 hg5 hat5 hnil5
    refine hK.out _ _ S5 (fun _ => ?_)
    try simp only [Act.put, List.getElem_toArray, List.getElem_cons_zero, List.getElem_cons_succ, List.setIfInBounds_toArray, List.set_cons_zero, List.set_cons_succ]
    clear hK K
    refine wpAnyH_ready (rs := [14]) (by kernel_rfl) (by simp) ?_
    refine AllReadyH.cons rfl (fun K hK => ?_) AllReadyH.nil
    rw [if_pos (by first | rfl | go_simp)]
    go_simp
    refine hK.out _ _ S6 (fun _ => ?_)
    try simp only [Act.put, List.getElem_toArray, List.getElem_cons_zero, List.getElem_cons_succ, List.setIfInBounds_toArray, List.set_cons_zero, List.set_cons_succ]
    clear hK K
    refine wpAnyH_done (by kernel_rfl) ?_ _
    gi_wp2
    refine ⟨HD.out, D2.out, ⟨D3.out, _, D4.out, ?_, D6.out, D7.out⟩, D8.out⟩
    rw [List.length_append, List.length_singleton, HA.out, flatI_snoc, HIT.out.1, ← HIT.out.2]
    exact D5.out
   ·rw [if_pos (by first | rfl | go_simp)]
    go_simp
    refine hK.out _ _ S4 (fun _ => ?_)
    try simp only [Act.put, List.getElem_toArray, List.getElem_cons_zero, List.getElem_cons_succ, List.setIfInBounds_toArray, List.set_cons_zero, List.set_cons_succ]
    clear hK K
    refine wpAnyH_ready (rs := [0]) (by kernel_rfl) (by simp) ?_
    refine AllReadyH.cons rfl (fun K hK => ?_) AllReadyH.nil
    rw [if_pos (by first | rfl | go_simp)]
    go_simp
    refine hK.out _ _ S4 (fun _ => ?_)
    try simp only [Act.put, List.getElem_toArray, List.getElem_cons_zero, List.getElem_cons_succ, List.setIfInBounds_toArray, List.set_cons_zero, List.set_cons_succ]
    clear hK K
    refine wpAnyH_ready (rs := [13]) (by kernel_rfl) (by simp) ?_
    refine AllReadyH.cons rfl (fun K hK => ?_) AllReadyH.nil
    rw [if_pos (by first | rfl | go_simp)]
    refine wp_append_at _ _ 86 rfl w.heap.size 186 i0 (.agg #[.nilIface, .int .i64 0, .int .i64 0]) 3 32 Tryz.underlying86 hi0 hz0 hz1 hz2 rfl (by decide) (.slice ua pre.length uc) pre.length _ rfl (show ((W.alloc (.cells #[.nilIface, .int .i64 (at_ : Int), .int .i64 ((at_ : Int) + 1 + (kn : Int))] 186)).drew).ownsRow _ _ _ _ _ _ from World.ownsRow.alloc HRO.out.2.2.1 _) ⟨W.heap.size, 0, none⟩ 1 1 [.nilIface, .int .i64 (at_ : Int), .int .i64 ((at_ : Int) + 1 + (kn : Int))] rfl rfl (fun j u hj => cell_three_new W _ _ _ _ j u hj) (by intro z hz; simp at hz; rcases hz with rfl | rfl | rfl; exact hone; rfl; rfl) (by unfold maxLen; omega) (by omega) (by simp; omega) ?_
    intro v5 w5 ho5 hg5 hnil5 hat5
    obtain ⟨g5, c5, rfl⟩ := ownsRow_succ ho5
    obtain ⟨d1, d2, d3, d4, d5, d6, d7, d8, d9⟩ := itf_done (xs := xs) (ao := some ⟨b, off, none⟩) (Bs := Bs) (b := b) (off := off) (cap := cap) HRO.out.1 HRO.out.2.1 HRO.out.2.2.1 HRO.out.2.2.2.1 HRO.out.2.2.2.2.2 HRO.out.2.2.2.2.1 (by omega) hws (fun _ => hbw) (by omega) ho5 hg5 hat5
    have hcu5 := d9.cell
    have hfu5 := d9.frozen
    have S5 : w5.cell? ⟨w.heap.size, 0, none⟩ = some (.slice (some ⟨b, off, none⟩) n cap) ∧ w5.cell? ⟨b, off + at_ * 15 + 14, none⟩ = some (.int .i64 (kn : Int)) := by
     have e1 : ∀ p : Addr, p.block ≠ w.heap.size + 1 + 1 → (w5.setCell ⟨w.heap.size + 1 + 1, 0, none⟩ (.slice (some ⟨g5, 0, none⟩) (pre.length + 1) c5)).cell? p = w5.cell? p := fun p hp => World.cell?_setCell_far _ _ _ _ (Ne.symm hp)
     refine ⟨?_, ?_⟩
     ·rw [← e1 _ (by simp; omega)]
      exact d3.cell
     ·rw [← e1 _ (by simp; omega)]
      exact (d8.cell (p := ⟨b, off + at_ * 15 + 14, none⟩) hbw).trans ((HRO.out.2.2.2.2.2.cell (p := ⟨b, off + at_ * 15 + 14, none⟩) hbw).symm.trans g14)
    have S6 : (w5.setCell ⟨w.heap.size + 1 + 1, 0, none⟩ (.slice (some ⟨g5, 0, none⟩) (pre.length + 1) c5)).cell? ⟨w.heap.size, 0, none⟩ = some (.slice (some ⟨b, off, none⟩) n cap) ∧ (w5.setCell ⟨w.heap.size + 1 + 1, 0, none⟩ (.slice (some ⟨g5, 0, none⟩) (pre.length + 1) c5)).cell? ⟨b, off + at_ * 15 + 14, none⟩ = some (.int .i64 (kn : Int)) := ⟨d3.cell, (d8.cell (p := ⟨b, off + at_ * 15 + 14, none⟩) hbw).trans ((HRO.out.2.2.2.2.2.cell (p := ⟨b, off + at_ * 15 + 14, none⟩) hbw).symm.trans g14)⟩
    have HD := hideP d1
    have D2 := hideP d2
    have D3 := hideP d3
    have D4 := hideP d4
    have D5 := hideP d5
    have D6 := hideP d6
    have D7 := hideP d7
    have D8 := hideP d8
    clear d1 d2 d3 d4 d5 d6 d7 d8 d9 ho5 hg5 hat5 hnil5
    refine hK.out _ _ S5 (fun _ => ?_)
    try simp only [Act.put, List.getElem_toArray, List.getElem_cons_zero, List.getElem_cons_succ, List.setIfInBounds_toArray, List.set_cons_zero, List.set_cons_succ]
    clear hK K
    refine wpAnyH_ready (rs := [14]) (by kernel_rfl) (by simp) ?_
    refine AllReadyH.cons rfl (fun K hK => ?_) AllReadyH.nil
    rw [if_pos (by first | rfl | go_simp)]
    go_simp
    refine hK.out _ _ S6 (fun _ => ?_)
    try simp only [Act.put, List.getElem_toArray, List.getElem_cons_zero, List.getElem_cons_succ, List.setIfInBounds_toArray, List.set_cons_zero, List.set_cons_succ]
    clear hK K
    refine wpAnyH_done (by kernel_rfl) ?_ _
    gi_wp2
    refine ⟨HD.out, D2.out, ⟨D3.out, _, D4.out, ?_, D6.out, D7.out⟩, D8.out⟩
    rw [List.length_append, List.length_singleton, HA.out, flatI_snoc, HIT.out.1, ← HIT.out.2]
    exact D5.out
  ·gi_wp2_with fail
   refine region_heldR (S := fun X => X.cell? ⟨w.heap.size, 0, none⟩ = some (.slice (some ⟨b, off, none⟩) n cap) ∧ X.cell? ⟨b, off + at_ * 15 + 14, none⟩ = some (.int .i64 (kn : Int))) (by kernel_rfl) (plain_spec (by kernel_rfl)) (by rintro ⟨a, w, h⟩; exact h) ?_
   have hS : W.drew.cell? ⟨w.heap.size, 0, none⟩ = some (.slice (some ⟨b, off, none⟩) n cap) ∧ W.drew.cell? ⟨b, off + at_ * 15 + 14, none⟩ = some (.int .i64 (kn : Int)) := ⟨hbxc, g14⟩
   refine wpAnyH_take (i := 1) (v := (.iface X q)) rfl (by kernel_rfl) (by kernel_rfl) (by kernel_rfl) (fun _ _ _ h => h) (Or.inl ⟨by first | rfl | go_simp, fun wx hx => by obtain ⟨hx1, hx2⟩ := hx; go_simp⟩) hS ?_
   try simp only [Act.put, List.getElem_toArray, List.getElem_cons_zero, List.getElem_cons_succ, List.setIfInBounds_toArray, List.set_cons_zero, List.set_cons_succ]
   refine wpAnyH_take (i := 2) (v := .int .i64 (at_ : Int)) rfl (by kernel_rfl) (by kernel_rfl) (by kernel_rfl) (fun _ _ _ h => h) (Or.inl ⟨by first | rfl | go_simp, fun wx hx => by obtain ⟨hx1, hx2⟩ := hx; go_simp⟩) hS ?_
   try simp only [Act.put, List.getElem_toArray, List.getElem_cons_zero, List.getElem_cons_succ, List.setIfInBounds_toArray, List.set_cons_zero, List.set_cons_succ]
   refine wpAnyH_take (i := 3) (v := .int .i64 (at_ : Int)) rfl (by kernel_rfl) (by kernel_rfl) (by kernel_rfl) (fun _ _ _ h => h) (Or.inl ⟨by first | rfl | go_simp, fun wx hx => by obtain ⟨hx1, hx2⟩ := hx; go_simp⟩) hS ?_
   try simp only [Act.put, List.getElem_toArray, List.getElem_cons_zero, List.getElem_cons_succ, List.setIfInBounds_toArray, List.set_cons_zero, List.set_cons_succ]
   refine wpAnyH_take (i := 4) (v := .int .i64 ((at_ : Int) + 1)) rfl (by kernel_rfl) (by kernel_rfl) (by kernel_rfl) (fun _ _ _ h => h) (Or.inl ⟨by first | rfl | go_simp, fun wx hx => by obtain ⟨hx1, hx2⟩ := hx; go_simp; first | (go_num; done) | (go_bits; done) | (go_bits; trivial)⟩) hS ?_
   try simp only [Act.put, List.getElem_toArray, List.getElem_cons_zero, List.getElem_cons_succ, List.setIfInBounds_toArray, List.set_cons_zero, List.set_cons_succ]
   refine wpAnyH_take (i := 5) (v := .slice (some ⟨b, off, none⟩) n cap) rfl (by kernel_rfl) (by kernel_rfl) (by kernel_rfl) (fun _ _ _ h => h) (Or.inl ⟨by first | rfl | go_simp, fun wx hx => by obtain ⟨hx1, hx2⟩ := hx; go_simp⟩) hS ?_
   try simp only [Act.put, List.getElem_toArray, List.getElem_cons_zero, List.getElem_cons_succ, List.setIfInBounds_toArray, List.set_cons_zero, List.set_cons_succ]
   refine wpAnyH_take (i := 6) (v := .int .i64 (at_ : Int)) rfl (by kernel_rfl) (by kernel_rfl) (by kernel_rfl) (fun _ _ _ h => h) (Or.inl ⟨by first | rfl | go_simp, fun wx hx => by obtain ⟨hx1, hx2⟩ := hx; go_simp⟩) hS ?_
   try simp only [Act.put, List.getElem_toArray, List.getElem_cons_zero, List.getElem_cons_succ, List.setIfInBounds_toArray, List.set_cons_zero, List.set_cons_succ]
   refine wpAnyH_take (i := 7) (v := .pointer (some ⟨b, off + at_ * 15, none⟩)) rfl (by kernel_rfl) (by kernel_rfl) (by kernel_rfl) (fun _ _ _ h => h) (Or.inl ⟨by first | rfl | go_simp, fun wx hx => by obtain ⟨hx1, hx2⟩ := hx; go_simp⟩) hS ?_
   try simp only [Act.put, List.getElem_toArray, List.getElem_cons_zero, List.getElem_cons_succ, List.setIfInBounds_toArray, List.set_cons_zero, List.set_cons_succ]
   refine wpAnyH_take (i := 8) (v := .pointer (some ⟨b, off + at_ * 15 + 14, none⟩)) rfl (by kernel_rfl) (by kernel_rfl) (by kernel_rfl) (fun _ _ _ h => h) (Or.inl ⟨by first | rfl | go_simp, fun wx hx => by obtain ⟨hx1, hx2⟩ := hx; go_simp⟩) hS ?_
   try simp only [Act.put, List.getElem_toArray, List.getElem_cons_zero, List.getElem_cons_succ, List.setIfInBounds_toArray, List.set_cons_zero, List.set_cons_succ]
   refine wpAnyH_take (i := 9) (v := .int .i64 (kn : Int)) rfl (by kernel_rfl) (by kernel_rfl) (by kernel_rfl) (fun _ _ _ h => h) (Or.inl ⟨by first | rfl | go_simp, fun wx hx => by obtain ⟨hx1, hx2⟩ := hx; go_simp⟩) hS ?_
   try simp only [Act.put, List.getElem_toArray, List.getElem_cons_zero, List.getElem_cons_succ, List.setIfInBounds_toArray, List.set_cons_zero, List.set_cons_succ]
   refine wpAnyH_take (i := 10) (v := .int .i64 ((at_ : Int) + 1 + (kn : Int))) rfl (by kernel_rfl) (by kernel_rfl) (by kernel_rfl) (fun _ _ _ h => h) (Or.inl ⟨by first | rfl | go_simp, fun wx hx => by obtain ⟨hx1, hx2⟩ := hx; go_simp; first | (go_num; done) | (go_bits; done) | (go_bits; trivial)⟩) hS ?_
   try simp only [Act.put, List.getElem_toArray, List.getElem_cons_zero, List.getElem_cons_succ, List.setIfInBounds_toArray, List.set_cons_zero, List.set_cons_succ]
   refine wpAnyH_take (i := 11) (v := .agg #[(.iface X q), .int .i64 (at_ : Int), .int .i64 ((at_ : Int) + 1 + (kn : Int))]) rfl (by kernel_rfl) (by kernel_rfl) (by kernel_rfl) (fun _ _ _ h => h) (Or.inl ⟨by first | rfl | go_simp, fun wx hx => by obtain ⟨hx1, hx2⟩ := hx; go_simp⟩) hS ?_
   try simp only [Act.put, List.getElem_toArray, List.getElem_cons_zero, List.getElem_cons_succ, List.setIfInBounds_toArray, List.set_cons_zero, List.set_cons_succ]
   obtain ⟨i0, hi0, hz0, hz1, hz2⟩ := info_parts Tryz.info141i
   have hwW : w.heap.size < W.heap.size := HRO.out.1.lt
   have hbW : b < W.heap.size := by omega
   have S4 : (W.alloc (.cells #[(.iface X q), .int .i64 (at_ : Int), .int .i64 ((at_ : Int) + 1 + (kn : Int))] 186)).drew.cell? ⟨w.heap.size, 0, none⟩ = some (.slice (some ⟨b, off, none⟩) n cap) ∧ (W.alloc (.cells #[(.iface X q), .int .i64 (at_ : Int), .int .i64 ((at_ : Int) + 1 + (kn : Int))] 186)).drew.cell? ⟨b, off + at_ * 15 + 14, none⟩ = some (.int .i64 (kn : Int)) := ⟨((below1 W _).cell (p := ⟨w.heap.size, 0, none⟩) hwW).trans hS.1, ((below1 W _).cell (p := ⟨b, off + at_ * 15 + 14, none⟩) hbW).trans hS.2⟩
   have U4 : Boxed (W.alloc (.cells #[(.iface X q), .int .i64 (at_ : Int), .int .i64 ((at_ : Int) + 1 + (kn : Int))] 186)).drew (w.heap.size + 1 + 1) 86 (.slice ua pre.length uc) := Boxed.alloc HRO.out.2.1 _
   have hcu4 := U4.cell
   clear U4
   refine wpAnyH_ready (rs := [0, 12]) (by kernel_rfl) (by simp) ?_
   refine AllReadyH.cons rfl (fun K hK => ?_) (AllReadyH.cons rfl (fun K hK => ?_) AllReadyH.nil)
   ·rw [if_pos (by first | rfl | go_simp)]
    have hcu := hbuc
    go_simp
    refine hK.out _ _ hS (fun _ => ?_)
    try simp only [Act.put, List.getElem_toArray, List.getElem_cons_zero, List.getElem_cons_succ, List.setIfInBounds_toArray, List.set_cons_zero, List.set_cons_succ]
    clear hK K
    refine wpAnyH_ready (rs := [12]) (by kernel_rfl) (by simp) ?_
    refine AllReadyH.cons rfl (fun K hK => ?_) AllReadyH.nil
    rw [if_pos (by first | rfl | go_simp)]
    go_simp
    refine hK.out _ _ S4 (fun _ => ?_)
    try simp only [Act.put, List.getElem_toArray, List.getElem_cons_zero, List.getElem_cons_succ, List.setIfInBounds_toArray, List.set_cons_zero, List.set_cons_succ]
    clear hK K
    refine wpAnyH_ready (rs := [13]) (by kernel_rfl) (by simp) ?_
    refine AllReadyH.cons rfl (fun K hK => ?_) AllReadyH.nil
    rw [if_pos (by first | rfl | go_simp)]
    refine wp_append_at _ _ 86 rfl w.heap.size 186 i0 (.agg #[.nilIface, .int .i64 0, .int .i64 0]) 3 32 Tryz.underlying86 hi0 hz0 hz1 hz2 rfl (by decide) (.slice ua pre.length uc) pre.length _ rfl (show ((W.alloc (.cells #[(.iface X q), .int .i64 (at_ : Int), .int .i64 ((at_ : Int) + 1 + (kn : Int))] 186)).drew).ownsRow _ _ _ _ _ _ from World.ownsRow.alloc HRO.out.2.2.1 _) ⟨W.heap.size, 0, none⟩ 1 1 [(.iface X q), .int .i64 (at_ : Int), .int .i64 ((at_ : Int) + 1 + (kn : Int))] rfl rfl (fun j u hj => cell_three_new W _ _ _ _ j u hj) (by intro z hz; simp at hz; rcases hz with rfl | rfl | rfl; exact hone; rfl; rfl) (by unfold maxLen; omega) (by omega) (by simp; omega) ?_
    intro v5 w5 ho5 hg5 hnil5 hat5
    obtain ⟨g5, c5, rfl⟩ := ownsRow_succ ho5
    obtain ⟨d1, d2, d3, d4, d5, d6, d7, d8, d9⟩ := itf_done (xs := xs) (ao := some ⟨b, off, none⟩) (Bs := Bs) (b := b) (off := off) (cap := cap) HRO.out.1 HRO.out.2.1 HRO.out.2.2.1 HRO.out.2.2.2.1 HRO.out.2.2.2.2.2 HRO.out.2.2.2.2.1 (by omega) hws (fun _ => hbw) (by omega) ho5 hg5 hat5
    have hcu5 := d9.cell
    have hfu5 := d9.frozen
    have S5 : w5.cell? ⟨w.heap.size, 0, none⟩ = some (.slice (some ⟨b, off, none⟩) n cap) ∧ w5.cell? ⟨b, off + at_ * 15 + 14, none⟩ = some (.int .i64 (kn : Int)) := by
     have e1 : ∀ p : Addr, p.block ≠ w.heap.size + 1 + 1 → (w5.setCell ⟨w.heap.size + 1 + 1, 0, none⟩ (.slice (some ⟨g5, 0, none⟩) (pre.length + 1) c5)).cell? p = w5.cell? p := fun p hp => World.cell?_setCell_far _ _ _ _ (Ne.symm hp)
     refine ⟨?_, ?_⟩
     ·rw [← e1 _ (by simp; omega)]
      exact d3.cell
     ·rw [← e1 _ (by simp; omega)]
      exact (d8.cell (p := ⟨b, off + at_ * 15 + 14, none⟩) hbw).trans ((HRO.out.2.2.2.2.2.cell (p := ⟨b, off + at_ * 15 + 14, none⟩) hbw).symm.trans g14)
    have S6 : (w5.setCell ⟨w.heap.size + 1 + 1, 0, none⟩ (.slice (some ⟨g5, 0, none⟩) (pre.length + 1) c5)).cell? ⟨w.heap.size, 0, none⟩ = some (.slice (some ⟨b, off, none⟩) n cap) ∧ (w5.setCell ⟨w.heap.size + 1 + 1, 0, none⟩ (.slice (some ⟨g5, 0, none⟩) (pre.length + 1) c5)).cell? ⟨b, off + at_ * 15 + 14, none⟩ = some (.int .i64 (kn : Int)) := ⟨d3.cell, (d8.cell (p := ⟨b, off + at_ * 15 + 14, none⟩) hbw).trans ((HRO.out.2.2.2.2.2.cell (p := ⟨b, off + at_ * 15 + 14, none⟩) hbw).symm.trans g14)⟩
    have HD := hideP d1
    have D2 := hideP d2
    have D3 := hideP d3
    have D4 := hideP d4
    have D5 := hideP d5
    have D6 := hideP d6
    have D7 := hideP d7
    have D8 := hideP d8
    clear d1 d2 d3 d4 d5 d6 d7 d8 d9 ho5 hg5 hat5 hnil5
    refine hK.out _ _ S5 (fun _ => ?_)
    try simp only [Act.put, List.getElem_toArray, List.getElem_cons_zero, List.getElem_cons_succ, List.setIfInBounds_toArray, List.set_cons_zero, List.set_cons_succ]
    clear hK K
    refine wpAnyH_ready (rs := [14]) (by kernel_rfl) (by simp) ?_
    refine AllReadyH.cons rfl (fun K hK => ?_) AllReadyH.nil
    rw [if_pos (by first | rfl | go_simp)]
    go_simp
    refine hK.out _ _ S6 (fun _ => ?_)
    try simp only [Act.put, List.getElem_toArray, List.getElem_cons_zero, List.getElem_cons_succ, List.setIfInBounds_toArray, List.set_cons_zero, List.set_cons_succ]
    clear hK K
    refine wpAnyH_done (by kernel_rfl) ?_ _
    gi_wp2
    refine ⟨HD.out, D2.out, ⟨D3.out, _, D4.out, ?_, D6.out, D7.out⟩, D8.out⟩
    rw [List.length_append, List.length_singleton, HA.out, flatI_snoc, HIT.out.1, ← HIT.out.2]
    exact D5.out
   ·rw [if_pos (by first | rfl | go_simp)]
    go_simp
    refine hK.out _ _ S4 (fun _ => ?_)
    try simp only [Act.put, List.getElem_toArray, List.getElem_cons_zero, List.getElem_cons_succ, List.setIfInBounds_toArray, List.set_cons_zero, List.set_cons_succ]
    clear hK K
    refine wpAnyH_ready (rs := [0]) (by kernel_rfl) (by simp) ?_
    refine AllReadyH.cons rfl (fun K hK => ?_) AllReadyH.nil
    rw [if_pos (by first | rfl | go_simp)]
    go_simp
    refine hK.out _ _ S4 (fun _ => ?_)
    try simp only [Act.put, List.getElem_toArray, List.getElem_cons_zero, List.getElem_cons_succ, List.setIfInBounds_toArray, List.set_cons_zero, List.set_cons_succ]
    clear hK K
    refine wpAnyH_ready (rs := [13]) (by kernel_rfl) (by simp) ?_
    refine AllReadyH.cons rfl (fun K hK => ?_) AllReadyH.nil
    rw [if_pos (by first | rfl | go_simp)]
    refine wp_append_at _ _ 86 rfl w.heap.size 186 i0 (.agg #[.nilIface, .int .i64 0, .int .i64 0]) 3 32 Tryz.underlying86 hi0 hz0 hz1 hz2 rfl (by decide) (.slice ua pre.length uc) pre.length _ rfl (show ((W.alloc (.cells #[(.iface X q), .int .i64 (at_ : Int), .int .i64 ((at_ : Int) + 1 + (kn : Int))] 186)).drew).ownsRow _ _ _ _ _ _ from World.ownsRow.alloc HRO.out.2.2.1 _) ⟨W.heap.size, 0, none⟩ 1 1 [(.iface X q), .int .i64 (at_ : Int), .int .i64 ((at_ : Int) + 1 + (kn : Int))] rfl rfl (fun j u hj => cell_three_new W _ _ _ _ j u hj) (by intro z hz; simp at hz; rcases hz with rfl | rfl | rfl; exact hone; rfl; rfl) (by unfold maxLen; omega) (by omega) (by simp; omega) ?_
    intro v5 w5 ho5 hg5 hnil5 hat5
    obtain ⟨g5, c5, rfl⟩ := ownsRow_succ ho5
    obtain ⟨d1, d2, d3, d4, d5, d6, d7, d8, d9⟩ := itf_done (xs := xs) (ao := some ⟨b, off, none⟩) (Bs := Bs) (b := b) (off := off) (cap := cap) HRO.out.1 HRO.out.2.1 HRO.out.2.2.1 HRO.out.2.2.2.1 HRO.out.2.2.2.2.2 HRO.out.2.2.2.2.1 (by omega) hws (fun _ => hbw) (by omega) ho5 hg5 hat5
    have hcu5 := d9.cell
    have hfu5 := d9.frozen
    have S5 : w5.cell? ⟨w.heap.size, 0, none⟩ = some (.slice (some ⟨b, off, none⟩) n cap) ∧ w5.cell? ⟨b, off + at_ * 15 + 14, none⟩ = some (.int .i64 (kn : Int)) := by
     have e1 : ∀ p : Addr, p.block ≠ w.heap.size + 1 + 1 → (w5.setCell ⟨w.heap.size + 1 + 1, 0, none⟩ (.slice (some ⟨g5, 0, none⟩) (pre.length + 1) c5)).cell? p = w5.cell? p := fun p hp => World.cell?_setCell_far _ _ _ _ (Ne.symm hp)
     refine ⟨?_, ?_⟩
     ·rw [← e1 _ (by simp; omega)]
      exact d3.cell
     ·rw [← e1 _ (by simp; omega)]
      exact (d8.cell (p := ⟨b, off + at_ * 15 + 14, none⟩) hbw).trans ((HRO.out.2.2.2.2.2.cell (p := ⟨b, off + at_ * 15 + 14, none⟩) hbw).symm.trans g14)
    have S6 : (w5.setCell ⟨w.heap.size + 1 + 1, 0, none⟩ (.slice (some ⟨g5, 0, none⟩) (pre.length + 1) c5)).cell? ⟨w.heap.size, 0, none⟩ = some (.slice (some ⟨b, off, none⟩) n cap) ∧ (w5.setCell ⟨w.heap.size + 1 + 1, 0, none⟩ (.slice (some ⟨g5, 0, none⟩) (pre.length + 1) c5)).cell? ⟨b, off + at_ * 15 + 14, none⟩ = some (.int .i64 (kn : Int)) := ⟨d3.cell, (d8.cell (p := ⟨b, off + at_ * 15 + 14, none⟩) hbw).trans ((HRO.out.2.2.2.2.2.cell (p := ⟨b, off + at_ * 15 + 14, none⟩) hbw).symm.trans g14)⟩
    have HD := hideP d1
    have D2 := hideP d2
    have D3 := hideP d3
    have D4 := hideP d4
    have D5 := hideP d5
    have D6 := hideP d6
    have D7 := hideP d7
    have D8 := hideP d8
    clear d1 d2 d3 d4 d5 d6 d7 d8 d9 ho5 hg5 hat5 hnil5
    refine hK.out _ _ S5 (fun _ => ?_)
    try simp only [Act.put, List.getElem_toArray, List.getElem_cons_zero, List.getElem_cons_succ, List.setIfInBounds_toArray, List.set_cons_zero, List.set_cons_succ]
    clear hK K
    refine wpAnyH_ready (rs := [14]) (by kernel_rfl) (by simp) ?_
    refine AllReadyH.cons rfl (fun K hK => ?_) AllReadyH.nil
    rw [if_pos (by first | rfl | go_simp)]
    go_simp
    refine hK.out _ _ S6 (fun _ => ?_)
    try simp only [Act.put, List.getElem_toArray, List.getElem_cons_zero, List.getElem_cons_succ, List.setIfInBounds_toArray, List.set_cons_zero, List.set_cons_succ]
    clear hK K
    refine wpAnyH_done (by kernel_rfl) ?_ _
    gi_wp2
    refine ⟨HD.out, D2.out, ⟨D3.out, _, D4.out, ?_, D6.out, D7.out⟩, D8.out⟩
    rw [List.length_append, List.length_singleton, HA.out, flatI_snoc, HIT.out.1, ← HIT.out.2]
    exact D5.out
structure Temps where
 u7 : Value
 u8 : Value
 u9 : Value
 u10 : Value
 u11 : Value
 u12 : Value
 u42 : Value
 u43 : Value
 u44 : Value
 u45 : Value
 u46 : Value
 u47 : Value
 u48 : Value
 u49 : Value
 u50 : Value
 u51 : Value
 u52 : Value
 u53 : Value
 u54 : Value
 u55 : Value
 u56 : Value
 u57 : Value
 u58 : Value
 u59 : Value
 u60 : Value
 u61 : Value
 u62 : Value
 u63 : Value
 u64 : Value
 u65 : Value
 u66 : Value
 u67 : Value
 u68 : Value
 u69 : Value
 u70 : Value
 u71 : Value
 u72 : Value
 u73 : Value
 u74 : Value
 u75 : Value
 u76 : Value
 u77 : Value
 u78 : Value
theorem starts_le (xs : List Nd) : ∀ (f i : Nat), (starts xs f i).length ≤ f
 | 0, _ => by simp [starts]
 | f + 1, i => by
  unfold starts
  split
  ·have := starts_le xs f (i + 1 + (xs.getD i Nd.none).kids.toNat)
   simp only [List.length_cons]
   omega
  ·simp
theorem its_le {xs : List Nd} (h : AllOk xs) : (its xs).length ≤ 20001 := by
 unfold its
 rw [List.length_map]
 have := starts_le xs (xs.length + 1) 0
 have := h.len
 omega
theorem flatI_get (ys : List It) (i : Nat) (h : i < ys.length) : (flatI ys)[i * 3]? = some (thV (ys.getD i It.none).1) ∧ (flatI ys)[i * 3 + 1]? = some (.int .i64 (ys.getD i It.none).2.1) ∧ (flatI ys)[i * 3 + 2]? = some (.int .i64 (ys.getD i It.none).2.2) := by
 induction ys generalizing i with
 | nil => simp at h
 | cons y ys ih =>
  have e : flatI (y :: ys) = thV y.1 :: .int .i64 y.2.1 :: .int .i64 y.2.2 :: flatI ys := rfl
  rw [e]
  cases i with
  | zero => simp
  | succ i =>
   have h2 := ih i (by simpa using h)
   rw [show (i + 1) * 3 = i * 3 + 3 by omega]
   simpa using h2
theorem its_row {w : World} {base N uc : Nat} {ua : Option Addr} {ys : List It} (h : w.ownsRow base 186 3 (.slice ua N uc) N (flatI ys)) (hl : ys.length = N) (hN : 0 < N) : ∃ g, ua = some ⟨g, 0, none⟩ ∧ base ≤ g ∧ g < w.heap.size ∧ ItR w g ys := by
 obtain ⟨h0, ⟨e, hz⟩ | ⟨g, cap, cur, e, hg, hb, hn, hm, hs, hx⟩⟩ := h
 ·simp only [Value.slice.injEq] at e
  omega
 ·simp only [Value.slice.injEq] at e
  obtain ⟨rfl, _, rfl⟩ := e
  have hc : ∀ j u, (flatI ys)[j]? = some u → w.cell? ⟨g, j, none⟩ = some u := fun j u hj => by
   rw [cell_of_row w g _ cur 186 _ hb, ← Array.getElem?_toList]
   rw [← hx, List.getElem?_take] at hj
   split at hj
   ·exact hj
   ·simp at hj
  exact ⟨g, rfl, hg, (Array.getElem?_eq_some_iff.1 hb).1, ⟨fun i hi => hc _ _ (flatI_get ys i hi).1, fun i hi => hc _ _ (flatI_get ys i hi).2.1, fun i hi => hc _ _ (flatI_get ys i hi).2.2⟩⟩
theorem ItR.block {w w' : World} {g : Nat} {ys : List It} (h : ItR w g ys) (hb : w'.heap[g]? = w.heap[g]?) : ItR w' g ys :=
 ⟨fun i hi => (World.cell?_of_block (w := w) (a := ⟨g, i * 3, none⟩) hb).trans (h.c0 i hi), fun i hi => (World.cell?_of_block (w := w) (a := ⟨g, i * 3 + 1, none⟩) hb).trans (h.c1 i hi), fun i hi => (World.cell?_of_block (w := w) (a := ⟨g, i * 3 + 2, none⟩) hb).trans (h.c2 i hi)⟩
theorem list_ord {xs : List Nd} (h : listB xs = true) : ∀ i, i < xs.length → Ord (xs.getD i Nd.none) := fun i hi => by
 unfold listB at h
 simp only [Bool.and_eq_true, decide_eq_true_eq] at h
 have hmem : xs.getD i Nd.none ∈ xs := by simp [List.getD, List.getElem?_eq_getElem hi]
 have hg := (ok_all xs 0 [] (by omega) (by simp) h.2 _ hmem).1
 unfold goodB specB glB uptoB at hg
 simp only [Bool.and_eq_true, decide_eq_true_eq] at hg
 unfold Ord
 omega
theorem its_get {xs : List Nd} {k : Nat} (h : k < (its xs).length) : ∃ a, a < xs.length ∧ (its xs).getD k It.none = itAt xs a := by
 have h2 : k < (starts xs (xs.length + 1) 0).length := by simpa [its] using h
 refine ⟨(starts xs (xs.length + 1) 0)[k], starts_lt xs _ _ _ (List.getElem_mem h2), ?_⟩
 simp [its, List.getD, List.getElem?_map, List.getElem?_eq_getElem h2]
theorem ownG_other {base e s n C : Nat} {w : World} {v : Value} {xs : List Value} (h : w.ownsRow base e s v n xs) (hne : v.ownBlock ≠ some C) (o : Nat) (x : Value) : (w.setCell ⟨C, o, none⟩ x).ownsRow base e s v n xs := by
 obtain ⟨hl, h | ⟨g, cap, cur, rfl, hg, hb, hr⟩⟩ := h
 ·exact ⟨hl, .inl h⟩
 ·exact ⟨hl, .inr ⟨g, cap, cur, rfl, hg, (Below.heap_setCell _ _ _ _ (by intro e; exact hne (by simp [Value.ownBlock]; exact e))).trans hb, hr⟩⟩
theorem ownG_mono {base base' e s n : Nat} {w : World} {v : Value} {xs : List Value} (h : w.ownsRow base e s v n xs) (hb : base' ≤ base) : w.ownsRow base' e s v n xs := by
 obtain ⟨hl, h | ⟨g, cap, cur, rfl, hg, hr⟩⟩ := h
 ·exact ⟨hl, .inl h⟩
 ·exact ⟨hl, .inr ⟨g, cap, cur, rfl, by omega, hr⟩⟩
end Go.Proofs.YtlohbaoigfaneaaGreat
