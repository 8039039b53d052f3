import Derived.Test.YtlohbaoigfaneaaGreatLrw
import Derived.Test.YtlohbaoigfaneaaGreatSts1
import Derived.Test.YtlohbaoigfaneaaGreatMak
import Derived.Deep.DeepCutAuto
import Derived.Test.YtlohbaoigfaneaaGreatLis
import Derived.Test.YtlohbaoigfaneaaGreatGlue
import Derived.Test.YtlohbaoigfaneaaGreatTrn
import Derived.Test.YtlohbaoigfaneaaGreatItx
namespace Go.Proofs.YtlohbaoigfaneaaGreat
open Go.RowKit
set_option linter.unusedVariables false
set_option linter.unusedSimpArgs false
def endK (xs : List Nd) : Nat → Nat → Nat
 | i, 0 => i
 | i, k + 1 => endK xs (i + 1 + (xs.getD i Nd.none).kids.toNat) k
def rowI (xs : List Nd) (S : Sy) : List It := (its xs).take (trm (its xs) (its xs).length) ++ [(penN 10000, 0, 0), (gapN S.f0 S.f1 S.f2 S.f3 S.f4, 0, 0), (penN (-10000), 0, 0)]
def bl0 (xs : List Nd) (S : Sy) : List Int := ((List.range (rowI xs S).length).filter (trnB (rowI xs S))).map (fun a : Nat => (a : Int))
def blL (xs : List Nd) (S : Sy) : List Int := if syB S = true ∧ listB xs = true ∧ (its xs).length ≤ 2000 ∧ (bl0 xs S).length ≤ 300 then bl0 xs S else []
theorem its_fst {xs : List Nd} {k : Nat} (h : k < (starts xs (xs.length + 1) 0).length) : ((its xs).getD k It.none).1 = xs.getD ((starts xs (xs.length + 1) 0)[k]) Nd.none := by
 unfold its
 simp [List.getD, List.getElem?_map, List.getElem?_eq_getElem h]
 rfl
abbrev Tn := Int × Int × Option Addr × Int
abbrev Tn.none : Tn := (0, 0, Option.none, 0)
def Tn.cells (t : Tn) : List Value := [.int .i64 t.1, .int .i64 t.2.1, .pointer t.2.2.1, .int .i64 t.2.2.2]
def flatT : List Tn → List Value
 | [] => []
 | t :: ts => t.cells ++ flatT ts
def Rv (L M : List Tn) (k : Nat) : Prop := M.length = L.length ∧ ∀ i, i < L.length → M.getD i Tn.none = if i < k ∨ L.length - 1 - i < k then L.getD (L.length - 1 - i) Tn.none else L.getD i Tn.none
theorem Rv.start (L : List Tn) : Rv L L 0 := ⟨rfl, fun i hi => by simp⟩
theorem Rv.done {L M : List Tn} {k : Nat} (h : Rv L M k) (hk : L.length ≤ 2 * k + 1) : M = L.reverse := by
 refine List.ext_getElem (by simp [h.1]) (fun i h1 h2 => ?_)
 have hi : i < L.length := by rw [← h.1]; exact h1
 have h3 := h.2 i hi
 rw [List.getD_eq_getElem?_getD, List.getElem?_eq_getElem h1] at h3
 simp only [Option.getD_some] at h3
 rw [h3, List.getElem_reverse]
 have e : L.getD (L.length - 1 - i) Tn.none = L[L.length - 1 - i] := by rw [List.getD_eq_getElem?_getD, List.getElem?_eq_getElem (by omega)]; rfl
 split
 ·exact e
 ·have : i = L.length - 1 - i := by omega
  rw [← e]
  exact congrArg (L.getD · Tn.none) this
theorem getT_ne {xs : List Tn} {p q : Nat} (h : q ≠ p) (y : Tn) : (xs.set p y).getD q Tn.none = xs.getD q Tn.none := by
 rw [List.getD_eq_getElem?_getD, List.getD_eq_getElem?_getD, List.getElem?_set_ne (by omega)]
theorem getT_eq {xs : List Tn} {p : Nat} (h : p < xs.length) (y : Tn) : (xs.set p y).getD p Tn.none = y := by
 rw [List.getD_eq_getElem?_getD, List.getElem?_set_self h]
 rfl
theorem Rv.step {L M : List Tn} {k j : Nat} (h : Rv L M k) (hj : j = L.length - 1 - k) (hk : k < j) : Rv L ((M.set k (M.getD j Tn.none)).set j (M.getD k Tn.none)) (k + 1) := by
 refine ⟨by simp [h.1], fun i hi => ?_⟩
 by_cases hij : i = j
 ·subst hij
  rw [getT_eq (by rw [List.length_set, h.1]; exact hi), h.2 k (by omega)]
  have e : L.length - 1 - i = k := by omega
  rw [if_neg (by omega), if_pos (by omega), e]
 ·rw [getT_ne hij]
  by_cases hik : i = k
  ·subst hik
   rw [getT_eq (by rw [h.1]; exact hi), h.2 j (by omega), if_neg (by omega), if_pos (by omega), ← hj]
  ·rw [getT_ne hik, h.2 i hi]
   by_cases hc : i < k ∨ L.length - 1 - i < k
   ·rw [if_pos hc, if_pos (by omega)]
   ·rw [if_neg hc, if_neg (by omega)]
theorem Sole.drew {g : Nat} {w a : World} (h : Sole g w a) : Sole g w a.drew := ⟨Below.drew h.below, h.other⟩
def syL (x : Sy) : List Value := [.int .i64 x.wd, .int .i64 x.nw, .int .i64 x.hg, .int .i64 x.tl, .int .i64 x.ln, .int .i64 x.hy, .int .i64 x.du, .int .i64 x.ad, .int .i64 x.l0, .int .i64 x.l1, .int .i64 x.l2, .int .i64 x.l3, .int .i64 x.l4, .int .i64 x.r0, .int .i64 x.r1, .int .i64 x.r2, .int .i64 x.r3, .int .i64 x.r4, .int .i64 x.f0, .int .i64 x.f1, .int .i64 x.f2, .int .i64 x.f3, .int .i64 x.f4]
structure PZ where
 S : Sy
 nv : Value
 sv : Value
structure ParA (w : World) (PB : Nat) (z5 : PZ) (items turns : Value) : Prop where
 blk : ∃ cs, w.heap[PB]? = some (.cells cs 89 (0, 0)) ∧ cs.size = 27
 c5 : w.cell? ⟨PB, 5, none⟩ = some (.int .i64 z5.S.hy)
 c24 : w.cell? ⟨PB, 24, none⟩ = some items
 c26 : w.cell? ⟨PB, 26, none⟩ = some turns
 c23 : w.cell? ⟨PB, 23, none⟩ = some z5.nv
 c25 : w.cell? ⟨PB, 25, none⟩ = some z5.sv
 sty : ∀ o, o < 23 → w.cell? ⟨PB, o, none⟩ = (syL z5.S)[o]?
theorem ParA.keep {w w' : World} {PB : Nat} {z5 : PZ} {i t : Value} (h : ParA w PB z5 i t) (hb : w'.heap[PB]? = w.heap[PB]?) : ParA w' PB z5 i t := by
 obtain ⟨⟨cs, h1, h2⟩, c5, c24, c26, c23, c25, sty⟩ := h
 exact ⟨⟨cs, hb.trans h1, h2⟩, (World.cell?_of_block (a := ⟨PB, 5, none⟩) hb).trans c5, (World.cell?_of_block (a := ⟨PB, 24, none⟩) hb).trans c24, (World.cell?_of_block (a := ⟨PB, 26, none⟩) hb).trans c26, (World.cell?_of_block (a := ⟨PB, 23, none⟩) hb).trans c23, (World.cell?_of_block (a := ⟨PB, 25, none⟩) hb).trans c25, fun o ho => (World.cell?_of_block (a := ⟨PB, o, none⟩) hb).trans (sty o ho)⟩
theorem ParA.lt {w : World} {PB : Nat} {z5 : PZ} {i t : Value} (h : ParA w PB z5 i t) : PB < w.heap.size := by
 obtain ⟨⟨cs, h1, h2⟩, _⟩ := h
 exact (Array.getElem?_eq_some_iff.1 h1).1
theorem ParA.free {w : World} {PB : Nat} {z5 : PZ} {i t : Value} (h : ParA w PB z5 i t) (o : Nat) : w.frozen? ⟨PB, o, none⟩ = false := by
 obtain ⟨⟨cs, h1, h2⟩, _⟩ := h
 rw [World.frozen?, h1]
 rfl
theorem ParA.set {w : World} {PB : Nat} {z5 : PZ} {i t t' : Value} (h : ParA w PB z5 i t) : ParA (w.setCell ⟨PB, 26, none⟩ t') PB z5 i t' := by
 obtain ⟨⟨cs, h1, h2⟩, c5, c24, c26, c23, c25, sty⟩ := h
 obtain ⟨cur, q1, q2, q3, q4⟩ := putC_block [t'] 26 w cs h1 (by simp; omega)
 have q1' : (w.setCell ⟨PB, 26, none⟩ t').heap[PB]? = some (.cells cur 89 (0, 0)) := q1
 have hc : ∀ o, o ≠ 26 → (w.setCell ⟨PB, 26, none⟩ t').cell? ⟨PB, o, none⟩ = w.cell? ⟨PB, o, none⟩ := fun o ho => by
  rw [cell_of_row _ _ _ _ _ _ q1', cell_of_row _ _ _ _ _ _ h1, q3 o (by simp; omega)]
 refine ⟨⟨cur, q1', q2.trans h2⟩, (hc 5 (by omega)).trans c5, (hc 24 (by omega)).trans c24, ?_, (hc 23 (by omega)).trans c23, (hc 25 (by omega)).trans c25, fun o ho => (hc o (by omega)).trans (sty o ho)⟩
 rw [cell_of_row _ _ _ _ _ _ q1']
 exact q4 0 (by simp)
def back (ys : List It) (n k : Nat) : List Int := ((((List.range n).drop k).filter (trnB ys)).reverse).map (fun a : Nat => (a : Int))
def nxt (ys : List It) (k : Nat) : Nat := k + ((ys.drop k).takeWhile (fun y => discB y.1)).length
def TurnP (hy : Int) (ys : List It) (t : Tn) (W : World) : Prop := t = (-1, 0, none, (nxt ys 0 : Int)) ∨ ∃ (k : Nat) (q : Option Addr), t = ((k : Int), trnC hy ys k, q, (nxt ys (k + 1) : Int)) ∧ k < ys.length ∧ ShowN (ys.getD k It.none).1 q W
theorem TurnP.keep {hy : Int} {ys : List It} {t : Tn} {w w' : World} (h : TurnP hy ys t w) (hk : KeepH w w') : TurnP hy ys t w' := by
 rcases h with h | ⟨k, q, h1, h2, h3⟩
 ·exact .inl h
 ·exact .inr ⟨k, q, h1, h2, h3.keep hk⟩
theorem KeepH.set {w : World} {PB : Nat} {z5 : PZ} {i t : Value} (h : ParA w PB z5 i t) (o : Nat) (v : Value) : KeepH w (w.setCell ⟨PB, o, none⟩ v) := fun b cs e => by
 obtain ⟨cs2, h1, _⟩ := h.blk
 refine (Below.heap_setCell _ _ _ _ (fun e2 => ?_)).trans e
 subst e2
 rw [h1] at e
 cases e
theorem KeepH.grown {w w' : World} {base n : Nat} {v : Value} {xs : List Value} (h : w.ownsRow base 85 4 v n xs) (hg : ∀ b, b < w.heap.size → some b ≠ v.ownBlock → w'.heap[b]? = w.heap[b]?) : KeepH w w' := fun b cs e => by
 refine (hg b (Array.getElem?_eq_some_iff.1 e).1 (fun e2 => ?_)).trans e
 obtain ⟨_, ⟨rfl, _⟩ | ⟨g, cap, cur, rfl, _, hb, _⟩⟩ := h
 ·simp [Value.ownBlock] at e2
 ·have e3 : b = g := by simpa [Value.ownBlock] using e2
  subst e3
  rw [hb] at e
  cases e
end Go.Proofs.YtlohbaoigfaneaaGreat
