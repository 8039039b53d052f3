/-
  The items of a list: what they are.
-/
import Derived.RangeFuncNested
import Derived.RangeFuncBound
import Derived.RangeFuncCalls
import Derived.RangeFuncLeaves
import Derived.OrdersHeld
import Derived.Deep.RegionHeld
import Derived.OrdersIn
import Derived.Test.YtdgfnceipginkaaRowg
import Derived.Test.YtdgfnceipginkaaItm
namespace Go.Proofs.Ytdgfnceipginkaa
open Go.RowKit
set_option linter.unusedVariables false
set_option linter.unusedSimpArgs false

theorem operIn_round {P : Program} {o : Oper} {a : Act} {w : World} {K : Act → World → Prop} {Q : Exit → Act → World → Prop} {l n : Nat} (hnd : ∀ c, o.op ≠ .defer c) (h : Oper.wp P o a w K Q) : Oper.wpIn (Fence.wide.inRound l) n P o a w K Q := by
  unfold Oper.wp at h
  unfold Oper.wpIn
  refine ⟨fun f _ => trivial, ?_⟩
  rw [Fence.inRound_round, Oper.semAt_some l _ _ hnd]
  generalize (execOp a.eval o).run P w = r at *
  cases r with
  | ok x w' =>
    cases x
    case value v => exact h
    case skip => exact h
    case defer d => exact h
    case enter f args => exact ⟨(fun e => by cases e), CallsIn.inRound l (callsIn_wide.2 h)⟩
    case row row args =>
      refine ⟨(fun e => by cases e), fun c cs hr => ?_⟩
      obtain ⟨v, w2, r, s⟩ := h c cs
      exact ⟨v, w2, r, stepsIn_wide.2 s⟩
    all_goals exact h.elim
  | halt x w' =>
    cases x <;> first | exact h | exact h.elim

theorem anyIn_round {P : Program} {md : Region.Mode} {ops : Array Oper} {Q : Exit → Act → World → Prop} {l n : Nat} (hnd : ∀ (i : Nat) (o : Oper), ops[i]? = some o → ∀ c, o.op ≠ .defer c) (hQ : ¬ LetsOut Q) :
    ∀ (fuel : Nat) (listed : Array Bool) (a : Act) (w : World), wpAny P md ops Q fuel listed a w → wpAnyIn (Fence.wide.inRound l) n P md ops Q fuel listed a w
  | 0, _, _, _, h => h
  | fuel + 1, listed, a, w, h => by
    refine ⟨h.1, fun i hi => ?_⟩
    have h2 := h.2 i hi
    unfold wpOp at h2
    unfold wpOpIn
    cases ho : ops[i]? with
    | none =>
      rw [ho] at h2
      exact anyIn_round hnd hQ fuel _ _ _ h2
    | some o =>
      rw [ho] at h2
      simp only at h2 ⊢
      split
      · rename_i hw
        rw [if_pos hw] at h2
        rcases h2 with h2 | h2
        · exact Oper.wpIn_mono (fun a w h => anyIn_round hnd hQ fuel _ a w h) (operIn_round (hnd i o ho) h2)
        · exact absurd h2.2 hQ
      · rename_i hw
        rw [if_neg hw] at h2
        exact ⟨fun f _ => trivial, anyIn_round hnd hQ fuel _ _ _ h2⟩

theorem region_heldR {P : Program} {ops : Array Oper} {Q : Exit → Act → World → Prop} {S : World → Prop} {l n id : Nat} {a : Act} {w : World} (hm : P.follows .mixedOrders = true) (hnd : ∀ (i : Nat) (o : Oper), ops[i]? = some o → ∀ c, o.op ≠ .defer c) (hQ : ¬ LetsOut Q)
    (h : wpAnyH P .any ops Q S ops.size (Array.replicate ops.size false) a w.drew) : (Code.region id ops true).wpIn (Fence.wide.inRound l) n P Q a w :=
  wpIn_region_any hm (anyIn_round hnd hQ _ _ _ _ (wpAny_of_held _ _ _ _ h))
end Go.Proofs.Ytdgfnceipginkaa
namespace Go.Proofs.Ytdgfnceipginkaa
open Go.RowKit Go.Shelf
set_option linter.unusedVariables false
set_option linter.unusedSimpArgs false
attribute [local go_sem] Oper.semAt_some

def itemAt (xs : List Nd) (p : Nat) : List Nd := (xs.drop p).take (1 + (xs.getD p Nd.none).kids.toNat)
def itemsOf (xs : List Nd) : List (List Nd) := if listB xs then (starts xs (xs.length + 1) 0).map (itemAt xs) else []

theorem ok_end {len : Int} : ∀ (xs : List Nd) (i : Int) (T : List Int), 0 ≤ i → (∀ y ∈ T, y ≤ len) → okFrom len i T xs = true → ∀ j, j < xs.length → i + j + 1 + (xs.getD j Nd.none).kids ≤ len
  | [], _, _, _, _, _, j, hj => by simp at hj
  | x :: xs, i, T, hi, hT, h, j, hj => by
    simp only [okFrom, Bool.and_eq_true] at h
    obtain ⟨⟨⟨hg, hk⟩, _⟩, hr⟩ := h
    have hk := of_decide_eq_true hk
    have hh : (T.dropWhile (· == i)).headD len ≤ len := by
      cases he : T.dropWhile (· == i) with
      | nil => simp
      | cons a U => simpa using hT a (drop_mem (by rw [he]; exact List.mem_cons_self ..))
    have hU : ∀ y ∈ T.dropWhile (· == i), y ≤ len := fun y hy => hT y (drop_mem hy)
    cases j with
    | zero => simp only [List.getD_cons_zero]; omega
    | succ j =>
      simp only [List.getD_cons_succ]
      have h2 := ok_end xs (i + 1) _ (by omega) (by
        intro z hz
        split at hz
        · rcases List.mem_cons.1 hz with rfl | hz
          · omega
          · exact hU z hz
        · exact hU z hz) hr j (by simpa using hj)
      omega
structure AllOk (xs : List Nd) : Prop where
  len : xs.length ≤ 20000
  kids : ∀ i, i < xs.length → 0 ≤ (xs.getD i Nd.none).kids ∧ (i : Int) + 1 + (xs.getD i Nd.none).kids ≤ xs.length
  text : ∀ i, i < xs.length → (xs.getD i Nd.none).tx.size ≤ 1000
theorem allOk {xs : List Nd} (h : listB xs = true) : AllOk xs := by
  unfold listB at h
  simp only [Bool.and_eq_true, decide_eq_true_eq] at h
  obtain ⟨h1, h2⟩ := h
  have hmem : ∀ i, i < xs.length → xs.getD i Nd.none ∈ xs := fun i hi => by simp [List.getD, List.getElem?_eq_getElem hi]
  have hall := ok_all xs 0 [] (by omega) (by simp) h2
  refine ⟨h1, fun i hi => ⟨good_kids (hall _ (hmem i hi)).1, ?_⟩, fun i hi => good_text (hall _ (hmem i hi)).1⟩
  have := ok_end xs 0 [] (by omega) (by simp) h2 i hi
  omega
theorem AllOk.weak {xs : List Nd} (h : AllOk xs) : ∀ i, i < xs.length → 0 ≤ (xs.getD i Nd.none).kids ∧ (xs.getD i Nd.none).kids ≤ 20000 := fun i hi => by
  have h1 := h.kids i hi
  have h2 := h.len
  omega
theorem itemAt_len {xs : List Nd} (h : AllOk xs) {p : Nat} (hp : p < xs.length) : (itemAt xs p).length = 1 + (xs.getD p Nd.none).kids.toNat := by
  have h1 := h.kids p hp
  unfold itemAt
  rw [List.length_take, List.length_drop]
  omega
theorem starts_count {xs : List Nd} : ∀ (f i : Nat), (starts xs f i).length ≤ xs.length - i
  | 0, i => by simp [starts]
  | f + 1, i => by
    simp only [starts]
    split
    · have := starts_count (xs := xs) f (i + 1 + (xs.getD i Nd.none).kids.toNat)
      rw [List.length_cons]
      omega
    · simp
theorem itemAt_flat {xs : List Nd} {w : World} {b off p : Nat} (hc : ∀ j u, (flatN xs)[j]? = some u → w.cell? ⟨b, off + j, none⟩ = some u) : ∀ j u, (flatN (itemAt xs p))[j]? = some u → w.cell? ⟨b, off + p * 15 + j, none⟩ = some u := by
  intro j u hj
  have hlt : j < (flatN (itemAt xs p)).length := (List.getElem?_eq_some_iff.1 hj).1
  rw [flatN_len] at hlt
  have hi : j / 15 < (itemAt xs p).length := by omega
  have h1 := flatN_get (itemAt xs p) (j / 15) hi (j % 15) (by omega)
  rw [show j / 15 * 15 + j % 15 = j by omega, hj] at h1
  have hi2 : p + j / 15 < xs.length ∧ (itemAt xs p).getD (j / 15) Nd.none = xs.getD (p + j / 15) Nd.none := by
    unfold itemAt at hi ⊢
    generalize 1 + (xs.getD p Nd.none).kids.toNat = m at hi ⊢
    rw [List.length_take, List.length_drop] at hi
    refine ⟨by omega, ?_⟩
    simp only [List.getD, List.getElem?_take, List.getElem?_drop]
    rw [if_pos (by omega)]
  rw [hi2.2] at h1
  have h2 := flatN_get xs (p + j / 15) hi2.1 (j % 15) (by omega)
  rw [← h1] at h2
  have h3 := hc _ _ h2
  rw [show off + p * 15 + j = off + ((p + j / 15) * 15 + j % 15) by omega]
  exact h3
theorem boxed_kept {A B : World} {row : Option Nat} {k : Nat} {t : TypeId} {v : Value} (h : Boxed A k t v) (hg : A.grownBy B row) (hr : ∀ r, row = some r → ∃ o : Obj, A.heap[r]? = some o ∧ o.isCells = false) : Boxed B k t v :=
  h.kept hg (fun e => by
    obtain ⟨o, ho, hc⟩ := hr k e.symm
    rw [show A.heap[k]? = _ from h] at ho
    cases ho
    cases hc)
theorem Lsts.kept {base : Nat} {vs : List Value} {f : Nat → List Nd} {A B : World} {row : Option Nat} (h : Lsts base A vs f) (hg : A.grownBy B row) (hr : ∀ r, row = some r → ∃ o : Obj, A.heap[r]? = some o ∧ o.isCells = false) : Lsts base B vs f :=
  ⟨fun i u hu => own_row_kept (h.own i u hu) hg hr, h.apart⟩
def plainOp (o : Oper) : Bool := match o.op with | .defer _ => false | _ => true
theorem plain_spec {ops : Array Oper} (h : ops.all plainOp = true) : ∀ (i : Nat) (o : Oper), ops[i]? = some o → ∀ c, o.op ≠ .defer c := by
  intro i o ho c hc
  have h1 := Array.all_eq_true_iff_forall_mem.1 h o (Array.mem_of_getElem? ho)
  unfold plainOp at h1
  rw [hc] at h1
  cases h1
end Go.Proofs.Ytdgfnceipginkaa
