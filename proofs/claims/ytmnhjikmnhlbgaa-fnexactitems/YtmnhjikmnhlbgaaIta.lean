/-
  The items of a list: what they are.
-/
import Derived.Test.YtmnhjikmnhlbgaaItm
import Derived.Test.YtmnhjikmnhlbgaaRnd
namespace Go.Proofs.Ytmnhjikmnhlbgaa
open Go.RowKit Go.Shelf
set_option linter.unusedVariables false
set_option linter.unusedSimpArgs false
attribute [local go_sem] Oper.semAt_some

def itemAt (xs : List Nd) (p : Nat) : List Nd := (xs.drop p).take (1 + (xs.getD p Nd.none).kids.toNat)
def itemsOf (xs : List Nd) : List (List Nd) := if listB xs then (starts xs (xs.length + 1) 0).map (itemAt xs) else []

theorem ok_end {len : Int} : ∀ (xs : List Nd) (i : Int) (T : List Int), 0 ≤ i → (∀ y ∈ T, y ≤ len) → okFrom len i T xs = true → ∀ j, j < xs.length → i + j + 1 + (xs.getD j Nd.none).kids ≤ len
  | [], _, _, _, _, _, j, hj => by simp at hj
  | x :: xs, i, T, hi, hT, h, j, hj => by
    simp only [okFrom, Bool.and_eq_true] at h
    obtain ⟨⟨⟨hg, hk⟩, _⟩, hr⟩ := h
    have hk := of_decide_eq_true hk
    have hh : (T.dropWhile (· == i)).headD len ≤ len := by
      cases he : T.dropWhile (· == i) with
      | nil => simp
      | cons a U => simpa using hT a (drop_mem (by rw [he]; exact List.mem_cons_self ..))
    have hU : ∀ y ∈ T.dropWhile (· == i), y ≤ len := fun y hy => hT y (drop_mem hy)
    cases j with
    | zero => simp only [List.getD_cons_zero]; omega
    | succ j =>
      simp only [List.getD_cons_succ]
      have h2 := ok_end xs (i + 1) _ (by omega) (by
        intro z hz
        split at hz
        · rcases List.mem_cons.1 hz with rfl | hz
          · omega
          · exact hU z hz
        · exact hU z hz) hr j (by simpa using hj)
      omega
structure AllOk (xs : List Nd) : Prop where
  len : xs.length ≤ 20000
  kids : ∀ i, i < xs.length → 0 ≤ (xs.getD i Nd.none).kids ∧ (i : Int) + 1 + (xs.getD i Nd.none).kids ≤ xs.length
  text : ∀ i, i < xs.length → (xs.getD i Nd.none).tx.size ≤ 1000
theorem allOk {xs : List Nd} (h : listB xs = true) : AllOk xs := by
  unfold listB at h
  simp only [Bool.and_eq_true, decide_eq_true_eq] at h
  obtain ⟨h1, h2⟩ := h
  have hmem : ∀ i, i < xs.length → xs.getD i Nd.none ∈ xs := fun i hi => by simp [List.getD, List.getElem?_eq_getElem hi]
  have hall := ok_all xs 0 [] (by omega) (by simp) h2
  refine ⟨h1, fun i hi => ⟨good_kids (hall _ (hmem i hi)).1, ?_⟩, fun i hi => good_text (hall _ (hmem i hi)).1⟩
  have := ok_end xs 0 [] (by omega) (by simp) h2 i hi
  omega
theorem AllOk.weak {xs : List Nd} (h : AllOk xs) : ∀ i, i < xs.length → 0 ≤ (xs.getD i Nd.none).kids ∧ (xs.getD i Nd.none).kids ≤ 20000 := fun i hi => by
  have h1 := h.kids i hi
  have h2 := h.len
  omega
theorem itemAt_len {xs : List Nd} (h : AllOk xs) {p : Nat} (hp : p < xs.length) : (itemAt xs p).length = 1 + (xs.getD p Nd.none).kids.toNat := by
  have h1 := h.kids p hp
  unfold itemAt
  rw [List.length_take, List.length_drop]
  omega
theorem starts_sum {xs : List Nd} (h : AllOk xs) : ∀ (f i : Nat), i ≤ xs.length → ((starts xs f i).map (fun p => (itemAt xs p).length)).sum ≤ xs.length - i
  | 0, i, hi => by simp [starts]
  | f + 1, i, hi => by
    simp only [starts]
    split
    · rename_i hlt
      have h1 := h.kids i hlt
      have h2 := starts_sum h f (i + 1 + (xs.getD i Nd.none).kids.toNat) (by omega)
      rw [List.map_cons, List.sum_cons, itemAt_len h hlt]
      omega
    · simp
theorem starts_count {xs : List Nd} : ∀ (f i : Nat), (starts xs f i).length ≤ xs.length - i
  | 0, i => by simp [starts]
  | f + 1, i => by
    simp only [starts]
    split
    · have := starts_count (xs := xs) f (i + 1 + (xs.getD i Nd.none).kids.toNat)
      rw [List.length_cons]
      omega
    · simp
theorem offs_sum (Z : List Nat) (g : Nat → List Nd) : ∀ j, j ≤ Z.length → offs (fun t => g (Z.getD t 0)) j = ((Z.take j).map (fun p => (g p).length)).sum
  | 0, _ => by simp [offs]
  | j + 1, h => by
    rw [offs, offs_sum Z g j (by omega), take_snoc Z j 0 (by omega)]
    simp
theorem itemAt_flat {xs : List Nd} {w : World} {b off p : Nat} (hc : ∀ j u, (flatN xs)[j]? = some u → w.cell? ⟨b, off + j, none⟩ = some u) : ∀ j u, (flatN (itemAt xs p))[j]? = some u → w.cell? ⟨b, off + p * 15 + j, none⟩ = some u := by
  intro j u hj
  have hlt : j < (flatN (itemAt xs p)).length := (List.getElem?_eq_some_iff.1 hj).1
  rw [flatN_len] at hlt
  have hi : j / 15 < (itemAt xs p).length := by omega
  have h1 := flatN_get (itemAt xs p) (j / 15) hi (j % 15) (by omega)
  rw [show j / 15 * 15 + j % 15 = j by omega, hj] at h1
  have hi2 : p + j / 15 < xs.length ∧ (itemAt xs p).getD (j / 15) Nd.none = xs.getD (p + j / 15) Nd.none := by
    unfold itemAt at hi ⊢
    generalize 1 + (xs.getD p Nd.none).kids.toNat = m at hi ⊢
    rw [List.length_take, List.length_drop] at hi
    refine ⟨by omega, ?_⟩
    simp only [List.getD, List.getElem?_take, List.getElem?_drop]
    rw [if_pos (by omega)]
  rw [hi2.2] at h1
  have h2 := flatN_get xs (p + j / 15) hi2.1 (j % 15) (by omega)
  rw [← h1] at h2
  have h3 := hc _ _ h2
  rw [show off + p * 15 + j = off + ((p + j / 15) * 15 + j % 15) by omega]
  exact h3
theorem boxed_kept {A B : World} {row : Option Nat} {k : Nat} {t : TypeId} {v : Value} (h : Boxed A k t v) (hg : A.grownBy B row) (hr : ∀ r, row = some r → ∃ o : Obj, A.heap[r]? = some o ∧ o.isCells = false) : Boxed B k t v :=
  h.kept hg (fun e => by
    obtain ⟨o, ho, hc⟩ := hr k e.symm
    rw [show A.heap[k]? = _ from h] at ho
    cases ho
    cases hc)
theorem own25_kept {v : Value} {base n : Nat} {xs : List Value} {A B : World} {row : Option Nat} (h : A.ownsRow base 25 1 v n xs) (hg : A.grownBy B row) (hr : ∀ r, row = some r → ∃ o : Obj, A.heap[r]? = some o ∧ o.isCells = false) : B.ownsRow base 25 1 v n xs := by
  refine World.ownsRow.kept h hg ?_
  obtain ⟨hl, ⟨rfl, _⟩ | ⟨g, cap, cur, rfl, _, hb, _⟩⟩ := h
  · exact .inl rfl
  · refine .inr fun e => ?_
    obtain ⟨o, ho, hc⟩ := hr g e.symm
    rw [hb] at ho
    cases ho
    cases hc
theorem Lsts.kept {base : Nat} {vs : List Value} {f : Nat → List Nd} {A B : World} {row : Option Nat} (h : Lsts base A vs f) (hg : A.grownBy B row) (hr : ∀ r, row = some r → ∃ o : Obj, A.heap[r]? = some o ∧ o.isCells = false) : Lsts base B vs f :=
  ⟨fun i u hu => own_row_kept (h.own i u hu) hg hr, h.apart⟩
def plainOp (o : Oper) : Bool := match o.op with | .defer _ => false | _ => true
theorem plain_spec {ops : Array Oper} (h : ops.all plainOp = true) : ∀ (i : Nat) (o : Oper), ops[i]? = some o → ∀ c, o.op ≠ .defer c := by
  intro i o ho c hc
  have h1 := Array.all_eq_true_iff_forall_mem.1 h o (Array.mem_of_getElem? ho)
  unfold plainOp at h1
  rw [hc] at h1
  cases h1
end Go.Proofs.Ytmnhjikmnhlbgaa
