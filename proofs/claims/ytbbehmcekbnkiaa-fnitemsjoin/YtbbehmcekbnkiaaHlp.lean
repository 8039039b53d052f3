/-
  Rows of glues, and what stands while a row is summed.
-/
import Derived.Test.YtbbehmcekbnkiaaMkt
import Derived.Deep.RegionHeld3
import Derived.Deep.RegionWith
import Derived.RangeFuncNested
import Derived.RangeFuncBound
import Derived.RangeFuncCalls
import Derived.RangeFuncLeaves
import Derived.Shelf.Abstract
import Derived.Shelf.RegionOpen
import Derived.WalkKit
import Derived.OwnWalkIn
import Derived.TacticsInMore
import Derived.LoopNIn
import Derived.LoopIn
import Derived.Test.YtbbehmcekbnkiaaItr
import Derived.Test.YtbbehmcekbnkiaaCln
import Derived.Test.YtbbehmcekbnkiaaTha
namespace Go.Proofs.Ytbbehmcekbnkiaa
open Go.RowKit
set_option linter.unusedVariables false
set_option linter.unusedSimpArgs false

/-- All old blocks but g stand. -/
structure Sole (g : Nat) (w w' : World) : Prop where
  below : Below g w w'
  other : ∀ b, b < w.heap.size → b ≠ g → w'.heap[b]? = w.heap[b]?
theorem Sole.refl (g : Nat) (w : World) : Sole g w w := ⟨Below.refl _ _, fun _ _ _ => rfl⟩
theorem Sole.set {g o : Nat} {w w' : World} (h : Sole g w w') (x : Value) : Sole g w (w'.setCell ⟨g, o, none⟩ x) :=
  ⟨h.below.setCell (Nat.le_refl _) _, fun b hb hn => (Below.heap_setCell _ _ _ _ (by simpa using hn)).trans (h.other b hb hn)⟩
theorem Sole.below_more {g : Nat} {w w' w2 : World} (h : Sole g w w') (hb : Below w'.heap.size w' w2) (hg : g < w'.heap.size) : Sole g w w2 :=
  ⟨h.below.trans (hb.mono (by omega)), fun b hb2 hn => (hb.block b (Nat.lt_of_lt_of_le hb2 h.below.size)).trans (h.other b hb2 hn)⟩



end Go.Proofs.Ytbbehmcekbnkiaa
namespace Go.Proofs.Ytbbehmcekbnkiaa
open Go.RowKit Go.Shelf
set_option linter.unusedVariables false
set_option linter.unusedSimpArgs false
attribute [local go_sem] Oper.semAt_some

theorem ok_all {len : Int} : ∀ (xs : List Nd) (i : Int) (T : List Int), 0 ≤ i → (∀ y ∈ T, y ≤ len) → okFrom len i T xs = true → ∀ x ∈ xs, goodB x = true ∧ x.kids ≤ len
  | [], _, _, _, _, _ => by simp
  | x :: xs, i, T, hi, hT, h => by
    simp only [okFrom, Bool.and_eq_true] at h
    obtain ⟨⟨⟨hg, hk⟩, _⟩, hr⟩ := h
    have hk := of_decide_eq_true hk
    have hh : (T.dropWhile (· == i)).headD len ≤ len := by
      cases he : T.dropWhile (· == i) with
      | nil => simp
      | cons a U => simpa using hT a (drop_mem (by rw [he]; exact List.mem_cons_self ..))
    have hU : ∀ y ∈ T.dropWhile (· == i), y ≤ len := fun y hy => hT y (drop_mem hy)
    intro y hy
    rcases List.mem_cons.1 hy with rfl | hy
    · exact ⟨hg, by omega⟩
    · refine ok_all xs (i + 1) _ (by omega) ?_ hr y hy
      intro z hz
      split at hz
      · rcases List.mem_cons.1 hz with rfl | hz
        · omega
        · exact hU z hz
      · exact hU z hz
theorem good_kids {x : Nd} (h : goodB x = true) : 0 ≤ x.kids := by
  unfold goodB at h
  simp at h
  exact h.2
theorem good_text {x : Nd} (h : goodB x = true) : x.tx.size ≤ 1000 := by
  unfold goodB specB at h
  simp only [Bool.and_eq_true, decide_eq_true_eq] at h
  have := h.1.2
  omega
theorem own_row_kept {v : Value} {base n : Nat} {xs : List Value} {A B : World} {row : Option Nat} (h : A.ownsRow base 32 15 v n xs) (hg : A.grownBy B row) (hr : ∀ r, row = some r → ∃ o : Obj, A.heap[r]? = some o ∧ o.isCells = false) : B.ownsRow base 32 15 v n xs := by
  refine World.ownsRow.kept h hg ?_
  obtain ⟨hl, ⟨rfl, _⟩ | ⟨g, cap, cur, rfl, _, hb, _⟩⟩ := h
  · exact .inl rfl
  · refine .inr fun e => ?_
    obtain ⟨o, ho, hc⟩ := hr g e.symm
    rw [hb] at ho
    cases ho
    cases hc
theorem Src.kept {xs : List Nd} {ao : Option Addr} {Bs b off cap : Nat} {A B : World} {row : Option Nat} (h : Src xs ao Bs b off cap A) (hg : A.grownBy B row) (hr : ∀ r, row = some r → ∃ o : Obj, A.heap[r]? = some o ∧ o.isCells = false) : Src xs ao Bs b off cap B := by
  refine ⟨cell_kept h.box hg hr, h.some_, fun i hi => ?_⟩
  obtain ⟨y, hk, hc⟩ := h.at_ i hi
  refine ⟨y, hk, fun j hj => ?_⟩
  have h1 := hc j hj
  rw [List.getElem?_eq_getElem (show j < y.cells.length from hj)] at h1 ⊢
  exact cell_kept h1 hg hr
theorem own_mono {w : World} {base base' n : Nat} {v : Value} {xs : List Value} (h : w.ownsRow base 32 15 v n xs) (hb : base' ≤ base) : w.ownsRow base' 32 15 v n xs := by
  obtain ⟨hl, h | ⟨g, cap, cur, e, hg, hr⟩⟩ := h
  · exact ⟨hl, .inl h⟩
  · exact ⟨hl, .inr ⟨g, cap, cur, e, Nat.le_trans hb hg, hr⟩⟩
theorem row_cells {w : World} {b off : Nat} {xs : List Nd} (hc : ∀ i, i < xs.length → ∃ cs : List Value, cs.length = 15 ∧ NdR 0 w cs (xs.getD i Nd.none) ∧ ∀ j, j < 15 → w.cell? ⟨b, off + i * 15 + j, none⟩ = cs[j]?) :
    ∀ j u, (flatN xs)[j]? = some u → w.cell? ⟨b, off + j, none⟩ = some u := by
  intro j u hj
  have hlt : j < (flatN xs).length := (List.getElem?_eq_some_iff.1 hj).1
  rw [flatN_len] at hlt
  have hi : j / 15 < xs.length := by omega
  obtain ⟨cs, hcl, hR, hcc⟩ := hc (j / 15) hi
  have h1 := flatN_get xs (j / 15) hi (j % 15) (by omega)
  rw [show j / 15 * 15 + j % 15 = j by omega, hj] at h1
  have h2 := hcc (j % 15) (by omega)
  rw [show off + j / 15 * 15 + j % 15 = off + j by omega, show cs = _ from hR, ← h1] at h2
  exact h2
theorem starts_lt (xs : List Nd) : ∀ (f i p : Nat), p ∈ starts xs f i → p < xs.length
  | 0, _, _, h => by simp [starts] at h
  | f + 1, i, p, h => by
    simp only [starts] at h
    split at h
    · rcases List.mem_cons.1 h with rfl | h
      · assumption
      · exact starts_lt xs f _ p h
    · simp at h
theorem own_NRow {w : World} {base n : Nat} {v : Value} {xs : List Nd} (h : w.ownsRow base 32 15 v n (flatN xs)) (hn : xs.length = n) : NRow base w v xs := by
  obtain ⟨ao, cap, rfl, hg⟩ := own_shape h
  refine ⟨ao, n, cap, rfl, hn, fun hp => ?_⟩
  obtain ⟨g, rfl, hb, hlt⟩ := hg hp
  refine ⟨g, 0, rfl, hb, hlt, fun i hi => ⟨(xs.getD i Nd.none).cells, rfl, rfl, fun j hj => ?_⟩⟩
  have h1 := flatN_get xs i (by omega) j hj
  rw [List.getElem?_eq_getElem (show j < (xs.getD i Nd.none).cells.length from hj)] at h1 ⊢
  rw [show 0 + i * 15 + j = i * 15 + j by omega]
  exact (own_cell h h1).1
theorem own_cap {w : World} {base n : Nat} {v : Value} {xs : List Value} (h : w.ownsRow base 32 15 v n xs) : ∀ a n c, v = .slice a n c → n ≤ c ∧ c ≤ 9223372036854775807 := by
  intro a n' c e
  obtain ⟨hl, ⟨rfl, rfl⟩ | ⟨g, cap, cur, rfl, _, _, hn, hm, _⟩⟩ := h
  · simp at e
    omega
  · simp at e
    unfold maxLen at hm
    omega
theorem take_snoc {α : Type} (Z : List α) (j : Nat) (d : α) (h : j < Z.length) : Z.take (j + 1) = Z.take j ++ [Z.getD j d] := by
  rw [List.take_add_one, List.getElem?_eq_getElem h]
  simp [List.getD, List.getElem?_eq_getElem h]
theorem natI_at {w : World} {base g r c : Nat} {Z : List Nat} (h : IR w base (.slice (some ⟨g, 0, none⟩) r c) r (natI Z)) (hr : Z.length = r) {j : Nat} (hj : j < r) : w.cell? ⟨g, j, none⟩ = some (.int .i64 ((Z.getD j 0 : Nat) : Int)) := by
  rw [World.ownsRow.cellAt h j (by omega)]
  unfold natI
  simp [List.getElem?_map, List.getD, List.getElem?_eq_getElem (show j < Z.length by omega)]
end Go.Proofs.Ytbbehmcekbnkiaa
namespace Go.Proofs.Ytbbehmcekbnkiaa
open Go.RowKit
set_option linter.unusedVariables false
set_option linter.unusedSimpArgs false


end Go.Proofs.Ytbbehmcekbnkiaa
namespace Go.Proofs.Ytbbehmcekbnkiaa
open Go.RowKit Go.Shelf
set_option linter.unusedVariables false
set_option linter.unusedSimpArgs false
attribute [local go_sem] Oper.semAt_some

def itemAt (xs : List Nd) (p : Nat) : List Nd := (xs.drop p).take (1 + (xs.getD p Nd.none).kids.toNat)
def itemsOf (xs : List Nd) : List (List Nd) := if listB xs then (starts xs (xs.length + 1) 0).map (itemAt xs) else []

theorem ok_end {len : Int} : ∀ (xs : List Nd) (i : Int) (T : List Int), 0 ≤ i → (∀ y ∈ T, y ≤ len) → okFrom len i T xs = true → ∀ j, j < xs.length → i + j + 1 + (xs.getD j Nd.none).kids ≤ len
  | [], _, _, _, _, _, j, hj => by simp at hj
  | x :: xs, i, T, hi, hT, h, j, hj => by
    simp only [okFrom, Bool.and_eq_true] at h
    obtain ⟨⟨⟨hg, hk⟩, _⟩, hr⟩ := h
    have hk := of_decide_eq_true hk
    have hh : (T.dropWhile (· == i)).headD len ≤ len := by
      cases he : T.dropWhile (· == i) with
      | nil => simp
      | cons a U => simpa using hT a (drop_mem (by rw [he]; exact List.mem_cons_self ..))
    have hU : ∀ y ∈ T.dropWhile (· == i), y ≤ len := fun y hy => hT y (drop_mem hy)
    cases j with
    | zero => simp only [List.getD_cons_zero]; omega
    | succ j =>
      simp only [List.getD_cons_succ]
      have h2 := ok_end xs (i + 1) _ (by omega) (by
        intro z hz
        split at hz
        · rcases List.mem_cons.1 hz with rfl | hz
          · omega
          · exact hU z hz
        · exact hU z hz) hr j (by simpa using hj)
      omega
structure AllOk (xs : List Nd) : Prop where
  len : xs.length ≤ 20000
  kids : ∀ i, i < xs.length → 0 ≤ (xs.getD i Nd.none).kids ∧ (i : Int) + 1 + (xs.getD i Nd.none).kids ≤ xs.length
  text : ∀ i, i < xs.length → (xs.getD i Nd.none).tx.size ≤ 1000
theorem allOk {xs : List Nd} (h : listB xs = true) : AllOk xs := by
  unfold listB at h
  simp only [Bool.and_eq_true, decide_eq_true_eq] at h
  obtain ⟨h1, h2⟩ := h
  have hmem : ∀ i, i < xs.length → xs.getD i Nd.none ∈ xs := fun i hi => by simp [List.getD, List.getElem?_eq_getElem hi]
  have hall := ok_all xs 0 [] (by omega) (by simp) h2
  refine ⟨h1, fun i hi => ⟨good_kids (hall _ (hmem i hi)).1, ?_⟩, fun i hi => good_text (hall _ (hmem i hi)).1⟩
  have := ok_end xs 0 [] (by omega) (by simp) h2 i hi
  omega
theorem AllOk.weak {xs : List Nd} (h : AllOk xs) : ∀ i, i < xs.length → 0 ≤ (xs.getD i Nd.none).kids ∧ (xs.getD i Nd.none).kids ≤ 20000 := fun i hi => by
  have h1 := h.kids i hi
  have h2 := h.len
  omega
theorem itemAt_len {xs : List Nd} (h : AllOk xs) {p : Nat} (hp : p < xs.length) : (itemAt xs p).length = 1 + (xs.getD p Nd.none).kids.toNat := by
  have h1 := h.kids p hp
  unfold itemAt
  rw [List.length_take, List.length_drop]
  omega
theorem starts_count {xs : List Nd} : ∀ (f i : Nat), (starts xs f i).length ≤ xs.length - i
  | 0, i => by simp [starts]
  | f + 1, i => by
    simp only [starts]
    split
    · have := starts_count (xs := xs) f (i + 1 + (xs.getD i Nd.none).kids.toNat)
      rw [List.length_cons]
      omega
    · simp
end Go.Proofs.Ytbbehmcekbnkiaa
namespace Go.Proofs.Ytbbehmcekbnkiaa
open Go.RowKit
set_option linter.unusedVariables false
set_option linter.unusedSimpArgs false

/-- Glues in their cells. -/
def f5 (gs : List Shr.Gl) : List Value := gs.flatMap (fun g => [.int .i64 g.s, .int .i64 g.p, .int .i64 g.po, .int .i64 g.m, .int .i64 g.mo])
theorem f5_snoc (gs : List Shr.Gl) (g : Shr.Gl) : f5 (gs ++ [g]) = f5 gs ++ [.int .i64 g.s, .int .i64 g.p, .int .i64 g.po, .int .i64 g.m, .int .i64 g.mo] := by simp [f5]
theorem f5_len (gs : List Shr.Gl) : (f5 gs).length = gs.length * 5 := by
  induction gs with
  | nil => rfl
  | cons t r ih => simp only [f5, List.flatMap_cons, List.length_append] at ih ⊢; rw [ih]; simp only [List.length_cons, List.length_nil]; omega
theorem f5_at (gs : List Shr.Gl) : ∀ i, i < gs.length → (f5 gs)[i * 5]? = some (.int .i64 (gs.getD i Shr.Gl.none).s) ∧ (f5 gs)[i * 5 + 1]? = some (.int .i64 (gs.getD i Shr.Gl.none).p) ∧ (f5 gs)[i * 5 + 2]? = some (.int .i64 (gs.getD i Shr.Gl.none).po) ∧ (f5 gs)[i * 5 + 3]? = some (.int .i64 (gs.getD i Shr.Gl.none).m) ∧ (f5 gs)[i * 5 + 4]? = some (.int .i64 (gs.getD i Shr.Gl.none).mo) := by
  induction gs with
  | nil => intro i hi; simp at hi
  | cons t r ih =>
    intro i hi
    cases i with
    | zero => exact ⟨rfl, rfl, rfl, rfl, rfl⟩
    | succ i =>
      have h := ih i (by simpa using hi)
      have e : f5 (t :: r) = [.int .i64 t.s, .int .i64 t.p, .int .i64 t.po, .int .i64 t.m, .int .i64 t.mo] ++ f5 r := rfl
      have e2 : (t :: r).getD (i + 1) Shr.Gl.none = r.getD i Shr.Gl.none := by simp [List.getD]
      rw [e, e2]
      refine ⟨?_, ?_, ?_, ?_, ?_⟩ <;> rw [List.getElem?_append_right (by simp; omega)]
      · rw [← h.1]; congr 1; simp; omega
      · rw [← h.2.1]; congr 1; simp; omega
      · rw [← h.2.2.1]; congr 1; simp; omega
      · rw [← h.2.2.2.1]; congr 1; simp; omega
      · rw [← h.2.2.2.2]; congr 1; simp; omega
theorem new5 (w : World) (a b c d e : Value) (t : TypeId) : ∀ j u, [a, b, c, d, e][j]? = some u → (w.alloc (.cells #[a, b, c, d, e] t)).cell? ((⟨w.heap.size, 0, none⟩ : Addr).add j) = some u := by
  intro j u hj
  match j, hj with
  | 0, hj => simp at hj; subst hj; simp [Addr.add, go_sem]
  | 1, hj => simp at hj; subst hj; simp [Addr.add, go_sem]
  | 2, hj => simp at hj; subst hj; simp [Addr.add, go_sem]
  | 3, hj => simp at hj; subst hj; simp [Addr.add, go_sem]
  | 4, hj => simp at hj; subst hj; simp [Addr.add, go_sem]
theorem one5 (a b c d e : Int) : ∀ u ∈ [Value.int .i64 a, .int .i64 b, .int .i64 c, .int .i64 d, .int .i64 e], u.oneCell' = true := by
  intro u hu
  simp at hu
  rcases hu with rfl | rfl | rfl | rfl | rfl <;> rfl
theorem ownG_same {w w' : World} {base e size n : Nat} {v : Value} {xs : List Value} (h : w.ownsRow base e size v n xs) (hs : ∀ g, v.ownBlock = some g → w'.heap[g]? = w.heap[g]?) : w'.ownsRow base e size v n xs := by
  obtain ⟨hl, hr⟩ := h
  refine ⟨hl, ?_⟩
  rcases hr with h1 | ⟨g, cap, cur, rfl, h2, h3, h4⟩
  · exact Or.inl h1
  · exact Or.inr ⟨g, cap, cur, rfl, h2, (hs g rfl).trans h3, h4⟩
theorem ownG_below {w w' : World} {base e size n : Nat} {v : Value} {xs : List Value} (h : w.ownsRow base e size v n xs) (hb : Below w.heap.size w w') : w'.ownsRow base e size v n xs := ownG_same h (fun g hg => hb.block _ (h.lt g hg).2)
theorem ownG_shape {w : World} {base e size n : Nat} {v : Value} {xs : List Value} (h : w.ownsRow base e size v n xs) : ∃ a c, v = .slice a n c := by
  rcases h.2 with ⟨rfl, rfl⟩ | ⟨g, cap, cur, rfl, _⟩
  · exact ⟨_, _, rfl⟩
  · exact ⟨_, _, rfl⟩
theorem ownG_ne {W : World} {b1 b2 e1 e2 s1 s2 n m : Nat} {t u : Value} {xs ys : List Value} (h1 : W.ownsRow b1 e1 s1 t n xs) (h2 : W.ownsRow b2 e2 s2 u m ys) (hne : e1 ≠ e2) : t.ownBlock = none ∨ t.ownBlock ≠ u.ownBlock := by
  rcases h1.2 with ⟨rfl, _⟩ | ⟨g1, cap1, cur1, rfl, _, k1, _⟩
  · exact .inl rfl
  · rcases h2.2 with ⟨rfl, _⟩ | ⟨g2, cap2, cur2, rfl, _, k2, _⟩
    · exact .inr (by simp [Value.ownBlock])
    · refine .inr fun e => ?_
      simp only [Value.ownBlock, Option.some.injEq] at e
      subst e
      rw [k1] at k2
      cases k2
      exact hne rfl
theorem ownG_mono {w : World} {base base' e size n : Nat} {v : Value} {xs : List Value} (h : w.ownsRow base e size v n xs) (hb : base' ≤ base) : w.ownsRow base' e size v n xs := by
  obtain ⟨hl, h | ⟨g, cap, cur, e, hg, hr⟩⟩ := h
  · exact ⟨hl, .inl h⟩
  · exact ⟨hl, .inr ⟨g, cap, cur, e, Nat.le_trans hb hg, hr⟩⟩
/-- A row of glues reads as such. -/
theorem own_GRow {w : World} {base n : Nat} {v : Value} {gs : List Shr.Gl} (h : w.ownsRow base 30 5 v n (f5 gs)) (hn : gs.length = n) : Shr.GRow w v gs := by
  subst hn
  have hsh := h.2
  rcases hsh with ⟨rfl, h0⟩ | ⟨g, cap, cur, rfl, hb, hg, _⟩
  · exact ⟨none, 0, 0, rfl, h0, fun hp => by omega⟩
  · refine ⟨_, gs.length, cap, rfl, rfl, fun hp => ⟨g, 0, rfl, (Array.getElem?_eq_some_iff.1 hg).1, fun i hi => ?_⟩⟩
    obtain ⟨h0, h1, h2, h3, h4⟩ := f5_at gs i hi
    have hl := f5_len gs
    simp only [Nat.zero_add]
    exact ⟨(World.ownsRow.cellAt h (i * 5) (by omega)).trans h0, (World.ownsRow.cellAt h (i * 5 + 1) (by omega)).trans h1, (World.ownsRow.cellAt h (i * 5 + 2) (by omega)).trans h2, (World.ownsRow.cellAt h (i * 5 + 3) (by omega)).trans h3, (World.ownsRow.cellAt h (i * 5 + 4) (by omega)).trans h4⟩

/-- What stands while a row is summed. -/
structure RInv (w wr : World) (va : Value) (Z : List Nat) (u : Value) (gs : List Shr.Gl) : Prop where
  own : wr.ownsRow w.heap.size 30 5 u gs.length (f5 gs)
  row : IR wr w.heap.size va Z.length (natI Z)
  bel : Below w.heap.size w wr
theorem RInv.own' {w wr : World} {va : Value} {Z : List Nat} {u : Value} {gs : List Shr.Gl} {m : Nat} (h : RInv w wr va Z u gs) (hm : m = gs.length) : wr.ownsRow w.heap.size 30 5 u m (f5 gs) := by rw [hm]; exact h.own
theorem RInv.below {w wr w' : World} {va : Value} {Z : List Nat} {u : Value} {gs : List Shr.Gl} (h : RInv w wr va Z u gs) (hb : Below wr.heap.size wr w') : RInv w w' va Z u gs :=
  ⟨ownG_below h.own hb, h.row.below hb, below_more h.bel hb h.bel.size⟩
theorem RInv.put {w wr w' : World} {va : Value} {Z : List Nat} {u u' : Value} {gs : List Shr.Gl} {g : Shr.Gl} {o : Obj} (h : RInv w wr va Z u gs) (ho : w'.ownsRow w.heap.size 30 5 u' (gs.length + 1) (f5 gs ++ [.int .i64 g.s, .int .i64 g.p, .int .i64 g.po, .int .i64 g.m, .int .i64 g.mo])) (hg : (wr.alloc o).grownBy w' u.ownBlock) : RInv w w' va Z u' (gs ++ [g]) := by
  have h2 := h.below (below1 wr o)
  refine ⟨by rw [f5_snoc, List.length_append]; exact ho, World.ownsRow.kept h2.row hg (ownG_ne h2.row h2.own (by decide)), Below.grown h2.bel hg h2.bel.size (fun j hj => (h.own.lt j hj).1)⟩

end Go.Proofs.Ytbbehmcekbnkiaa
