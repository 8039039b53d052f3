/-
  Tokens as cells: rows that have an address, parts of them, and what a body becomes with lists in the places of its slots.
-/
import Derived.Test.YtbceblgnjicdcaaTss
namespace Go.Proofs.Ytbceblgnjicdcaa
open Go.RowKit
set_option linter.unusedVariables false
set_option linter.unusedSimpArgs false

def cellsT (t : Tk) : List Value := [.int .i64 t.c, .int .i64 t.h, .string t.s]
def flat : List Tk → List Value
  | [] => []
  | t :: ts => .int .i64 t.c :: .int .i64 t.h :: .string t.s :: flat ts

theorem flat_len : ∀ ts : List Tk, (flat ts).length = ts.length * 3
  | [] => rfl
  | t :: ts => by simp only [flat, List.length_cons, flat_len ts]; omega
theorem flat_app : ∀ a b : List Tk, flat (a ++ b) = flat a ++ flat b
  | [], b => rfl
  | t :: a, b => by simp only [flat, List.cons_append, flat_app a b]
theorem flat_one : ∀ ts : List Tk, ∀ u ∈ flat ts, u.oneCell' = true
  | [], u, h => by simp [flat] at h
  | t :: ts, u, h => by
    simp only [flat, List.mem_cons] at h
    rcases h with rfl | rfl | rfl | h
    · rfl
    · rfl
    · rfl
    · exact flat_one ts u h
theorem flat_get : ∀ (ts : List Tk) (i : Nat), i < ts.length → (flat ts)[i * 3]? = some (.int .i64 (ts.getD i Tk.none).c) ∧ (flat ts)[i * 3 + 1]? = some (.int .i64 (ts.getD i Tk.none).h) ∧ (flat ts)[i * 3 + 2]? = some (.string (ts.getD i Tk.none).s)
  | [], i, h => by simp at h
  | t :: ts, 0, h => ⟨rfl, rfl, rfl⟩
  | t :: ts, i + 1, h => by
    simp only [List.length_cons] at h
    obtain ⟨h0, h1, h2⟩ := flat_get ts i (by omega)
    have e : (i + 1) * 3 = i * 3 + 1 + 1 + 1 := by omega
    have e1 : (i + 1) * 3 + 1 = (i * 3 + 1) + 1 + 1 + 1 := by omega
    have e2 : (i + 1) * 3 + 2 = (i * 3 + 2) + 1 + 1 + 1 := by omega
    rw [e1, e2, e]
    simp only [flat, List.getElem?_cons_succ, List.getD_cons_succ]
    exact ⟨h0, h1, h2⟩
theorem flat_take : ∀ (ts : List Tk) (k : Nat), (flat ts).take (k * 3) = flat (ts.take k)
  | [], k => by simp [flat]
  | t :: ts, 0 => rfl
  | t :: ts, k + 1 => by
    have e : (k + 1) * 3 = k * 3 + 1 + 1 + 1 := by omega
    rw [e]
    simp only [flat, List.take_succ_cons, flat_take ts k]
theorem flat_drop : ∀ (ts : List Tk) (k : Nat), (flat ts).drop (k * 3) = flat (ts.drop k)
  | [], k => by simp [flat]
  | t :: ts, 0 => rfl
  | t :: ts, k + 1 => by
    have e : (k + 1) * 3 = k * 3 + 1 + 1 + 1 := by omega
    rw [e]
    simp only [flat, List.drop_succ_cons, flat_drop ts k]

/-- The slice v has an address from block lo on and reads as the tokens ts. -/
def TOn (lo : Nat) (w : World) (v : Value) (ts : List Tk) : Prop :=
  ∃ b off cap, v = .slice (some ⟨b, off, none⟩) ts.length cap ∧ ts.length ≤ cap ∧ lo ≤ b ∧ b < w.heap.size ∧ ∀ j u, (flat ts)[j]? = some u → w.cell? ⟨b, off + j, none⟩ = some u
/-- It is nil and there are no tokens, or it has an address. -/
def TN (lo : Nat) (w : World) (v : Value) (ts : List Tk) : Prop := (v = .slice none 0 0 ∧ ts = []) ∨ TOn lo w v ts

theorem TOn.row {lo : Nat} {w : World} {v : Value} {ts : List Tk} (h : TOn lo w v ts) : TRow w v ts := by
  obtain ⟨b, off, cap, rfl, hcap, hlo, hb, hc⟩ := h
  refine ⟨_, _, cap, rfl, rfl, fun _ => ⟨b, off, rfl, hb, fun i hi => ?_⟩⟩
  obtain ⟨h0, h1, h2⟩ := flat_get ts i hi
  exact ⟨hc _ _ h0, hc _ _ h1, hc _ _ h2⟩
theorem TOn.inn {lo : Nat} {w : World} {v : Value} {ts : List Tk} (h : TOn lo w v ts) : TIn lo w v ts := by
  refine ⟨h.row, ?_⟩
  obtain ⟨b, off, cap, rfl, hcap, hlo, hb, hc⟩ := h
  intro b2 off2 n2 cap2 e
  simp at e
  omega
theorem TOn.abv {lo : Nat} {w w' : World} {v : Value} {ts : List Tk} (h : TOn lo w v ts) (ha : Abv lo w w') : TOn lo w' v ts := by
  obtain ⟨b, off, cap, rfl, hcap, hlo, hb, hc⟩ := h
  exact ⟨b, off, cap, rfl, hcap, hlo, Nat.lt_of_lt_of_le hb ha.size, fun j u hj => (World.cell?_of_block (w := w) (a := ⟨b, off + j, none⟩) (ha.block b hlo hb)).trans (hc j u hj)⟩
theorem TOn.below {lo : Nat} {w w' : World} {v : Value} {ts : List Tk} (h : TOn lo w v ts) (hb : Below w.heap.size w w') : TOn lo w' v ts := h.abv (Abv.below hb)
theorem TOn.mono {lo lo' : Nat} {w : World} {v : Value} {ts : List Tk} (h : TOn lo w v ts) (hl : lo' ≤ lo) : TOn lo' w v ts := by
  obtain ⟨b, off, cap, rfl, hcap, hlo, hb, hc⟩ := h
  exact ⟨b, off, cap, rfl, hcap, Nat.le_trans hl hlo, hb, hc⟩
theorem TN.row {lo : Nat} {w : World} {v : Value} {ts : List Tk} (h : TN lo w v ts) : TRow w v ts := by
  rcases h with ⟨rfl, rfl⟩ | h
  · exact ⟨_, _, _, rfl, rfl, fun h => absurd h (Nat.lt_irrefl 0)⟩
  · exact h.row
theorem TN.below {lo : Nat} {w w' : World} {v : Value} {ts : List Tk} (h : TN lo w v ts) (hb : Below w.heap.size w w') : TN lo w' v ts := by
  rcases h with h | h
  · exact .inl h
  · exact .inr (h.below hb)

/-- Parts of a row. -/
theorem TOn.take {lo b off n cap : Nat} {w : World} {ts : List Tk} (h : TOn lo w (.slice (some ⟨b, off, none⟩) n cap) ts) {k : Nat} (hk : k ≤ n) : TOn lo w (.slice (some ⟨b, off, none⟩) k cap) (ts.take k) := by
  obtain ⟨b2, off2, cap2, e, hcap, hlo, hb, hc⟩ := h
  simp at e
  obtain ⟨⟨rfl, rfl⟩, rfl, rfl⟩ := e
  refine ⟨b, off, cap, by rw [List.length_take, Nat.min_eq_left hk], by rw [List.length_take]; omega, hlo, hb, fun j u hj => ?_⟩
  rw [← flat_take, List.getElem?_take] at hj
  split at hj
  · exact hc j u hj
  · simp at hj
theorem TOn.drop {lo b off n cap : Nat} {w : World} {ts : List Tk} (h : TOn lo w (.slice (some ⟨b, off, none⟩) n cap) ts) {k : Nat} (hk : k ≤ n) : TOn lo w (.slice (some ⟨b, off + k * 3, none⟩) (n - k) (cap - k)) (ts.drop k) := by
  obtain ⟨b2, off2, cap2, e, hcap, hlo, hb, hc⟩ := h
  simp at e
  obtain ⟨⟨rfl, rfl⟩, rfl, rfl⟩ := e
  refine ⟨b, off + k * 3, cap - k, by rw [List.length_drop], by rw [List.length_drop]; omega, hlo, hb, fun j u hj => ?_⟩
  rw [← flat_drop, List.getElem?_drop] at hj
  have := hc _ u hj
  rwa [Nat.add_assoc]

/-- A row of one's own reads so. -/
theorem own_on {base n : Nat} {w : World} {v : Value} {ts : List Tk} (h : w.ownsRow base 31 3 v n (flat ts)) (hne : v ≠ .slice none 0 0) : TOn base w v ts := by
  obtain ⟨hl, h | ⟨g, cap, cur, rfl, hg, hb, hn, hm, hs, hx⟩⟩ := h
  · exact absurd h.1 hne
  · rw [flat_len] at hl
    obtain rfl : ts.length = n := by omega
    refine ⟨g, 0, cap, rfl, hn, hg, (Array.getElem?_eq_some_iff.1 hb).1, fun j u hj => ?_⟩
    rw [Nat.zero_add, cell_of_row w g _ cur 31 _ hb, ← Array.getElem?_toList]
    rw [← hx, List.getElem?_take] at hj
    split at hj
    · exact hj
    · simp at hj
theorem own_n {base n : Nat} {w : World} {v : Value} {ts : List Tk} (h : w.ownsRow base 31 3 v n (flat ts)) : TN base w v ts := by
  by_cases hne : v = .slice none 0 0
  · subst hne
    refine .inl ⟨rfl, ?_⟩
    obtain ⟨hl, h | ⟨g, cap, cur, h, _⟩⟩ := h
    · rw [flat_len, h.2] at hl
      exact List.eq_nil_of_length_eq_zero (by omega)
    · simp at h
  · exact .inr (own_on h hne)
/-- What is put where it lies already changes nothing of it. -/
theorem own_put {base g n cap : Nat} {w : World} {xs : List Value} (h : w.ownsRow base 31 3 (.slice (some ⟨g, 0, none⟩) n cap) n xs) {j : Nat} {x : Value} (hj : xs[j]? = some x) : (w.setCell ⟨g, j, none⟩ x).ownsRow base 31 3 (.slice (some ⟨g, 0, none⟩) n cap) n xs := by
  obtain ⟨hl, h | ⟨g', cap', cur, e, hg, hb, hn, hm, hs, hx⟩⟩ := h
  · exact absurd h.1 (by simp)
  · simp at e
    obtain ⟨rfl, rfl⟩ := e
    refine ⟨hl, .inr ⟨g, cap, _, rfl, hg, heap_setCell_same w g j cur 31 x hb, hn, hm, by simpa using hs, ?_⟩⟩
    have hx2 : cur.toList[j]? = some x := by
      rw [← hx, List.getElem?_take] at hj
      split at hj
      · exact hj
      · simp at hj
    rw [← hx]
    congr 1
    apply List.ext_getElem?
    intro i
    rw [Array.getElem?_toList, Array.getElem?_toList, Array.getElem?_setIfInBounds]
    split
    · next hij =>
      subst hij
      rw [Array.getElem?_toList] at hx2
      rw [hx2]
      split
      · rfl
      · next hlt => rw [Array.getElem?_eq_none (by omega)] at hx2; simp at hx2
    · rfl

/-- What a body becomes with lists in the places of its slots. -/
def part (args : List (List Tk)) (t : Tk) : List Tk := if t.c = 16 then args.getD (t.h - 1).toNat [] else [t]
def fill (args : List (List Tk)) : List Tk → List Tk
  | [] => []
  | t :: ts => part args t ++ fill args ts
theorem fill_app (args : List (List Tk)) : ∀ a b : List Tk, fill args (a ++ b) = fill args a ++ fill args b
  | [], b => rfl
  | t :: a, b => by simp only [fill, List.cons_append, fill_app args a b, List.append_assoc]
theorem fill_take {args : List (List Tk)} {ts : List Tk} {k : Nat} (h : k < ts.length) : fill args (ts.take (k + 1)) = fill args (ts.take k) ++ part args (ts.getD k Tk.none) := by
  rw [List.take_succ_eq_append_getElem h, fill_app]
  simp [fill, List.getD, List.getElem?_eq_getElem h]
theorem fill_le {args : List (List Tk)} (ts : List Tk) (k : Nat) : (fill args (ts.take k)).length ≤ (fill args ts).length := by
  conv => rhs; rw [← List.take_append_drop k ts, fill_app, List.length_append]
  omega
theorem fill_plain {args : List (List Tk)} : ∀ ts : List Tk, (∀ t ∈ ts, t.c ≠ 16) → fill args ts = ts
  | [], _ => rfl
  | t :: ts, h => by
    have h1 := h t (List.mem_cons_self ..)
    simp only [fill, part, if_neg h1, fill_plain ts (fun t ht => h t (List.mem_cons_of_mem _ ht))]
    rfl
end Go.Proofs.Ytbceblgnjicdcaa
