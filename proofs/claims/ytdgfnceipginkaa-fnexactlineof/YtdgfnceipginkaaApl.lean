/-
  Nodes appended to a row of one's own.
-/
import Derived.Test.YtdgfnceipginkaaSbg
import Derived.Test.YtdgfnceipginkaaLrw
import Derived.Test.YtdgfnceipginkaaIto
import Derived.Test.YtdgfnceipginkaaSps
import Derived.Test.YtdgfnceipginkaaLin
namespace Go.Proofs.Ytdgfnceipginkaa
open Go.RowKit
set_option linter.unusedVariables false
set_option linter.unusedSimpArgs false

theorem flatN_app (a b : List Nd) : flatN (a ++ b) = flatN a ++ flatN b := by
  induction a with
  | nil => rfl
  | cons x a ih => rw [List.cons_append, flatN, flatN, ih, List.append_assoc]

/-- Nodes that stand in memory, appended. -/
theorem wpList_appS {w : World} {ops : Array Oper} {rest : List Oper} {o : Oper} {a : Act} {Q : Exit → Act → World → Prop} (hgd : o.guard = none) (s x : Operand)
    (ho : o.op = .call { callee := .builtin .append, args := #[s, x], argTypes := #[28, 28] })
    (base : Nat) (v : Value) (n : Nat) (xs : List Nd) (hs : a.eval s = v) (hown : w.ownsRow base 48 15 v n (flatN xs))
    (ad : Addr) (c m : Nat) (seg : List Nd) (hm : seg.length = m) (hx : a.eval x = .slice (some ad) m c) (hnews : ∀ j u, (flatN seg)[j]? = some u → w.cell? (ad.add j) = some u)
    (hn : n + m ≤ 100000000) (hbase : base ≤ w.heap.size)
    (h : ∀ v' w', w'.ownsRow base 48 15 v' (n + m) (flatN (xs ++ seg)) → w.grownBy w' v.ownBlock → (v'.ownBlock = v.ownBlock ∨ v'.ownBlock = some w.heap.size) → wpList Try.prog ops Q rest (a.put o.dst v') w') : wpList Try.prog ops Q (o :: rest) a w := by
  obtain ⟨i0, hi, hz0, hz1, hz2⟩ := info_parts Try.info57c
  refine wpList_append_at hgd s x 28 ho base 48 i0 _ 15 128 Try.underlying28 hi hz0 hz1 hz2 rfl (by decide) v n (flatN xs) hs hown ad m c (flatN seg) hx (by rw [flatN_len, hm]) hnews (flatN_one _) (by unfold maxLen; omega) (by omega) hbase (fun v' w' h2 h3 h4 => h v' w' ?_ h3 h4)
  rw [flatN_app]
  exact h2
/-- One node of a fresh block, appended. -/
theorem wpList_app1 {w : World} {ops : Array Oper} {rest : List Oper} {o : Oper} {a : Act} {Q : Exit → Act → World → Prop} (hgd : o.guard = none) (s x : Operand)
    (ho : o.op = .call { callee := .builtin .append, args := #[s, x], argTypes := #[28, 28] })
    (base : Nat) (v : Value) (n : Nat) (xs : List Nd) (hs : a.eval s = v) (hown : w.ownsRow base 48 15 v n (flatN xs))
    (b : Nat) (y : Nd) (hx : a.eval x = .slice (some ⟨b, 0, none⟩) 1 1) (hb : w.heap[b]? = some (.cells y.cells.toArray 48 (0, 0)))
    (hn : n ≤ 99999999) (hbase : base ≤ w.heap.size)
    (h : ∀ v' w', w'.ownsRow base 48 15 v' (n + 1) (flatN (xs ++ [y])) → w.grownBy w' v.ownBlock → (v'.ownBlock = v.ownBlock ∨ v'.ownBlock = some w.heap.size) → wpList Try.prog ops Q rest (a.put o.dst v') w') : wpList Try.prog ops Q (o :: rest) a w := by
  refine wpList_appS hgd s x ho base v n xs hs hown ⟨b, 0, none⟩ 1 1 [y] rfl hx (fun j u hj => ?_) (by omega) hbase h
  have h9 : w.cell? ⟨b, j, none⟩ = some u := by
    rw [cell_of_row w b j _ 48 _ hb, ← hj]
    simp [flatN]
  unfold Addr.add
  split
  · rename_i e2
    have e3 : j = 0 := by simpa using e2
    subst e3
    exact h9
  · simpa using h9
theorem own_relen {w : World} {base n : Nat} {v : Value} {L : List Nd} (h : w.ownsRow base 48 15 v n (flatN L)) : w.ownsRow base 48 15 v L.length (flatN L) := by
  have h2 := h.1
  rw [flatN_len] at h2
  obtain rfl : n = L.length := by omega
  exact h
theorem row_add {w : World} {lo g n c : Nat} {seg : List Nd} (h : w.ownsRow lo 48 15 (.slice (some ⟨g, 0, none⟩) n c) n (flatN seg)) : ∀ j u, (flatN seg)[j]? = some u → w.cell? ((⟨g, 0, none⟩ : Addr).add j) = some u := fun j u hj => by
  have h9 : w.cell? ⟨g, j, none⟩ = some u := by
    have hl : j < n * 15 := by rw [← h.1]; exact (List.getElem?_eq_some_iff.1 hj).1
    exact (World.ownsRow.cellAt h j hl).trans hj
  unfold Addr.add
  split
  · rename_i e2
    have e3 : j = 0 := by simpa using e2
    subst e3
    exact h9
  · simpa using h9
/-- A row of rows of nodes at one place, with its head. -/
theorem rws_at {w : World} {lo N : Nat} {v : Value} {rows : List (List Nd)} {ys : List It} (h : Rws lo w v rows) (hr : rows.length = N) {i : Nat} (hi : i < N) (hh : ∃ rest, rows.getD i [] = (ys.getD i It.none).1 :: rest) :
    ∃ (cap b off g c m : Nat) (tl : List Nd), v = .slice (some ⟨b, off, none⟩) N cap ∧ lo ≤ b ∧ b < w.heap.size ∧ w.cell? ⟨b, off + i, none⟩ = some (.slice (some ⟨g, 0, none⟩) m c) ∧ lo ≤ g ∧ g < w.heap.size ∧ 0 < m ∧ (rows.getD i []).length = m ∧ w.ownsRow lo 48 15 (.slice (some ⟨g, 0, none⟩) m c) m (flatN (rows.getD i [])) ∧ rows.getD i [] = (ys.getD i It.none).1 :: tl ∧ (∀ j, j < 15 → w.cell? ⟨g, j, none⟩ = (ys.getD i It.none).1.cells[j]?) := by
  obtain ⟨rest, hrest⟩ := hh
  obtain ⟨ao, cap, rfl, hc⟩ := h.is
  obtain ⟨b, off, rfl, hlo, hbl, hcell⟩ := hc (by omega)
  obtain ⟨u, hu, ho⟩ := hcell i (by omega)
  have hm : 0 < (rows.getD i []).length := by rw [hrest]; simp
  obtain ⟨g, c, rfl⟩ : ∃ g c, u = .slice (some ⟨g, 0, none⟩) (rows.getD i []).length c := by
    rcases ho.2 with ⟨_, h0⟩ | ⟨g, cap, cur, e, _⟩
    · omega
    · exact ⟨g, cap, e⟩
  have hk := World.ownsRow.lt ho g rfl
  refine ⟨cap, b, off, g, c, _, rest, by rw [hr], hlo, hbl, hu, hk.1, hk.2, hm, rfl, ho, hrest, fun j hj => ?_⟩
  rw [World.ownsRow.cellAt ho j (by omega), hrest, flatN, List.getElem?_append_left (by rw [cells_len]; exact hj)]
end Go.Proofs.Ytdgfnceipginkaa
