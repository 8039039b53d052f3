/-
  Where pages may end: the whole of the specification.
-/
import Derived.Test.YtdgfnceipginkaaSpd
import Derived.Test.YtdgfnceipginkaaScr
import Derived.OwnWalk
import Derived.Laws.AppendOwn
import Derived.Test.YtdgfnceipginkaaRow
namespace Go.Proofs.Ytdgfnceipginkaa
open Go.RowKit
set_option linter.unusedVariables false
set_option linter.unusedSimpArgs false

theorem Try.info2i : (Try.prog.info? 2).map (fun i => (i.zero, i.size, i.bytes)) = some (some (.int .i64 0), 1, 8) := by kernel_rfl


theorem Heads.mono {lo lo' : Nat} {w : World} {v : Value} {ys : List It} (h : Heads lo w v ys) (hl : lo' ≤ lo) : Heads lo' w v ys := by
  obtain ⟨ao, cap, rfl, hc⟩ := h.is
  refine ⟨ao, cap, rfl, fun hp => ?_⟩
  obtain ⟨b, off, rfl, hlo, hlt, hcell⟩ := hc hp
  refine ⟨b, off, rfl, by omega, hlt, fun i hi => ?_⟩
  obtain ⟨u, rest, h1, h2⟩ := hcell i hi
  exact ⟨u, rest, h1, SRow.mono ndStable h2 hl⟩
theorem wpList_append_at {P : Program} {w : World} {ops : Array Oper} {rest : List Oper} {o : Oper} {a : Act} {Q : Exit → Act → World → Prop} (hgd : o.guard = none) (s x : Operand) (t : TypeId)
    (ho : o.op = .call { callee := .builtin .append, args := #[s, x], argTypes := #[t, t] })
    (base : Nat) (e : TypeId) (i : TypeInfo) (z : Value) (size bytes : Nat) (ht : P.underlying t = some (.slice e)) (hi : P.info? e = some i) (hz : i.zero = some z)
    (hsize : i.size = size) (hby : i.bytes = bytes) (hzs : z.cells.size = size) (hsz : 0 < size)
    (v : Value) (n : Nat) (xs : List Value) (hs : a.eval s = v) (hown : w.ownsRow base e size v n xs)
    (ad : Addr) (m c : Nat) (news : List Value) (hx : a.eval x = .slice (some ad) m c) (hl : news.length = m * size) (hnews : ∀ j u, news[j]? = some u → w.cell? (ad.add j) = some u) (h1 : ∀ u ∈ news, u.oneCell' = true)
    (h63 : n + m ≤ maxLen) (hbytes : (n + m) * bytes ≤ 140737488355328) (hbase : base ≤ w.heap.size)
    (h : ∀ v' w', w'.ownsRow base e size v' (n + m) (xs ++ news) → w.grownBy w' v.ownBlock → (v'.ownBlock = v.ownBlock ∨ v'.ownBlock = some w.heap.size) → wpList P ops Q rest (a.put o.dst v') w') : wpList P ops Q (o :: rest) a w :=
  wpList_plain hgd fun _ hK => wp_append_at s x t ho base e i z size bytes ht hi hz hsize hby hzs hsz v n xs hs hown ad m c news hx hl hnews h1 h63 hbytes hbase fun v' w' h2 h3 _ h5 => hK _ _ (h v' w' h2 h3 h5)
theorem heads_of {w : World} {base : Nat} {u : Value} {vs : List Value} {xs : List Nd} (hob : listB xs = true) (ho : w.ownsRow base 28 1 u (itemsOf xs).length vs) (hL : Lsts base w vs (fun i => (itemsOf xs).getD i [])) : Heads base w u (its xs) ∧ (itemsOf xs).length = (its xs).length := by
  have hlen : (itemsOf xs).length = (its xs).length := by unfold itemsOf its; rw [if_pos hob, List.length_map, List.length_map]
  have hvl := own25_len ho
  obtain ⟨ao, cap, rfl, hg⟩ := own25_shape ho
  refine ⟨⟨ao, cap, by rw [hlen], fun hp => ?_⟩, hlen⟩
  obtain ⟨g, rfl, hgb, hlt⟩ := hg (by omega)
  refine ⟨g, 0, rfl, hgb, hlt, fun i hi => ?_⟩
  have hu : vs[i]? = some (vs[i]'(by omega)) := List.getElem?_eq_getElem (by omega)
  have h1 : w.cell? ⟨g, 0 + i, none⟩ = some (vs[i]'(by omega)) := by rw [Nat.zero_add]; exact (own25_cell ho hu).1
  have h2 := own_NRow (hL.own i _ hu) rfl
  obtain ⟨u, hue⟩ : ∃ u, u = vs[i]'(by omega) := ⟨_, rfl⟩
  rw [← hue] at h1 h2
  have hi2 : i < (starts xs (xs.length + 1) 0).length := by simpa [its] using hi
  have hst := starts_lt xs (xs.length + 1) 0 _ (List.getElem_mem hi2)
  have e1 : (itemsOf xs).getD i [] = itemAt xs ((starts xs (xs.length + 1) 0)[i]) := by
    unfold itemsOf
    rw [if_pos hob]
    simp [List.getD, List.getElem?_map, List.getElem?_eq_getElem hi2]
  have e2 : (its xs).getD i It.none = itAt xs ((starts xs (xs.length + 1) 0)[i]) := by
    unfold its
    simp [List.getD, List.getElem?_map, List.getElem?_eq_getElem hi2]
  obtain ⟨p, hp⟩ : ∃ p, p = (starts xs (xs.length + 1) 0)[i] := ⟨_, rfl⟩
  rw [← hp] at e1 e2 hst
  have e3 : itemAt xs p = xs.getD p Nd.none :: (itemAt xs p).tail := by
    unfold itemAt
    have hd : xs.drop p = xs[p] :: xs.drop (p + 1) := List.drop_eq_getElem_cons hst
    rw [hd, Nat.add_comm 1, List.take_succ_cons]
    simp [List.getD, List.getElem?_eq_getElem hst]
  refine ⟨u, (itemAt xs p).tail, h1, ?_⟩
  rw [e2]
  show NRow base w u (xs.getD p Nd.none :: (itemAt xs p).tail)
  rw [← e3, ← e1]
  exact h2

end Go.Proofs.Ytdgfnceipginkaa
