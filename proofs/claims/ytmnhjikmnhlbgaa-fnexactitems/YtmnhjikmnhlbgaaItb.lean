/-
  The items of a list: what one round of the loop leaves.
-/
import Derived.Maps.AppendAt
import Derived.Test.YtmnhjikmnhlbgaaIta
namespace Go.Proofs.Ytmnhjikmnhlbgaa
open Go.RowKit Go.Shelf
set_option linter.unusedVariables false
set_option linter.unusedSimpArgs false

theorem wp_append_at {P : Program} {w : World} {o : Oper} {a : Act} {K : Act → World → Prop} {Q : Exit → Act → World → Prop} (s x : Operand) (t : TypeId)
    (ho : o.op = .call { callee := .builtin .append, args := #[s, x], argTypes := #[t, t] })
    (base : Nat) (e : TypeId) (i : TypeInfo) (z : Value) (size bytes : Nat) (ht : P.underlying t = some (.slice e)) (hi : P.info? e = some i) (hz : i.zero = some z)
    (hsize : i.size = size) (hby : i.bytes = bytes) (hzs : z.cells.size = size) (hsz : 0 < size)
    (v : Value) (n : Nat) (xs : List Value) (hs : a.eval s = v) (hown : w.ownsRow base e size v n xs)
    (ad : Addr) (m c : Nat) (news : List Value) (hx : a.eval x = .slice (some ad) m c) (hl : news.length = m * size) (hnews : ∀ j u, news[j]? = some u → w.cell? (ad.add j) = some u) (h1 : ∀ u ∈ news, u.oneCell' = true)
    (h63 : n + m ≤ maxLen) (hbytes : (n + m) * bytes ≤ 140737488355328) (hbase : base ≤ w.heap.size)
    (h : ∀ v' w', w'.ownsRow base e size v' (n + m) (xs ++ news) → w.grownBy w' v.ownBlock → (v' = .slice none 0 0 ↔ v = .slice none 0 0 ∧ m = 0) → (v'.ownBlock = v.ownBlock ∨ v'.ownBlock = some w.heap.size) → K (a.put o.dst v') w') : o.wp P a w K Q := by
  obtain ⟨v', w', hr, h2, h3, h4, h5⟩ := run_append_own_at (P := P) w base t o.type e i z size bytes ht hi hz hsize hby hzs hsz v n xs hown ad m c news hl hnews h1 h63 hbytes hbase
  unfold Oper.wp execOp
  simp only [ho, resolve, invoke, builtin, Sem.run_bind, Sem.run_pure, Result.andThen_ok, List.map_toArray, List.map_cons, List.map_nil, hs, hx, hr]
  exact h v' w' h2 h3 h4 h5

structure Round (xs : List Nd) (ao : Option Addr) (Bs b off cap base B k : Nat) (w W : World) (V u : Value) (vs : List Value) (f : Nat → List Nd) : Prop where
  hbx : Boxed W base 25 V
  hbu : Boxed W B 29 u
  how : W.ownsRow base 25 1 u k vs
  hls : Lsts base W vs f
  hne : ∀ g, u.ownBlock = some g → g ≠ base ∧ g ≠ Bs
  hB : Below base w W
  hbs : Bs < W.heap.size

theorem item_done {xs : List Nd} {ao : Option Addr} {Bs b off cap base B k m : Nat} {w W w3 w5 : World} {V u vc v' : Value} {vs : List Value} {f f' : Nat → List Nd} {it : List Nd} {tmp : Obj}
    (R : Round xs ao Bs b off cap base B k w W V u vs f) (hBB : base < B) (hBs : B < Bs) (hb : 0 < xs.length → b < base) (hW : base ≤ W.heap.size)
    (hc : w3.ownsRow W.heap.size 56 15 vc m (flatN it)) (hm : it.length = m) (hb3 : Below W.heap.size W.drew w3)
    (ho5 : w5.ownsRow base 25 1 v' (k + 1) (vs ++ [vc])) (hg5 : (w3.alloc tmp).grownBy w5 u.ownBlock) (hat : v'.ownBlock = u.ownBlock ∨ v'.ownBlock = some (w3.alloc tmp).heap.size)
    (hf : ∀ i, i < k → f' i = f i) (hfk : f' k = it) :
    KeepsOthers W (w5.setCell ⟨B, 0, none⟩ v') ∧ (Src xs ao Bs b off cap W → Src xs ao Bs b off cap (w5.setCell ⟨B, 0, none⟩ v')) ∧ Round xs ao Bs b off cap base B (k + 1) w (w5.setCell ⟨B, 0, none⟩ v') V v' (vs ++ [vc]) f' := by
  have hb3' : Below W.heap.size W w3 := ⟨hb3.os, hb3.tape, hb3.output, hb3.size, fun q hq => hb3.block q hq⟩
  have hlen : vs.length = k := own25_len R.how
  have hbu3 : Boxed w3 B 29 u := (hb3'.block B R.hbu.lt).trans R.hbu
  have how3 : w3.ownsRow base 25 1 u k vs := own25_below R.how hb3'
  obtain ⟨p1, p2, p3, p4, p5⟩ := Boxed.appended hbu3 (by decide) how3 (Nat.le_trans hW hb3'.size) (by omega) ho5 hg5
  have hbase : ∀ g, u.ownBlock = some g → base ≤ g := fun g hg => (World.ownsRow.lt R.how g hg).1
  have hblk : ∀ q, q < W.heap.size → u.ownBlock ≠ some q → q ≠ B → (w5.setCell ⟨B, 0, none⟩ v').heap[q]? = W.heap[q]? := by
    intro q hq hu hqB
    rw [Below.heap_setCell _ _ _ _ (by simpa using hqB), hg5.block q (by have := hb3'.size; simp; omega) (fun e => hu e.symm), (below1 _ _).block q (by have := hb3'.size; omega), hb3'.block q hq]
  have hne' : ∀ g, v'.ownBlock = some g → g ≠ base ∧ g ≠ Bs := by
    intro g hg
    rcases hat with e | e
    · exact R.hne g (by rw [← e]; exact hg)
    · rw [hg] at e
      have h1 := Option.some.inj e
      have h2 := R.hbs
      have h3 := hb3'.size
      simp only [World.size_alloc] at h1
      omega
  refine ⟨?_, ?_, ⟨?_, p2, p3, ⟨?_, ?_⟩, hne', ?_, ?_⟩⟩
  · exact KeepsOthers.trans ⟨hb3'.size, fun q o h _ => (hb3'.block q (Array.getElem?_eq_some_iff.1 h).1).trans h⟩ p4
  · intro hsrc
    refine ⟨?_, hsrc.some_, fun i hi => ?_⟩
    · have hlt := World.block_lt_of_cell? W _ hsrc.box
      exact (World.cell?_of_block (w := W) (a := ⟨Bs, 0, none⟩) (hblk Bs hlt (fun e => (R.hne Bs e).2 rfl) (by omega))).trans hsrc.box
    · obtain ⟨y, hk, hcy⟩ := hsrc.at_ i hi
      have hbl := hb (by omega)
      refine ⟨y, hk, fun j hj => ?_⟩
      exact (World.cell?_of_block (w := W) (a := ⟨b, off + i * 15 + j, none⟩) (hblk b (by omega) (fun e => by have := hbase b e; omega) (by omega))).trans (hcy j hj)
  · exact (hblk base R.hbx.lt (fun e => (R.hne base e).1 rfl) (by omega)).trans R.hbx
  · intro i x hx
    by_cases hik : i < k
    · rw [List.getElem?_append_left (by omega)] at hx
      rw [hf i hik]
      have h1 := own_below (R.hls.own i x hx) hb3'
      have h2 : w5.ownsRow base 56 15 x (f i).length (flatN (f i)) := World.ownsRow.kept (h1.alloc tmp) hg5 (by
        cases hxb : x.ownBlock with
        | none => exact .inl rfl
        | some g => exact .inr (fun e => other_block how3 h1 g e.symm hxb))
      exact h2.kept (grownBy_setCell' w5 B v') (.inr (p1.not_row (by decide) h2).symm)
    · rw [List.getElem?_append_right (by omega)] at hx
      have hi0 : i = k := by
        have := (List.getElem?_eq_some_iff.1 hx).1
        simp at this
        omega
      subst hi0
      obtain rfl : vc = x := by simpa [hlen] using hx
      rw [hfk, hm]
      have h1 : w3.ownsRow base 56 15 vc m (flatN it) := own_mono hc hW
      have h2 : w5.ownsRow base 56 15 vc m (flatN it) := World.ownsRow.kept (h1.alloc tmp) hg5 (by
        cases hxb : vc.ownBlock with
        | none => exact .inl rfl
        | some g => exact .inr (fun e => other_block how3 h1 g e.symm hxb))
      exact h2.kept (grownBy_setCell' w5 B v') (.inr (p1.not_row (by decide) h2).symm)
  · intro i j x y hij hx hy q hq
    have hold : ∀ i x, i < k → (vs ++ [vc])[i]? = some x → vs[i]? = some x := fun i x hi h => by rw [List.getElem?_append_left (by omega)] at h; exact h
    have hnew : ∀ i x, ¬ i < k → (vs ++ [vc])[i]? = some x → x = vc ∧ i = k := fun i x hi h => by
      rw [List.getElem?_append_right (by omega)] at h
      have h1 := (List.getElem?_eq_some_iff.1 h).1
      simp at h1
      have hik : i = k := by omega
      subst hik
      refine ⟨?_, rfl⟩
      have : vc = x := by simpa [hlen] using h
      exact this.symm
    by_cases hi : i < k
    · have hx' := hold i x hi hx
      by_cases hj : j < k
      · exact R.hls.apart i j x y hij hx' (hold j y hj hy) q hq
      · obtain ⟨rfl, _⟩ := hnew j y hj hy
        have h1 := (World.ownsRow.lt (R.hls.own i x hx') q hq).2
        intro e
        have h2 := (World.ownsRow.lt hc q e).1
        omega
    · obtain ⟨rfl, hik⟩ := hnew i x hi hx
      by_cases hj : j < k
      · have hy' := hold j y hj hy
        have h2 := (World.ownsRow.lt hc q hq).1
        intro e
        have h1 := (World.ownsRow.lt (R.hls.own j y hy') q e).2
        omega
      · obtain ⟨_, hjk⟩ := hnew j y hj hy
        omega
  · exact (R.hB.trans (hb3'.mono hW)).trans p5
  · have h1 := R.hbs
    have h2 := hb3'.size
    have h3 := p5.size
    omega
end Go.Proofs.Ytmnhjikmnhlbgaa
