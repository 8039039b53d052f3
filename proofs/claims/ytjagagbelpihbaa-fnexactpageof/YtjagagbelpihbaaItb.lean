/-
  The items of a list: what one round of the loop leaves.
-/
import Derived.Test.YtjagagbelpihbaaItm
import Derived.Test.YtjagagbelpihbaaRnd
import Derived.Maps.AppendAt
namespace Go.Proofs.Ytjagagbelpihbaa
open Go.RowKit Go.Shelf
set_option linter.unusedVariables false
set_option linter.unusedSimpArgs false
attribute [local go_sem] Oper.semAt_some

def itemAt (xs : List Nd) (p : Nat) : List Nd := (xs.drop p).take (1 + (xs.getD p Nd.none).kids.toNat)
def itemsOf (xs : List Nd) : List (List Nd) := if listB xs then (starts xs (xs.length + 1) 0).map (itemAt xs) else []

theorem ok_end {len : Int} : ∀ (xs : List Nd) (i : Int) (T : List Int), 0 ≤ i → (∀ y ∈ T, y ≤ len) → okFrom len i T xs = true → ∀ j, j < xs.length → i + j + 1 + (xs.getD j Nd.none).kids ≤ len
  | [], _, _, _, _, _, j, hj => by simp at hj
  | x :: xs, i, T, hi, hT, h, j, hj => by
    simp only [okFrom, Bool.and_eq_true] at h
    obtain ⟨⟨⟨hg, hk⟩, _⟩, hr⟩ := h
    have hk := of_decide_eq_true hk
    have hh : (T.dropWhile (· == i)).headD len ≤ len := by
      cases he : T.dropWhile (· == i) with
      | nil => simp
      | cons a U => simpa using hT a (drop_mem (by rw [he]; exact List.mem_cons_self ..))
    have hU : ∀ y ∈ T.dropWhile (· == i), y ≤ len := fun y hy => hT y (drop_mem hy)
    cases j with
    | zero => simp only [List.getD_cons_zero]; omega
    | succ j =>
      simp only [List.getD_cons_succ]
      have h2 := ok_end xs (i + 1) _ (by omega) (by
        intro z hz
        split at hz
        · rcases List.mem_cons.1 hz with rfl | hz
          · omega
          · exact hU z hz
        · exact hU z hz) hr j (by simpa using hj)
      omega
structure AllOk (xs : List Nd) : Prop where
  len : xs.length ≤ 20000
  kids : ∀ i, i < xs.length → 0 ≤ (xs.getD i Nd.none).kids ∧ (i : Int) + 1 + (xs.getD i Nd.none).kids ≤ xs.length
  text : ∀ i, i < xs.length → (xs.getD i Nd.none).tx.size ≤ 1000
theorem allOk {xs : List Nd} (h : listB xs = true) : AllOk xs := by
  unfold listB at h
  simp only [Bool.and_eq_true, decide_eq_true_eq] at h
  obtain ⟨h1, h2⟩ := h
  have hmem : ∀ i, i < xs.length → xs.getD i Nd.none ∈ xs := fun i hi => by simp [List.getD, List.getElem?_eq_getElem hi]
  have hall := ok_all xs 0 [] (by omega) (by simp) h2
  refine ⟨h1, fun i hi => ⟨good_kids (hall _ (hmem i hi)).1, ?_⟩, fun i hi => good_text (hall _ (hmem i hi)).1⟩
  have := ok_end xs 0 [] (by omega) (by simp) h2 i hi
  omega
theorem AllOk.weak {xs : List Nd} (h : AllOk xs) : ∀ i, i < xs.length → 0 ≤ (xs.getD i Nd.none).kids ∧ (xs.getD i Nd.none).kids ≤ 20000 := fun i hi => by
  have h1 := h.kids i hi
  have h2 := h.len
  omega
theorem itemAt_len {xs : List Nd} (h : AllOk xs) {p : Nat} (hp : p < xs.length) : (itemAt xs p).length = 1 + (xs.getD p Nd.none).kids.toNat := by
  have h1 := h.kids p hp
  unfold itemAt
  rw [List.length_take, List.length_drop]
  omega
theorem starts_sum {xs : List Nd} (h : AllOk xs) : ∀ (f i : Nat), i ≤ xs.length → ((starts xs f i).map (fun p => (itemAt xs p).length)).sum ≤ xs.length - i
  | 0, i, hi => by simp [starts]
  | f + 1, i, hi => by
    simp only [starts]
    split
    · rename_i hlt
      have h1 := h.kids i hlt
      have h2 := starts_sum h f (i + 1 + (xs.getD i Nd.none).kids.toNat) (by omega)
      rw [List.map_cons, List.sum_cons, itemAt_len h hlt]
      omega
    · simp
theorem starts_count {xs : List Nd} : ∀ (f i : Nat), (starts xs f i).length ≤ xs.length - i
  | 0, i => by simp [starts]
  | f + 1, i => by
    simp only [starts]
    split
    · have := starts_count (xs := xs) f (i + 1 + (xs.getD i Nd.none).kids.toNat)
      rw [List.length_cons]
      omega
    · simp
theorem offs_sum (Z : List Nat) (g : Nat → List Nd) : ∀ j, j ≤ Z.length → offs (fun t => g (Z.getD t 0)) j = ((Z.take j).map (fun p => (g p).length)).sum
  | 0, _ => by simp [offs]
  | j + 1, h => by
    rw [offs, offs_sum Z g j (by omega), take_snoc Z j 0 (by omega)]
    simp
theorem itemAt_flat {xs : List Nd} {w : World} {b off p : Nat} (hc : ∀ j u, (flatN xs)[j]? = some u → w.cell? ⟨b, off + j, none⟩ = some u) : ∀ j u, (flatN (itemAt xs p))[j]? = some u → w.cell? ⟨b, off + p * 15 + j, none⟩ = some u := by
  intro j u hj
  have hlt : j < (flatN (itemAt xs p)).length := (List.getElem?_eq_some_iff.1 hj).1
  rw [flatN_len] at hlt
  have hi : j / 15 < (itemAt xs p).length := by omega
  have h1 := flatN_get (itemAt xs p) (j / 15) hi (j % 15) (by omega)
  rw [show j / 15 * 15 + j % 15 = j by omega, hj] at h1
  have hi2 : p + j / 15 < xs.length ∧ (itemAt xs p).getD (j / 15) Nd.none = xs.getD (p + j / 15) Nd.none := by
    unfold itemAt at hi ⊢
    generalize 1 + (xs.getD p Nd.none).kids.toNat = m at hi ⊢
    rw [List.length_take, List.length_drop] at hi
    refine ⟨by omega, ?_⟩
    simp only [List.getD, List.getElem?_take, List.getElem?_drop]
    rw [if_pos (by omega)]
  rw [hi2.2] at h1
  have h2 := flatN_get xs (p + j / 15) hi2.1 (j % 15) (by omega)
  rw [← h1] at h2
  have h3 := hc _ _ h2
  rw [show off + p * 15 + j = off + ((p + j / 15) * 15 + j % 15) by omega]
  exact h3
theorem boxed_kept {A B : World} {row : Option Nat} {k : Nat} {t : TypeId} {v : Value} (h : Boxed A k t v) (hg : A.grownBy B row) (hr : ∀ r, row = some r → ∃ o : Obj, A.heap[r]? = some o ∧ o.isCells = false) : Boxed B k t v :=
  h.kept hg (fun e => by
    obtain ⟨o, ho, hc⟩ := hr k e.symm
    rw [show A.heap[k]? = _ from h] at ho
    cases ho
    cases hc)
theorem own25_kept {v : Value} {base n : Nat} {xs : List Value} {A B : World} {row : Option Nat} (h : A.ownsRow base 25 1 v n xs) (hg : A.grownBy B row) (hr : ∀ r, row = some r → ∃ o : Obj, A.heap[r]? = some o ∧ o.isCells = false) : B.ownsRow base 25 1 v n xs := by
  refine World.ownsRow.kept h hg ?_
  obtain ⟨hl, ⟨rfl, _⟩ | ⟨g, cap, cur, rfl, _, hb, _⟩⟩ := h
  · exact .inl rfl
  · refine .inr fun e => ?_
    obtain ⟨o, ho, hc⟩ := hr g e.symm
    rw [hb] at ho
    cases ho
    cases hc
theorem Lsts.kept {base : Nat} {vs : List Value} {f : Nat → List Nd} {A B : World} {row : Option Nat} (h : Lsts base A vs f) (hg : A.grownBy B row) (hr : ∀ r, row = some r → ∃ o : Obj, A.heap[r]? = some o ∧ o.isCells = false) : Lsts base B vs f :=
  ⟨fun i u hu => own_row_kept (h.own i u hu) hg hr, h.apart⟩
def plainOp (o : Oper) : Bool := match o.op with | .defer _ => false | _ => true
theorem plain_spec {ops : Array Oper} (h : ops.all plainOp = true) : ∀ (i : Nat) (o : Oper), ops[i]? = some o → ∀ c, o.op ≠ .defer c := by
  intro i o ho c hc
  have h1 := Array.all_eq_true_iff_forall_mem.1 h o (Array.mem_of_getElem? ho)
  unfold plainOp at h1
  rw [hc] at h1
  cases h1
end Go.Proofs.Ytjagagbelpihbaa

namespace Go.Proofs.Ytjagagbelpihbaa
open Go.RowKit Go.Shelf
set_option linter.unusedVariables false
set_option linter.unusedSimpArgs false

theorem wp_append_at {P : Program} {w : World} {o : Oper} {a : Act} {K : Act → World → Prop} {Q : Exit → Act → World → Prop} (s x : Operand) (t : TypeId)
    (ho : o.op = .call { callee := .builtin .append, args := #[s, x], argTypes := #[t, t] })
    (base : Nat) (e : TypeId) (i : TypeInfo) (z : Value) (size bytes : Nat) (ht : P.underlying t = some (.slice e)) (hi : P.info? e = some i) (hz : i.zero = some z)
    (hsize : i.size = size) (hby : i.bytes = bytes) (hzs : z.cells.size = size) (hsz : 0 < size)
    (v : Value) (n : Nat) (xs : List Value) (hs : a.eval s = v) (hown : w.ownsRow base e size v n xs)
    (ad : Addr) (m c : Nat) (news : List Value) (hx : a.eval x = .slice (some ad) m c) (hl : news.length = m * size) (hnews : ∀ j u, news[j]? = some u → w.cell? (ad.add j) = some u) (h1 : ∀ u ∈ news, u.oneCell' = true)
    (h63 : n + m ≤ maxLen) (hbytes : (n + m) * bytes ≤ 140737488355328) (hbase : base ≤ w.heap.size)
    (h : ∀ v' w', w'.ownsRow base e size v' (n + m) (xs ++ news) → w.grownBy w' v.ownBlock → (v' = .slice none 0 0 ↔ v = .slice none 0 0 ∧ m = 0) → (v'.ownBlock = v.ownBlock ∨ v'.ownBlock = some w.heap.size) → K (a.put o.dst v') w') : o.wp P a w K Q := by
  obtain ⟨v', w', hr, h2, h3, h4, h5⟩ := run_append_own_at (P := P) w base t o.type e i z size bytes ht hi hz hsize hby hzs hsz v n xs hown ad m c news hl hnews h1 h63 hbytes hbase
  unfold Oper.wp execOp
  simp only [ho, resolve, invoke, builtin, Sem.run_bind, Sem.run_pure, Result.andThen_ok, List.map_toArray, List.map_cons, List.map_nil, hs, hx, hr]
  exact h v' w' h2 h3 h4 h5

structure Round (xs : List Nd) (ao : Option Addr) (Bs b off cap base B k : Nat) (w W : World) (V u : Value) (vs : List Value) (f : Nat → List Nd) : Prop where
  hbx : Boxed W base 25 V
  hbu : Boxed W B 29 u
  how : W.ownsRow base 25 1 u k vs
  hls : Lsts base W vs f
  hne : ∀ g, u.ownBlock = some g → g ≠ base ∧ g ≠ Bs
  hB : Below base w W
  hbs : Bs < W.heap.size

theorem item_done {xs : List Nd} {ao : Option Addr} {Bs b off cap base B k m : Nat} {w W w3 w5 : World} {V u vc v' : Value} {vs : List Value} {f f' : Nat → List Nd} {it : List Nd} {tmp : Obj}
    (R : Round xs ao Bs b off cap base B k w W V u vs f) (hBB : base < B) (hBs : B < Bs) (hb : 0 < xs.length → b < base) (hW : base ≤ W.heap.size)
    (hc : w3.ownsRow W.heap.size 60 15 vc m (flatN it)) (hm : it.length = m) (hb3 : Below W.heap.size W.drew w3)
    (ho5 : w5.ownsRow base 25 1 v' (k + 1) (vs ++ [vc])) (hg5 : (w3.alloc tmp).grownBy w5 u.ownBlock) (hat : v'.ownBlock = u.ownBlock ∨ v'.ownBlock = some (w3.alloc tmp).heap.size)
    (hf : ∀ i, i < k → f' i = f i) (hfk : f' k = it) :
    KeepsOthers W (w5.setCell ⟨B, 0, none⟩ v') ∧ (Src xs ao Bs b off cap W → Src xs ao Bs b off cap (w5.setCell ⟨B, 0, none⟩ v')) ∧ Round xs ao Bs b off cap base B (k + 1) w (w5.setCell ⟨B, 0, none⟩ v') V v' (vs ++ [vc]) f' := by
  have hb3' : Below W.heap.size W w3 := ⟨hb3.os, hb3.tape, hb3.output, hb3.size, fun q hq => hb3.block q hq⟩
  have hlen : vs.length = k := own25_len R.how
  have hbu3 : Boxed w3 B 29 u := (hb3'.block B R.hbu.lt).trans R.hbu
  have how3 : w3.ownsRow base 25 1 u k vs := own25_below R.how hb3'
  obtain ⟨p1, p2, p3, p4, p5⟩ := Boxed.appended hbu3 (by decide) how3 (Nat.le_trans hW hb3'.size) (by omega) ho5 hg5
  have hbase : ∀ g, u.ownBlock = some g → base ≤ g := fun g hg => (World.ownsRow.lt R.how g hg).1
  have hblk : ∀ q, q < W.heap.size → u.ownBlock ≠ some q → q ≠ B → (w5.setCell ⟨B, 0, none⟩ v').heap[q]? = W.heap[q]? := by
    intro q hq hu hqB
    rw [Below.heap_setCell _ _ _ _ (by simpa using hqB), hg5.block q (by have := hb3'.size; simp; omega) (fun e => hu e.symm), (below1 _ _).block q (by have := hb3'.size; omega), hb3'.block q hq]
  have hne' : ∀ g, v'.ownBlock = some g → g ≠ base ∧ g ≠ Bs := by
    intro g hg
    rcases hat with e | e
    · exact R.hne g (by rw [← e]; exact hg)
    · rw [hg] at e
      have h1 := Option.some.inj e
      have h2 := R.hbs
      have h3 := hb3'.size
      simp only [World.size_alloc] at h1
      omega
  refine ⟨?_, ?_, ⟨?_, p2, p3, ⟨?_, ?_⟩, hne', ?_, ?_⟩⟩
  · exact KeepsOthers.trans ⟨hb3'.size, fun q o h _ => (hb3'.block q (Array.getElem?_eq_some_iff.1 h).1).trans h⟩ p4
  · intro hsrc
    refine ⟨?_, hsrc.some_, fun i hi => ?_⟩
    · have hlt := World.block_lt_of_cell? W _ hsrc.box
      exact (World.cell?_of_block (w := W) (a := ⟨Bs, 0, none⟩) (hblk Bs hlt (fun e => (R.hne Bs e).2 rfl) (by omega))).trans hsrc.box
    · obtain ⟨y, hk, hcy⟩ := hsrc.at_ i hi
      have hbl := hb (by omega)
      refine ⟨y, hk, fun j hj => ?_⟩
      exact (World.cell?_of_block (w := W) (a := ⟨b, off + i * 15 + j, none⟩) (hblk b (by omega) (fun e => by have := hbase b e; omega) (by omega))).trans (hcy j hj)
  · exact (hblk base R.hbx.lt (fun e => (R.hne base e).1 rfl) (by omega)).trans R.hbx
  · intro i x hx
    by_cases hik : i < k
    · rw [List.getElem?_append_left (by omega)] at hx
      rw [hf i hik]
      have h1 := own_below (R.hls.own i x hx) hb3'
      have h2 : w5.ownsRow base 60 15 x (f i).length (flatN (f i)) := World.ownsRow.kept (h1.alloc tmp) hg5 (by
        cases hxb : x.ownBlock with
        | none => exact .inl rfl
        | some g => exact .inr (fun e => other_block how3 h1 g e.symm hxb))
      exact h2.kept (grownBy_setCell' w5 B v') (.inr (p1.not_row (by decide) h2).symm)
    · rw [List.getElem?_append_right (by omega)] at hx
      have hi0 : i = k := by
        have := (List.getElem?_eq_some_iff.1 hx).1
        simp at this
        omega
      subst hi0
      obtain rfl : vc = x := by simpa [hlen] using hx
      rw [hfk, hm]
      have h1 : w3.ownsRow base 60 15 vc m (flatN it) := own_mono hc hW
      have h2 : w5.ownsRow base 60 15 vc m (flatN it) := World.ownsRow.kept (h1.alloc tmp) hg5 (by
        cases hxb : vc.ownBlock with
        | none => exact .inl rfl
        | some g => exact .inr (fun e => other_block how3 h1 g e.symm hxb))
      exact h2.kept (grownBy_setCell' w5 B v') (.inr (p1.not_row (by decide) h2).symm)
  · intro i j x y hij hx hy q hq
    have hold : ∀ i x, i < k → (vs ++ [vc])[i]? = some x → vs[i]? = some x := fun i x hi h => by rw [List.getElem?_append_left (by omega)] at h; exact h
    have hnew : ∀ i x, ¬ i < k → (vs ++ [vc])[i]? = some x → x = vc ∧ i = k := fun i x hi h => by
      rw [List.getElem?_append_right (by omega)] at h
      have h1 := (List.getElem?_eq_some_iff.1 h).1
      simp at h1
      have hik : i = k := by omega
      subst hik
      refine ⟨?_, rfl⟩
      have : vc = x := by simpa [hlen] using h
      exact this.symm
    by_cases hi : i < k
    · have hx' := hold i x hi hx
      by_cases hj : j < k
      · exact R.hls.apart i j x y hij hx' (hold j y hj hy) q hq
      · obtain ⟨rfl, _⟩ := hnew j y hj hy
        have h1 := (World.ownsRow.lt (R.hls.own i x hx') q hq).2
        intro e
        have h2 := (World.ownsRow.lt hc q e).1
        omega
    · obtain ⟨rfl, hik⟩ := hnew i x hi hx
      by_cases hj : j < k
      · have hy' := hold j y hj hy
        have h2 := (World.ownsRow.lt hc q hq).1
        intro e
        have h1 := (World.ownsRow.lt (R.hls.own j y hy') q e).2
        omega
      · obtain ⟨_, hjk⟩ := hnew j y hj hy
        omega
  · exact (R.hB.trans (hb3'.mono hW)).trans p5
  · have h1 := R.hbs
    have h2 := hb3'.size
    have h3 := p5.size
    omega
end Go.Proofs.Ytjagagbelpihbaa
