import Derived.RangeFuncNested
import Derived.RangeFuncBound
import Derived.RangeFuncCalls
import Derived.RangeFuncLeaves
import Derived.Shelf.Abstract
import Derived.Shelf.RegionOpen
import Derived.WalkKit
import Derived.OwnWalkIn
import Derived.TacticsInMore
import Derived.LoopNIn
import Derived.LoopIn
import Derived.Maps.AppendAt
import Derived.Test.YtlohbaoigfaneaaGreatItb
import Derived.Test.YtlohbaoigfaneaaGreatBrk
import Derived.Test.YtlohbaoigfaneaaGreatAdl
import Derived.Test.YtlohbaoigfaneaaGreatLok
import Derived.Test.YtlohbaoigfaneaaGreatSst
import Derived.OwnWalk
namespace Go.Proofs.YtlohbaoigfaneaaGreat
open Go.RowKit Go.Shelf
set_option linter.unusedVariables false
set_option linter.unusedSimpArgs false
attribute [local go_sem] Oper.semAt_some
def itAt (xs : List Nd) (i : Nat) : It := (xs.getD i Nd.none, (i : Int), (i : Int) + 1 + (xs.getD i Nd.none).kids)
def its (xs : List Nd) : List It := (starts xs (xs.length + 1) 0).map (itAt xs)
def flatI (ys : List It) : List Value := ys.flatMap (fun y => [thV y.1, .int .i64 y.2.1, .int .i64 y.2.2])
theorem flatI_snoc (ys : List It) (y : It) : flatI (ys ++ [y]) = flatI ys ++ [thV y.1, .int .i64 y.2.1, .int .i64 y.2.2] := by simp [flatI]
theorem Tryz.info141i : (Tryz.prog.info? 186).map (fun i => (i.zero, i.size, i.bytes)) = some (some (.agg #[.nilIface, .int .i64 0, .int .i64 0]), 3, 32) := by kernel_rfl
theorem ownG_kept {v : Value} {base e s n : Nat} {xs : List Value} {A B : World} {row : Option Nat} (h : A.ownsRow base e s v n xs) (hg : A.grownBy B row) (hr : ∀ r, row = some r → ∃ o : Obj, A.heap[r]? = some o ∧ o.isCells = false) : B.ownsRow base e s v n xs := by
 refine World.ownsRow.kept h hg ?_
 obtain ⟨hl, ⟨rfl, _⟩ | ⟨g, cap, cur, rfl, _, hb, _⟩⟩ := h
 ·exact .inl rfl
 ·refine .inr fun e => ?_
  obtain ⟨o, ho, hc⟩ := hr g e.symm
  rw [hb] at ho
  cases ho
  cases hc
theorem ownG_shape {base e s n : Nat} {w : World} {v : Value} {xs : List Value} (h : w.ownsRow base e s v n xs) : ∃ ao cap, v = .slice ao n cap := by
 obtain ⟨hl, ⟨rfl, rfl⟩ | ⟨g, cap, cur, rfl, hg, hb, _⟩⟩ := h
 ·exact ⟨_, _, rfl⟩
 ·exact ⟨_, _, rfl⟩
theorem ownG_below {base e s n : Nat} {w w' : World} {v : Value} {xs : List Value} (h : w.ownsRow base e s v n xs) (hb : Below w.heap.size w w') : w'.ownsRow base e s v n xs := by
 obtain ⟨hl, h | ⟨g, cap, cur, rfl, hg, hbk, hr⟩⟩ := h
 ·exact ⟨hl, .inl h⟩
 ·exact ⟨hl, .inr ⟨g, cap, cur, rfl, hg, (hb.block g (Array.getElem?_eq_some_iff.1 hbk).1).trans hbk, hr⟩⟩
theorem cell_three_new (w : World) (x y z : Value) (t : TypeId) : ∀ j u, [x, y, z][j]? = some u → (w.alloc (.cells #[x, y, z] t)).cell? ((⟨w.heap.size, 0, none⟩ : Addr).add j) = some u := by
 intro j u hj
 match j, hj with
 | 0, hj => simp at hj; subst hj; simp [go_sem, Addr.add]
 | 1, hj => simp at hj; subst hj; simp [go_sem, Addr.add]
 | 2, hj => simp at hj; subst hj; simp [go_sem, Addr.add]
 | j + 3, hj => simp at hj
theorem itf_done {xs : List Nd} {ao : Option Addr} {Bs b off cap base B k m : Nat} {w W w5 : World} {V u v' : Value} {vs news : List Value} {tmp : Obj}
 (hbx : Boxed W base 31 V) (hbu : Boxed W B 86 u) (how : W.ownsRow base 186 3 u k vs) (hne : ∀ g, u.ownBlock = some g → g ≠ base ∧ g ≠ Bs) (hB : Below base w W) (hbs : Bs < W.heap.size)
 (hBB : base < B) (hBs : B < Bs) (hb : 0 < xs.length → b < base) (hW : base ≤ W.heap.size)
 (ho5 : w5.ownsRow base 186 3 v' m (vs ++ news)) (hg5' : (W.alloc tmp).drew.grownBy w5 u.ownBlock) (hat : v'.ownBlock = u.ownBlock ∨ v'.ownBlock = some (W.alloc tmp).drew.heap.size) :
 KeepsOthers W (w5.setCell ⟨B, 0, none⟩ v') ∧ (Src xs ao Bs b off cap W → Src xs ao Bs b off cap (w5.setCell ⟨B, 0, none⟩ v')) ∧ Boxed (w5.setCell ⟨B, 0, none⟩ v') base 31 V ∧ Boxed (w5.setCell ⟨B, 0, none⟩ v') B 86 v' ∧
  (w5.setCell ⟨B, 0, none⟩ v').ownsRow base 186 3 v' m (vs ++ news) ∧ (∀ g, v'.ownBlock = some g → g ≠ base ∧ g ≠ Bs) ∧ Bs < (w5.setCell ⟨B, 0, none⟩ v').heap.size ∧ Below base w (w5.setCell ⟨B, 0, none⟩ v') ∧ Boxed w5 B 86 u := by
 have hg5 : (W.drew.alloc tmp).grownBy w5 u.ownBlock := hg5'
 have hbu3 : Boxed W.drew B 86 u := hbu
 have how3 : W.drew.ownsRow base 186 3 u k vs := how
 obtain ⟨p1, p2, p3, p4, p5⟩ := Boxed.appended hbu3 (by decide) how3 hW (by omega) ho5 hg5
 have hbase : ∀ g, u.ownBlock = some g → base ≤ g := fun g hg => (World.ownsRow.lt how g hg).1
 have hblk : ∀ q, q < W.heap.size → u.ownBlock ≠ some q → q ≠ B → (w5.setCell ⟨B, 0, none⟩ v').heap[q]? = W.heap[q]? := by
  intro q hq hu hqB
  rw [Below.heap_setCell _ _ _ _ (by simpa using hqB), hg5.block q (by simp; exact Nat.lt_succ_of_lt hq) (fun e => hu e.symm), (below1 W.drew tmp).block q hq]
  rfl
 have hne' : ∀ g, v'.ownBlock = some g → g ≠ base ∧ g ≠ Bs := by
  intro g hg
  rcases hat with e | e
  ·exact hne g (by rw [← e]; exact hg)
  ·rw [hg] at e
   have h1 := Option.some.inj e
   have h2 : (W.alloc tmp).drew.heap.size = W.heap.size + 1 := by show (W.alloc tmp).heap.size = _; simp
   omega
 have p4' : KeepsOthers W (w5.setCell ⟨B, 0, none⟩ v') := ⟨p4.1, fun q o h hn => p4.2 q o h hn⟩
 refine ⟨p4', ?_, ?_, p2, p3, hne', ?_, ?_, p1⟩
 ·intro hsrc
  refine ⟨?_, hsrc.some_, fun i hi => ?_⟩
  ·have hlt := World.block_lt_of_cell? W _ hsrc.box
   exact (World.cell?_of_block (w := W) (a := ⟨Bs, 0, none⟩) (hblk Bs hlt (fun e => (hne Bs e).2 rfl) (by omega))).trans hsrc.box
  ·obtain ⟨y, hk, hcy⟩ := hsrc.at_ i hi
   have hbl := hb (by omega)
   refine ⟨y, hk, fun j hj => ?_⟩
   exact (World.cell?_of_block (w := W) (a := ⟨b, off + i * 15 + j, none⟩) (hblk b (by omega) (fun e => by have := hbase b e; omega) (by omega))).trans (hcy j hj)
 ·exact (hblk base hbx.lt (fun e => (hne base e).1 rfl) (by omega)).trans hbx
 ·have h3 := p5.size
  have h2 : W.drew.heap.size = W.heap.size := rfl
  omega
 ·exact hB.trans ⟨p5.os, p5.tape, p5.output, p5.size, fun q hq => p5.block q hq⟩
structure Temps where
 u7 : Value
 u8 : Value
 u9 : Value
 u10 : Value
 u11 : Value
 u12 : Value
 u42 : Value
 u43 : Value
 u44 : Value
 u45 : Value
 u46 : Value
 u47 : Value
 u48 : Value
 u49 : Value
 u50 : Value
 u51 : Value
 u52 : Value
 u53 : Value
 u54 : Value
 u55 : Value
 u56 : Value
 u57 : Value
 u58 : Value
 u59 : Value
 u60 : Value
 u61 : Value
 u62 : Value
 u63 : Value
 u64 : Value
 u65 : Value
 u66 : Value
 u67 : Value
 u68 : Value
 u69 : Value
 u70 : Value
 u71 : Value
 u72 : Value
 u73 : Value
 u74 : Value
 u75 : Value
 u76 : Value
 u77 : Value
 u78 : Value
theorem starts_le (xs : List Nd) : ∀ (f i : Nat), (starts xs f i).length ≤ f
 | 0, _ => by simp [starts]
 | f + 1, i => by
  unfold starts
  split
  ·have := starts_le xs f (i + 1 + (xs.getD i Nd.none).kids.toNat)
   simp only [List.length_cons]
   omega
  ·simp
theorem its_le {xs : List Nd} (h : AllOk xs) : (its xs).length ≤ 20001 := by
 unfold its
 rw [List.length_map]
 have := starts_le xs (xs.length + 1) 0
 have := h.len
 omega
theorem flatI_get (ys : List It) (i : Nat) (h : i < ys.length) : (flatI ys)[i * 3]? = some (thV (ys.getD i It.none).1) ∧ (flatI ys)[i * 3 + 1]? = some (.int .i64 (ys.getD i It.none).2.1) ∧ (flatI ys)[i * 3 + 2]? = some (.int .i64 (ys.getD i It.none).2.2) := by
 induction ys generalizing i with
 | nil => simp at h
 | cons y ys ih =>
  have e : flatI (y :: ys) = thV y.1 :: .int .i64 y.2.1 :: .int .i64 y.2.2 :: flatI ys := rfl
  rw [e]
  cases i with
  | zero => simp
  | succ i =>
   have h2 := ih i (by simpa using h)
   rw [show (i + 1) * 3 = i * 3 + 3 by omega]
   simpa using h2
theorem its_row {w : World} {base N uc : Nat} {ua : Option Addr} {ys : List It} (h : w.ownsRow base 186 3 (.slice ua N uc) N (flatI ys)) (hl : ys.length = N) (hN : 0 < N) : ∃ g, ua = some ⟨g, 0, none⟩ ∧ base ≤ g ∧ g < w.heap.size ∧ ItR w g ys := by
 obtain ⟨h0, ⟨e, hz⟩ | ⟨g, cap, cur, e, hg, hb, hn, hm, hs, hx⟩⟩ := h
 ·simp only [Value.slice.injEq] at e
  omega
 ·simp only [Value.slice.injEq] at e
  obtain ⟨rfl, _, rfl⟩ := e
  have hc : ∀ j u, (flatI ys)[j]? = some u → w.cell? ⟨g, j, none⟩ = some u := fun j u hj => by
   rw [cell_of_row w g _ cur 186 _ hb, ← Array.getElem?_toList]
   rw [← hx, List.getElem?_take] at hj
   split at hj
   ·exact hj
   ·simp at hj
  exact ⟨g, rfl, hg, (Array.getElem?_eq_some_iff.1 hb).1, ⟨fun i hi => hc _ _ (flatI_get ys i hi).1, fun i hi => hc _ _ (flatI_get ys i hi).2.1, fun i hi => hc _ _ (flatI_get ys i hi).2.2⟩⟩
theorem ItR.block {w w' : World} {g : Nat} {ys : List It} (h : ItR w g ys) (hb : w'.heap[g]? = w.heap[g]?) : ItR w' g ys :=
 ⟨fun i hi => (World.cell?_of_block (w := w) (a := ⟨g, i * 3, none⟩) hb).trans (h.c0 i hi), fun i hi => (World.cell?_of_block (w := w) (a := ⟨g, i * 3 + 1, none⟩) hb).trans (h.c1 i hi), fun i hi => (World.cell?_of_block (w := w) (a := ⟨g, i * 3 + 2, none⟩) hb).trans (h.c2 i hi)⟩
theorem list_ord {xs : List Nd} (h : listB xs = true) : ∀ i, i < xs.length → Ord (xs.getD i Nd.none) := fun i hi => by
 unfold listB at h
 simp only [Bool.and_eq_true, decide_eq_true_eq] at h
 have hmem : xs.getD i Nd.none ∈ xs := by simp [List.getD, List.getElem?_eq_getElem hi]
 have hg := (ok_all xs 0 [] (by omega) (by simp) h.2 _ hmem).1
 unfold goodB specB glB uptoB at hg
 simp only [Bool.and_eq_true, decide_eq_true_eq] at hg
 unfold Ord
 omega
theorem its_get {xs : List Nd} {k : Nat} (h : k < (its xs).length) : ∃ a, a < xs.length ∧ (its xs).getD k It.none = itAt xs a := by
 have h2 : k < (starts xs (xs.length + 1) 0).length := by simpa [its] using h
 refine ⟨(starts xs (xs.length + 1) 0)[k], starts_lt xs _ _ _ (List.getElem_mem h2), ?_⟩
 simp [its, List.getD, List.getElem?_map, List.getElem?_eq_getElem h2]
theorem ownG_other {base e s n C : Nat} {w : World} {v : Value} {xs : List Value} (h : w.ownsRow base e s v n xs) (hne : v.ownBlock ≠ some C) (o : Nat) (x : Value) : (w.setCell ⟨C, o, none⟩ x).ownsRow base e s v n xs := by
 obtain ⟨hl, h | ⟨g, cap, cur, rfl, hg, hb, hr⟩⟩ := h
 ·exact ⟨hl, .inl h⟩
 ·exact ⟨hl, .inr ⟨g, cap, cur, rfl, hg, (Below.heap_setCell _ _ _ _ (by intro e; exact hne (by simp [Value.ownBlock]; exact e))).trans hb, hr⟩⟩
theorem ownG_mono {base base' e s n : Nat} {w : World} {v : Value} {xs : List Value} (h : w.ownsRow base e s v n xs) (hb : base' ≤ base) : w.ownsRow base' e s v n xs := by
 obtain ⟨hl, h | ⟨g, cap, cur, rfl, hg, hr⟩⟩ := h
 ·exact ⟨hl, .inl h⟩
 ·exact ⟨hl, .inr ⟨g, cap, cur, rfl, by omega, hr⟩⟩
theorem Tryz.info25s : (Tryz.prog.info? 31).map (fun i => (i.zero, i.size, i.bytes)) = some (some (.slice none 0 0), 1, 24) := by kernel_rfl
theorem item_done2 {base k m : Nat} {w W w3 w5 : World} {u vc v' : Value} {vs : List Value} {f f' : Nat → List Nd} {it : List Nd} {tmp : Obj}
 (how : W.ownsRow base 31 1 u k vs) (hls : Lsts base W vs f) (hB : Below base w W) (hW : base ≤ W.heap.size)
 (hc : w3.ownsRow W.heap.size 61 15 vc m (flatN it)) (hm : it.length = m) (hb3' : Below W.heap.size W w3)
 (ho5 : w5.ownsRow base 31 1 v' (k + 1) (vs ++ [vc])) (hg5 : (w3.alloc tmp).grownBy w5 u.ownBlock)
 (hf : ∀ i, i < k → f' i = f i) (hfk : f' k = it) :
 Lsts base w5 (vs ++ [vc]) f' ∧ Below base w w5 ∧ ∀ {base' r : Nat} {z : Value} {L : List Value}, W.ownsRow base' 3 1 z r L → w5.ownsRow base' 3 1 z r L := by
 have hlen : vs.length = k := own25_len how
 have how3 : w3.ownsRow base 31 1 u k vs := own25_below how hb3'
 have hbase : ∀ g, u.ownBlock = some g → base ≤ g := fun g hg => (World.ownsRow.lt how g hg).1
 refine ⟨⟨?_, ?_⟩, ?_, ?_⟩
 ·intro i x hx
  by_cases hik : i < k
  ·rw [List.getElem?_append_left (by omega)] at hx
   rw [hf i hik]
   have h1 := own_below (hls.own i x hx) hb3'
   exact World.ownsRow.kept (h1.alloc tmp) hg5 (by
    cases hxb : x.ownBlock with
    | none => exact .inl rfl
    | some g => exact .inr (fun e => other_block how3 h1 g e.symm hxb))
  ·rw [List.getElem?_append_right (by omega)] at hx
   have hi0 : i = k := by
    have := (List.getElem?_eq_some_iff.1 hx).1
    simp at this
    omega
   subst hi0
   obtain rfl : vc = x := by simpa [hlen] using hx
   rw [hfk, hm]
   have h1 : w3.ownsRow base 61 15 vc m (flatN it) := own_mono hc hW
   exact World.ownsRow.kept (h1.alloc tmp) hg5 (by
    cases hxb : vc.ownBlock with
    | none => exact .inl rfl
    | some g => exact .inr (fun e => other_block how3 h1 g e.symm hxb))
 ·intro i j x y hij hx hy q hq
  have hold : ∀ i x, i < k → (vs ++ [vc])[i]? = some x → vs[i]? = some x := fun i x hi h => by rw [List.getElem?_append_left (by omega)] at h; exact h
  have hnew : ∀ i x, ¬ i < k → (vs ++ [vc])[i]? = some x → x = vc ∧ i = k := fun i x hi h => by
   rw [List.getElem?_append_right (by omega)] at h
   have h1 := (List.getElem?_eq_some_iff.1 h).1
   simp at h1
   have hik : i = k := by omega
   subst hik
   refine ⟨?_, rfl⟩
   have : vc = x := by simpa [hlen] using h
   exact this.symm
  by_cases hi : i < k
  ·have hx' := hold i x hi hx
   by_cases hj : j < k
   ·exact hls.apart i j x y hij hx' (hold j y hj hy) q hq
   ·obtain ⟨rfl, _⟩ := hnew j y hj hy
    have h1 := (World.ownsRow.lt (hls.own i x hx') q hq).2
    intro e
    have h2 := (World.ownsRow.lt hc q e).1
    omega
  ·obtain ⟨rfl, hik⟩ := hnew i x hi hx
   by_cases hj : j < k
   ·have hy' := hold j y hj hy
    have h2 := (World.ownsRow.lt hc q hq).1
    intro e
    have h1 := (World.ownsRow.lt (hls.own j y hy') q e).2
    omega
   ·obtain ⟨_, hjk⟩ := hnew j y hj hy
    omega
 ·have h1 : Below base w w3 := hB.trans (hb3'.mono hW)
  exact (h1.alloc (by have := hb3'.size; omega) tmp).grown hg5 (by have := hb3'.size; simp; omega) hbase
 ·intro base' r z L hz
  have h1 : w3.ownsRow base' 3 1 z r L := by
   obtain ⟨hl, h | ⟨g, cap, cur, rfl, hg, hbk, hr⟩⟩ := hz
   ·exact ⟨hl, .inl h⟩
   ·exact ⟨hl, .inr ⟨g, cap, cur, rfl, hg, (hb3'.block g (Array.getElem?_eq_some_iff.1 hbk).1).trans hbk, hr⟩⟩
  refine World.ownsRow.kept (h1.alloc tmp) hg5 ?_
  obtain ⟨_, ⟨rfl, _⟩ | ⟨g, cap, cur, rfl, _, hbk, _⟩⟩ := h1
  ·exact .inl rfl
  ·refine .inr (fun e => ?_)
   obtain ⟨_, ⟨rfl, _⟩ | ⟨g', cap', cur', rfl, _, hbk', _⟩⟩ := how3
   ·simp [Value.ownBlock] at e
   ·simp [Value.ownBlock] at e
    subst e
    rw [hbk] at hbk'
    simp at hbk'
set_option maxRecDepth 100000 in
set_option maxHeartbeats 8000000 in
theorem specItems_any {v : Value} {xs : List Nd} {w : World} (h : NRow 0 w v xs) (hs : xs.length ≤ 1048576) (hcp : ∀ a n c, v = .slice a n c → n ≤ c ∧ c ≤ 9223372036854775807) :
 Calls Tryz.prog 54 #[v] w fun e W' => (∃ u vs, e = .returned u ∧ W'.ownsRow w.heap.size 31 1 u (itemsOf xs).length vs ∧ Lsts w.heap.size W' vs (fun i => (itemsOf xs).getD i [])) ∧ Below w.heap.size w W' := by
 have LC : Hid (∀ W, Below w.heap.size w W → Calls Tryz.prog 53 #[v] W fun e w' => e = .returned (.bool (listB xs)) ∧ Below W.heap.size W w') := hideP (fun W hW => specListOk_any (SRow.below ndStable h hW) hs)
 have SC : Hid (AllOk xs → ∀ W, Below w.heap.size w W → Calls Tryz.prog 87 #[v] W fun e w' => (∃ u, e = .returned u ∧ IR w' W.heap.size u (starts xs (xs.length + 1) 0).length (natI (starts xs (xs.length + 1) 0))) ∧ Below W.heap.size W w') := hideP (fun hA W hW => starts_any (SRow.below ndStable h hW) hA.len hA.weak)
 obtain ⟨ao, n, cap, rfl, hl, hr⟩ := h
 have hcap := hcp _ _ _ rfl
 obtain ⟨hcap1, hcap2⟩ := hcap
 have hnm : n ≤ 1048576 := by rw [← hl]; exact hs
 have HL := hideP hl
 obtain ⟨b, off, hbo⟩ : ∃ b off, 0 < n → ao = some ⟨b, off, none⟩ ∧ b < w.heap.size ∧ ∀ j u, (flatN xs)[j]? = some u → w.cell? ⟨b, off + j, none⟩ = some u := by
  by_cases hn0 : 0 < n
  ·obtain ⟨b, off, e, _, hb, hc⟩ := hr hn0
   exact ⟨b, off, fun _ => ⟨e, hb, row_cells (fun i hi => hc i (by rw [← hl]; exact hi))⟩⟩
  ·exact ⟨0, 0, fun h => absurd h hn0⟩
 have HBO := hideP hbo
 obtain ⟨ob, hob⟩ : ∃ ob, ob = listB xs := ⟨_, rfl⟩
 rw [← hob] at LC
 have HOB := hideP hob
 clear hob hr hl hcp hbo
 go_enter Tryz.func54, Tryz.ntmps54
 go_wp2_with fail
 refine (LC.out _ (below1 _ _)).mono ?_
 rintro e w1 ⟨rfl, hb1⟩
 have B1 : Hid (Below w.heap.size w w1) := hideP (below_more (below1 _ _) hb1 (by simp))
 have q1 : w1.heap[w.heap.size]? = some (.cells #[] 31) := (hb1.block _ (by simp)).trans (World.alloc_heap_new w (.cells #[] 31))
 have HO1 : Hid (w1.ownsRow w.heap.size 31 1 (.slice (some ⟨w.heap.size, 0, none⟩) 0 0) 0 []) := hideP ⟨rfl, .inr ⟨_, _, _, rfl, by omega, q1, by omega, by unfold maxLen; omega, rfl, rfl⟩⟩
 clear hb1 q1
 cases ob with
 | false =>
  have HE : Hid (itemsOf xs = []) := hideP (by unfold itemsOf; rw [if_neg (by rw [← HOB.out]; simp)])
  go_wp2
  go_ret
  refine ⟨⟨_, [], rfl, ?_, ?_⟩, B1.out⟩
  ·rw [HE.out]
   exact HO1.out
  ·exact ⟨fun i u hu => by simp at hu, fun i j u t _ hu => by simp at hu⟩
 | true =>
  have AOK : Hid (AllOk xs) := hideP (allOk HOB.out.symm)
  obtain ⟨Z, hZ⟩ : ∃ Z, Z = starts xs (xs.length + 1) 0 := ⟨_, rfl⟩
  rw [← hZ] at SC
  have HZ := hideP hZ
  obtain ⟨r, hr⟩ : ∃ r, r = Z.length := ⟨_, rfl⟩
  rw [← hr] at SC
  have HRL := hideP hr
  have hr20 : r ≤ 20000 := by
   have h1 := starts_count (xs := xs) (xs.length + 1) 0
   have h2 := AOK.out.len
   rw [← hZ, ← hr] at h1
   omega
  clear hZ hr
  go_wp2_with fail
  refine (SC.out AOK.out _ B1.out).mono ?_
  rintro e w2 ⟨⟨uz, rfl, hI⟩, hb2⟩
  have B2 : Hid (Below w.heap.size w w2) := hideP (below_more B1.out hb2 B1.out.size)
  have HO2 := hideP (own25_below HO1.out hb2)
  obtain ⟨az, cz, rfl, hgz⟩ : ∃ az cz, uz = .slice az r cz ∧ (0 < r → ∃ g, az = some ⟨g, 0, none⟩) := by
   rcases hI.2 with ⟨rfl, h0⟩ | ⟨g, c, cur, rfl, _⟩
   ·exact ⟨none, 0, by rw [h0], fun h => by omega⟩
   ·exact ⟨_, c, rfl, fun _ => ⟨g, rfl⟩⟩
  have HIZ := hideP hI
  have HGZ := hideP hgz
  clear hb2 hI hgz
  go_wp2
  go_loopw [3, 5] (fun s a wr => ∃ (j : Nat) (ua : Option Addr) (uc : Nat) (vs : List Value), a = .int .i64 (j : Int) ∧ j ≤ r ∧ s = .slice ua j uc ∧ Hid (wr.ownsRow w.heap.size 31 1 (.slice ua j uc) j vs ∧ Lsts w.heap.size wr vs (fun i => itemAt xs (Z.getD i 0)) ∧ Below w.heap.size w wr ∧ IR wr w1.heap.size (.slice az r cz) r (natI Z))) (fun _ a _ => r - (intOf a).toNat)
  case atStart => exact ⟨0, _, _, [], rfl, by omega, rfl, hideP ⟨HO2.out, ⟨fun i u hu => by simp at hu, fun i j u t _ hu => by simp at hu⟩, B2.out, HIZ.out⟩⟩
  case round =>
   obtain ⟨j, ua, uc, vs, rfl, hj, rfl, HI⟩ := hrel
   by_cases hjr : j < r
   ·have hji : (j : Int) < (r : Int) := by omega
    obtain ⟨gz, rfl⟩ := HGZ.out (by omega)
    have hzc : wr.cell? ⟨gz, j, none⟩ = some (.int .i64 ((Z.getD j 0 : Nat) : Int)) := natI_at HI.out.2.2.2 HRL.out.symm hjr
    have hat : Z.getD j 0 < xs.length := by
     refine starts_lt xs (xs.length + 1) 0 _ ?_
     rw [← HZ.out]
     have h1 : j < Z.length := by rw [← HRL.out]; exact hjr
     simp [List.getD, List.getElem?_eq_getElem h1]
    obtain ⟨at_, hat_⟩ : ∃ a, a = Z.getD j 0 := ⟨_, rfl⟩
    rw [← hat_] at hzc hat
    have HAT := hideP hat_
    have hatn : at_ < n := by rw [← HL.out]; exact hat
    obtain ⟨rfl, hbw, hcell⟩ := HBO.out (by omega)
    have hkk := AOK.out.kids at_ hat
    have hil := itemAt_len AOK.out hat
    have hn20 : n ≤ 20000 := by rw [← HL.out]; exact AOK.out.len
    rw [HL.out] at hkk
    obtain ⟨x, hx⟩ : ∃ x, x = xs.getD at_ Nd.none := ⟨_, rfl⟩
    have hnc : ∀ q z, q < 15 → x.cells[q]? = some z → wr.cell? ⟨b, off + at_ * 15 + q, none⟩ = some z := by
     intro q z hq hz
     rw [hx] at hz
     have h2 := hcell _ _ (flatN_at xs at_ hat q hq hz)
     rw [show off + at_ * 15 + q = off + (at_ * 15 + q) by omega]
     exact (HI.out.2.2.1.cell (p := ⟨b, off + (at_ * 15 + q), none⟩) hbw).trans h2
    rw [← hx] at hkk hil
    obtain ⟨kd, wd, hh, dp, sh, fo, ch, nn, gs, gp, gpo, gm, gmo, tx, kids⟩ := x
    dsimp only at hkk hil
    obtain ⟨kn, rfl⟩ : ∃ kn : Nat, kids = (kn : Int) := ⟨kids.toNat, by omega⟩
    rw [Int.toNat_natCast] at hil
    have hsum : at_ + 1 + kn ≤ n := by omega
    have hnw : b < wr.heap.size := Nat.lt_of_lt_of_le hbw HI.out.2.2.1.size
    have hzw : gz < wr.heap.size := World.block_lt_of_cell? wr _ hzc
    have hww : w.heap.size ≤ wr.heap.size := HI.out.2.2.1.size
    have g0 : wr.cell? ⟨b, off + at_ * 15, none⟩ = some (.int .i64 kd) := hnc 0 _ (by omega) rfl
    have g1 : wr.cell? ⟨b, off + at_ * 15 + 1, none⟩ = some (.int .i64 wd) := hnc 1 _ (by omega) rfl
    have g2 : wr.cell? ⟨b, off + at_ * 15 + 2, none⟩ = some (.int .i64 hh) := hnc 2 _ (by omega) rfl
    have g3 : wr.cell? ⟨b, off + at_ * 15 + 3, none⟩ = some (.int .i64 dp) := hnc 3 _ (by omega) rfl
    have g4 : wr.cell? ⟨b, off + at_ * 15 + 4, none⟩ = some (.int .i64 sh) := hnc 4 _ (by omega) rfl
    have g5 : wr.cell? ⟨b, off + at_ * 15 + 5, none⟩ = some (.int .i64 fo) := hnc 5 _ (by omega) rfl
    have g6 : wr.cell? ⟨b, off + at_ * 15 + 6, none⟩ = some (.int .i64 ch) := hnc 6 _ (by omega) rfl
    have g7 : wr.cell? ⟨b, off + at_ * 15 + 7, none⟩ = some (.int .i64 nn) := hnc 7 _ (by omega) rfl
    have g8 : wr.cell? ⟨b, off + at_ * 15 + 8, none⟩ = some (.int .i64 gs) := hnc 8 _ (by omega) rfl
    have g9 : wr.cell? ⟨b, off + at_ * 15 + 9, none⟩ = some (.int .i64 gp) := hnc 9 _ (by omega) rfl
    have g10 : wr.cell? ⟨b, off + at_ * 15 + 10, none⟩ = some (.int .i64 gpo) := hnc 10 _ (by omega) rfl
    have g11 : wr.cell? ⟨b, off + at_ * 15 + 11, none⟩ = some (.int .i64 gm) := hnc 11 _ (by omega) rfl
    have g12 : wr.cell? ⟨b, off + at_ * 15 + 12, none⟩ = some (.int .i64 gmo) := hnc 12 _ (by omega) rfl
    have g13 : wr.cell? ⟨b, off + at_ * 15 + 13, none⟩ = some (.string tx) := hnc 13 _ (by omega) rfl
    have g14 : wr.cell? ⟨b, off + at_ * 15 + 14, none⟩ = some (.int .i64 (kn : Int)) := hnc 14 _ (by omega) rfl
    have HCS : Hid (∀ X, Below w.heap.size w X → ∀ q z, (flatN (itemAt xs at_))[q]? = some z → X.cell? ⟨b, off + at_ * 15 + q, none⟩ = some z) := hideP (fun X hX q z hz => (hX.cell (p := ⟨b, off + at_ * 15 + q, none⟩) hbw).trans (itemAt_flat hcell q z hz))
    have HIL := hideP hil
    obtain ⟨i0, hi0, hz0, hz1, hz2⟩ := info_parts Tryz.info25s
    obtain ⟨i1, hi1, hy0, hy1, hy2⟩ := info_parts Tryz.info57c
    clear hkk hil hcell hnc hx hat_
    go_wp2_with fail
    have hzA : (wr.alloc (.cells #[.int .i64 kd, .int .i64 wd, .int .i64 hh, .int .i64 dp, .int .i64 sh, .int .i64 fo, .int .i64 ch, .int .i64 nn, .int .i64 gs, .int .i64 gp, .int .i64 gpo, .int .i64 gm, .int .i64 gmo, .string tx, .int .i64 (kn : Int)] 61)).cell? ⟨gz, j, none⟩ = some (.int .i64 (at_ : Int)) := ((below1 wr _).cell (p := ⟨gz, j, none⟩) hzw).trans hzc
    have hkA : (wr.alloc (.cells #[.int .i64 kd, .int .i64 wd, .int .i64 hh, .int .i64 dp, .int .i64 sh, .int .i64 fo, .int .i64 ch, .int .i64 nn, .int .i64 gs, .int .i64 gp, .int .i64 gpo, .int .i64 gm, .int .i64 gmo, .string tx, .int .i64 (kn : Int)] 61)).cell? ⟨wr.heap.size, 14, none⟩ = some (.int .i64 (kn : Int)) := by simp [go_sem]
    have HWA : Hid ((wr.alloc (.cells #[.int .i64 kd, .int .i64 wd, .int .i64 hh, .int .i64 dp, .int .i64 sh, .int .i64 fo, .int .i64 ch, .int .i64 nn, .int .i64 gs, .int .i64 gp, .int .i64 gpo, .int .i64 gm, .int .i64 gmo, .string tx, .int .i64 (kn : Int)] 61)).ownsRow w.heap.size 31 1 (.slice ua j uc) j vs ∧ Lsts w.heap.size (wr.alloc (.cells #[.int .i64 kd, .int .i64 wd, .int .i64 hh, .int .i64 dp, .int .i64 sh, .int .i64 fo, .int .i64 ch, .int .i64 nn, .int .i64 gs, .int .i64 gp, .int .i64 gpo, .int .i64 gm, .int .i64 gmo, .string tx, .int .i64 (kn : Int)] 61)) vs (fun i => itemAt xs (Z.getD i 0)) ∧ Below w.heap.size w (wr.alloc (.cells #[.int .i64 kd, .int .i64 wd, .int .i64 hh, .int .i64 dp, .int .i64 sh, .int .i64 fo, .int .i64 ch, .int .i64 nn, .int .i64 gs, .int .i64 gp, .int .i64 gpo, .int .i64 gm, .int .i64 gmo, .string tx, .int .i64 (kn : Int)] 61)) ∧ IR (wr.alloc (.cells #[.int .i64 kd, .int .i64 wd, .int .i64 hh, .int .i64 dp, .int .i64 sh, .int .i64 fo, .int .i64 ch, .int .i64 nn, .int .i64 gs, .int .i64 gp, .int .i64 gpo, .int .i64 gm, .int .i64 gmo, .string tx, .int .i64 (kn : Int)] 61)) w1.heap.size (.slice (some ⟨gz, 0, none⟩) r cz) r (natI Z)) := hideP ⟨own25_below HI.out.1 (below1 _ _), HI.out.2.1.below (below1 _ _), HI.out.2.2.1.alloc HI.out.2.2.1.size _, World.ownsRow.alloc HI.out.2.2.2 _⟩
    obtain ⟨Bn, hBn⟩ : ∃ B, B = wr.heap.size := ⟨_, rfl⟩
    have hub : Hid (∀ g, (Value.slice ua j uc).ownBlock = some g → g ≠ Bn) := hideP (fun g hg => by have := (World.ownsRow.lt HI.out.1 g hg).2; omega)
    obtain ⟨WA, hWA⟩ : ∃ WA, wr.alloc (.cells #[.int .i64 kd, .int .i64 wd, .int .i64 hh, .int .i64 dp, .int .i64 sh, .int .i64 fo, .int .i64 ch, .int .i64 nn, .int .i64 gs, .int .i64 gp, .int .i64 gpo, .int .i64 gm, .int .i64 gmo, .string tx, .int .i64 (kn : Int)] 61) = WA := ⟨_, rfl⟩
    have hsA : Hid (WA.heap.size = Bn + 1) := hideP (by rw [← hWA, hBn]; simp)
    rw [hWA] at hzA hkA HWA ⊢
    rw [← hBn] at hkA hww hzw hnw ⊢
    clear hWA hBn HI hzc g0 g1 g2 g3 g4 g5 g6 g7 g8 g9 g10 g11 g12 g13 g14
    refine wp_region_held_drew (S := fun X => X.cell? ⟨gz, j, none⟩ = some (.int .i64 (at_ : Int)) ∧ X.cell? ⟨Bn, 14, none⟩ = some (.int .i64 (kn : Int))) (by kernel_rfl) ⟨hzA, hkA⟩ (fun hS => ?_)
    refine wpAnyH_take (i := 0) (v := .slice ua j uc) rfl (by kernel_rfl) (by kernel_rfl) (by kernel_rfl) (fun _ _ _ h => h) (Or.inl ⟨by first | rfl | go_simp, fun wx hx => by obtain ⟨hx1, hx2⟩ := hx; go_simp⟩) hS ?_
    try simp only [Act.put, List.getElem_toArray, List.getElem_cons_zero, List.getElem_cons_succ, List.setIfInBounds_toArray, List.set_cons_zero, List.set_cons_succ]
    refine wpAnyH_take (i := 2) (v := .slice (some ⟨b, off, none⟩) n cap) rfl (by kernel_rfl) (by kernel_rfl) (by kernel_rfl) (fun _ _ _ h => h) (Or.inl ⟨by first | rfl | go_simp, fun wx hx => by obtain ⟨hx1, hx2⟩ := hx; go_simp⟩) hS ?_
    try simp only [Act.put, List.getElem_toArray, List.getElem_cons_zero, List.getElem_cons_succ, List.setIfInBounds_toArray, List.set_cons_zero, List.set_cons_succ]
    refine wpAnyH_take (i := 3) (v := .slice (some ⟨gz, 0, none⟩) r cz) rfl (by kernel_rfl) (by kernel_rfl) (by kernel_rfl) (fun _ _ _ h => h) (Or.inl ⟨by first | rfl | go_simp, fun wx hx => by obtain ⟨hx1, hx2⟩ := hx; go_simp⟩) hS ?_
    try simp only [Act.put, List.getElem_toArray, List.getElem_cons_zero, List.getElem_cons_succ, List.setIfInBounds_toArray, List.set_cons_zero, List.set_cons_succ]
    refine wpAnyH_take (i := 4) (v := .int .i64 (j : Int)) rfl (by kernel_rfl) (by kernel_rfl) (by kernel_rfl) (fun _ _ _ h => h) (Or.inl ⟨by first | rfl | go_simp, fun wx hx => by obtain ⟨hx1, hx2⟩ := hx; go_simp⟩) hS ?_
    try simp only [Act.put, List.getElem_toArray, List.getElem_cons_zero, List.getElem_cons_succ, List.setIfInBounds_toArray, List.set_cons_zero, List.set_cons_succ]
    refine wpAnyH_take (i := 5) (v := .pointer (some ⟨gz, j, none⟩)) rfl (by kernel_rfl) (by kernel_rfl) (by kernel_rfl) (fun _ _ _ h => h) (Or.inl ⟨by first | rfl | go_simp, fun wx hx => by obtain ⟨hx1, hx2⟩ := hx; go_simp⟩) hS ?_
    try simp only [Act.put, List.getElem_toArray, List.getElem_cons_zero, List.getElem_cons_succ, List.setIfInBounds_toArray, List.set_cons_zero, List.set_cons_succ]
    refine wpAnyH_take (i := 6) (v := .int .i64 (at_ : Int)) rfl (by kernel_rfl) (by kernel_rfl) (by kernel_rfl) (fun _ _ _ h => h) (Or.inl ⟨by first | rfl | go_simp, fun wx hx => by obtain ⟨hx1, hx2⟩ := hx; go_simp⟩) hS ?_
    try simp only [Act.put, List.getElem_toArray, List.getElem_cons_zero, List.getElem_cons_succ, List.setIfInBounds_toArray, List.set_cons_zero, List.set_cons_succ]
    refine wpAnyH_take (i := 7) (v := .slice (some ⟨gz, 0, none⟩) r cz) rfl (by kernel_rfl) (by kernel_rfl) (by kernel_rfl) (fun _ _ _ h => h) (Or.inl ⟨by first | rfl | go_simp, fun wx hx => by obtain ⟨hx1, hx2⟩ := hx; go_simp⟩) hS ?_
    try simp only [Act.put, List.getElem_toArray, List.getElem_cons_zero, List.getElem_cons_succ, List.setIfInBounds_toArray, List.set_cons_zero, List.set_cons_succ]
    refine wpAnyH_take (i := 8) (v := .int .i64 (j : Int)) rfl (by kernel_rfl) (by kernel_rfl) (by kernel_rfl) (fun _ _ _ h => h) (Or.inl ⟨by first | rfl | go_simp, fun wx hx => by obtain ⟨hx1, hx2⟩ := hx; go_simp⟩) hS ?_
    try simp only [Act.put, List.getElem_toArray, List.getElem_cons_zero, List.getElem_cons_succ, List.setIfInBounds_toArray, List.set_cons_zero, List.set_cons_succ]
    refine wpAnyH_take (i := 9) (v := .pointer (some ⟨gz, j, none⟩)) rfl (by kernel_rfl) (by kernel_rfl) (by kernel_rfl) (fun _ _ _ h => h) (Or.inl ⟨by first | rfl | go_simp, fun wx hx => by obtain ⟨hx1, hx2⟩ := hx; go_simp⟩) hS ?_
    try simp only [Act.put, List.getElem_toArray, List.getElem_cons_zero, List.getElem_cons_succ, List.setIfInBounds_toArray, List.set_cons_zero, List.set_cons_succ]
    refine wpAnyH_take (i := 10) (v := .int .i64 (at_ : Int)) rfl (by kernel_rfl) (by kernel_rfl) (by kernel_rfl) (fun _ _ _ h => h) (Or.inl ⟨by first | rfl | go_simp, fun wx hx => by obtain ⟨hx1, hx2⟩ := hx; go_simp⟩) hS ?_
    try simp only [Act.put, List.getElem_toArray, List.getElem_cons_zero, List.getElem_cons_succ, List.setIfInBounds_toArray, List.set_cons_zero, List.set_cons_succ]
    refine wpAnyH_take (i := 11) (v := .int .i64 ((at_ : Int) + 1)) rfl (by kernel_rfl) (by kernel_rfl) (by kernel_rfl) (fun _ _ _ h => h) (Or.inl ⟨by first | rfl | go_simp, fun wx hx => by obtain ⟨hx1, hx2⟩ := hx; go_simp; first | (go_num; done) | (go_bits; done) | (go_bits; trivial)⟩) hS ?_
    try simp only [Act.put, List.getElem_toArray, List.getElem_cons_zero, List.getElem_cons_succ, List.setIfInBounds_toArray, List.set_cons_zero, List.set_cons_succ]
    refine wpAnyH_take (i := 12) (v := .pointer (some ⟨Bn, 14, none⟩)) rfl (by kernel_rfl) (by kernel_rfl) (by kernel_rfl) (fun _ _ _ h => h) (Or.inl ⟨by first | rfl | go_simp, fun wx hx => by obtain ⟨hx1, hx2⟩ := hx; go_simp⟩) hS ?_
    try simp only [Act.put, List.getElem_toArray, List.getElem_cons_zero, List.getElem_cons_succ, List.setIfInBounds_toArray, List.set_cons_zero, List.set_cons_succ]
    refine wpAnyH_take (i := 13) (v := .int .i64 (kn : Int)) rfl (by kernel_rfl) (by kernel_rfl) (by kernel_rfl) (fun _ _ _ h => h) (Or.inl ⟨by first | rfl | go_simp, fun wx hx => by obtain ⟨hx1, hx2⟩ := hx; go_simp⟩) hS ?_
    try simp only [Act.put, List.getElem_toArray, List.getElem_cons_zero, List.getElem_cons_succ, List.setIfInBounds_toArray, List.set_cons_zero, List.set_cons_succ]
    refine wpAnyH_take (i := 14) (v := .int .i64 ((at_ : Int) + 1 + (kn : Int))) rfl (by kernel_rfl) (by kernel_rfl) (by kernel_rfl) (fun _ _ _ h => h) (Or.inl ⟨by first | rfl | go_simp, fun wx hx => by obtain ⟨hx1, hx2⟩ := hx; go_simp; first | (go_num; done) | (go_bits; done) | (go_bits; trivial)⟩) hS ?_
    try simp only [Act.put, List.getElem_toArray, List.getElem_cons_zero, List.getElem_cons_succ, List.setIfInBounds_toArray, List.set_cons_zero, List.set_cons_succ]
    refine wpAnyH_take (i := 15) (v := .slice (some ⟨b, off + at_ * 15, none⟩) (1 + kn) (cap - at_)) rfl (by kernel_rfl) (by kernel_rfl) (by kernel_rfl) (fun _ _ _ h => h) (Or.inl ⟨by first | rfl | go_simp, fun wx hx => by obtain ⟨hx1, hx2⟩ := hx; go_simp; rw [if_pos ⟨by omega, by omega⟩, if_pos (by omega), if_neg (by omega), show ((at_ : Int) + 1 + (kn : Int)).toNat - at_ = 1 + kn by omega]⟩) hS ?_
    try simp only [Act.put, List.getElem_toArray, List.getElem_cons_zero, List.getElem_cons_succ, List.setIfInBounds_toArray, List.set_cons_zero, List.set_cons_succ]
    have hS1 : (WA.drew.alloc (.cells #[] 61)).cell? ⟨gz, j, none⟩ = some (.int .i64 (at_ : Int)) ∧ (WA.drew.alloc (.cells #[] 61)).cell? ⟨Bn, 14, none⟩ = some (.int .i64 (kn : Int)) := ⟨((below1 WA.drew _).cell (p := ⟨gz, j, none⟩) (show gz < WA.heap.size by have := hsA.out; omega)).trans hS.1, ((below1 WA.drew _).cell (p := ⟨Bn, 14, none⟩) (show Bn < WA.heap.size by have := hsA.out; omega)).trans hS.2⟩
    refine wpAnyH_ready (rs := [1]) (by kernel_rfl) (by simp) ?_
    refine AllReadyH.cons rfl (fun K hK => ?_) AllReadyH.nil
    rw [if_pos (by first | rfl | go_simp)]
    go_simp
    refine hK.out _ _ hS1 (fun _ => ?_)
    try simp only [Act.put, List.getElem_toArray, List.getElem_cons_zero, List.getElem_cons_succ, List.setIfInBounds_toArray, List.set_cons_zero, List.set_cons_succ]
    clear hK K
    refine wpAnyH_ready (rs := [16]) (by kernel_rfl) (by simp) ?_
    refine AllReadyH.cons rfl (fun K hK => ?_) AllReadyH.nil
    rw [if_pos (by first | rfl | go_simp)]
    refine wp_append_at _ _ 31 rfl WA.heap.size 61 i1 (ndV Nd.none) 15 128 Tryz.underlying31 hi1 hy0 hy1 hy2 rfl (by decide) (.slice (some ⟨WA.heap.size, 0, none⟩) 0 0) 0 [] rfl (World.ownsRow_lit WA.drew #[] 0 (Nat.le_refl _) (by unfold maxLen; omega) rfl) ⟨b, off + at_ * 15, none⟩ (1 + kn) (cap - at_) (flatN (itemAt xs at_)) rfl (by rw [flatN_len, HIL.out]) (fun q z hz => by have h := HCS.out (WA.alloc (.cells #[] 61)).drew ((HWA.out.2.2.1.alloc (show w.heap.size ≤ WA.heap.size by have := hsA.out; omega) _).drew) q z hz; by_cases hq : q = 0 <;> simp [Addr.add, hq] at h ⊢ <;> exact h) (flatN_one _) (by unfold maxLen; omega) (by omega) (by simp) ?_
    intro v3 w3 ho3 hg3 hnil3 hat3
    rw [List.nil_append, Nat.zero_add] at ho3
    have hb3 : Below WA.heap.size WA w3 := (((Below.refl _ WA).alloc (Nat.le_refl _) _).drew).grown hg3 (by simp) (fun g hg => by simp [Value.ownBlock] at hg; omega)
    obtain ⟨va, vcap, rfl, _⟩ := own_shape ho3
    have hw3 : Bn + 1 ≤ w3.heap.size := by have := hb3.size; have := hsA.out; omega
    have S3 : w3.cell? ⟨gz, j, none⟩ = some (.int .i64 (at_ : Int)) ∧ w3.cell? ⟨Bn, 14, none⟩ = some (.int .i64 (kn : Int)) := ⟨(hb3.cell (p := ⟨gz, j, none⟩) (show gz < WA.heap.size by have := hsA.out; omega)).trans hzA, (hb3.cell (p := ⟨Bn, 14, none⟩) (show Bn < WA.heap.size by have := hsA.out; omega)).trans hkA⟩
    have HC3 := hideP ho3
    have HB3 := hideP hb3
    have HO3 := hideP (own25_below HWA.out.1 hb3)
    clear ho3 hg3 hnil3 hat3 hb3
    refine hK.out _ _ S3 (fun _ => ?_)
    try simp only [Act.put, List.getElem_toArray, List.getElem_cons_zero, List.getElem_cons_succ, List.setIfInBounds_toArray, List.set_cons_zero, List.set_cons_succ]
    clear hK K
    refine wpAnyH_ready (rs := [17]) (by kernel_rfl) (by simp) ?_
    refine AllReadyH.cons rfl (fun K hK => ?_) AllReadyH.nil
    rw [if_pos (by first | rfl | go_simp)]
    go_simp
    have S4 : (w3.alloc (.cells #[.slice va (1 + kn) vcap] 31)).cell? ⟨gz, j, none⟩ = some (.int .i64 (at_ : Int)) ∧ (w3.alloc (.cells #[.slice va (1 + kn) vcap] 31)).cell? ⟨Bn, 14, none⟩ = some (.int .i64 (kn : Int)) := ⟨((below1 w3 _).cell (p := ⟨gz, j, none⟩) (show gz < w3.heap.size by omega)).trans S3.1, ((below1 w3 _).cell (p := ⟨Bn, 14, none⟩) (show Bn < w3.heap.size by omega)).trans S3.2⟩
    refine hK.out _ _ S4 (fun _ => ?_)
    try simp only [Act.put, List.getElem_toArray, List.getElem_cons_zero, List.getElem_cons_succ, List.setIfInBounds_toArray, List.set_cons_zero, List.set_cons_succ]
    clear hK K
    refine wpAnyH_ready (rs := [18]) (by kernel_rfl) (by simp) ?_
    refine AllReadyH.cons rfl (fun K hK => ?_) AllReadyH.nil
    rw [if_pos (by first | rfl | go_simp)]
    refine wp_append_at _ _ 53 rfl w.heap.size 31 i0 (.slice none 0 0) 1 24 Tryz.underlying53 hi0 hz0 hz1 hz2 rfl (by decide) (.slice ua j uc) j vs rfl (HO3.out.alloc _) ⟨w3.heap.size, 0, none⟩ 1 1 [.slice va (1 + kn) vcap] rfl rfl (cell_one_new _ _ _) (by simp [Value.oneCell']) (by unfold maxLen; omega) (by omega) (by simp; omega) ?_
    intro v5 w5 ho5 hg5 hnil5 hat5
    obtain ⟨g5, c5, rfl⟩ := ownsRow_succ ho5
    obtain ⟨d1, d2, d3⟩ := item_done2 HWA.out.1 HWA.out.2.1 HWA.out.2.2.1 (by have := hsA.out; omega) HC3.out HIL.out HB3.out ho5 hg5 (f' := fun i => itemAt xs (Z.getD i 0)) (fun i hi => rfl) (by show itemAt xs (Z.getD j 0) = itemAt xs at_; rw [HAT.out])
    have hIZ5 : IR w5 w1.heap.size (.slice (some ⟨gz, 0, none⟩) r cz) r (natI Z) := d3 HWA.out.2.2.2
    have S5 : w5.cell? ⟨gz, j, none⟩ = some (.int .i64 (at_ : Int)) ∧ w5.cell? ⟨Bn, 14, none⟩ = some (.int .i64 (kn : Int)) := by
     refine ⟨by rw [HAT.out]; exact natI_at hIZ5 HRL.out.symm hjr, ?_⟩
     exact (World.cell?_of_block (w := w3.alloc (.cells #[.slice va (1 + kn) vcap] 31)) (a := ⟨Bn, 14, none⟩) (hg5.block Bn (by simp; omega) (fun e => hub.out Bn e.symm rfl))).trans S4.2
    have H5 : Hid (w5.ownsRow w.heap.size 31 1 (.slice (some ⟨g5, 0, none⟩) (j + 1) c5) (j + 1) (vs ++ [.slice va (1 + kn) vcap]) ∧ Lsts w.heap.size w5 (vs ++ [.slice va (1 + kn) vcap]) (fun i => itemAt xs (Z.getD i 0)) ∧ Below w.heap.size w w5 ∧ IR w5 w1.heap.size (.slice (some ⟨gz, 0, none⟩) r cz) r (natI Z)) := hideP ⟨ho5, d1, d2, hIZ5⟩
    clear d1 d2 d3 hIZ5 ho5 hg5 hnil5 hat5
    refine hK.out _ _ S5 (fun _ => ?_)
    try simp only [Act.put, List.getElem_toArray, List.getElem_cons_zero, List.getElem_cons_succ, List.setIfInBounds_toArray, List.set_cons_zero, List.set_cons_succ]
    clear hK K
    refine wpAnyH_ready (rs := [19]) (by kernel_rfl) (by simp) ?_
    refine AllReadyH.cons rfl (fun K hK => ?_) AllReadyH.nil
    rw [if_pos (by first | rfl | go_simp)]
    go_simp
    refine hK.out _ _ S5 (fun _ => ?_)
    try simp only [Act.put, List.getElem_toArray, List.getElem_cons_zero, List.getElem_cons_succ, List.setIfInBounds_toArray, List.set_cons_zero, List.set_cons_succ]
    clear hK K
    refine wpAnyH_done (by kernel_rfl) ?_ _
    clear hS hS1 S3 S4 S5
    go_wp2
    go_roundw
    case rel => exact ⟨j + 1, _, _, _, by go_num, by omega, rfl, H5⟩
    case measure => simp [intOf]; omega
   ·have hji : ¬ (j : Int) < (r : Int) := by omega
    obtain rfl : j = r := by omega
    have HF : Hid (j = (itemsOf xs).length ∧ ∀ i, i < j → itemAt xs (Z.getD i 0) = (itemsOf xs).getD i []) := hideP (by
     have e1 : itemsOf xs = Z.map (itemAt xs) := by unfold itemsOf; rw [if_pos HOB.out.symm, ← HZ.out]
     rw [e1]
     refine ⟨by rw [List.length_map]; exact HRL.out, fun i hi => ?_⟩
     have h1 : i < Z.length := by rw [← HRL.out]; exact hi
     simp [List.getD, List.getElem?_map, List.getElem?_eq_getElem h1])
    go_wp2
    go_ret
    refine ⟨⟨_, rfl, vs, ?_, ⟨fun i x hx => ?_, HI.out.2.1.apart⟩⟩, HI.out.2.2.1⟩
    ·rw [← HF.out.1]
     exact HI.out.1
    ·have h6 := HI.out.2.1.own i x hx
     have hi : i < j := by rw [← own25_len HI.out.1]; exact (List.getElem?_eq_some_iff.1 hx).1
     rw [HF.out.2 i hi] at h6
     exact h6
end Go.Proofs.YtlohbaoigfaneaaGreat
