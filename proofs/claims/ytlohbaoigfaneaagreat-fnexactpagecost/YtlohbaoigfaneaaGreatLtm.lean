import Derived.Test.YtlohbaoigfaneaaGreatTns
import Derived.Test.YtlohbaoigfaneaaGreatSti1
import Derived.Test.YtlohbaoigfaneaaGreatPay
import Derived.Test.YtlohbaoigfaneaaGreatItx
import Derived.ControlIn
import Derived.Test.YtlohbaoigfaneaaGreatMak
import Derived.Deep.Cut
import Derived.Test.YtlohbaoigfaneaaGreatTrn
import Derived.Test.YtlohbaoigfaneaaGreatLrw
import Derived.Test.YtlohbaoigfaneaaGreatGlue
namespace Go.Proofs.YtlohbaoigfaneaaGreat
open Go.RowKit Go.Shelf
set_option linter.unusedVariables false
set_option linter.unusedSimpArgs false
attribute [local go_sem] Oper.semAt_some
theorem flatN_ap : ∀ (a b : List Nd), flatN (a ++ b) = flatN a ++ flatN b
 | [], b => rfl
 | x :: a, b => by simp only [List.cons_append, flatN, flatN_ap a b, List.append_assoc]
theorem NN.bel {w w' : World} {v : Value} {xs : List Nd} (h : NN 0 w v xs) (hb : Below w.heap.size w w') : NN 0 w' v xs := by
 rcases h with h | ⟨b, off, cap, rfl, h1, h2, h3, h4⟩
 ·exact .inl h
 ·refine .inr ⟨b, off, cap, rfl, h1, h2, fun h => Nat.lt_of_lt_of_le (h3 h) hb.size, fun j u hj => ?_⟩
  have h0 : 0 < xs.length := by
   cases xs with
   | nil => simp [flatN] at hj
   | cons _ _ => simp
  exact (hb.cell (p := ⟨b, off + j, none⟩) (h3 h0)).trans (h4 j u hj)
theorem NN.take {w : World} {ao : Option Addr} {n cap k : Nat} {xs : List Nd} (h : NN 0 w (.slice ao n cap) xs) (hk : k ≤ n) (hn : xs.length = n) : NN 0 w (.slice ao k cap) (xs.take k) := by
 rcases h with ⟨e, rfl⟩ | ⟨b, off, c, e, h1, h2, h3, h4⟩
 ·simp only [Value.slice.injEq] at e
  obtain ⟨rfl, rfl, rfl⟩ := e
  obtain rfl : k = 0 := by omega
  exact .inl ⟨rfl, by simp⟩
 ·simp only [Value.slice.injEq] at e
  obtain ⟨rfl, rfl, rfl⟩ := e
  refine .inr ⟨b, off, cap, by rw [List.length_take, Nat.min_eq_left hk], by rw [List.length_take, Nat.min_eq_left hk]; omega, h2, fun hp => h3 (by rw [List.length_take] at hp; omega), fun j u hj => h4 j u ?_⟩
  have : flatN (xs.take k) ++ flatN (xs.drop k) = flatN xs := by rw [← flatN_ap, List.take_append_drop]
  rw [← this]
  exact (List.getElem?_append_left (List.getElem?_eq_some_iff.1 hj).1).trans hj
theorem wp_noPanic {P : Program} {c : Code} {K : Act → World → Prop} {Q : Exit → Act → World → Prop} {a : Act} {w : World} (h : c.wp P (Exit.then K (fun _ _ _ => False)) a w) : c.wp P (Exit.then K Q) a w :=
 wp_mono h (fun e a' w' hq => by
  cases e with
  | normal => exact hq
  | exit id => exact hq.elim
  | goto l => exact hq.elim
  | ret => exact hq.elim
  | panic ch => exact hq.elim
  | outgrown => exact hq.elim)
theorem Src.far {xs : List Nd} {ao : Option Addr} {Bs b off cap C : Nat} {A : World} {v : Value} (h : Src xs ao Bs b off cap A) (h1 : C ≠ Bs) (h2 : 0 < xs.length → C ≠ b) : Src xs ao Bs b off cap (A.setCell ⟨C, 0, none⟩ v) := by
 refine ⟨?_, h.some_, fun i hi => ?_⟩
 ·rw [World.cell?_setCell_far _ _ _ _ (show C ≠ Bs from h1)]
  exact h.box
 ·obtain ⟨y, hk, hc⟩ := h.at_ i hi
  refine ⟨y, hk, fun j hj => ?_⟩
  rw [World.cell?_setCell_far _ _ _ _ (show C ≠ b from h2 (by omega))]
  exact hc j hj
theorem ParB.nodes {w : World} {PB : Nat} {z5 : Sy} {a i b t t' : Value} (h : ParB w PB z5 a i b t) : ParB (w.setCell ⟨PB, 23, none⟩ t') PB z5 t' i b t := by
 obtain ⟨cur, q1, q2, q3, q4⟩ := h.put (o := 23) (t' := t') (by omega)
 exact ⟨⟨cur, q1, q2⟩, (q3 5 (by omega)).trans h.c5, q4, (q3 24 (by omega)).trans h.c24, (q3 25 (by omega)).trans h.c25, (q3 26 (by omega)).trans h.c26, fun p hp => (q3 p (by omega)).trans (h.sty p hp)⟩
structure ParO (xs : List Nd) (S : Sy) (lo : Nat) (W : World) (PB : Nat) (L : List Nd) (ts : List Tn) (nv : Value) (B ic : Nat) (sv : Value) (g m c : Nat) : Prop where
 ok : listB xs = true ∧ syB S = true
 lst : L = xs.take (endK xs 0 (trm (its xs) (its xs).length)) ++ [penN 10000, gapN S.f0 S.f1 S.f2 S.f3 S.f4, penN (-10000)]
 hd : (its L).map Prod.fst = (rowI xs S).map Prod.fst
 ok3 : AllOk3 L
 few : (its L).length ≤ 2003
 par : ParB W PB S nv (.slice (some ⟨B, 0, none⟩) (its L).length ic) sv (.slice (some ⟨g, 0, none⟩) m c)
 nds : W.ownsRow lo 61 15 nv L.length (flatN L)
 itm : W.ownsRow lo 186 3 (.slice (some ⟨B, 0, none⟩) (its L).length ic) (its L).length (flatI (its L))
 tl : ts.length = m
 tf : ts.map (fun t => t.1) = -1 :: blL xs S
 trn : W.ownsRow lo 85 4 (.slice (some ⟨g, 0, none⟩) m c) m (flatT ts)
 shw : ∀ t ∈ ts, TurnP S.hy (its L) t W
 sms : W.ownsRow lo 116 9 sv (its L).length (flatM (its L) (its L).length)
 cnd : syB S = true ∧ listB xs = true ∧ (its xs).length ≤ 2000 ∧ (bl0 xs S).length ≤ 300
end Go.Proofs.YtlohbaoigfaneaaGreat
namespace Go.Proofs.YtlohbaoigfaneaaGreat
open Go.RowKit
set_option linter.unusedVariables false
set_option linter.unusedSimpArgs false
theorem flatN_app (a b : List Nd) : flatN (a ++ b) = flatN a ++ flatN b := by
 induction a with
 | nil => rfl
 | cons x a ih => rw [List.cons_append, flatN, flatN, ih, List.append_assoc]
theorem Tryz.info60s : (Tryz.prog.info? 61).map (fun i => (i.zero, i.size, i.bytes)) = some (some (ndV Nd.none), 15, 128) := by kernel_rfl
theorem item_at {lo N : Nat} {w : World} {v : Value} {xs : List Nd} (h : HR lo w v xs) (hob : listB xs = true) (hl : (its xs).length = N) {i : Nat} (hi : i < N) :
 ∃ (ao : Option Addr) (cap b off g c : Nat) (x : Nd) (tl : List Nd), v = .slice ao N cap ∧ ao = some ⟨b, off, none⟩ ∧ lo ≤ b ∧ b < w.heap.size ∧ w.cell? ⟨b, off + i, none⟩ = some (.slice (some ⟨g, 0, none⟩) (1 + tl.length) c) ∧ lo ≤ g ∧ g < w.heap.size ∧ w.ownsRow lo 61 15 (.slice (some ⟨g, 0, none⟩) (1 + tl.length) c) (1 + tl.length) (flatN (x :: tl)) ∧ tl.length ≤ 20000 ∧
  segA xs ((its xs).getD i It.none) = (if x.k = 11 then [] else x :: tl) ∧ segB xs ((its xs).getD i It.none) = (if x.k = 11 then tl else []) ∧ ((its xs).getD i It.none).1 = x := by
 have hok := allOk hob
 obtain ⟨ao, cap, rfl, hc⟩ := h.rs.is
 have hlen : (itemsOf xs).length = (its xs).length := by unfold itemsOf its; rw [if_pos hob, List.length_map, List.length_map]
 rw [hlen, hl] at hc ⊢
 obtain ⟨b, off, rfl, hlo, hlt, hcell⟩ := hc (by omega)
 obtain ⟨u, h1, h2⟩ := hcell i hi
 have hi2 : i < (starts xs (xs.length + 1) 0).length := by rw [← hl] at hi; simpa [its] using hi
 have hst := starts_lt xs (xs.length + 1) 0 _ (List.getElem_mem hi2)
 have e1 : (itemsOf xs).getD i [] = itemAt xs ((starts xs (xs.length + 1) 0)[i]) := by
  unfold itemsOf
  rw [if_pos hob]
  simp [List.getD, List.getElem?_map, List.getElem?_eq_getElem hi2]
 have e2 : (its xs).getD i It.none = itAt xs ((starts xs (xs.length + 1) 0)[i]) := by
  unfold its
  simp [List.getD, List.getElem?_map, List.getElem?_eq_getElem hi2]
 obtain ⟨p, hp⟩ : ∃ p, p = (starts xs (xs.length + 1) 0)[i] := ⟨_, rfl⟩
 rw [← hp] at e1 e2 hst
 have e3 : itemAt xs p = xs.getD p Nd.none :: (itemAt xs p).tail := by
  unfold itemAt
  have hd : xs.drop p = xs[p] :: xs.drop (p + 1) := List.drop_eq_getElem_cons hst
  rw [hd, Nat.add_comm 1, List.take_succ_cons]
  simp [List.getD, List.getElem?_eq_getElem hst]
 have hseg := seg_of hok hst
 have hlenI : (itemAt xs p).length ≤ 20000 := by
  unfold itemAt
  rw [List.length_take, List.length_drop]
  have := hok.len
  omega
 obtain ⟨tl, htl⟩ : ∃ tl, tl = (itemAt xs p).tail := ⟨_, rfl⟩
 rw [← htl] at e3
 rw [e1, e3, List.length_cons] at h2
 rw [e3, List.length_cons] at hlenI
 have h2' : w.ownsRow lo 61 15 u (1 + tl.length) (flatN (xs.getD p Nd.none :: tl)) := by rw [Nat.add_comm]; exact h2
 have h2'' := h2'
 rcases h2''.2 with ⟨_, h0⟩ | ⟨g, c, cur, hv, hg, hb, _⟩
 ·omega
 ·subst hv
  refine ⟨_, cap, b, off, g, c, xs.getD p Nd.none, tl, rfl, rfl, hlo, hlt, h1, hg, (Array.getElem?_eq_some_iff.1 hb).1, h2', by omega, ?_, ?_, ?_⟩
  ·rw [e2, hseg.1, e3]
  ·rw [e2, hseg.2, ← htl]
  ·rw [e2]
   rfl
end Go.Proofs.YtlohbaoigfaneaaGreat
