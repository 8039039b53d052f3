import Derived.Test.YtlohbaoigfaneaaGreatIts
import Derived.OwnWalk
import Derived.Laws.AppendOwn
import Derived.Test.YtlohbaoigfaneaaGreatNod
import Derived.Laws.Rows
import Derived.Laws.Tables
import Derived.Laws.CopyOwn
import Derived.Test.YtlohbaoigfaneaaGreatPur
import Derived.RangeFuncNested
import Derived.RangeFuncBound
import Derived.RangeFuncCalls
import Derived.RangeFuncLeaves
import Derived.Shelf.Abstract
import Derived.Shelf.RegionOpen
import Derived.WalkKit
import Derived.OwnWalkIn
import Derived.TacticsInMore
import Derived.LoopNIn
import Derived.LoopIn
import Derived.Maps.AppendAt
import Derived.Test.YtlohbaoigfaneaaGreatItb
import Derived.Test.YtlohbaoigfaneaaGreatAdl
import Derived.Laws.OwnMore
import Derived.Test.YtlohbaoigfaneaaGreatBrk
import Derived.Test.YtlohbaoigfaneaaGreatLok
import Derived.Deep.RegionWith
import Derived.Deep.RegionHeld3
import Derived.Deep.QuietTactic
import Derived.BigQuiet
import Derived.WalkSmall
import Derived.LoopTactic
import Derived.Deep.Light
namespace Go.Proofs.YtlohbaoigfaneaaGreat
open Go.RowKit
set_option linter.unusedVariables false
set_option linter.unusedSimpArgs false
set_option maxHeartbeats 4000000 in
theorem specDisc_any (x : Nd) (w : World) : Calls Tryz.prog 62 #[ndV x] w fun e w' => e = .returned (.bool (discB x)) ∧ Below w.heap.size w w' := by
 obtain ⟨k, wd, ht, dp, sh, fo, ch, nn, gs, gp, gpo, gm, gmo, tx, kids⟩ := x
 simp only [ndV]
 have HE : Hid (discB ⟨k, wd, ht, dp, sh, fo, ch, nn, gs, gp, gpo, gm, gmo, tx, kids⟩ = (k == 3 || (k == 2 || k == 4))) := hideP rfl
 rw [HE.out]
 clear HE
 by_cases h3 : k = 3
 ·subst h3
  go_enter Tryz.func62, Tryz.ntmps62
  go_wp2
  go_ret
  exact ⟨rfl, below1 _ _⟩
 ·have b3 : (k == 3) = false := by simp [h3]
  rw [b3, Bool.false_or]
  by_cases h2 : k = 2
  ·subst h2
   go_enter Tryz.func62, Tryz.ntmps62
   go_wp2
   go_ret
   exact ⟨rfl, below1 _ _⟩
  ·have b2 : (k == 2) = false := by simp [h2]
   rw [b2, Bool.false_or]
   by_cases h4 : k = 4
   ·subst h4
    go_enter Tryz.func62, Tryz.ntmps62
    go_wp2
    go_ret
    exact ⟨rfl, below1 _ _⟩
   ·have b4 : (k == 4) = false := by simp [h4]
    rw [b4]
    go_enter Tryz.func62, Tryz.ntmps62
    go_wp2
    go_ret
    exact ⟨rfl, below1 _ _⟩
theorem head_cells {w : World} {u : Value} {x : Nd} {rest : List Nd} {lo : Nat} (h : NRow lo w u (x :: rest)) : ∃ b off n cap, u = .slice (some ⟨b, off, none⟩) n cap ∧ 0 < n ∧ b < w.heap.size ∧ ∀ j, j < 15 → w.cell? ⟨b, off + j, none⟩ = x.cells[j]? := by
 obtain ⟨ao, n, cap, rfl, hl, hr⟩ := h
 have hn : 0 < n := by rw [← hl]; simp
 obtain ⟨b, off, rfl, _, hb, hc⟩ := hr hn
 have hc2 := row_cells (fun i hi => hc i (by rw [← hl]; exact hi))
 refine ⟨b, off, n, cap, rfl, hn, hb, fun j hj => ?_⟩
 have h1 := flatN_get (x :: rest) 0 (by simp) j hj
 have e : (x :: rest).getD 0 Nd.none = x := rfl
 rw [e] at h1
 rw [List.getElem?_eq_getElem (show j < x.cells.length from hj)] at h1 ⊢
 have h2 := hc2 _ _ h1
 rw [show off + j = off + (0 * 15 + j) by omega]
 exact h2
structure Heads (lo : Nat) (w : World) (v : Value) (ys : List It) : Prop where
 is : ∃ ao cap, v = .slice ao ys.length cap ∧ (0 < ys.length → ∃ b off, ao = some ⟨b, off, none⟩ ∧ lo ≤ b ∧ b < w.heap.size ∧ ∀ i, i < ys.length → ∃ u rest, w.cell? ⟨b, off + i, none⟩ = some u ∧ NRow lo w u ((ys.getD i It.none).1 :: rest))
theorem Heads.abv {lo : Nat} {w w' : World} {v : Value} {ys : List It} (h : Heads lo w v ys) (ha : Abv lo w w') : Heads lo w' v ys := by
 obtain ⟨ao, cap, rfl, hc⟩ := h.is
 refine ⟨ao, cap, rfl, fun hp => ?_⟩
 obtain ⟨b, off, rfl, hlo, hlt, hcell⟩ := hc hp
 refine ⟨b, off, rfl, hlo, Nat.lt_of_lt_of_le hlt ha.size, fun i hi => ?_⟩
 obtain ⟨u, rest, h1, h2⟩ := hcell i hi
 exact ⟨u, rest, (World.cell?_of_block (w := w) (a := ⟨b, off + i, none⟩) (ha.block b hlo hlt)).trans h1, SRow.abv ndStable h2 ha⟩
theorem wpList_load_row {P : Program} {w : World} {ops : Array Oper} {rest : List Oper} {o : Oper} {a : Act} {Q : Exit → Act → World → Prop} (hgd : o.guard = none) (t : TypeId) (p : Operand) (ho : o.op = Op.load t p) (g : Nat) (hp : a.eval p = .pointer (some ⟨g, 0, none⟩))
 (cs : Array Value) (ty : TypeId) (fr : Nat × Nat) (hg : w.heap[g]? = some (.cells cs ty fr)) (d : TypeDesc) (hu : P.underlying t = some d) (hd : (match d with | .struct _ | .array _ _ => true | _ => false) = true) (hi : (P.info? t).map (·.size) = some cs.size)
 (h : wpList P ops Q rest (a.put o.dst (.agg cs)) w) : wpList P ops Q (o :: rest) a w := by
 refine wpList_plain hgd fun K hK => ?_
 have hr := run_loadVar_row (P := P) w g ty t cs fr d hg hu hd hi
 unfold Oper.wp execOp
 simp only [ho, hp, Instr.loadAt, Instr.sureAddr, Sem.run_bind, Sem.run_pure, Result.andThen_ok, hr]
 exact hK _ _ h
theorem wpList_store_row {P : Program} {w : World} {ops : Array Oper} {rest : List Oper} {o : Oper} {a : Act} {Q : Exit → Act → World → Prop} (hgd : o.guard = none) (t : TypeId) (p v : Operand) (ho : o.op = Op.store t p v) (g : Nat) (hp : a.eval p = .pointer (some ⟨g, 0, none⟩))
 (old cells : Array Value) (hv : a.eval v = .agg cells) (ty : TypeId) (hg : w.heap[g]? = some (.cells old ty (0, 0))) (hi : (P.info? t).map (·.size) = some cells.size) (hs : old.size = cells.size) (h1 : cells.all (·.oneCell') = true)
 (h : wpList P ops Q rest (a.put o.dst undef) (w.setRow g cells)) : wpList P ops Q (o :: rest) a w := by
 refine wpList_plain hgd fun K hK => ?_
 have hr := run_storeVar_row (P := P) w g ty t old cells hg hi hs h1
 unfold Oper.wp execOp
 simp only [ho, hp, hv, Instr.storeAt, Instr.sureAddr, Sem.run_bind, Sem.run_pure, Result.andThen_ok, hr]
 exact hK _ _ h
structure Sh where
 ht : Int
 dp : Int
 g0 : Int
 g1 : Int
 g2 : Int
 g3 : Int
 g4 : Int
 nt : Int
end Go.Proofs.YtlohbaoigfaneaaGreat
namespace Go.Proofs.YtlohbaoigfaneaaGreat
open Go.RowKit Go.Shelf
set_option linter.unusedVariables false
set_option linter.unusedSimpArgs false
def Marks (rs : List Nat) (w : World) : Prop := rs.Nodup ∧ ∀ r ∈ rs, w.heap[r]? = some (.deferred (some []))
theorem Marks.below {rs : List Nat} {w w' : World} (h : Marks rs w) (hb : Below w.heap.size w w') : Marks rs w' := ⟨h.1, fun r hr => (hb.block r (Array.getElem?_eq_some_iff.1 (h.2 r hr)).1).trans (h.2 r hr)⟩
def Cells (rs : List Nat) (w w' : World) : Prop := w'.os = w.os ∧ w'.tape = w.tape ∧ w'.output = w.output ∧ w'.heap.size = w.heap.size ∧ ∀ q : Nat, q ∉ rs → w'.heap[q]? = w.heap[q]?
end Go.Proofs.YtlohbaoigfaneaaGreat
namespace Go.Proofs.YtlohbaoigfaneaaGreat
open Go.RowKit
set_option linter.unusedVariables false
set_option linter.unusedSimpArgs false
theorem wp_make_at {P : Program} {w : World} {o : Oper} {a : Act} {K : Act → World → Prop} {Q : Exit → Act → World → Prop} (l c : Operand) (t : TypeId) (hop : o.op = Op.makeSlice t l c)
 (base : Nat) (e : TypeId) (i : TypeInfo) (z : Value) (size : Nat) (h1 : P.underlying t = some (.slice e)) (h2 : P.info? e = some i) (h3 : i.zero = some z) (h4 : i.size = size)
 (kl kc : IntKind) (L C : Int) (n : Nat) (hl : a.eval l = .int kl L) (hc : a.eval c = .int kc C) (hL : L = (n : Int)) (hC : C = (n : Int)) (b2 : i.bytes * n ≤ 281474976710656) (b3 : n ≤ maxLen) (b4 : base ≤ w.heap.size)
 (hK : ∀ w', w'.ownsRow base e size (.slice (some ⟨w.heap.size, 0, none⟩) n n) n (madeCells z.cells (n * size)).toList → w.grownBy w' none → K (a.put o.dst (.slice (some ⟨w.heap.size, 0, none⟩) n n)) w') : o.wp P a w K Q := by
 obtain ⟨w', hrun, r1, r2⟩ := run_make_full (P := P) w base t e i z size h1 h2 h3 h4 kl kc n b2 b3 b4
 subst hL
 subst hC
 unfold Oper.wp
 simp [execOp, hop, hl, hc, hrun, Result.andThen]
 exact hK w' r1 r2
end Go.Proofs.YtlohbaoigfaneaaGreat
namespace Go.Proofs.YtlohbaoigfaneaaGreat
open Go.RowKit Go.Shelf
set_option linter.unusedVariables false
set_option linter.unusedSimpArgs false
attribute [local go_sem] Oper.semAt_some
end Go.Proofs.YtlohbaoigfaneaaGreat
namespace Go.Proofs.YtlohbaoigfaneaaGreat
open Go.RowKit
set_option linter.unusedVariables false
set_option linter.unusedSimpArgs false
theorem Tryz.info2i : (Tryz.prog.info? 2).map (fun i => (i.zero, i.size, i.bytes)) = some (some (.int .i64 0), 1, 8) := by kernel_rfl
theorem Heads.mono {lo lo' : Nat} {w : World} {v : Value} {ys : List It} (h : Heads lo w v ys) (hl : lo' ≤ lo) : Heads lo' w v ys := by
 obtain ⟨ao, cap, rfl, hc⟩ := h.is
 refine ⟨ao, cap, rfl, fun hp => ?_⟩
 obtain ⟨b, off, rfl, hlo, hlt, hcell⟩ := hc hp
 refine ⟨b, off, rfl, by omega, hlt, fun i hi => ?_⟩
 obtain ⟨u, rest, h1, h2⟩ := hcell i hi
 exact ⟨u, rest, h1, SRow.mono ndStable h2 hl⟩
theorem wpList_append_at {P : Program} {w : World} {ops : Array Oper} {rest : List Oper} {o : Oper} {a : Act} {Q : Exit → Act → World → Prop} (hgd : o.guard = none) (s x : Operand) (t : TypeId)
 (ho : o.op = .call { callee := .builtin .append, args := #[s, x], argTypes := #[t, t] })
 (base : Nat) (e : TypeId) (i : TypeInfo) (z : Value) (size bytes : Nat) (ht : P.underlying t = some (.slice e)) (hi : P.info? e = some i) (hz : i.zero = some z)
 (hsize : i.size = size) (hby : i.bytes = bytes) (hzs : z.cells.size = size) (hsz : 0 < size)
 (v : Value) (n : Nat) (xs : List Value) (hs : a.eval s = v) (hown : w.ownsRow base e size v n xs)
 (ad : Addr) (m c : Nat) (news : List Value) (hx : a.eval x = .slice (some ad) m c) (hl : news.length = m * size) (hnews : ∀ j u, news[j]? = some u → w.cell? (ad.add j) = some u) (h1 : ∀ u ∈ news, u.oneCell' = true)
 (h63 : n + m ≤ maxLen) (hbytes : (n + m) * bytes ≤ 140737488355328) (hbase : base ≤ w.heap.size)
 (h : ∀ v' w', w'.ownsRow base e size v' (n + m) (xs ++ news) → w.grownBy w' v.ownBlock → (v'.ownBlock = v.ownBlock ∨ v'.ownBlock = some w.heap.size) → wpList P ops Q rest (a.put o.dst v') w') : wpList P ops Q (o :: rest) a w :=
 wpList_plain hgd fun _ hK => wp_append_at s x t ho base e i z size bytes ht hi hz hsize hby hzs hsz v n xs hs hown ad m c news hx hl hnews h1 h63 hbytes hbase fun v' w' h2 h3 _ h5 => hK _ _ (h v' w' h2 h3 h5)
theorem heads_of {w : World} {base : Nat} {u : Value} {vs : List Value} {xs : List Nd} (hob : listB xs = true) (ho : w.ownsRow base 31 1 u (itemsOf xs).length vs) (hL : Lsts base w vs (fun i => (itemsOf xs).getD i [])) : Heads base w u (its xs) ∧ (itemsOf xs).length = (its xs).length := by
 have hlen : (itemsOf xs).length = (its xs).length := by unfold itemsOf its; rw [if_pos hob, List.length_map, List.length_map]
 have hvl := own25_len ho
 obtain ⟨ao, cap, rfl, hg⟩ := own25_shape ho
 refine ⟨⟨ao, cap, by rw [hlen], fun hp => ?_⟩, hlen⟩
 obtain ⟨g, rfl, hgb, hlt⟩ := hg (by omega)
 refine ⟨g, 0, rfl, hgb, hlt, fun i hi => ?_⟩
 have hu : vs[i]? = some (vs[i]'(by omega)) := List.getElem?_eq_getElem (by omega)
 have h1 : w.cell? ⟨g, 0 + i, none⟩ = some (vs[i]'(by omega)) := by rw [Nat.zero_add]; exact (own25_cell ho hu).1
 have h2 := own_NRow (hL.own i _ hu) rfl
 obtain ⟨u, hue⟩ : ∃ u, u = vs[i]'(by omega) := ⟨_, rfl⟩
 rw [← hue] at h1 h2
 have hi2 : i < (starts xs (xs.length + 1) 0).length := by simpa [its] using hi
 have hst := starts_lt xs (xs.length + 1) 0 _ (List.getElem_mem hi2)
 have e1 : (itemsOf xs).getD i [] = itemAt xs ((starts xs (xs.length + 1) 0)[i]) := by
  unfold itemsOf
  rw [if_pos hob]
  simp [List.getD, List.getElem?_map, List.getElem?_eq_getElem hi2]
 have e2 : (its xs).getD i It.none = itAt xs ((starts xs (xs.length + 1) 0)[i]) := by
  unfold its
  simp [List.getD, List.getElem?_map, List.getElem?_eq_getElem hi2]
 obtain ⟨p, hp⟩ : ∃ p, p = (starts xs (xs.length + 1) 0)[i] := ⟨_, rfl⟩
 rw [← hp] at e1 e2 hst
 have e3 : itemAt xs p = xs.getD p Nd.none :: (itemAt xs p).tail := by
  unfold itemAt
  have hd : xs.drop p = xs[p] :: xs.drop (p + 1) := List.drop_eq_getElem_cons hst
  rw [hd, Nat.add_comm 1, List.take_succ_cons]
  simp [List.getD, List.getElem?_eq_getElem hst]
 refine ⟨u, (itemAt xs p).tail, h1, ?_⟩
 rw [e2]
 show NRow base w u (xs.getD p Nd.none :: (itemAt xs p).tail)
 rw [← e3, ← e1]
 exact h2
def Row (w : World) (v : Value) (zs : List Int) : Prop :=
 ∃ ao n cap, v = .slice ao n cap ∧ zs.length = n ∧ (0 < n → ∃ b off, ao = some ⟨b, off, none⟩ ∧ b < w.heap.size ∧ ∀ i, i < n → w.cell? ⟨b, off + i, none⟩ = some (.int .i64 (zs.getD i 0)))
theorem Row.below {w w' : World} {v : Value} {zs : List Int} (h : Row w v zs) (hb : Below w.heap.size w w') : Row w' v zs := by
 obtain ⟨ao, n, cap, rfl, hn, hc⟩ := h
 refine ⟨ao, n, cap, rfl, hn, fun hp => ?_⟩
 obtain ⟨b, off, rfl, hlt, hcell⟩ := hc hp
 exact ⟨b, off, rfl, Nat.lt_of_lt_of_le hlt hb.size, fun i hi => (hb.cell (p := ⟨b, off + i, none⟩) hlt).trans (hcell i hi)⟩
theorem Row.own {w : World} {base g n cap : Nat} {zs : List Int} (h : w.ownsRow base 2 1 (.slice (some ⟨g, 0, none⟩) n cap) n (zs.map (Value.int .i64))) (hn : zs.length = n) (hg : g < w.heap.size) :
 Row w (.slice (some ⟨g, 0, none⟩) n cap) zs := by
 refine ⟨_, n, cap, rfl, hn, fun hp => ⟨g, 0, rfl, hg, fun i hi => ?_⟩⟩
 have := World.ownsRow.cellAt h i (by omega)
 simp only [Nat.zero_add]
 rw [this]
 simp [List.getElem?_map, List.getD, List.getElem?_eq_getElem (show i < zs.length by omega)]
theorem ownsRow_block {w : World} {base e size g n cap : Nat} {xs : List Value} (h : w.ownsRow base e size (.slice (some ⟨g, 0, none⟩) n cap) n xs) : g < w.heap.size := by
 rcases h.2 with ⟨h', _⟩ | ⟨g', cap', cur, h', _, hg, _⟩
 ·simp at h'
 ·simp only [Value.slice.injEq, Option.some.injEq, Addr.mk.injEq, and_true, true_and] at h'
  obtain ⟨rfl, rfl⟩ := h'
  by_cases hb : g < w.heap.size
  ·exact hb
  ·simp [Array.getElem?_eq_none (show w.heap.size ≤ g by omega)] at hg
theorem getD_ext {xs ys : List Int} (hl : xs.length = ys.length) (h : ∀ j, j < xs.length → xs.getD j 0 = ys.getD j 0) : xs = ys := by
 refine List.ext_getElem hl fun i h1 h2 => ?_
 have := h i h1
 simpa [List.getD, List.getElem?_eq_getElem h1, List.getElem?_eq_getElem h2] using this
end Go.Proofs.YtlohbaoigfaneaaGreat
