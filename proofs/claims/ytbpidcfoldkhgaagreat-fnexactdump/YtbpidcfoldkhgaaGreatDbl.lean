import Derived.Test.YtbpidcfoldkhgaaGreatRowk
import Derived.Outline
import Derived.Deep.Light
import Derived.Deep.QuietTactic
import Derived.BigQuiet
import Derived.WalkSmall
import Derived.LoopTactic
import Derived.OwnWalk
import Derived.Lib.ConvBytes
import Derived.Lib.AppendStr
import Derived.Maps.AppendAt
namespace Go.Proofs.YtbpidcfoldkhgaaGreat
open Go.RowKit
set_option linter.unusedVariables false
set_option linter.unusedSimpArgs false
theorem hideP {p : Prop} (h : p) : Hid p := h
theorem Tryz.info5 : (Tryz.prog.info? 5).map (fun i => (i.zero, i.size, i.bytes)) = some (some (.int .u8 0), 1, 1) := by kernel_rfl
def BO (base : Nat) (w : World) (v : Value) (zs : List Int) : Prop := w.ownsRow base 5 1 v zs.length (zs.map (Value.int .u8))
theorem BO.alloc {base : Nat} {w : World} {v : Value} {zs : List Int} (h : BO base w v zs) (o : Obj) : BO base (w.alloc o) v zs := World.ownsRow.alloc h o
def numF : Nat → Nat → List Int
 | 0, n => [(n : Int)]
 | f + 1, n => if n < 128 then [(n : Int)] else ((n % 128 + 128 : Nat) : Int) :: numF f (n / 128)
def numB (n : Nat) : List Int := numF 9 n
theorem numF_small {n : Nat} (h : n < 128) : ∀ f, numF f n = [(n : Int)]
 | 0 => rfl
 | f + 1 => by rw [numF, if_pos h]
theorem numF_len : ∀ (f n : Nat), (numF f n).length ≤ f + 1
 | 0, _ => by simp [numF]
 | f + 1, n => by
  rw [numF]
  split
  ·simp
  ·have := numF_len f (n / 128)
   rw [List.length_cons]
   omega
def sgnN (x : Int) : Nat := (if x < 0 then -2 * x - 1 else 2 * x).toNat
def sgnB (x : Int) : List Int := numB (sgnN x)
def strB (s : ByteArray) : List Int := s.data.toList.map (fun b => (b.toNat : Int))
theorem strB_len (s : ByteArray) : (strB s).length = s.size := by
 unfold strB
 rw [List.length_map]
 rfl
def namB (s : ByteArray) : List Int := numB s.size ++ strB s
def tkB (t : Tk) : List Int := t.c :: (if t.c = 0 then namB t.s else [t.h])
def rwB (ts : List Tk) : List Int := numB ts.length ++ ts.flatMap tkB
def mcB (m : Mn) : List Int := numB m.sl.toNat ++ rwB m.p ++ rwB m.b
def mnB (m : Mn) : List Int := m.k :: (if m.k = 1 then numB m.n.toNat else if m.k = 2 then tkB m.t else mcB m)
def bnB (x : Bd) : List Int := namB x.nm ++ mnB x.m
def guB (g : Gl) : List Int := sgnB g.s ++ sgnB g.p ++ sgnB g.m ++ [g.po + 16 * g.mo]
def lvlB (x : Lv) : List Int := [81, 70, 77, 49] ++ x.cats ++ (numB x.binds.length ++ x.binds.flatMap bnB) ++ x.counts.flatMap sgnB ++ x.lens.flatMap sgnB ++ x.glues.flatMap guB ++ x.toks.flatMap rwB
theorem BO.row {base : Nat} {w : World} {v : Value} {zs : List Int} (h : BO base w v zs) : ∀ g, v.ownBlock = some g → base ≤ g ∧ g < w.heap.size := fun g hg => by
 rcases h.2 with ⟨rfl, _⟩ | ⟨g', cap, cur, rfl, hg0, hb, _⟩
 ·cases hg
 ·simp [Value.ownBlock] at hg
  subst hg
  exact ⟨hg0, (Array.getElem?_eq_some_iff.1 hb).1⟩
theorem BO.shape {base : Nat} {w : World} {v : Value} {zs : List Int} (h : BO base w v zs) : ∃ ao cap, v = .slice ao zs.length cap := by
 rcases h.2 with ⟨rfl, h0⟩ | ⟨g', cap, cur, rfl, hg0, _⟩
 ·have : zs = [] := by simpa using h0
  subst this
  exact ⟨none, 0, rfl⟩
 ·exact ⟨_, _, rfl⟩
theorem BO.shp {base : Nat} {w : World} {v : Value} {zs : List Int} (h : BO base w v zs) : ∃ ao n cap, v = .slice ao n cap := by
 obtain ⟨a, c, e⟩ := h.shape
 exact ⟨a, _, c, e⟩
theorem BO.nil (base : Nat) (w : World) : BO base w (.slice none 0 0) [] := ⟨rfl, .inl ⟨rfl, rfl⟩⟩
theorem BO.kept {base : Nat} {w w' : World} {v : Value} {zs : List Int} (h : BO base w v zs) (hb : Below w.heap.size w w') : BO base w' v zs := by
 rcases h with ⟨hl, h0 | ⟨g, cap, cur, rfl, hg0, hg, hr⟩⟩
 ·exact ⟨hl, .inl h0⟩
 ·exact ⟨hl, .inr ⟨g, cap, cur, rfl, hg0, (hb.block g (Array.getElem?_eq_some_iff.1 hg).1).trans hg, hr⟩⟩
structure GO (v : Value) (W : World) (v' : Value) (W' : World) : Prop where
 g : W.grownBy W' v.ownBlock
 o : ∀ q, v'.ownBlock = some q → v.ownBlock = some q ∨ W.heap.size ≤ q
theorem GO.of_below {v : Value} {W W' : World} (h : Below W.heap.size W W') : GO v W v W' := ⟨⟨h.os, h.tape, h.output, h.size, fun k hk _ => h.block k hk⟩, fun _ hq => .inl hq⟩
theorem GO.refl (v : Value) (W : World) : GO v W v W := GO.of_below (Below.refl _ _)
theorem GO.trans {v v1 v2 : Value} {W W1 W2 : World} (h : GO v W v1 W1) (k : GO v1 W1 v2 W2) : GO v W v2 W2 :=
 ⟨⟨k.g.os.trans h.g.os, k.g.tape.trans h.g.tape, k.g.output.trans h.g.output, Nat.le_trans h.g.size k.g.size, fun q hq hn => (k.g.block q (Nat.lt_of_lt_of_le hq h.g.size) (fun e => by
  rcases h.o q e.symm with h1 | h1
  ·exact hn h1.symm
  ·omega)).trans (h.g.block q hq hn)⟩, fun q hq => by
  rcases k.o q hq with h1 | h1
  ·exact h.o q h1
  ·exact .inr (Nat.le_trans h.g.size h1)⟩
theorem GO.alloc {v v1 : Value} {W W1 : World} (h : GO v W v1 W1) (o : Obj) : GO v W v1 (W1.alloc o) := h.trans (GO.of_below (below1 _ _))
theorem GO.block {v v' : Value} {W W' : World} (h : GO v W v' W') {k : Nat} (hk : k < W.heap.size) (hn : v.ownBlock ≠ some k) : W'.heap[k]? = W.heap[k]? := h.g.block k hk (fun e => hn e.symm)
theorem GO.below {v v' : Value} {W W' : World} {base : Nat} {zs : List Int} (h : GO v W v' W') (hb : BO base W v zs) (hs : base ≤ W.heap.size) : Below base W W' :=
 ⟨h.g.os, h.g.tape, h.g.output, h.g.size, fun k hk => h.block (Nat.lt_of_lt_of_le hk hs) (fun e => by have := (hb.row k e).1; omega)⟩
theorem GO.size {v v' : Value} {W W' : World} (h : GO v W v' W') : W.heap.size ≤ W'.heap.size := h.g.size
theorem below_bytes (w : World) (s : ByteArray) : Below w.heap.size w (Lib.bytesWorld w 5 s) := ⟨rfl, rfl, rfl, by rw [Lib.bytesWorld_size]; omega, fun k hk => Lib.bytesWorld_at_old w 5 s k hk⟩
section
variable {ops : Array Oper} {rest : List Oper} {o : Oper} {a : Act} {w : World} {Q : Exit → Act → World → Prop} {base : Nat} {v : Value} {zs : List Int}
theorem wpList_bytes {ad : Addr} {m c : Nat} {xs : List Int} (hgd : o.guard = none) (s y : Operand) (ho : o.op = .call { callee := .builtin .append, args := #[s, y], argTypes := #[26, 26] }) (hs : a.eval s = v) (hy : a.eval y = .slice (some ad) m c) (h : BO base w v zs)
 (hm : xs.length = m) (hx : ∀ j, j < m → w.cell? (ad.add j) = some (.int .u8 (xs.getD j 0))) (hb : base ≤ w.heap.size) (hl : zs.length + m ≤ 70368744177664) (hK : ∀ v' w', BO base w' v' (zs ++ xs) → GO v w v' w' → wpList Tryz.prog ops Q rest (a.put o.dst v') w') : wpList Tryz.prog ops Q (o :: rest) a w := by
 obtain ⟨i0, hi0, hz0, hz1, hz2⟩ := info_parts Tryz.info5
 refine wpList_append_own_at _ hgd s y 26 ho base 5 i0 (.int .u8 0) 1 1 Tryz.underlying26 hi0 hz0 hz1 hz2 rfl (by decide) v zs.length (zs.map (Value.int .u8)) hs h ad m c (xs.map (Value.int .u8)) hy (by simp [hm]) ?_ ?_ (by unfold maxLen; omega) (by omega) hb ?_
 ·intro j u hj
  rw [List.getElem?_map] at hj
  cases e : xs[j]? with
  | none => rw [e] at hj; cases hj
  | some z =>
   rw [e] at hj
   have hz : u = .int .u8 z := by simpa using hj.symm
   have hjl : j < xs.length := (List.getElem?_eq_some_iff.1 e).1
   rw [hx j (by omega), List.getD_eq_getElem?_getD, e, hz]
   rfl
 ·intro u hu
  obtain ⟨z, _, rfl⟩ := List.mem_map.1 hu
  rfl
 ·intro v' w' ho' hg _ hw
  refine hK v' w' ?_ ⟨hg, fun q hq => ?_⟩
  ·unfold BO
   rw [List.length_append, hm, List.map_append]
   exact ho'
  ·rcases hw with e | e
   ·exact .inl (e.symm.trans hq)
   ·rw [e] at hq
    have : w.heap.size = q := by simpa using hq
    exact .inr (by omega)
theorem wpList_byte {B : Nat} {x : Int} (hgd : o.guard = none) (s y : Operand) (ho : o.op = .call { callee := .builtin .append, args := #[s, y], argTypes := #[26, 26] }) (hs : a.eval s = v) (hy : a.eval y = .slice (some ⟨B, 0, none⟩) 1 1) (h : BO base w v zs)
 (hx : w.cell? ⟨B, 0, none⟩ = some (.int .u8 x)) (hb : base ≤ w.heap.size) (hl : zs.length + 1 ≤ 70368744177664) (hK : ∀ v' w', BO base w' v' (zs ++ [x]) → GO v w v' w' → wpList Tryz.prog ops Q rest (a.put o.dst v') w') : wpList Tryz.prog ops Q (o :: rest) a w :=
 wpList_bytes (xs := [x]) hgd s y ho hs hy h rfl (fun j hj => by
  obtain rfl : j = 0 := by omega
  exact hx) hb hl hK
end
theorem cell_new (w : World) (v : Value) (t : Nat) : (w.alloc (.cells #[v] t)).cell? ⟨w.heap.size, 0, none⟩ = some v := by
 have h := heap_alloc_new w (.cells #[v] t)
 rw [cell_of_row _ _ _ _ t _ h]
 rfl
theorem add_new (b j : Nat) : (⟨b, 0, none⟩ : Addr).add j = ⟨b, j, none⟩ := by
 cases j with
 | zero => rfl
 | succ j => simp [Addr.add]
theorem cell_new2 (w : World) (o : Obj) (v : Value) (t : Nat) : ((w.alloc o).alloc (.cells #[v] t)).cell? ⟨w.heap.size + 1, 0, none⟩ = some v := by
 have h := cell_new (w.alloc o) v t
 rw [World.size_alloc] at h
 exact h
def PutQ (base : Nat) (v : Value) (W : World) (zs : List Int) (e : Ending) (W' : World) : Prop := ∃ v', e = .returned v' ∧ BO base W' v' zs ∧ GO v W v' W'
end Go.Proofs.YtbpidcfoldkhgaaGreat
