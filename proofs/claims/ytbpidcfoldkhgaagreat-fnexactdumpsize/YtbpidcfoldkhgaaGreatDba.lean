import Derived.Test.YtbpidcfoldkhgaaGreatRowk
import Derived.Outline
import Derived.Deep.Light
import Derived.Deep.QuietTactic
import Derived.BigQuiet
import Derived.WalkSmall
import Derived.LoopTactic
import Derived.OwnWalk
import Derived.Lib.ConvBytes
import Derived.Lib.AppendStr
namespace Go.Proofs.YtbpidcfoldkhgaaGreat
open Go.RowKit
set_option linter.unusedVariables false
set_option linter.unusedSimpArgs false
theorem hideP {p : Prop} (h : p) : Hid p := h
theorem Tryz.info5 : (Tryz.prog.info? 5).map (fun i => (i.zero, i.size, i.bytes)) = some (some (.int .u8 0), 1, 1) := by kernel_rfl
def BO (base : Nat) (w : World) (v : Value) (zs : List Int) : Prop := w.ownsRow base 5 1 v zs.length (zs.map (Value.int .u8))
theorem BO.alloc {base : Nat} {w : World} {v : Value} {zs : List Int} (h : BO base w v zs) (o : Obj) : BO base (w.alloc o) v zs := World.ownsRow.alloc h o
def numF : Nat → Nat → List Int
 | 0, n => [(n : Int)]
 | f + 1, n => if n < 128 then [(n : Int)] else ((n % 128 + 128 : Nat) : Int) :: numF f (n / 128)
def numB (n : Nat) : List Int := numF 9 n
theorem numF_small {n : Nat} (h : n < 128) : ∀ f, numF f n = [(n : Int)]
 | 0 => rfl
 | f + 1 => by rw [numF, if_pos h]
theorem numF_len : ∀ (f n : Nat), (numF f n).length ≤ f + 1
 | 0, _ => by simp [numF]
 | f + 1, n => by
  rw [numF]
  split
  ·simp
  ·have := numF_len f (n / 128)
   rw [List.length_cons]
   omega
def sgnN (x : Int) : Nat := (if x < 0 then -2 * x - 1 else 2 * x).toNat
def sgnB (x : Int) : List Int := numB (sgnN x)
def strB (s : ByteArray) : List Int := s.data.toList.map (fun b => (b.toNat : Int))
theorem strB_len (s : ByteArray) : (strB s).length = s.size := by
 unfold strB
 rw [List.length_map]
 rfl
def namB (s : ByteArray) : List Int := numB s.size ++ strB s
def tkB (t : Tk) : List Int := t.c :: (if t.c = 0 then namB t.s else [t.h])
def rwB (ts : List Tk) : List Int := numB ts.length ++ ts.flatMap tkB
def mcB (m : Mn) : List Int := numB m.sl.toNat ++ rwB m.p ++ rwB m.b
def mnB (m : Mn) : List Int := m.k :: (if m.k = 1 then numB m.n.toNat else if m.k = 2 then tkB m.t else mcB m)
def bnB (x : Bd) : List Int := namB x.nm ++ mnB x.m
def guB (g : Gl) : List Int := sgnB g.s ++ sgnB g.p ++ sgnB g.m ++ [g.po + 16 * g.mo]
def lvlB (x : Lv) : List Int := [81, 70, 77, 49] ++ x.cats ++ (numB x.binds.length ++ x.binds.flatMap bnB) ++ x.counts.flatMap sgnB ++ x.lens.flatMap sgnB ++ x.glues.flatMap guB ++ x.toks.flatMap rwB
end Go.Proofs.YtbpidcfoldkhgaaGreat
