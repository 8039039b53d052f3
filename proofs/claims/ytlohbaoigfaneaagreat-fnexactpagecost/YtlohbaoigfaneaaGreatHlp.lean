import Derived.Test.YtlohbaoigfaneaaGreatShn
import Derived.RegionTactic
import Derived.ChangeAlike
import Derived.Test.YtlohbaoigfaneaaGreatNod
import Derived.Test.YtlohbaoigfaneaaGreatPur
import Derived.Test.YtlohbaoigfaneaaGreatSts
import Derived.Test.YtlohbaoigfaneaaGreatItx
import Derived.Test.YtlohbaoigfaneaaGreatNdo
namespace Go.Proofs.YtlohbaoigfaneaaGreat.Shr
open Go.RowKit
set_option linter.unusedVariables false
set_option linter.unusedSimpArgs false
abbrev Sett.v (s : Sett) : Value := setV s.sign s.order s.want s.have_ s.bad s.over
theorem Fr.trans {L : Nat} {w a b : World} (h : Fr L w a) (h2 : Fr L a b) : Fr L w b :=
 ⟨h2.1.trans h.1, h2.2.1.trans h.2.1, h2.2.2.1.trans h.2.2.1, Nat.le_trans h.2.2.2.1 h2.2.2.2.1, fun k hk hne => (h2.2.2.2.2 k (Nat.lt_of_lt_of_le hk h.2.2.2.1) hne).trans (h.2.2.2.2 k hk hne)⟩
def mxI (a b : Int) : Int := if b < a then a else b
end Go.Proofs.YtlohbaoigfaneaaGreat.Shr
namespace Go.Proofs.YtlohbaoigfaneaaGreat
open Go.RowKit
set_option linter.unusedVariables false
set_option linter.unusedSimpArgs false
def glOf (x : Nd) : Shr.Gl := ⟨x.gs, x.gp, x.gpo, x.gm, x.gmo⟩
structure RS where
 w : Int
 h : Int
 d : Int
 gs : List Shr.Gl
def RS.nil : RS := ⟨0, 0, 0, []⟩
def RS.tall (s : RS) (x : Nd) : RS := ⟨s.w + x.wd, Shr.mxI s.h (x.ht - x.sh), Shr.mxI s.d (x.dp + x.sh), s.gs⟩
def RS.kern (s : RS) (x : Nd) : RS := ⟨s.w + x.wd, s.h, s.d, s.gs⟩
def RS.glue (s : RS) (x : Nd) : RS := ⟨s.w, s.h, s.d, s.gs ++ [glOf x]⟩
def tallB (x : Nd) : Bool := x.k == 1 || x.k == 5 || x.k == 6 || x.k == 7
def rowStep (s : RS) (x : Nd) : RS := if tallB x then s.tall x else if x.k = 2 then s.kern x else if x.k = 3 then s.glue x else s
structure RIn (s : RS) (j : Nat) : Prop where
 w1 : -(1073741823 * (j : Int)) ≤ s.w
 w2 : s.w ≤ 1073741823 * (j : Int)
 h1 : 0 ≤ s.h
 h2 : s.h ≤ 2147483646
 d1 : 0 ≤ s.d
 d2 : s.d ≤ 2147483646
 n : s.gs.length ≤ j
 ok : ∀ g ∈ s.gs, g.ok = true
theorem RIn.nil : RIn RS.nil 0 := ⟨by simp [RS.nil], by simp [RS.nil], by simp [RS.nil], by simp [RS.nil], by simp [RS.nil], by simp [RS.nil], by simp [RS.nil], by simp [RS.nil]⟩
structure NdIn (x : Nd) : Prop where
 wd : -1073741823 ≤ x.wd ∧ x.wd ≤ 1073741823
 ht : -1073741823 ≤ x.ht ∧ x.ht ≤ 1073741823
 dp : -1073741823 ≤ x.dp ∧ x.dp ≤ 1073741823
 sh : -1073741823 ≤ x.sh ∧ x.sh ≤ 1073741823
 gl : (glOf x).ok = true
theorem mxI_in {a b : Int} : (a ≤ Shr.mxI a b ∧ b ≤ Shr.mxI a b) ∧ (Shr.mxI a b = a ∨ Shr.mxI a b = b) := by
 unfold Shr.mxI
 split
 ·exact ⟨⟨by omega, by omega⟩, .inl rfl⟩
 ·exact ⟨⟨by omega, by omega⟩, .inr rfl⟩
theorem RIn.more {s : RS} {j : Nat} (h : RIn s j) : RIn s (j + 1) := ⟨by have := h.w1; push_cast; omega, by have := h.w2; push_cast; omega, h.h1, h.h2, h.d1, h.d2, by have := h.n; omega, h.ok⟩
theorem RIn.kern {s : RS} {j : Nat} {x : Nd} (h : RIn s j) (hx : NdIn x) : RIn (s.kern x) (j + 1) :=
 ⟨by have := h.w1; have := hx.wd; simp only [RS.kern]; push_cast; omega, by have := h.w2; have := hx.wd; simp only [RS.kern]; push_cast; omega, h.h1, h.h2, h.d1, h.d2, by have := h.n; simp only [RS.kern]; omega, h.ok⟩
theorem RIn.glue {s : RS} {j : Nat} {x : Nd} (h : RIn s j) (hx : NdIn x) : RIn (s.glue x) (j + 1) :=
 ⟨by have := h.w1; simp only [RS.glue]; push_cast; omega, by have := h.w2; simp only [RS.glue]; push_cast; omega, h.h1, h.h2, h.d1, h.d2, by have := h.n; simp only [RS.glue, List.length_append, List.length_singleton]; omega, fun g hg => by
  rcases List.mem_append.1 hg with hg | hg
  ·exact h.ok g hg
  ·rw [List.mem_singleton.1 hg]; exact hx.gl⟩
theorem RIn.tall {s : RS} {j : Nat} {x : Nd} (h : RIn s j) (hx : NdIn x) : RIn (s.tall x) (j + 1) := by
 obtain ⟨⟨a1, a2⟩, a3⟩ := mxI_in (a := s.h) (b := x.ht - x.sh)
 obtain ⟨⟨b1, b2⟩, b3⟩ := mxI_in (a := s.d) (b := x.dp + x.sh)
 have := h.w1
 have := h.w2
 have := h.h1
 have := h.h2
 have := h.d1
 have := h.d2
 have := hx.wd
 have := hx.ht
 have := hx.dp
 have := hx.sh
 refine ⟨by simp only [RS.tall]; push_cast; omega, by simp only [RS.tall]; push_cast; omega, ?_, ?_, ?_, ?_, by have := h.n; simp only [RS.tall]; omega, h.ok⟩
 ·simp only [RS.tall]; omega
 ·simp only [RS.tall]; rcases a3 with a3 | a3 <;> omega
 ·simp only [RS.tall]; omega
 ·simp only [RS.tall]; rcases b3 with b3 | b3 <;> omega
theorem RIn.step {s : RS} {j : Nat} {x : Nd} (h : RIn s j) (hx : NdIn x) : RIn (rowStep s x) (j + 1) := by
 unfold rowStep
 split
 ·exact h.tall hx
 ·split
  ·exact h.kern hx
  ·split
   ·exact h.glue hx
   ·exact h.more
def f5 (gs : List Shr.Gl) : List Value := gs.flatMap (fun g => [.int .i64 g.s, .int .i64 g.p, .int .i64 g.po, .int .i64 g.m, .int .i64 g.mo])
theorem f5_snoc (gs : List Shr.Gl) (g : Shr.Gl) : f5 (gs ++ [g]) = f5 gs ++ [.int .i64 g.s, .int .i64 g.p, .int .i64 g.po, .int .i64 g.m, .int .i64 g.mo] := by simp [f5]
theorem ownG_ne {W : World} {b1 b2 e1 e2 s1 s2 n m : Nat} {t u : Value} {xs ys : List Value} (h1 : W.ownsRow b1 e1 s1 t n xs) (h2 : W.ownsRow b2 e2 s2 u m ys) (hne : e1 ≠ e2) : t.ownBlock = none ∨ t.ownBlock ≠ u.ownBlock := by
 rcases h1.2 with ⟨rfl, _⟩ | ⟨g1, cap1, cur1, rfl, _, k1, _⟩
 ·exact .inl rfl
 ·rcases h2.2 with ⟨rfl, _⟩ | ⟨g2, cap2, cur2, rfl, _, k2, _⟩
  ·exact .inr (by simp [Value.ownBlock])
  ·refine .inr fun e => ?_
   simp only [Value.ownBlock, Option.some.injEq] at e
   subst e
   rw [k1] at k2
   cases k2
   exact hne rfl
structure RInv (w wr : World) (va : Value) (Z : List Nat) (u : Value) (gs : List Shr.Gl) : Prop where
 own : wr.ownsRow w.heap.size 33 5 u gs.length (f5 gs)
 row : IR wr w.heap.size va Z.length (natI Z)
 bel : Below w.heap.size w wr
theorem RInv.below {w wr w' : World} {va : Value} {Z : List Nat} {u : Value} {gs : List Shr.Gl} (h : RInv w wr va Z u gs) (hb : Below wr.heap.size wr w') : RInv w w' va Z u gs :=
 ⟨ownG_below h.own hb, h.row.below hb, below_more h.bel hb h.bel.size⟩
theorem RInv.put {w wr w' : World} {va : Value} {Z : List Nat} {u u' : Value} {gs : List Shr.Gl} {g : Shr.Gl} {o : Obj} (h : RInv w wr va Z u gs) (ho : w'.ownsRow w.heap.size 33 5 u' (gs.length + 1) (f5 gs ++ [.int .i64 g.s, .int .i64 g.p, .int .i64 g.po, .int .i64 g.m, .int .i64 g.mo])) (hg : (wr.alloc o).grownBy w' u.ownBlock) : RInv w w' va Z u' (gs ++ [g]) := by
 have h2 := h.below (below1 wr o)
 refine ⟨by rw [f5_snoc, List.length_append]; exact ho, World.ownsRow.kept h2.row hg (ownG_ne h2.row h2.own (by decide)), Below.grown h2.bel hg h2.bel.size (fun j hj => (h.own.lt j hj).1)⟩
end Go.Proofs.YtlohbaoigfaneaaGreat
