import Derived.Test.YtlohbaoigfaneaaGreatBrk
import Derived.RegionTactic
import Derived.ChangeAlike
namespace Go.Proofs.YtlohbaoigfaneaaGreat
open Go.RowKit
set_option linter.unusedVariables false
set_option linter.unusedSimpArgs false
def Ints (w : World) (B T m : Nat) : Prop := ∃ zs : List Int, zs.length = m ∧ w.heap[B]? = some (.cells (zs.map (Value.int .i64)).toArray T (0, 0))
theorem Ints.lt {w : World} {B T m : Nat} (h : Ints w B T m) : B < w.heap.size := by obtain ⟨zs, _, h⟩ := h; exact (Array.getElem?_eq_some_iff.1 h).1
theorem Ints.cell {w : World} {B T m : Nat} (h : Ints w B T m) (o : Nat) (ho : o < m) : ∃ z : Int, w.cell? ⟨B, o, none⟩ = some (.int .i64 z) := by
 obtain ⟨zs, hl, h⟩ := h
 refine ⟨zs.getD o 0, ?_⟩
 rw [cell_of_row _ _ _ _ T _ h]
 simp [List.getElem?_map, List.getD, List.getElem?_eq_getElem (show o < zs.length by omega)]
theorem Ints.free {w : World} {B T m : Nat} (h : Ints w B T m) (o : Nat) : w.frozen? ⟨B, o, none⟩ = false := by
 obtain ⟨zs, hl, h⟩ := h
 exact frozen_of_row _ _ o _ T h
theorem Ints.set {w : World} {B T m : Nat} (h : Ints w B T m) (o : Nat) (z : Int) : Ints (w.setCell ⟨B, o, none⟩ (.int .i64 z)) B T m := by
 obtain ⟨zs, hl, h⟩ := h
 refine ⟨zs.set o z, by simpa using hl, ?_⟩
 rw [heap_setCell_same w B o _ T (.int .i64 z) h, List.map_set]
 simp
theorem Ints.alloc {w : World} {B T m : Nat} (h : Ints w B T m) (o : Obj) : Ints (w.alloc o) B T m := by
 obtain ⟨zs, hl, h⟩ := h
 exact ⟨zs, hl, (Below.heap_alloc _ _ _ (Array.getElem?_eq_some_iff.1 h).1).trans h⟩
theorem Ints.drew {w : World} {B T m : Nat} (h : Ints w B T m) : Ints w.drew B T m := h
theorem Ints.below {w w' : World} {B T m : Nat} (h : Ints w B T m) (hb : Below w.heap.size w w') : Ints w' B T m := by
 obtain ⟨zs, hl, h⟩ := h
 exact ⟨zs, hl, (hb.block _ (Array.getElem?_eq_some_iff.1 h).1).trans h⟩
def Fr (L : Nat) (w w' : World) : Prop := w'.os = w.os ∧ w'.tape = w.tape ∧ w'.output = w.output ∧ w.heap.size ≤ w'.heap.size ∧ ∀ b, b < w.heap.size → b ≠ L → w'.heap[b]? = w.heap[b]?
theorem Fr.refl (L : Nat) (w : World) : Fr L w w := ⟨rfl, rfl, rfl, Nat.le_refl _, fun _ _ _ => rfl⟩
theorem Fr.below {L : Nat} {w a b : World} (h : Fr L w a) (hb : Below a.heap.size a b) : Fr L w b :=
 ⟨hb.os.trans h.1, hb.tape.trans h.2.1, hb.output.trans h.2.2.1, Nat.le_trans h.2.2.2.1 hb.size, fun k hk hn => (hb.block k (Nat.lt_of_lt_of_le hk h.2.2.2.1)).trans (h.2.2.2.2 k hk hn)⟩
theorem Fr.alloc {L : Nat} {w a : World} (h : Fr L w a) (o : Obj) : Fr L w (a.alloc o) := h.below ((Below.refl _ _).alloc (Nat.le_refl _) _)
theorem Fr.set {L : Nat} {w a : World} (h : Fr L w a) (o : Nat) (v : Value) : Fr L w (a.setCell ⟨L, o, none⟩ v) :=
 ⟨h.1, h.2.1, h.2.2.1, by simpa [World.setCell] using h.2.2.2.1, fun k hk hn => (Below.heap_setCell _ _ _ _ (by simpa using hn)).trans (h.2.2.2.2 k hk hn)⟩
theorem Fr.drew {L : Nat} {w a : World} (h : Fr L w a) : Fr L w a.drew := h
theorem Fr.trans {L : Nat} {w a b : World} (h : Fr L w a) (h2 : Fr L a b) : Fr L w b :=
 ⟨h2.1.trans h.1, h2.2.1.trans h.2.1, h2.2.2.1.trans h.2.2.1, Nat.le_trans h.2.2.2.1 h2.2.2.2.1, fun k hk hn => (h2.2.2.2.2 k (Nat.lt_of_lt_of_le hk h.2.2.2.1) hn).trans (h.2.2.2.2 k hk hn)⟩
def Ord (x : Nd) : Prop := 0 ≤ x.gpo ∧ x.gpo ≤ 3 ∧ 0 ≤ x.gmo ∧ x.gmo ≤ 3
structure SolY (v : Value) (X : Nat) (p : Value) (K : Nat) (h : Int) : Prop where
 is : v = .iface X p
 ta : ∀ W : World, (Instr.typeAssert (.iface X p) 150 216 true).run Tryz.prog W = .ok (.tuple #[.iface X p, .bool true]) W
 mh : ∀ W : World, (method 393 X p "loop.example/g00014/impl.room").run Tryz.prog W = .ok (K, p) W
 fh : ∀ W : World, (callFunc K #[p]).run Tryz.prog W = .ok (.enter K #[p]) W
 ch : ∀ W : World, Calls Tryz.prog K #[p] W fun e w' => e = .returned (.int .i64 h) ∧ Below W.heap.size W w'
structure SolN (v : Value) : Prop where
 ta : ∀ W : World, (Instr.typeAssert v 150 216 true).run Tryz.prog W = .ok (.tuple #[.nilIface, .bool false]) W
 sh : v = .nilIface ∨ ∃ X p, v = .iface X p
def IntsL (w : World) (B T : Nat) (zs : List Int) : Prop := w.heap[B]? = some (.cells (zs.map (Value.int .i64)).toArray T (0, 0))
theorem IntsL.lt {w : World} {B T : Nat} {zs : List Int} (h : IntsL w B T zs) : B < w.heap.size := (Array.getElem?_eq_some_iff.1 h).1
theorem IntsL.cell {w : World} {B T : Nat} {zs : List Int} (h : IntsL w B T zs) (o : Nat) (ho : o < zs.length) : w.cell? ⟨B, o, none⟩ = some (.int .i64 (zs.getD o 0)) := by
 rw [cell_of_row _ _ _ _ T _ h]
 simp [List.getElem?_map, List.getD, List.getElem?_eq_getElem ho]
theorem IntsL.free {w : World} {B T : Nat} {zs : List Int} (h : IntsL w B T zs) (o : Nat) : w.frozen? ⟨B, o, none⟩ = false := frozen_of_row _ _ o _ T h
theorem IntsL.set {w : World} {B T : Nat} {zs : List Int} (h : IntsL w B T zs) (o : Nat) (z : Int) : IntsL (w.setCell ⟨B, o, none⟩ (.int .i64 z)) B T (zs.set o z) := by
 unfold IntsL at h ⊢
 rw [heap_setCell_same w B o _ T (.int .i64 z) h, List.map_set]
 simp
theorem IntsL.alloc {w : World} {B T : Nat} {zs : List Int} (h : IntsL w B T zs) (o : Obj) : IntsL (w.alloc o) B T zs := (Below.heap_alloc _ _ _ h.lt).trans h
theorem IntsL.drew {w : World} {B T : Nat} {zs : List Int} (h : IntsL w B T zs) : IntsL w.drew B T zs := h
theorem IntsL.below {w w' : World} {B T : Nat} {zs : List Int} (h : IntsL w B T zs) (hb : Below w.heap.size w w') : IntsL w' B T zs := (hb.block _ h.lt).trans h
def glA (o pn mn : Nat) (s p q : Int) (zs : List Int) : List Int := ((zs.set o (wrap64 (zs.getD o 0 + s))).set (o + 1 + pn) (wrap64 (zs.getD (o + 1 + pn) 0 + p))).set (o + 5 + mn) (wrap64 (zs.getD (o + 5 + mn) 0 + q))
def solB (x : Nd) : Bool := x.k == 1 || x.k == 2 || x.k == 5 || x.k == 6 || x.k == 7
def mAd (o : Nat) (x : Nd) (zs : List Int) : List Int := if x.k = 3 then glA o x.gpo.toNat x.gmo.toNat x.gs x.gp x.gm zs else if solB x = true then zs.set o (wrap64 (zs.getD o 0 + x.wd)) else zs
set_option maxRecDepth 20000 in
set_option maxHeartbeats 8000000 in
theorem addGlueL_any {w : World} {B T : Nat} {zs : List Int} (o pn mn : Nat) (s p q : Int) (h : IntsL w B T zs) (ho : o + 9 ≤ zs.length) (hp : pn < 4) (hm : mn < 4) :
 Calls Tryz.prog 77 #[.pointer (some ⟨B, o, none⟩), glueV s p (pn : Int) q (mn : Int)] w fun e w' => (∃ v, e = .returned v) ∧ IntsL w' B T (glA o pn mn s p q zs) ∧ Fr B w w' := by
 have c0 := h.cell o (by omega)
 obtain ⟨z0, hz0⟩ : ∃ z, z = zs.getD o 0 := ⟨_, rfl⟩
 rw [← hz0] at c0
 have HZ0 := hideP hz0
 clear hz0
 have c1 := h.cell (o + 1 + pn) (by omega)
 obtain ⟨z1, hz1⟩ : ∃ z, z = zs.getD (o + 1 + pn) 0 := ⟨_, rfl⟩
 rw [← hz1] at c1
 have HZ1 := hideP hz1
 clear hz1
 have c2 := h.cell (o + 5 + mn) (by omega)
 obtain ⟨z2, hz2⟩ : ∃ z, z = zs.getD (o + 5 + mn) 0 := ⟨_, rfl⟩
 rw [← hz2] at c2
 have HZ2 := hideP hz2
 clear hz2
 have fz := h.free
 have hB := h.lt
 have hpi : (pn : Int) < 4 := by omega
 have hmi : (mn : Int) < 4 := by omega
 have e1 : ¬ o + 1 + pn = o := by omega
 have e2 : ¬ o = o + 1 + pn := by omega
 have e3 : ¬ o + 5 + mn = o := by omega
 have e4 : ¬ o = o + 5 + mn := by omega
 have e5 : ¬ o + 5 + mn = o + 1 + pn := by omega
 have e6 : ¬ o + 1 + pn = o + 5 + mn := by omega
 have HI := hideP h
 clear h
 simp only [glueV]
 go_enter Tryz.func77, Tryz.ntmps77
 go_wp2
 go_region
 go_wp2
 go_region
 go_wp2
 go_region
 go_wp2
 go_end0
 refine ⟨⟨_, rfl⟩, ?_, ?_⟩
 ·have HI2 := HI.out
  unfold glA
  rw [← HZ0.out, ← HZ1.out, ← HZ2.out]
  repeat (first | with_reducible exact HI2 | with_reducible refine IntsL.set ?_ _ _ | with_reducible refine IntsL.alloc ?_ _ | with_reducible refine IntsL.drew ?_)
 ·repeat (first | with_reducible exact Fr.refl _ _ | with_reducible refine Fr.set ?_ _ _ | with_reducible refine Fr.alloc ?_ _ | with_reducible refine Fr.drew ?_)
end Go.Proofs.YtlohbaoigfaneaaGreat
