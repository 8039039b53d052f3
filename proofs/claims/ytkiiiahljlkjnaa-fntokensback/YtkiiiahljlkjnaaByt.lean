/-
  The reader's iterator over the bytes of a text: what it does for whatever loop ranges over it.
-/
import Derived.RangeFuncNested
import Derived.RangeFuncBound
import Derived.RangeFuncCalls
import Derived.RangeFuncLeaves
import Derived.Shelf.Abstract
import Derived.Shelf.RegionOpen
import Derived.WalkKit
import Derived.OwnWalkIn
import Derived.TacticsInMore
import Derived.LoopNIn
import Derived.LoopIn
import Derived.ScopeJumps
import Derived.Test.YtkiiiahljlkjnaaNro
namespace Go.Proofs.Ytkiiiahljlkjnaa
open Go.RowKit Go.Shelf
set_option linter.unusedVariables false
set_option linter.unusedSimpArgs false
attribute [local go_sem] Oper.semAt_some

section
variable {w : World} {g t lo : Nat} {zs : List Int} {s : ByteArray} {a st : Int}
theorem Rdr.ne (h : Rdr w g t lo zs s a st) : t ≠ g := by
  rintro rfl
  have h1 := h.rd
  rw [show w.heap[t]? = _ from h.tb] at h1
  have h2 := Option.some.inj h1
  injection h2 with _ h3
  cases h3
theorem Rdr.inn (h : Rdr w g t lo zs s a st) : g < w.heap.size := (Array.getElem?_eq_some_iff.1 h.rd).1
theorem Rdr.c0 (h : Rdr w g t lo zs s a st) : w.cell? ⟨g, 0, none⟩ = some (.func (.func 41) #[.pointer (some ⟨t, 0, none⟩)] #[]) := by simp [World.cell?, h.rd]
theorem Rdr.c1 (h : Rdr w g t lo zs s a st) : w.cell? ⟨g, 1, none⟩ = some (.string s) := by simp [World.cell?, h.rd]
theorem Rdr.c2 (h : Rdr w g t lo zs s a st) : w.cell? ⟨g, 2, none⟩ = some (.int .i64 a) := by simp [World.cell?, h.rd]
theorem Rdr.c3 (h : Rdr w g t lo zs s a st) : w.cell? ⟨g, 3, none⟩ = some (.int .i64 st) := by simp [World.cell?, h.rd]
theorem Rdr.free (h : Rdr w g t lo zs s a st) (j : Nat) : w.frozen? ⟨g, j, none⟩ = false := frozen_of_row w g j _ _ h.rd
theorem Rdr.setAt (h : Rdr w g t lo zs s a st) (b : Int) : Rdr (w.setCell ⟨g, 2, none⟩ (.int .i64 b)) g t lo zs s b st := by
  refine ⟨?_, h.tb.other h.ne _ _, h.lg, h.lt⟩
  rw [heap_setCell_same w g 2 _ _ _ h.rd]
  rfl
theorem Rdr.setSt (h : Rdr w g t lo zs s a st) (b : Int) : Rdr (w.setCell ⟨g, 3, none⟩ (.int .i64 b)) g t lo zs s a b := by
  refine ⟨?_, h.tb.other h.ne _ _, h.lg, h.lt⟩
  rw [heap_setCell_same w g 3 _ _ _ h.rd]
  rfl
theorem Rdr.drew (h : Rdr w g t lo zs s a st) : Rdr w.drew g t lo zs s a st := ⟨h.rd, h.tb, h.lg, h.lt⟩
theorem Rdr.heap {w' : World} (h : Rdr w g t lo zs s a st) (h1 : w'.heap[g]? = w.heap[g]?) (h2 : w'.heap[t]? = w.heap[t]?) : Rdr w' g t lo zs s a st := ⟨h1.trans h.rd, h2.trans h.tb, h.lg, h.lt⟩
theorem Rdr.below {w' : World} (h : Rdr w g t lo zs s a st) (hb : Below w.heap.size w w') : Rdr w' g t lo zs s a st := h.heap (hb.block _ (Array.getElem?_eq_some_iff.1 h.rd).1) (hb.block _ h.tb.lt)
/-- It stands whatever block that is no cells is turned. -/
theorem Rdr.kept {w' : World} {row : Option Nat} (h : Rdr w g t lo zs s a st) (hg : w.grownBy w' row) (hr : ∀ r, row = some r → ∃ o : Obj, w.heap[r]? = some o ∧ o.isCells = false) : Rdr w' g t lo zs s a st := by
  refine h.heap (hg.block _ (Array.getElem?_eq_some_iff.1 h.rd).1 (fun e => ?_)) (hg.block _ h.tb.lt (fun e => ?_))
  · obtain ⟨o, ho, hc⟩ := hr g e.symm
    rw [h.rd] at ho
    cases ho
    cases hc
  · obtain ⟨o, ho, hc⟩ := hr t e.symm
    rw [show w.heap[t]? = _ from h.tb] at ho
    cases ho
    cases hc
end

set_option maxRecDepth 100000 in
set_option maxHeartbeats 4000000 in
theorem bytes1_in (n l : Nat) (hn : 1 ≤ n) (g t Bs lo : Nat) (zs : List Int) (s : ByteArray) (hz : zs.length = 256) (hs : s.size ≤ 65536) (A Ay : Nat → World → Prop) (Jx : World → Prop)
    (hA : ∀ p W, A p W → p ≤ s.size ∧ W.cell? ⟨Bs, 0, none⟩ = some (.pointer (some ⟨g, 0, none⟩)) ∧ ∃ st, Rdr W g t lo zs s (p : Int) st)
    (hD : ∀ p W, A p W → A p W.drew)
    (hS : ∀ p W, A p W → p < s.size → Ay p (W.setCell ⟨g, 2, none⟩ (.int .i64 ((p : Int) + 1))))
    (hY : ∀ p W1, Ay p W1 → p < s.size → YieldAt Fence.wide (n - 1) Try.prog l #[.int .i64 (catAt zs s p), .int .u8 (byteAt s p : Int)] W1 fun e W' => (e = .returned (.bool true) ∧ A (p + 1) W') ∨ (e = .returned (.bool false) ∧ Jx W'))
    (p0 : Nat) (W : World) (h0 : A p0 W) :
    CallsIn Fence.wide n Try.prog 52 #[.func (.yield l) #[] #[], .pointer (some ⟨Bs, 0, none⟩)] W fun e W' => (∃ v, e = .returned v) ∧ ((∃ p, ¬ p < s.size ∧ A p W') ∨ Jx W') := by
  refine callsIn_of_wp Try.func52 rfl trivial ?_ rfl
  simp only [Try.ntmps52, List.size_toArray, List.length_cons, List.length_nil, Nat.reduceAdd, Nat.reduceSub, Array.replicate_succ, Array.replicate_zero, List.push_toArray, List.append_toArray, List.nil_append, List.cons_append]
  gi_wp2
  gi_loopw [] (fun wr => ∃ p, Hid (A p wr)) (fun wr => s.size - (intOf ((wr.cell? ⟨g, 2, none⟩).getD undef)).toNat)
  case atStart => exact ⟨p0, h0⟩
  case round =>
    obtain ⟨p, HA⟩ := hrel
    obtain ⟨hp, hbx, st, hR⟩ := hA p wr HA.out
    have c0 := hR.c0
    have c1 := hR.c1
    have c2 := hR.c2
    have hfr := hR.free 2
    have HR := hideP hR
    clear hR
    by_cases hil : p < s.size
    · have hii : (p : Int) < (s.size : Int) := by omega
      gi_wp2
      refine wpIn_wide.2 ?_
      go_region
      gi_wp2
      refine wpIn_wide.2 ?_
      go_region
      have hbb : ((s[p]'hil).toNat : Int) = (byteAt s p : Int) := by rw [byteAt_get s p hil]
      have AY : Hid (Ay p (wr.setCell ⟨g, 2, none⟩ (.int .i64 ((p : Int) + 1))).drew.drew) := hideP (hS p wr.drew.drew (hD _ _ (hD _ _ HA.out)) hil)
      have TB : Hid (Blk (wr.setCell ⟨g, 2, none⟩ (.int .i64 ((p : Int) + 1))).drew.drew t zs) := hideP (HR.out.setAt _).tb
      have TC := hideP (cat_any TB.out hz (byteAt_le s p))
      have HY := hideP (hY p _ AY.out hil)
      unfold catAt at HY
      obtain ⟨c, hc⟩ : ∃ c, c = zs.getD (byteAt s p) 0 := ⟨_, rfl⟩
      rw [← hc] at TC HY
      clear hc
      gi_wp2_with fail
      rw [hbb]
      refine ⟨trivial, CallsIn.mono (callsIn_wide.2 TC.out) ?_⟩
      rintro e w1 ⟨rfl, rfl⟩
      obtain ⟨fn, tmps, assign, body, hyl, hRR⟩ := HY.out
      have HRR := hideP hRR
      clear hRR
      gi_wp2_with fail
      refine HRR.out.mono ?_
      rintro e W3 (⟨rfl, hA3⟩ | ⟨rfl, hJ3⟩)
      · obtain ⟨_, _, st3, hR3⟩ := hA (p + 1) W3 hA3
        have h23 := hR3.c2
        have HA3 := hideP hA3
        have M : Hid (s.size - (intOf ((W3.cell? ⟨g, 2, none⟩).getD undef)).toNat < s.size - (intOf ((wr.cell? ⟨g, 2, none⟩).getD undef)).toNat) := hideP (by
          rw [h23, c2]
          simp only [Option.getD_some, intOf]
          omega)
        clear hR3 hA3 h23
        gi_wp2
        go_roundw
        case rel => exact ⟨p + 1, HA3⟩
        case measure => exact M.out
      · gi_wp2
        refine bodyPost_ret (results_none rfl _ _ _) rfl ?_
        exact ⟨⟨_, rfl⟩, .inr hJ3⟩
    · have hii : ¬ (p : Int) < (s.size : Int) := by omega
      have hij : decide ((p : Int) < (s.size : Int)) = false := by simp; omega
      gi_wp2
      refine wpIn_wide.2 ?_
      go_region
      gi_wp2
      go_end0
      exact ⟨⟨_, rfl⟩, .inl ⟨p, hil, hD _ _ HA.out⟩⟩
end Go.Proofs.Ytkiiiahljlkjnaa
