import Derived.Test.YtojoehdmjkgnnaaGreatBun
import Derived.Lib.AppendZerosOnto
import Derived.Laws.AppendOwnNone
namespace Go.Proofs.YtojoehdmjkgnnaaGreat
open Go.RowKit
set_option linter.unusedVariables false
set_option linter.unusedSimpArgs false
theorem siz_take {gs : List Shr.Gl} {j : Nat} (h : j < gs.length) : Shr.siz (gs.take (j + 1)) = Shr.siz (gs.take j) + (gs.getD j Shr.Gl.none).s := by
 unfold Shr.siz
 rw [List.take_succ_eq_append_getElem h, List.map_append, List.sum_append]
 simp [List.getD, List.getElem?_eq_getElem h]
theorem siz_le {gs : List Shr.Gl} (hg : ∀ x ∈ gs, -1073741823 ≤ x.s ∧ x.s ≤ 1073741823) : -(1073741823 * (gs.length : Int)) ≤ Shr.siz gs ∧ Shr.siz gs ≤ 1073741823 * (gs.length : Int) := by
 induction gs with
 | nil => simp [Shr.siz]
 | cons x gs ih =>
  have h1 := ih (fun y hy => hg y (List.mem_cons_of_mem _ hy))
  have h2 := hg x (List.mem_cons_self ..)
  have e : Shr.siz (x :: gs) = x.s + Shr.siz gs := by simp [Shr.siz]
  rw [e, List.length_cons]
  push_cast
  omega
theorem siz_bound {gs : List Shr.Gl} (hg : ∀ x ∈ gs, -1073741823 ≤ x.s ∧ x.s ≤ 1073741823) (hn : gs.length ≤ 20001) (j : Nat) : -21476983091871 ≤ Shr.siz (gs.take j) ∧ Shr.siz (gs.take j) ≤ 21476983091871 := by
 have h := siz_le (gs := gs.take j) (fun x hx => hg x (List.mem_of_mem_take hx))
 have h2 : (gs.take j).length ≤ 20001 := by rw [List.length_take]; omega
 omega
set_option maxRecDepth 20000 in
set_option maxHeartbeats 4000000 in
theorem wanted_any {w : World} {R : Nat} {k wd h d len : Int} {g p : Value} {gs : List Shr.Gl} (mode size : Int) (B : Bun w R k wd h d len g p) (hg : Shr.GRow w g gs) (hgs : ∀ x ∈ gs, -1073741823 ≤ x.s ∧ x.s ≤ 1073741823) (hn : gs.length ≤ 20001)
 (hl : -1073741823000000 ≤ len ∧ len ≤ 1073741823000000) (hsz : -1073741823 ≤ size ∧ size ≤ 1073741823) :
 Calls Tryz.prog 81 #[.pointer (some ⟨R, 0, none⟩), .int .i64 mode, .int .i64 size] w fun e w' => e = .returned (.int .i64 (Shr.alongI len gs mode size)) ∧ Below w.heap.size w w' := by
 obtain ⟨b0, b1, b2, b3, b4, b5, b6, b7, b8⟩ := B.cells
 have hR := B.lt
 obtain ⟨ga, m, gc, rfl, hgl, hgr⟩ := hg
 have HSB : Hid (∀ j, -21476983091871 ≤ Shr.siz (gs.take j) ∧ Shr.siz (gs.take j) ≤ 21476983091871) := hideP (siz_bound hgs hn)
 have HGR := hideP hgr
 have HGL := hideP hgl
 have HB := hideP B
 have hm : m ≤ 20001 := by omega
 have HBN := hideP hl
 have HSZ := hideP hsz
 clear hgr hgl B hgs hl hsz hn
 by_cases h1 : mode = 1
 ·subst h1
  go_enter Tryz.func81, Tryz.ntmps81
  go_wp2
  go_ret
  exact ⟨rfl, Below.refl _ _⟩
 ·have h1' : (mode == 1) = false := by simpa using h1
  have HR2 : Hid (Shr.alongI len gs mode size = if mode = 2 then len + Shr.siz gs + size else len + Shr.siz gs) := hideP (by unfold Shr.alongI; rw [if_neg h1])
  go_enter Tryz.func81, Tryz.ntmps81
  go_wp2_with fail
  go_loopw [7, 22] (fun x i wr => ∃ j : Nat, j ≤ m ∧ i = .int .i64 j ∧ x = .int .i64 (len + Shr.siz (gs.take j)) ∧ Below w.heap.size w wr) (fun _ i _ => m - (intOf i).toNat)
  case atStart => exact ⟨0, by omega, rfl, by simp [Shr.siz], Below.refl _ _⟩
  case round =>
   obtain ⟨j, hj, rfl, rfl, hb⟩ := hrel
   have HBB := hideP hb
   by_cases hjm : j < m
   ·have hji : (j : Int) < (m : Int) := by omega
    obtain ⟨gb, off, rfl, hgb, hc⟩ := HGR.out (by omega)
    have hcc := hc j hjm
    obtain ⟨q0, q1, q2, q3, q4⟩ := hcc
    have k0 := (hb.cell (p := ⟨gb, off + j * 5, none⟩) hgb).trans q0
    have k1 := (hb.cell (p := ⟨gb, off + j * 5 + 1, none⟩) hgb).trans q1
    have k2 := (hb.cell (p := ⟨gb, off + j * 5 + 2, none⟩) hgb).trans q2
    have k3 := (hb.cell (p := ⟨gb, off + j * 5 + 3, none⟩) hgb).trans q3
    have k4 := (hb.cell (p := ⟨gb, off + j * 5 + 4, none⟩) hgb).trans q4
    have hst : Shr.siz (gs.take (j + 1)) = Shr.siz (gs.take j) + (gs.getD j Shr.Gl.none).s := siz_take (by rw [HGL.out]; exact hjm)
    have hx1 := HSB.out (j + 1)
    obtain ⟨z, hz⟩ := exq (len + Shr.siz (gs.take j))
    rw [← hz]
    have HZ : Hid (z + (gs.getD j Shr.Gl.none).s = len + Shr.siz (gs.take (j + 1))) := hideP (by rw [hst, hz]; omega)
    have hzb : -9000000000000000000 ≤ z + (gs.getD j Shr.Gl.none).s ∧ z + (gs.getD j Shr.Gl.none).s ≤ 9000000000000000000 := by rw [HZ.out]; have := HBN.out; omega
    obtain ⟨⟨y0, y1, y2, y3, y4⟩, hy⟩ : ∃ y : Shr.Gl, y = gs.getD j Shr.Gl.none := ⟨_, rfl⟩
    rw [← hy] at k0 k1 k2 k3 k4 HZ hzb
    simp only at k0 k1 k2 k3 k4 hzb
    clear hc q0 q1 q2 q3 q4 hst hx1 hz hy hb
    go_wp2
    go_roundw
    case rel => exact ⟨j + 1, by omega, by go_num, by rw [← HZ.out], HBB.out.alloc HBB.out.size _⟩
    case measure => simp [intOf]; omega
   ·have hji : ¬ (j : Int) < (m : Int) := by omega
    obtain rfl : j = m := by omega
    have HT : Hid (len + Shr.siz (gs.take j) = len + Shr.siz gs) := hideP (by rw [← HGL.out, List.take_length])
    have hx1 := HSB.out j
    obtain ⟨z, hz⟩ := exq (len + Shr.siz (gs.take j))
    rw [← hz] at HT ⊢
    have hzb : -9000000000000000000 ≤ z + size ∧ z + size ≤ 9000000000000000000 := by rw [hz]; have := HBN.out; have := HSZ.out; omega
    clear hz hx1 hb
    by_cases h2 : mode = 2
    ·subst h2
     have HRA : Hid (Shr.alongI len gs 2 size = z + size) := hideP (by rw [HR2.out, if_pos rfl, ← HT.out])
     clear HR2
     go_wp2
     go_ret
     refine ⟨?_, HBB.out⟩
     rw [HRA.out]
     rfl
    ·have h2' : (mode == 2) = false := by simpa using h2
     have HRA : Hid (Shr.alongI len gs mode size = z) := hideP (by rw [HR2.out, if_neg h2, ← HT.out])
     clear HR2
     go_wp2
     go_ret
     refine ⟨?_, HBB.out⟩
     rw [HRA.out]
     rfl
abbrev ndO (x : Nd) : Obj := .cells #[.int .i64 x.k, .int .i64 x.wd, .int .i64 x.ht, .int .i64 x.dp, .int .i64 x.sh, .int .i64 x.fo, .int .i64 x.ch, .int .i64 x.nn, .int .i64 x.gs, .int .i64 x.gp, .int .i64 x.gpo, .int .i64 x.gm, .int .i64 x.gmo, .string x.tx, .int .i64 x.kids] 36 (0, 0)
abbrev fif (w : World) (R : Nat) (k wd ht dp sh fo ch nn gs gp gpo gm gmo : Int) (tx : ByteArray) (kids : Int) : World := (((((((((((((((w.setCell ⟨R, 0, none⟩ (.int .i64 k)).setCell ⟨R, 1, none⟩ (.int .i64 wd)).setCell ⟨R, 2, none⟩ (.int .i64 ht)).setCell ⟨R, 3, none⟩ (.int .i64 dp)).setCell ⟨R, 4, none⟩ (.int .i64 sh)).setCell ⟨R, 5, none⟩ (.int .i64 fo)).setCell ⟨R, 6, none⟩ (.int .i64 ch)).setCell ⟨R, 7, none⟩ (.int .i64 nn)).setCell ⟨R, 8, none⟩ (.int .i64 gs)).setCell ⟨R, 9, none⟩ (.int .i64 gp)).setCell ⟨R, 10, none⟩ (.int .i64 gpo)).setCell ⟨R, 11, none⟩ (.int .i64 gm)).setCell ⟨R, 12, none⟩ (.int .i64 gmo)).setCell ⟨R, 13, none⟩ (.string tx)).setCell ⟨R, 14, none⟩ (.int .i64 kids))
theorem fif_heap {w : World} {R : Nat} {y : Nd} (h : w.heap[R]? = some (ndO y)) (k wd ht dp sh fo ch nn gs gp gpo gm gmo : Int) (tx : ByteArray) (kids : Int) : (fif w R k wd ht dp sh fo ch nn gs gp gpo gm gmo tx kids).heap[R]? = some (ndO ⟨k, wd, ht, dp, sh, fo, ch, nn, gs, gp, gpo, gm, gmo, tx, kids⟩) := by
 obtain ⟨w0, e0⟩ := exq (w.setCell ⟨R, 0, none⟩ (.int .i64 k))
 have h0 : w0.heap[R]? = some (.cells #[.int .i64 k, .int .i64 y.wd, .int .i64 y.ht, .int .i64 y.dp, .int .i64 y.sh, .int .i64 y.fo, .int .i64 y.ch, .int .i64 y.nn, .int .i64 y.gs, .int .i64 y.gp, .int .i64 y.gpo, .int .i64 y.gm, .int .i64 y.gmo, .string y.tx, .int .i64 y.kids] 36 (0, 0)) := by rw [e0]; exact heap_setCell_same _ R 0 _ 36 _ h
 obtain ⟨w1, e1⟩ := exq (w0.setCell ⟨R, 1, none⟩ (.int .i64 wd))
 have h1 : w1.heap[R]? = some (.cells #[.int .i64 k, .int .i64 wd, .int .i64 y.ht, .int .i64 y.dp, .int .i64 y.sh, .int .i64 y.fo, .int .i64 y.ch, .int .i64 y.nn, .int .i64 y.gs, .int .i64 y.gp, .int .i64 y.gpo, .int .i64 y.gm, .int .i64 y.gmo, .string y.tx, .int .i64 y.kids] 36 (0, 0)) := by rw [e1]; exact heap_setCell_same _ R 1 _ 36 _ h0
 obtain ⟨w2, e2⟩ := exq (w1.setCell ⟨R, 2, none⟩ (.int .i64 ht))
 have h2 : w2.heap[R]? = some (.cells #[.int .i64 k, .int .i64 wd, .int .i64 ht, .int .i64 y.dp, .int .i64 y.sh, .int .i64 y.fo, .int .i64 y.ch, .int .i64 y.nn, .int .i64 y.gs, .int .i64 y.gp, .int .i64 y.gpo, .int .i64 y.gm, .int .i64 y.gmo, .string y.tx, .int .i64 y.kids] 36 (0, 0)) := by rw [e2]; exact heap_setCell_same _ R 2 _ 36 _ h1
 obtain ⟨w3, e3⟩ := exq (w2.setCell ⟨R, 3, none⟩ (.int .i64 dp))
 have h3 : w3.heap[R]? = some (.cells #[.int .i64 k, .int .i64 wd, .int .i64 ht, .int .i64 dp, .int .i64 y.sh, .int .i64 y.fo, .int .i64 y.ch, .int .i64 y.nn, .int .i64 y.gs, .int .i64 y.gp, .int .i64 y.gpo, .int .i64 y.gm, .int .i64 y.gmo, .string y.tx, .int .i64 y.kids] 36 (0, 0)) := by rw [e3]; exact heap_setCell_same _ R 3 _ 36 _ h2
 obtain ⟨w4, e4⟩ := exq (w3.setCell ⟨R, 4, none⟩ (.int .i64 sh))
 have h4 : w4.heap[R]? = some (.cells #[.int .i64 k, .int .i64 wd, .int .i64 ht, .int .i64 dp, .int .i64 sh, .int .i64 y.fo, .int .i64 y.ch, .int .i64 y.nn, .int .i64 y.gs, .int .i64 y.gp, .int .i64 y.gpo, .int .i64 y.gm, .int .i64 y.gmo, .string y.tx, .int .i64 y.kids] 36 (0, 0)) := by rw [e4]; exact heap_setCell_same _ R 4 _ 36 _ h3
 obtain ⟨w5, e5⟩ := exq (w4.setCell ⟨R, 5, none⟩ (.int .i64 fo))
 have h5 : w5.heap[R]? = some (.cells #[.int .i64 k, .int .i64 wd, .int .i64 ht, .int .i64 dp, .int .i64 sh, .int .i64 fo, .int .i64 y.ch, .int .i64 y.nn, .int .i64 y.gs, .int .i64 y.gp, .int .i64 y.gpo, .int .i64 y.gm, .int .i64 y.gmo, .string y.tx, .int .i64 y.kids] 36 (0, 0)) := by rw [e5]; exact heap_setCell_same _ R 5 _ 36 _ h4
 obtain ⟨w6, e6⟩ := exq (w5.setCell ⟨R, 6, none⟩ (.int .i64 ch))
 have h6 : w6.heap[R]? = some (.cells #[.int .i64 k, .int .i64 wd, .int .i64 ht, .int .i64 dp, .int .i64 sh, .int .i64 fo, .int .i64 ch, .int .i64 y.nn, .int .i64 y.gs, .int .i64 y.gp, .int .i64 y.gpo, .int .i64 y.gm, .int .i64 y.gmo, .string y.tx, .int .i64 y.kids] 36 (0, 0)) := by rw [e6]; exact heap_setCell_same _ R 6 _ 36 _ h5
 obtain ⟨w7, e7⟩ := exq (w6.setCell ⟨R, 7, none⟩ (.int .i64 nn))
 have h7 : w7.heap[R]? = some (.cells #[.int .i64 k, .int .i64 wd, .int .i64 ht, .int .i64 dp, .int .i64 sh, .int .i64 fo, .int .i64 ch, .int .i64 nn, .int .i64 y.gs, .int .i64 y.gp, .int .i64 y.gpo, .int .i64 y.gm, .int .i64 y.gmo, .string y.tx, .int .i64 y.kids] 36 (0, 0)) := by rw [e7]; exact heap_setCell_same _ R 7 _ 36 _ h6
 obtain ⟨w8, e8⟩ := exq (w7.setCell ⟨R, 8, none⟩ (.int .i64 gs))
 have h8 : w8.heap[R]? = some (.cells #[.int .i64 k, .int .i64 wd, .int .i64 ht, .int .i64 dp, .int .i64 sh, .int .i64 fo, .int .i64 ch, .int .i64 nn, .int .i64 gs, .int .i64 y.gp, .int .i64 y.gpo, .int .i64 y.gm, .int .i64 y.gmo, .string y.tx, .int .i64 y.kids] 36 (0, 0)) := by rw [e8]; exact heap_setCell_same _ R 8 _ 36 _ h7
 obtain ⟨w9, e9⟩ := exq (w8.setCell ⟨R, 9, none⟩ (.int .i64 gp))
 have h9 : w9.heap[R]? = some (.cells #[.int .i64 k, .int .i64 wd, .int .i64 ht, .int .i64 dp, .int .i64 sh, .int .i64 fo, .int .i64 ch, .int .i64 nn, .int .i64 gs, .int .i64 gp, .int .i64 y.gpo, .int .i64 y.gm, .int .i64 y.gmo, .string y.tx, .int .i64 y.kids] 36 (0, 0)) := by rw [e9]; exact heap_setCell_same _ R 9 _ 36 _ h8
 obtain ⟨w10, e10⟩ := exq (w9.setCell ⟨R, 10, none⟩ (.int .i64 gpo))
 have h10 : w10.heap[R]? = some (.cells #[.int .i64 k, .int .i64 wd, .int .i64 ht, .int .i64 dp, .int .i64 sh, .int .i64 fo, .int .i64 ch, .int .i64 nn, .int .i64 gs, .int .i64 gp, .int .i64 gpo, .int .i64 y.gm, .int .i64 y.gmo, .string y.tx, .int .i64 y.kids] 36 (0, 0)) := by rw [e10]; exact heap_setCell_same _ R 10 _ 36 _ h9
 obtain ⟨w11, e11⟩ := exq (w10.setCell ⟨R, 11, none⟩ (.int .i64 gm))
 have h11 : w11.heap[R]? = some (.cells #[.int .i64 k, .int .i64 wd, .int .i64 ht, .int .i64 dp, .int .i64 sh, .int .i64 fo, .int .i64 ch, .int .i64 nn, .int .i64 gs, .int .i64 gp, .int .i64 gpo, .int .i64 gm, .int .i64 y.gmo, .string y.tx, .int .i64 y.kids] 36 (0, 0)) := by rw [e11]; exact heap_setCell_same _ R 11 _ 36 _ h10
 obtain ⟨w12, e12⟩ := exq (w11.setCell ⟨R, 12, none⟩ (.int .i64 gmo))
 have h12 : w12.heap[R]? = some (.cells #[.int .i64 k, .int .i64 wd, .int .i64 ht, .int .i64 dp, .int .i64 sh, .int .i64 fo, .int .i64 ch, .int .i64 nn, .int .i64 gs, .int .i64 gp, .int .i64 gpo, .int .i64 gm, .int .i64 gmo, .string y.tx, .int .i64 y.kids] 36 (0, 0)) := by rw [e12]; exact heap_setCell_same _ R 12 _ 36 _ h11
 obtain ⟨w13, e13⟩ := exq (w12.setCell ⟨R, 13, none⟩ (.string tx))
 have h13 : w13.heap[R]? = some (.cells #[.int .i64 k, .int .i64 wd, .int .i64 ht, .int .i64 dp, .int .i64 sh, .int .i64 fo, .int .i64 ch, .int .i64 nn, .int .i64 gs, .int .i64 gp, .int .i64 gpo, .int .i64 gm, .int .i64 gmo, .string tx, .int .i64 y.kids] 36 (0, 0)) := by rw [e13]; exact heap_setCell_same _ R 13 _ 36 _ h12
 obtain ⟨w14, e14⟩ := exq (w13.setCell ⟨R, 14, none⟩ (.int .i64 kids))
 have h14 : w14.heap[R]? = some (.cells #[.int .i64 k, .int .i64 wd, .int .i64 ht, .int .i64 dp, .int .i64 sh, .int .i64 fo, .int .i64 ch, .int .i64 nn, .int .i64 gs, .int .i64 gp, .int .i64 gpo, .int .i64 gm, .int .i64 gmo, .string tx, .int .i64 kids] 36 (0, 0)) := by rw [e14]; exact heap_setCell_same _ R 14 _ 36 _ h13
 have e : fif w R k wd ht dp sh fo ch nn gs gp gpo gm gmo tx kids = w14 := by rw [e14, e13, e12, e11, e10, e9, e8, e7, e6, e5, e4, e3, e2, e1, e0]
 rw [e]
 exact h14
theorem fif_below {B : Nat} {w W : World} {R : Nat} (h : Below B w W) (hR : B ≤ R) (k wd ht dp sh fo ch nn gs gp gpo gm gmo : Int) (tx : ByteArray) (kids : Int) : Below B w (fif W R k wd ht dp sh fo ch nn gs gp gpo gm gmo tx kids) := by
 repeat (first | with_reducible exact h | (with_reducible refine Below.setCell ?_ ?_ _; rotate_left; focus exact hR))
theorem loadNd {w : World} {R : Nat} {x : Nd} (h : w.heap[R]? = some (ndO x)) : (loadVar 36 ⟨R, 0, none⟩).run Tryz.prog w = .ok (ndV x) w :=
 run_loadVar_row _ _ 36 36 _ (0, 0) _ h Tryz.underlying36 rfl (by kernel_rfl)
theorem nd_cells {W : World} {R : Nat} {x : Nd} (h : W.heap[R]? = some (ndO x)) : W.cell? ⟨R, 0, none⟩ = some (.int .i64 x.k) ∧ W.cell? ⟨R, 1, none⟩ = some (.int .i64 x.wd) ∧ W.cell? ⟨R, 2, none⟩ = some (.int .i64 x.ht) ∧ W.cell? ⟨R, 3, none⟩ = some (.int .i64 x.dp) ∧ W.cell? ⟨R, 4, none⟩ = some (.int .i64 x.sh) ∧ W.cell? ⟨R, 5, none⟩ = some (.int .i64 x.fo) ∧ W.cell? ⟨R, 6, none⟩ = some (.int .i64 x.ch) ∧ W.cell? ⟨R, 7, none⟩ = some (.int .i64 x.nn) ∧ W.cell? ⟨R, 8, none⟩ = some (.int .i64 x.gs) ∧ W.cell? ⟨R, 9, none⟩ = some (.int .i64 x.gp) ∧ W.cell? ⟨R, 10, none⟩ = some (.int .i64 x.gpo) ∧ W.cell? ⟨R, 11, none⟩ = some (.int .i64 x.gm) ∧ W.cell? ⟨R, 12, none⟩ = some (.int .i64 x.gmo) ∧ W.cell? ⟨R, 13, none⟩ = some (.string x.tx) ∧ W.cell? ⟨R, 14, none⟩ = some (.int .i64 x.kids) :=
 ⟨cell_of_row W R 0 _ 36 _ h, cell_of_row W R 1 _ 36 _ h, cell_of_row W R 2 _ 36 _ h, cell_of_row W R 3 _ 36 _ h, cell_of_row W R 4 _ 36 _ h, cell_of_row W R 5 _ 36 _ h, cell_of_row W R 6 _ 36 _ h, cell_of_row W R 7 _ 36 _ h, cell_of_row W R 8 _ 36 _ h, cell_of_row W R 9 _ 36 _ h, cell_of_row W R 10 _ 36 _ h, cell_of_row W R 11 _ 36 _ h, cell_of_row W R 12 _ 36 _ h, cell_of_row W R 13 _ 36 _ h, cell_of_row W R 14 _ 36 _ h⟩
set_option maxRecDepth 20000 in
set_option maxHeartbeats 4000000 in
theorem around_any {w : World} {R : Nat} {wd h d len : Int} {g p : Value} (length : Int) (kids : Nat) (B : Bun w R 6 wd h d len g p) :
 Calls Tryz.prog 84 #[.pointer (some ⟨R, 0, none⟩), .int .i64 length, .int .i64 (kids : Int)] w fun e w' => e = .returned (ndV (boxN 6 length h d kids)) ∧ Below w.heap.size w w' := by
 obtain ⟨b0, b1, b2, b3, b4, b5, b6, b7, b8⟩ := B.cells
 have hR := B.lt
 go_enter Tryz.func84, Tryz.ntmps84
 go_wp2_with fail
 refine (node_box 6 length h d 0 kids _).mono ?_
 rintro e w1 ⟨rfl, hb1⟩
 have hbx : w1.heap[w.heap.size]? = some (ndO Nd.none) := by
  refine (hb1.block _ (by simp; omega)).trans ?_
  exact (Below.heap_alloc _ _ _ (by simp)).trans (heap_alloc_new w _)
 have HBB : Hid (Below w.heap.size w w1) := hideP (below_more (below2 w _ _) hb1 (by simp; omega))
 have HF : Hid ((fif w1 w.heap.size 6 length h d 0 0 0 0 0 0 0 0 0 ⟨#[]⟩ (kids : Int)).heap[w.heap.size]? = some (ndO ⟨6, length, h, d, 0, 0, 0, 0, 0, 0, 0, 0, 0, ⟨#[]⟩, (kids : Int)⟩) ∧ Below w.heap.size w (fif w1 w.heap.size 6 length h d 0 0 0 0 0 0 0 0 0 ⟨#[]⟩ (kids : Int))) := hideP ⟨fif_heap hbx _ _ _ _ _ _ _ _ _ _ _ _ _ _ _, fif_below HBB.out (Nat.le_refl _) _ _ _ _ _ _ _ _ _ _ _ _ _ _ _⟩
 obtain ⟨c0, c1, c2, c3, c4, c5, c6, c7, c8, c9, c10, c11, c12, c13, c14⟩ := nd_cells hbx
 have fR : ∀ j, w1.frozen? ⟨w.heap.size, j, none⟩ = false := fun j => frozen_of_row w1 w.heap.size j _ _ hbx
 clear hb1 hbx b0 b1 b2 b3 b4 b5 b6 b7 b8
 go_wp2
 exact bodyPost_ret (v := ndV ⟨6, length, h, d, 0, 0, 0, 0, 0, 0, 0, 0, 0, ⟨#[]⟩, (kids : Int)⟩) (results_one_cell rfl _ _ w.heap.size _ rfl (loadNd HF.out.1)) rfl ⟨rfl, HF.out.2⟩
set_option maxRecDepth 100000 in
set_option maxHeartbeats 4000000 in
theorem grow_any (n : Nat) (hn : n ≤ 40000) (h0 : 0 < n) (w : World) : Calls Tryz.prog 115 #[.slice none 0 0, .int .i64 (n : Int)] w fun e w' => ∃ v', e = .returned v' ∧ w'.ownsRow w.heap.size 36 15 v' 0 [] ∧ Below w.heap.size w w' := by
 obtain ⟨i0, hi, hz0, hz1, hz2⟩ := info_parts Tryz.info57c
 have hneg : ¬ (n : Int) < 0 := by omega
 have hpos : (0 : Int) < (n : Int) := by omega
 obtain ⟨G, hG⟩ := exq (grownCap w n 0 36)
 obtain ⟨C, hC⟩ := exq ((([] : List Value).toArray ++ Builtin.zeroCells (Value.cells (ndV Nd.none)) n ++ Builtin.zeroCells (Value.cells (ndV Nd.none)) (G - n)))
 have hrz : ∀ ty, (Builtin.append_ #[24, 3] ty #[.slice none 0 0, .int .i64 (n : Int)]).run Tryz.prog w = .ok (.slice (some ⟨w.heap.size, 0, none⟩) n G) (w.drew.alloc (.cells C 36)) := fun ty => by
  have h := Lib.run_append_grow_zeros w 24 3 ty 36 i0 _ .i64 .i64 Tryz.underlying24 Tryz.underlying3 hi hz0 none 0 0 [] (run_firstCells_none w.drew i0.size 0 0 0) n (by omega) (by rw [hz1]; decide) (by omega) (by omega) (by rw [hz2]; omega) (by rw [hz2]; exact growslice_fits (by omega) (by omega))
  rw [Nat.zero_add, ← hG, ← hC] at h
  exact h
 have hGn : n ≤ G := by rw [hG]; exact grownCap_ge w _ _ _
 have hG63 : G ≤ maxLen := by rw [hG]; exact grownCap_le_maxLen w n 0 36 (by unfold maxLen; omega)
 have hCs : C.size = G * 15 := by rw [hC]; simp [Builtin.zeroCells, Value.cells]; omega
 have HF : Hid (G ≤ maxLen ∧ C.size = G * 15) := ⟨hG63, hCs⟩
 have hG2 : G ≤ 9223372036854775807 := by unfold maxLen at hG63; omega
 clear hG hC hCs hG63
 go_enter Tryz.func115, Tryz.ntmps115
 go_wp2_with (at_builtin; refine Lib.wpList_append_run _ rfl _ _ _ _ rfl _ _ rfl rfl _ _ (hrz _) ?_)
 go_ret
 refine ⟨_, rfl, ?_, ?_⟩
 ·exact World.ownsRow_made w.drew C G (Nat.le_refl _) HF.1 HF.2
 ·exact ((Below.refl _ w).drew).alloc (Nat.le_refl _) _
def Put (w : World) (v : Value) (m : Nat) (L : List Value) : Prop := ∃ ao cap, v = .slice ao m cap ∧ L.length = m * 15 ∧ (∀ u ∈ L, u.oneCell' = true) ∧ ((ao = none ∧ m = 0 ∧ cap = 0) ∨ ∃ b off, ao = some ⟨b, off, none⟩ ∧ b < w.heap.size ∧ ∀ j u, L[j]? = some u → w.cell? ⟨b, off + j, none⟩ = some u)
theorem Put.below {w w' : World} {B : Nat} {v : Value} {m : Nat} {L : List Value} (h : Put w v m L) (hb : Below B w w') (hB : w.heap.size ≤ B) : Put w' v m L := by
 obtain ⟨ao, cap, rfl, h1, h2, h3⟩ := h
 refine ⟨ao, cap, rfl, h1, h2, ?_⟩
 rcases h3 with h3 | ⟨b, off, e, h4, h5⟩
 ·exact .inl h3
 ·exact .inr ⟨b, off, e, Nat.lt_of_lt_of_le h4 hb.size, fun j u hj => (hb.cell (p := ⟨b, off + j, none⟩) (Nat.lt_of_lt_of_le h4 hB)).trans (h5 j u hj)⟩
set_option maxRecDepth 100000 in
set_option maxHeartbeats 8000000 in
theorem concat_two {w : World} {A : Nat} {v1 v2 : Value} {m1 m2 : Nat} {L1 L2 : List Value} (c0 : w.cell? ⟨A, 0, none⟩ = some v1) (c1 : w.cell? ⟨A, 1, none⟩ = some v2) (h1 : Put w v1 m1 L1) (h2 : Put w v2 m2 L2) (hm : 0 < m1) (hm1 : m1 ≤ 20000) (hm2 : m2 ≤ 20000) :
 Calls Tryz.prog 83 #[.slice (some ⟨A, 0, none⟩) 2 2] w fun e w' => ∃ v', e = .returned v' ∧ w'.ownsRow w.heap.size 36 15 v' (m1 + m2) (L1 ++ L2) ∧ Below w.heap.size w w' := by
 obtain ⟨i0, hi, hz0, hz1, hz2⟩ := info_parts Tryz.info57c
 have hAw : A < w.heap.size := World.block_lt_of_cell? w _ c0
 obtain ⟨a1, cap1, rfl, hl1, hq1, hr1⟩ := h1
 obtain ⟨a2, cap2, rfl, hl2, hq2, hr2⟩ := h2
 obtain ⟨b1, o1, rfl, hb1, hc1⟩ : ∃ b off, a1 = some ⟨b, off, none⟩ ∧ b < w.heap.size ∧ ∀ j u, L1[j]? = some u → w.cell? ⟨b, off + j, none⟩ = some u := by
  rcases hr1 with ⟨_, h, _⟩ | h
  ·omega
  ·exact h
 have HL1 := hideP hl1
 have HL2 := hideP hl2
 have HO1 := hideP hq1
 have HO2' := hideP hq2
 have HC1 := hideP hc1
 have HR2 := hideP hr2
 have hs0 : ¬ (m1 : Int) < 0 := by omega
 have hs1 : ¬ (m1 : Int) + (m2 : Int) < 0 := by omega
 clear hl1 hl2 hq1 hq2 hr1 hr2 hc1
 go_enter Tryz.func83, Tryz.ntmps83
 go_wp2_with fail
 go_loopw [3, 11] (fun sz i wr => wr = w ∧ ((i = .int .i64 0 ∧ sz = .int .i64 0) ∨ (i = .int .i64 1 ∧ sz = .int .i64 (m1 : Int)) ∨ (i = .int .i64 2 ∧ sz = .int .i64 ((m1 + m2 : Nat) : Int)))) (fun _ i _ => 2 - (intOf i).toNat)
 case atStart => exact ⟨rfl, .inl ⟨rfl, rfl⟩⟩
 case round =>
  obtain ⟨hww, hrel⟩ := hrel
  have hww' := hww.symm
  subst hww'
  clear hww
  rcases hrel with ⟨rfl, rfl⟩ | ⟨rfl, rfl⟩ | ⟨rfl, rfl⟩
  ·go_wp2
   go_roundw
   case rel => exact ⟨by trivial, .inr (.inl ⟨by rfl, by go_num⟩)⟩
   case measure => simp [intOf]
  ·go_wp2
   go_roundw
   case rel => exact ⟨by trivial, .inr (.inr ⟨by rfl, by push_cast; go_num⟩)⟩
   case measure => simp [intOf]
  ·go_wp2_with (go_at_call 115; refine (grow_any (m1 + m2) (by omega) (by omega) _).mono ?_; rintro e w1 ⟨vg, rfl, ho1, hb1'⟩; obtain ⟨na, ncap, rfl⟩ := ownG_shape ho1; have HG1 : Hid (w1.ownsRow w.heap.size 36 15 (.slice na 0 ncap) 0 [] ∧ Below w.heap.size w w1) := hideP ⟨ho1, hb1'⟩; clear ho1 hb1')
   go_loopw [6, 27] (fun nv i wr => Below w.heap.size w wr ∧ ((i = .int .i64 0 ∧ wr.ownsRow w.heap.size 36 15 nv 0 []) ∨ (i = .int .i64 1 ∧ wr.ownsRow w.heap.size 36 15 nv m1 L1) ∨ (i = .int .i64 2 ∧ wr.ownsRow w.heap.size 36 15 nv (m1 + m2) (L1 ++ L2)))) (fun _ i _ => 2 - (intOf i).toNat)
   case atStart => exact ⟨HG1.out.2, .inl ⟨rfl, HG1.out.1⟩⟩
   case round =>
    obtain ⟨hbel, hrel⟩ := hrel
    have k0 : wr.cell? ⟨A, 0, none⟩ = some (.slice (some ⟨b1, o1, none⟩) m1 cap1) := (hbel.cell (p := ⟨A, 0, none⟩) hAw).trans c0
    have k1 : wr.cell? ⟨A, 1, none⟩ = some (.slice a2 m2 cap2) := (hbel.cell (p := ⟨A, 1, none⟩) hAw).trans c1
    have HBEL := hideP hbel
    clear hbel
    rcases hrel with ⟨rfl, hown⟩ | ⟨rfl, hown⟩ | ⟨rfl, hown⟩
    ·obtain ⟨na2, ncap2, rfl⟩ := ownG_shape hown
     have HOWN := hideP hown
     clear hown
     go_wp2_with (at_builtin; refine wpList_append_own _ rfl _ _ 24 rfl w.heap.size 36 i0 _ 15 128 Tryz.underlying24 hi hz0 hz1 hz2 rfl (by decide) _ _ _ rfl HOWN.out ⟨b1, o1, none⟩ m1 cap1 L1 rfl ?c1 ?c2 ?c3 ?c4 ?c5 ?c6 ?_)
     case c1 => exact HL1.out
     case c2 =>
      intro j u hj
      rw [Addr.add_lit]
      exact (Below.cell HBEL.out (p := ⟨b1, o1 + j, none⟩) hb1).trans (HC1.out j u hj)
     case c3 => exact HO1.out
     case c4 => unfold maxLen; omega
     case c5 => omega
     case c6 => exact Below.size HBEL.out
     intro v' w2 hown' hgrow hnil'
     have HB2 : Hid (Below w.heap.size w w2) := hideP (Below.grown HBEL.out hgrow (Below.size HBEL.out) (fun r hr => (World.ownsRow.lt HOWN.out r hr).1))
     obtain ⟨na3, ncap3, rfl⟩ := ownG_shape hown'
     have HO2 := hideP hown'
     clear hown' hgrow hnil'
     go_wp2
     go_roundw
     case rel => exact ⟨HB2.out, .inr (.inl ⟨by rfl, HO2.out⟩)⟩
     case measure => simp [intOf]
    ·obtain ⟨na2, ncap2, rfl⟩ := ownG_shape hown
     have HOWN := hideP hown
     clear hown
     rcases HR2.out with ⟨rfl, hm0, hc0⟩ | ⟨b2, o2, rfl, hb2, hc2⟩
     ·subst hm0 hc0
      go_wp2_with (at_builtin; refine wpList_append_own_none rfl _ _ 24 rfl w.heap.size 36 i0 15 Tryz.underlying24 hi _ _ _ rfl HOWN.out rfl ?_)
      go_roundw
      case rel => exact ⟨_, _, _, ⟨HBEL.out, .inr (.inr ⟨rfl, by have h0 : L2 = [] := List.eq_nil_of_length_eq_zero (by rw [HL2.out]); rw [h0, List.append_nil]; exact HOWN.out⟩)⟩, rfl, rfl, rfl⟩
      case measure => simp [intOf]
     ·have HC2 := hideP hc2
      clear hc2
      go_wp2_with (at_builtin; refine wpList_append_own _ rfl _ _ 24 rfl w.heap.size 36 i0 _ 15 128 Tryz.underlying24 hi hz0 hz1 hz2 rfl (by decide) _ _ _ rfl HOWN.out ⟨b2, o2, none⟩ m2 cap2 L2 rfl ?d1 ?d2 ?d3 ?d4 ?d5 ?d6 ?_)
      case d1 => exact HL2.out
      case d2 =>
       intro j u hj
       rw [Addr.add_lit]
       exact (Below.cell HBEL.out (p := ⟨b2, o2 + j, none⟩) hb2).trans (HC2.out j u hj)
      case d3 => exact HO2'.out
      case d4 => unfold maxLen; omega
      case d5 => omega
      case d6 => exact Below.size HBEL.out
      intro v' w2 hown' hgrow hnil'
      have HB2 : Hid (Below w.heap.size w w2) := hideP (Below.grown HBEL.out hgrow (Below.size HBEL.out) (fun r hr => (World.ownsRow.lt HOWN.out r hr).1))
      obtain ⟨na3, ncap3, rfl⟩ := ownG_shape hown'
      have HO2 := hideP hown'
      clear hown' hgrow hnil'
      go_wp2
      go_roundw
      case rel => exact ⟨HB2.out, .inr (.inr ⟨by rfl, HO2.out⟩)⟩
      case measure => simp [intOf]
    ·have HOWN := hideP hown
     clear hown
     go_wp2
     go_ret
     exact ⟨_, rfl, HOWN.out, HBEL.out⟩
end Go.Proofs.YtojoehdmjkgnnaaGreat
