import Derived.Test.YtbbehmcekbnkiaaGreatWan
import Derived.Test.YtbbehmcekbnkiaaGreatCln
import Derived.Laws.AppendOwnNone
import Derived.Laws.CopyRow
import Derived.Maps.AppendAt
import Derived.Test.YtbbehmcekbnkiaaGreatInts
import Derived.Test.YtbbehmcekbnkiaaGreatFng
import Derived.WalkKit
import Derived.WalkSpells
import Derived.WalkLawsBesides
import Derived.Deep.QuietTactic
import Derived.BigQuiet
import Derived.WalkSmall
import Derived.Deep.DeepCutAuto
import Derived.Below
import Derived.Laws.Closers25b
import Derived.Outline
namespace Go.Proofs.YtbbehmcekbnkiaaGreat
open Go.RowKit
set_option linter.unusedVariables false
set_option linter.unusedSimpArgs false
abbrev ndA (x : Nd) : Array Value := #[.int .i64 x.k, .int .i64 x.wd, .int .i64 x.ht, .int .i64 x.dp, .int .i64 x.sh, .int .i64 x.fo, .int .i64 x.ch, .int .i64 x.nn, .int .i64 x.gs, .int .i64 x.gp, .int .i64 x.gpo, .int .i64 x.gm, .int .i64 x.gmo, .string x.tx, .int .i64 x.kids]
theorem flatN_app : ∀ xs ys : List Nd, flatN (xs ++ ys) = flatN xs ++ flatN ys
 | [], ys => by simp [flatN]
 | x :: xs, ys => by simp [flatN, flatN_app xs ys, List.append_assoc]
theorem nn_one {w : World} {g : Nat} {x : Nd} (h : w.heap[g]? = some (ndO x)) : NN 0 w (.slice (some ⟨g, 0, none⟩) 1 1) [x] := by
 refine .inr ⟨g, 0, 1, rfl, Nat.le_refl _, Nat.zero_le _, fun _ => (Array.getElem?_eq_some_iff.1 h).1, fun j u hj => ?_⟩
 rw [Nat.zero_add, cell_of_row _ _ j _ 36 _ h]
 have e : flatN [x] = (ndA x).toList := by simp [flatN, Nd.cells]
 rw [e] at hj
 simpa using hj
theorem wp_appN {w : World} {o : Oper} {a : Act} {K : Act → World → Prop} {Q : Exit → Act → World → Prop} (s x : Operand) (ho : o.op = .call { callee := .builtin .append, args := #[s, x], argTypes := #[24, 24] })
 (base : Nat) (v : Value) (n : Nat) (xs : List Nd) (hs : a.eval s = v) (hown : w.ownsRow base 36 15 v n (flatN xs)) (u : Value) (ys : List Nd) (hx : a.eval x = u) (hp : NN 0 w u ys) (hn : n + ys.length ≤ 5000000) (hbase : base ≤ w.heap.size)
 (h : ∀ v' w', w'.ownsRow base 36 15 v' (n + ys.length) (flatN (xs ++ ys)) → w.grownBy w' v.ownBlock → (v'.ownBlock = v.ownBlock ∨ v'.ownBlock = some w.heap.size) → K (a.put o.dst v') w') : o.wp Tryz.prog a w K Q := by
 obtain ⟨i0, hi, hz0, hz1, hz2⟩ := info_parts Tryz.info57c
 rcases hp with ⟨rfl, rfl⟩ | ⟨b, off, cap, rfl, hc, _, hb, hq⟩
 ·have hrun := run_append_owned_none (P := Tryz.prog) (w := w) base 24 o.type 36 i0 15 Tryz.underlying24 hi v n _ hown
  unfold Oper.wp
  simp [execOp, ho, resolve, invoke, builtin, hs, hx, hrun, Result.andThen]
  exact h v w (by simpa using hown) ⟨rfl, rfl, rfl, Nat.le_refl _, fun _ _ _ => rfl⟩ (.inl rfl)
 ·obtain ⟨v', w', hr, h2, h3, h4, h5⟩ := run_append_own_at (P := Tryz.prog) w base 24 o.type 36 i0 (ndV Nd.none) 15 128 Tryz.underlying24 hi hz0 hz1 hz2 rfl (by decide) v n _ hown ⟨b, off, none⟩ ys.length cap (flatN ys) (flatN_len ys) (fun j u hj => by
   have h9 := hq j u hj
   unfold Addr.add
   split
   ·rename_i e; have e2 : j = 0 := by simpa using e
    subst e2; exact h9
   ·exact h9) (flatN_one ys) (by unfold maxLen; omega) (by omega) hbase
  unfold Oper.wp execOp
  simp only [ho, resolve, invoke, builtin, Sem.run_bind, Sem.run_pure, Result.andThen_ok, List.map_toArray, List.map_cons, List.map_nil, hs, hx, hr]
  exact h v' w' (by rw [flatN_app]; exact h2) h3 h5
theorem wpList_appN {w : World} {ops : Array Oper} {rest : List Oper} {o : Oper} {a : Act} {Q : Exit → Act → World → Prop} (hgd : o.guard = none) (s x : Operand) (ho : o.op = .call { callee := .builtin .append, args := #[s, x], argTypes := #[24, 24] })
 (base : Nat) (v : Value) (n : Nat) (xs : List Nd) (hs : a.eval s = v) (hown : w.ownsRow base 36 15 v n (flatN xs)) (u : Value) (ys : List Nd) (hx : a.eval x = u) (hp : NN 0 w u ys) (hn : n + ys.length ≤ 5000000) (hbase : base ≤ w.heap.size)
 (h : ∀ v' w', w'.ownsRow base 36 15 v' (n + ys.length) (flatN (xs ++ ys)) → w.grownBy w' v.ownBlock → (v'.ownBlock = v.ownBlock ∨ v'.ownBlock = some w.heap.size) → wpList Tryz.prog ops Q rest (a.put o.dst v') w') : wpList Tryz.prog ops Q (o :: rest) a w :=
 wpList_plain hgd fun _ hK => wp_appN s x ho base v n xs hs hown u ys hx hp hn hbase fun v' w' h2 h3 h4 => hK _ _ (h v' w' h2 h3 h4)
theorem NN.bel {w w' : World} {v : Value} {xs : List Nd} (h : NN 0 w v xs) (hb : Below w.heap.size w w') : NN 0 w' v xs := by
 rcases h with h | ⟨b, off, cap, rfl, h1, h2, h3, h4⟩
 ·exact .inl h
 ·refine .inr ⟨b, off, cap, rfl, h1, h2, fun h => Nat.lt_of_lt_of_le (h3 h) hb.size, fun j u hj => ?_⟩
  have h0 : 0 < xs.length := by
   cases xs with
   | nil => simp [flatN] at hj
   | cons _ _ => simp
  exact (hb.cell (p := ⟨b, off + j, none⟩) (h3 h0)).trans (h4 j u hj)
theorem ndC_cells {w : World} {R : Nat} {x : Nd} (h : w.heap[R]? = some (ndO x)) : (∀ j, w.cell? ⟨R, j, none⟩ = (ndA x)[j]?) ∧ ∀ j, w.frozen? ⟨R, j, none⟩ = false :=
 ⟨fun j => cell_of_row w R j _ 36 _ h, fun j => frozen_of_row w R j _ _ h⟩
theorem nd_15 {w : World} {R : Nat} {x : Nd} (h : w.heap[R]? = some (ndO x)) : w.cell? ⟨R, 0, none⟩ = some (.int .i64 x.k) ∧ w.cell? ⟨R, 1, none⟩ = some (.int .i64 x.wd) ∧ w.cell? ⟨R, 2, none⟩ = some (.int .i64 x.ht) ∧ w.cell? ⟨R, 3, none⟩ = some (.int .i64 x.dp) ∧ w.cell? ⟨R, 4, none⟩ = some (.int .i64 x.sh) ∧ w.cell? ⟨R, 5, none⟩ = some (.int .i64 x.fo) ∧ w.cell? ⟨R, 6, none⟩ = some (.int .i64 x.ch) ∧ w.cell? ⟨R, 7, none⟩ = some (.int .i64 x.nn) ∧ w.cell? ⟨R, 8, none⟩ = some (.int .i64 x.gs) ∧ w.cell? ⟨R, 9, none⟩ = some (.int .i64 x.gp) ∧ w.cell? ⟨R, 10, none⟩ = some (.int .i64 x.gpo) ∧ w.cell? ⟨R, 11, none⟩ = some (.int .i64 x.gm) ∧ w.cell? ⟨R, 12, none⟩ = some (.int .i64 x.gmo) ∧ w.cell? ⟨R, 13, none⟩ = some (.string x.tx) ∧ w.cell? ⟨R, 14, none⟩ = some (.int .i64 x.kids) := by
 have h := (ndC_cells h).1
 exact ⟨h 0, h 1, h 2, h 3, h 4, h 5, h 6, h 7, h 8, h 9, h 10, h 11, h 12, h 13, h 14⟩
set_option maxRecDepth 20000 in
set_option maxHeartbeats 8000000 in
theorem char8_any (n : Nat) (c : Int) (w : World) (hn : n ≤ 15) :
 Calls Tryz.prog 101 #[.int .i64 (n : Int), .int .i64 c] w fun e w' => ∃ x : Nd, (e = .returned (ndV x) ∧ x.tx = ⟨#[]⟩) ∧ Below w.heap.size w w' := by
 have hR0 := heap_alloc_new w (ndO Nd.none)
 have hB0 := below1 w (ndO Nd.none)
 go_enter Tryz.func101, Tryz.ntmps101
 go_wp2_with fail
 refine (plainFont_any n _ hn).mono ?_
 rintro e w1 ⟨nm, gv, pa, pn, pc, s1, s2, s3, s4, s5, q, r, m, rfl, hr, hm, hb1⟩
 have hsz : w.heap.size < w1.heap.size := by have := hb1.size; simp at this; omega
 have hR1 : w1.heap[w.heap.size]? = some (ndO Nd.none) := (hb1.block _ (by simp)).trans hR0
 have HB1 : Hid (Below w.heap.size w w1) := hideP (below_more hB0 hb1 (by simp))
 obtain ⟨ga, gc, rfl⟩ := hr.shape0
 have HR1 := hideP hR1
 have HG := hideP hr
 clear hR0 hB0 hb1 hR1 hr
 go_wp2_with fail
 have hB2 := below1 w1 (.cells (ftA nm (.slice ga m gc) (.slice pa pn pc) s1 s2 s3 s4 s5 q r) 211)
 refine (glyph_any c _ (HG.out.below hB2) hm).mono ?_
 rintro e w2 ⟨i, rfl, i0, i1, hb2⟩
 have hsz2 : w1.heap.size < w2.heap.size := by have := hb2.size; simp at this; omega
 have hF2 : w2.heap[w1.heap.size]? = some (.cells (ftA nm (.slice ga m gc) (.slice pa pn pc) s1 s2 s3 s4 s5 q r) 211 (0, 0)) := (hb2.block _ (by simp)).trans (heap_alloc_new w1 _)
 have hR2 : w2.heap[w.heap.size]? = some (ndO Nd.none) := (hb2.block _ (by simp; omega)).trans ((Below.heap_alloc _ _ _ hsz).trans HR1.out)
 have hBB : Below w.heap.size w w2 := below_more (HB1.out.alloc HB1.out.size _) hb2 (by have := HB1.out.size; simp; omega)
 have hG2 := (HG.out.below hB2).below hb2
 have HBB := hideP hBB
 have HR2 := hideP hR2
 have HG2 := hideP hG2
 have f1 : w2.cell? ⟨w1.heap.size, 1, none⟩ = some (.slice ga m gc) := cell_of_row _ _ 1 _ 211 _ hF2
 clear hB2 hb2 hF2 hR2 hBB hG2 HG HR1 HB1
 obtain ⟨R, hR⟩ : ∃ R, R = w.heap.size := ⟨_, rfl⟩
 rw [← hR] at HR2
 by_cases hi : i < 0
 ·obtain ⟨r0, r1, r2, r3, r4, r5, r6, r7, r8, r9, r10, r11, r12, r13, r14⟩ := nd_15 HR2.out
  have fR := (ndC_cells HR2.out).2
  have HF : Hid ((fif w2 R 2 0 0 0 0 0 0 0 0 0 0 0 0 ⟨#[]⟩ 0).heap[R]? = some (ndO ⟨2, 0, 0, 0, 0, 0, 0, 0, 0, 0, 0, 0, 0, ⟨#[]⟩, 0⟩) ∧ Below w.heap.size w (fif w2 R 2 0 0 0 0 0 0 0 0 0 0 0 0 ⟨#[]⟩ 0)) := hideP ⟨fif_heap HR2.out _ _ _ _ _ _ _ _ _ _ _ _ _ _ _, fif_below HBB.out (by omega) _ _ _ _ _ _ _ _ _ _ _ _ _ _ _⟩
  rw [← hR]
  clear hR
  go_wp2
  exact bodyPost_ret (v := ndV ⟨2, 0, 0, 0, 0, 0, 0, 0, 0, 0, 0, 0, 0, ⟨#[]⟩, 0⟩) (results_cell_row rfl _ _ R 36 _ (0, 0) _ rfl HF.out.1 Tryz.underlying36 rfl (by kernel_rfl)) rfl ⟨⟨2, 0, 0, 0, 0, 0, 0, 0, 0, 0, 0, 0, 0, ⟨#[]⟩, 0⟩, ⟨rfl, rfl⟩, HF.out.2⟩
 ·obtain ⟨k, rfl⟩ : ∃ k : Nat, i = (k : Int) := ⟨i.toNat, by omega⟩
  have hkm : k < m := by omega
  obtain ⟨g, cap, hv, hc⟩ := HG2.out.cell
  obtain ⟨hve, hgl⟩ := hv (by omega)
  cases hve
  obtain ⟨y0, hy0⟩ := hc (k * 4) (by omega)
  obtain ⟨y1, hy1⟩ := hc (k * 4 + 1) (by omega)
  obtain ⟨y2, hy2⟩ := hc (k * 4 + 2) (by omega)
  obtain ⟨y3, hy3⟩ := hc (k * 4 + 3) (by omega)
  have hRA : (w2.alloc (.cells (gyA y0 y1 y2 y3) 215)).heap[R]? = some (ndO Nd.none) := (Below.heap_alloc _ _ _ (by omega)).trans HR2.out
  have HBA : Hid (Below w.heap.size w (w2.alloc (.cells (gyA y0 y1 y2 y3) 215))) := hideP (HBB.out.alloc HBB.out.size _)
  clear hv hc HG2
  obtain ⟨r0, r1, r2, r3, r4, r5, r6, r7, r8, r9, r10, r11, r12, r13, r14⟩ := nd_15 hRA
  have fR := (ndC_cells hRA).2
  have HF : Hid ((fif (w2.alloc (.cells (gyA y0 y1 y2 y3) 215)) R 1 y1 y2 y3 0 (n : Int) c 0 0 0 0 0 0 ⟨#[]⟩ 0).heap[R]? = some (ndO ⟨1, y1, y2, y3, 0, (n : Int), c, 0, 0, 0, 0, 0, 0, ⟨#[]⟩, 0⟩) ∧ Below w.heap.size w (fif (w2.alloc (.cells (gyA y0 y1 y2 y3) 215)) R 1 y1 y2 y3 0 (n : Int) c 0 0 0 0 0 0 ⟨#[]⟩ 0)) := hideP ⟨fif_heap hRA _ _ _ _ _ _ _ _ _ _ _ _ _ _ _, fif_below HBA.out (by omega) _ _ _ _ _ _ _ _ _ _ _ _ _ _ _⟩
  rw [← hR]
  clear hR hRA
  go_wp2
  exact bodyPost_ret (v := ndV ⟨1, y1, y2, y3, 0, (n : Int), c, 0, 0, 0, 0, 0, 0, ⟨#[]⟩, 0⟩) (results_cell_row rfl _ _ R 36 _ (0, 0) _ rfl HF.out.1 Tryz.underlying36 rfl (by kernel_rfl)) rfl ⟨⟨1, y1, y2, y3, 0, (n : Int), c, 0, 0, 0, 0, 0, 0, ⟨#[]⟩, 0⟩, ⟨rfl, rfl⟩, HF.out.2⟩
theorem hideD {p : Prop} (h : p) : Hid p := h
def Bytes (w : World) (ao : Option Addr) (len cap : Nat) : Prop :=
 len ≤ 140737488351232 ∧ len ≤ cap ∧ (0 < len → ∃ b off, ao = some ⟨b, off, none⟩ ∧ b < w.heap.size ∧ ∀ i, i < len → ∃ x : Int, 0 ≤ x ∧ x ≤ 255 ∧ w.cell? ⟨b, off + i, none⟩ = some (.int .u8 x))
theorem Bytes.kept {w w' : World} {ao : Option Addr} {len cap : Nat} (h : Bytes w ao len cap) (hb : Below w.heap.size w w') : Bytes w' ao len cap := by
 refine ⟨h.1, h.2.1, fun hl => ?_⟩
 obtain ⟨b, off, e, hbz, hc⟩ := h.2.2 hl
 refine ⟨b, off, e, by have := hb.size; omega, fun i hi => ?_⟩
 obtain ⟨x, x0, x1, hx⟩ := hc i hi
 exact ⟨x, x0, x1, (hb.cell (p := ⟨b, off + i, none⟩) hbz).trans hx⟩
def I64 (x : Int) : Prop := -9223372036854775808 ≤ x ∧ x ≤ 9223372036854775807
theorem bits_i64 (op : BinOp) (a b : Int) : I64 (bits op .i64 a b) := by
 have h := bits_within op .i64 a b
 simp [IntKind.min, IntKind.max, IntKind.signed, IntKind.bits] at h
 unfold I64
 omega
theorem and255 (n : Int) : 0 ≤ bits .and .i64 n 255 ∧ bits .and .i64 n 255 ≤ 255 := by
 have h255 : (BitVec.ofInt 64 255).toNat = 2 ^ 8 - 1 := by decide
 have key : (BitVec.ofInt 64 n &&& BitVec.ofInt 64 255).toNat = (n % ((2 ^ 64 : Nat) : Int)).toNat % 2 ^ 8 := by
  rw [BitVec.toNat_and, BitVec.toNat_ofInt, h255, Nat.and_two_pow_sub_one_eq_mod]
 have e : bits .and .i64 n 255 = n % 256 := by
  show IntKind.i64.wrap ((BitVec.ofInt 64 n &&& BitVec.ofInt 64 255).toNat : Nat) = n % 256
  rw [key, IntKind.wrap_i64]
  omega
 rw [e]
 omega
theorem wrapI64 (n : Int) : I64 (wrap64 n) := by
 unfold I64 wrap64
 omega
def Cur (w wr : World) (ao : Option Addr) (len cap : Nat) : Prop :=
 ∃ (i : Nat) (h : Int), i ≤ len ∧ I64 h ∧ wr.heap[w.heap.size]? = some (.cells #[.slice ao len cap, .int .i64 (i : Int), .int .i64 h] 124 (0, 0)) ∧ Below w.heap.size w wr
abbrev curP (w : World) : Value := .pointer (some ⟨w.heap.size, 0, none⟩)
set_option maxHeartbeats 1000000 in
theorem new_any (ao : Option Addr) (len cap : Nat) (w : World) (hB : Bytes w ao len cap) : Calls Tryz.prog 27 #[.slice ao len cap] w fun e w' => e = .returned (curP w) ∧ Cur w w' ao len cap := by
 have hl := hB.1
 have HB := hideD hB
 clear hB
 go_enter Tryz.func27, Tryz.ntmps27
 go_wp2_with fail
 go_loop [3, 4] (fun s3 s4 => ∃ (k : Nat) (h : Int), k ≤ len ∧ s4 = .int .i64 (k : Int) ∧ s3 = .int .i64 h ∧ I64 h) (fun _ s4 => len - (intOf s4).toNat)
 case atStart => exact ⟨0, _, Nat.zero_le _, rfl, rfl, by unfold I64; omega⟩
 case round =>
  obtain ⟨k, h, hk, rfl, rfl, hh⟩ := hrel
  by_cases hlt : k < len
  ·obtain ⟨b, off, rfl, _, hc⟩ := HB.out.2.2 (by omega)
   obtain ⟨x, x0, x1, hx⟩ := hc k hlt
   have HH := hideD hh
   clear hh hc HB
   go_wp2
   go_round
   case rel =>
    exact ⟨k + 1, _, by omega, by go_num, rfl, bits_i64 _ _ _⟩
   case measure => simp [intOf]; omega
  ·have HH := hideD hh
   clear hh
   go_wp2
   go_ret
   exact ⟨rfl, 0, h, Nat.zero_le _, HH.out, heap_alloc_new w _, (Below.refl _ _).alloc (Nat.le_refl _) _⟩
theorem Cur.cells {w wr : World} {ao : Option Addr} {len cap : Nat} {i : Nat} {h : Int} (hh : wr.heap[w.heap.size]? = some (.cells #[.slice ao len cap, .int .i64 (i : Int), .int .i64 h] 124 (0, 0))) :
 wr.cell? ⟨w.heap.size, 0, none⟩ = some (.slice ao len cap) ∧ wr.cell? ⟨w.heap.size, 1, none⟩ = some (.int .i64 (i : Int)) ∧ wr.cell? ⟨w.heap.size, 2, none⟩ = some (.int .i64 h) ∧ ∀ o, wr.frozen? ⟨w.heap.size, o, none⟩ = false := by
 refine ⟨?_, ?_, ?_, fun o => ?_⟩
 ·simp [World.cell?, hh]
 ·simp [World.cell?, hh]
 ·simp [World.cell?, hh]
 ·simp [World.frozen?, hh]
def Other (w wr w' : World) : Prop := ∀ b, b ≠ w.heap.size → w'.heap[b]? = wr.heap[b]?
theorem Other.trans {w a b c : World} (h : Other w a b) (k : Other w b c) : Other w a c := fun n hn => (k n hn).trans (h n hn)
theorem Other.cell {w a b : World} (h : Other w a b) {n o : Nat} (hn : n ≠ w.heap.size) : b.cell? ⟨n, o, none⟩ = a.cell? ⟨n, o, none⟩ := World.cell?_of_block (w := a) (h n hn)
theorem Cur.alloc {w wr : World} {ao : Option Addr} {len cap : Nat} (h : Cur w wr ao len cap) (o : Obj) : Cur w (wr.alloc o) ao len cap := by
 obtain ⟨i, x, h1, h2, h3, h4⟩ := h
 refine ⟨i, x, h1, h2, ?_, h4.alloc h4.size o⟩
 rw [Below.heap_alloc _ _ _ (Array.getElem?_eq_some_iff.1 h3).1]
 exact h3
theorem cur_set1 {w wr : World} {ao : Option Addr} {len cap : Nat} {x y z : Value} (hh : wr.heap[w.heap.size]? = some (.cells #[x, y, z] 124 (0, 0))) (v : Value) :
 (wr.setCell ⟨w.heap.size, 1, none⟩ v).heap[w.heap.size]? = some (.cells #[x, v, z] 124 (0, 0)) := by
 simp [World.setCell, Array.getElem?_modify, hh]
theorem cur_set2 {w wr : World} {x y z : Value} (hh : wr.heap[w.heap.size]? = some (.cells #[x, y, z] 124 (0, 0))) (v : Value) :
 (wr.setCell ⟨w.heap.size, 2, none⟩ v).heap[w.heap.size]? = some (.cells #[x, y, v] 124 (0, 0)) := by
 simp [World.setCell, Array.getElem?_modify, hh]
set_option maxHeartbeats 1000000 in
theorem byte_any (ao : Option Addr) (len cap : Nat) (w wr : World) (hB : Bytes w ao len cap) (hC : Cur w wr ao len cap) :
 Calls Tryz.prog 66 #[curP w] wr fun e w' => ∃ x : Int, e = .returned (.int .i64 x) ∧ 0 ≤ x ∧ x ≤ 255 ∧ Cur w w' ao len cap ∧ Other w wr w' := by
 have hl := hB.1
 obtain ⟨i, h, hi, hh, hblk, hbel⟩ := hC
 obtain ⟨q0, q1, q2, qf⟩ := Cur.cells hblk
 have HB := hideD hB
 have HH := hideD hh
 have HBLK := hideD hblk
 have HBEL := hideD hbel
 clear hB hh hblk hbel
 by_cases hlt : i < len
 ·obtain ⟨b, off, rfl, hbz, hc⟩ := HB.out.2.2 (by omega)
  obtain ⟨x, x0, x1, hx⟩ := hc i hlt
  have hx' : wr.cell? ⟨b, off + i, none⟩ = some (.int .u8 x) := (HBEL.out.cell (p := ⟨b, off + i, none⟩) hbz).trans hx
  have hne : b ≠ w.heap.size := by omega
  have hne' : ¬ w.heap.size = b := by omega
  have hlt1 : (i : Int) < (len : Int) := by omega
  clear hc hx HB
  go_enter Tryz.func66, Tryz.ntmps66
  go_wp2
  go_quiet (fail)
  go_wp2
  go_quiet (fail)
  go_wp2
  go_quiet (fail)
  go_wp2
  go_ret
  refine ⟨_, rfl, (and255 _).1, (and255 _).2, ⟨i + 1, wrap64 (wrap64 (h * 6364136223846793005) + 1442695040888963407), by omega, wrapI64 _, ?_, (below_drewN (HBEL.out.setCell (Nat.le_refl _) _) _).setCell (Nat.le_refl _) _⟩, fun b hb => (Below.heap_setCell _ _ _ _ hb).trans (Below.heap_setCell _ _ _ _ hb)⟩
  have := cur_set1 (w := w) (wr := (wr.setCell ⟨w.heap.size, 2, none⟩ (.int .i64 (wrap64 (wrap64 (h * 6364136223846793005) + 1442695040888963407)))).drewN 0) (ao := none) (len := 0) (cap := 0) (cur_set2 HBLK.out _) (.int .i64 ((i + 1 : Nat) : Int))
  exact this
 ·have hnlt : ¬ (i : Int) < (len : Int) := by omega
  have hnl : decide ((i : Int) < (len : Int)) = false := by simp; omega
  go_enter Tryz.func66, Tryz.ntmps66
  go_wp2
  go_quiet (fail)
  go_wp2
  go_quiet (fail)
  go_wp2
  go_ret
  exact ⟨_, rfl, (and255 _).1, (and255 _).2, ⟨i, _, hi, wrapI64 _, cur_set2 HBLK.out _, below_drewN (below_drewN (HBEL.out.setCell (Nat.le_refl _) _) _) _⟩, fun b hb => Below.heap_setCell _ _ _ _ hb⟩
set_option maxHeartbeats 1000000 in
theorem belowN_any (n : Int) (ao : Option Addr) (len cap : Nat) (w wr : World) (hB : Bytes w ao len cap) (hC : Cur w wr ao len cap) (h1 : 1 ≤ n) (h2 : n ≤ 9223372036854775807) :
 Calls Tryz.prog 39 #[curP w, .int .i64 n] wr fun e w' => ∃ x : Int, e = .returned (.int .i64 x) ∧ 0 ≤ x ∧ x < n ∧ Cur w w' ao len cap ∧ Other w wr w' := by
 have HB := hideD hB
 have HC := hideD hC
 clear hB hC
 by_cases h3 : n ≤ 256
 ·go_enter Tryz.func39, Tryz.ntmps39
  go_wp2_with fail
  refine (byte_any ao len cap w wr HB.out HC.out).mono ?_
  rintro e w1 ⟨x, rfl, x0, x1, c1, o1⟩
  have C1 := hideD c1
  have O1 := hideD o1
  clear c1 o1
  go_wp2
  go_ret
  exact ⟨_, rfl, Int.emod_nonneg _ (by omega), Int.emod_lt_of_pos _ (by omega), C1.out, O1.out⟩
 ·go_enter Tryz.func39, Tryz.ntmps39
  go_wp2_with fail
  refine (byte_any ao len cap w wr HB.out HC.out).mono ?_
  rintro e w1 ⟨x, rfl, x0, x1, c1, o1⟩
  have C1 := hideD c1
  have O1 := hideD o1
  clear c1 o1
  go_wp2_with fail
  refine (byte_any ao len cap w _ HB.out C1.out).mono ?_
  rintro e w2 ⟨y, rfl, y0, y1, c2, o2⟩
  have C2 := hideD c2
  have O2 := hideD o2
  clear c2 o2
  go_wp2_with fail
  refine (byte_any ao len cap w _ HB.out C2.out).mono ?_
  rintro e w3 ⟨z, rfl, z0, z1, c3, o3⟩
  have C3 := hideD c3
  have O3 := hideD o3
  clear c3 o3
  go_wp2_with fail
  refine (byte_any ao len cap w _ HB.out C3.out).mono ?_
  rintro e w4 ⟨u, rfl, u0, u1, c4, o4⟩
  have C4 := hideD c4
  have O4 := hideD o4
  clear c4 o4
  go_wp2
  go_ret
  exact ⟨_, rfl, Int.emod_nonneg _ (by omega), Int.emod_lt_of_pos _ (by omega), C4.out, ((O1.out.trans O2.out).trans O3.out).trans O4.out⟩
theorem once_any (n : Int) (ao : Option Addr) (len cap : Nat) (w wr : World) (hB : Bytes w ao len cap) (hC : Cur w wr ao len cap) (h1 : 1 ≤ n) (h2 : n ≤ 9223372036854775807) :
 Calls Tryz.prog 38 #[curP w, .int .i64 n] wr fun e w' => ∃ x : Bool, e = .returned (.bool x) ∧ Cur w w' ao len cap ∧ Other w wr w' := by
 have HB := hideD hB
 have HC := hideD hC
 clear hB hC
 go_enter Tryz.func38, Tryz.ntmps38
 go_wp2_with fail
 refine (belowN_any n ao len cap w wr HB.out HC.out h1 h2).mono ?_
 rintro e w1 ⟨x, rfl, x0, x1, c1, o1⟩
 have C1 := hideD c1
 have O1 := hideD o1
 clear c1 o1
 go_wp2
 go_ret
 exact ⟨_, rfl, C1.out, O1.out⟩
def Fram (w wr w' : World) : Prop := wr.heap.size ≤ w'.heap.size ∧ ∀ b, b < wr.heap.size → b ≠ w.heap.size → w'.heap[b]? = wr.heap[b]?
theorem Fram.refl (w wr : World) : Fram w wr wr := ⟨Nat.le_refl _, fun _ _ _ => rfl⟩
theorem Fram.trans {w a b c : World} (h : Fram w a b) (k : Fram w b c) : Fram w a c := ⟨Nat.le_trans h.1 k.1, fun n hn hne => (k.2 n (Nat.lt_of_lt_of_le hn h.1) hne).trans (h.2 n hn hne)⟩
theorem Fram.alloc {w a b : World} (h : Fram w a b) (o : Obj) : Fram w a (b.alloc o) := ⟨by have := h.1; simp; omega, fun n hn hne => (Below.heap_alloc _ _ _ (Nat.lt_of_lt_of_le hn h.1)).trans (h.2 n hn hne)⟩
theorem Other.size {w a b : World} (h : Other w a b) (hc : w.heap.size < b.heap.size) : a.heap.size ≤ b.heap.size := by
 by_cases hlt : a.heap.size ≤ b.heap.size
 ·exact hlt
 ·exfalso
  have h1 := h b.heap.size (by omega)
  rw [Array.getElem?_eq_none (Nat.le_refl _), Array.getElem?_eq_getElem (by omega)] at h1
  cases h1
theorem Cur.lt {w wr : World} {ao : Option Addr} {len cap : Nat} (h : Cur w wr ao len cap) : w.heap.size < wr.heap.size := by
 obtain ⟨_, _, _, _, h3, _⟩ := h
 exact (Array.getElem?_eq_some_iff.1 h3).1
theorem Fram.other {w a b c : World} {ao : Option Addr} {len cap : Nat} (h : Fram w a b) (k : Other w b c) (hc : Cur w c ao len cap) : Fram w a c :=
 h.trans ⟨Other.size k hc.lt, fun n _ hne => k n hne⟩
end Go.Proofs.YtbbehmcekbnkiaaGreat
