import Derived.Test.YtbpidcfoldkhgaaGreatIntsB
import Derived.Deep.WholeRow
import Derived.Laws.ResultCell
import Derived.ChangeKeysEq
import Derived.Deep.RegionHeld3
namespace Go.Proofs.YtbpidcfoldkhgaaGreat
open Go.RowKit
set_option linter.unusedVariables false
set_option linter.unusedSimpArgs false
theorem Tryz.info167 : (Tryz.prog.info? 167).map (fun i => (i.zero, i.size)) = some (some (.agg (Array.replicate 256 (.int .i64 0))), 256) := by kernel_rfl
def cellsI (xs : List Int) : Array Value := (xs.map (Value.int .i64)).toArray
theorem cellsI_size (xs : List Int) : (cellsI xs).size = xs.length := by simp [cellsI]
theorem cellsI_at (xs : List Int) (j : Nat) (h : j < xs.length) : (cellsI xs)[j]? = some (.int .i64 (xs.getD j 0)) := by
 simp [cellsI, List.getElem?_map, List.getD, List.getElem?_eq_getElem h]
theorem cellsI_one (xs : List Int) : (cellsI xs).all (·.oneCell') = true := by
 rw [Array.all_eq_true_iff_forall_mem]
 intro v hv
 simp only [cellsI, List.mem_toArray, List.mem_map] at hv
 obtain ⟨x, _, rfl⟩ := hv
 rfl
theorem cellsI_set (xs : List Int) (j : Nat) (z : Int) : (cellsI xs).setIfInBounds j (.int .i64 z) = cellsI (xs.set j z) := by
 apply Array.ext'
 simp [cellsI, Array.toList_setIfInBounds, List.map_set]
theorem cellsI_rep (n : Nat) : Array.replicate n (Value.int .i64 0) = cellsI (List.replicate n 0) := by
 apply Array.ext'
 simp [cellsI]
theorem cellsI_zero : Array.replicate 256 (Value.int .i64 0) = cellsI (List.replicate 256 0) := cellsI_rep 256
def Blk (w : World) (g : Nat) (xs : List Int) : Prop := w.heap[g]? = some (.cells (cellsI xs) 167 (0, 0))
theorem Blk.cell {w : World} {g : Nat} {xs : List Int} (h : Blk w g xs) (j : Nat) (hj : j < xs.length) : w.cell? ⟨g, j, none⟩ = some (.int .i64 (xs.getD j 0)) := by
 rw [cell_of_row w g j _ _ _ h, cellsI_at xs j hj]
theorem Blk.free {w : World} {g : Nat} {xs : List Int} (h : Blk w g xs) (j : Nat) : w.frozen? ⟨g, j, none⟩ = false := frozen_of_row w g j _ _ h
theorem Blk.set {w : World} {g : Nat} {xs : List Int} (h : Blk w g xs) (j : Nat) (z : Int) : Blk (w.setCell ⟨g, j, none⟩ (.int .i64 z)) g (xs.set j z) := by
 unfold Blk
 rw [← cellsI_set]
 exact heap_setCell_same w g j _ _ _ h
theorem Blk.other {w : World} {g g' : Nat} {xs : List Int} (h : Blk w g xs) (hne : g ≠ g') (j : Nat) (v : Value) : Blk (w.setCell ⟨g', j, none⟩ v) g xs :=
 (Below.heap_setCell w ⟨g', j, none⟩ v g hne).trans h
theorem Blk.lt {w : World} {g : Nat} {xs : List Int} (h : Blk w g xs) : g < w.heap.size := (Array.getElem?_eq_some_iff.1 h).1
theorem Blk.alloc {w : World} {g : Nat} {xs : List Int} (h : Blk w g xs) (o : Obj) : Blk (w.alloc o) g xs := (Below.heap_alloc w o g h.lt).trans h
theorem Blk.new (w : World) (xs : List Int) : Blk (w.alloc (.cells (cellsI xs) 167)) w.heap.size xs := heap_alloc_last w _
theorem Blk.loadVar {w : World} {g : Nat} {xs : List Int} (h : Blk w g xs) (hx : xs.length = 256) : (Go.loadVar 167 ⟨g, 0, none⟩).run Tryz.prog w = .ok (.agg (cellsI xs)) w :=
 run_loadVar_row _ _ 167 167 _ (0, 0) _ h Tryz.underlying167 rfl (by rw [cellsI_size, hx]; exact (zero_of_info Tryz.info167).2)
theorem Blk.range {w : World} {g : Nat} {xs : List Int} (h : Blk w g xs) : w.rangeAt g 0 (xs.map (Value.int .i64)) := fun j v hv => by
 rw [Nat.zero_add, cell_of_row w g j _ _ _ h]
 simpa [cellsI] using hv
theorem Blk.there {w : World} {g : Nat} {xs : List Int} (h : Blk w g xs) (hx : xs.length = 256) : w.there g 0 256 := fun j hj => by
 rw [Nat.zero_add]
 exact ⟨by rw [h.cell j (by omega)]; rfl, h.free j⟩
theorem Blk.store {w : World} {g : Nat} {xs ys : List Int} (h : Blk w g xs) (hx : xs.length = 256) (hy : ys.length = 256) : (storeCells ⟨g, 0, none⟩ (cellsI ys).toList 0).run Tryz.prog w = .ok () (w.setRow g (cellsI ys)) := by
 have := run_storeCells_from (P := Tryz.prog) g 167 (cellsI ys).toList 0 (cellsI xs) w h (by simp [cellsI_size, hx, hy]) (fun v hv => (Array.all_eq_true_iff_forall_mem.1 (cellsI_one ys)) v (by simpa using hv))
 simpa using this
theorem Blk.setRow {w : World} {g : Nat} {xs : List Int} (h : Blk w g xs) (ys : List Int) : Blk (w.setRow g (cellsI ys)) g ys := setRow_heap w g _ _ _ _ h
theorem Blk.setRow_other {w : World} {g g' : Nat} {xs : List Int} (h : Blk w g xs) (hne : g ≠ g') (cs : Array Value) : Blk (w.setRow g' cs) g xs := (Go.setRow_other w g' g cs hne).trans h
theorem below_setCells {B g : Nat} (hg : B ≤ g) : ∀ (vs : List Value) (o : Nat) (w0 w : World), Below B w0 w → Below B w0 (w.setCells g o vs)
 | [], _, _, _, h => h
 | v :: vs, o, w0, w, h => below_setCells hg vs (o + 1) w0 _ (h.setCell (p := ⟨g, o, none⟩) hg v)
theorem Below.setRow {B : Nat} {a w : World} (h : Below B a w) {g : Nat} (hg : B ≤ g) (cs : Array Value) : Below B a (w.setRow g cs) :=
 h.trans ⟨rfl, rfl, rfl, by simp, fun k hk => Go.setRow_other w g k cs (by omega)⟩
theorem run_eqItems_ints (d : Nat) (w : World) (xs ys : List Int) : ∀ (is : List Nat), (∀ i ∈ is, i < xs.length ∧ i < ys.length) →
 (Op.eqItems (d + 1) 2 1 (cellsI xs) (cellsI ys) is).run Tryz.prog w = .ok (is.all fun i => xs.getD i 0 == ys.getD i 0) w
 | [], _ => by simp [Op.eqItems]
 | i :: is, h => by
  have ih := run_eqItems_ints d w xs ys is (fun j hj => h j (by simp [hj]))
  obtain ⟨h1, h2⟩ := h i (by simp)
  have p1 : (part 2 (cellsI xs) (i * 1)).run Tryz.prog w = .ok (.int .i64 (xs.getD i 0)) w := run_part_plain (P := Tryz.prog) w (by kernel_rfl) (by rw [Nat.mul_one]; exact cellsI_at xs i h1)
  have p2 : (part 2 (cellsI ys) (i * 1)).run Tryz.prog w = .ok (.int .i64 (ys.getD i 0)) w := run_part_plain (P := Tryz.prog) w (by kernel_rfl) (by rw [Nat.mul_one]; exact cellsI_at ys i h2)
  have p3 := run_equalIn_int (P := Tryz.prog) w d 2 .i64 .i64 (xs.getD i 0) (ys.getD i 0) Tryz.underlying2
  simp only [Op.eqItems, Sem.run_bind, p1, p2, p3, Result.andThen_ok, List.all_cons]
  cases hb : (xs.getD i 0 == ys.getD i 0)
  ·simp
  ·simp [ih]
set_option maxRecDepth 100000 in
theorem run_eq121 (w : World) (xs ys : List Int) (hx : xs.length = 256) (hy : ys.length = 256) :
 (Op.equalIn 10000 167 (.agg (cellsI xs)) (.agg (cellsI ys))).run Tryz.prog w = .ok (decide (xs = ys)) w := by
 obtain ⟨i, hi⟩ := info_of_underlying (P := Tryz.prog) Tryz.underlying2
 have hc : Tryz.prog.cellsOf 2 = 1 := by kernel_rfl
 rw [show (10000 : Nat) = 9998 + 1 + 1 from rfl, run_equalIn_array (P := Tryz.prog) w (9998 + 1) (cellsI xs) (cellsI ys) Tryz.underlying167 hi, hc,
  run_eqItems_ints 9998 w xs ys (List.range 256) (fun i hi => by simp at hi; omega)]
 congr 1
 by_cases he : xs = ys
 ·subst he; simp
 ·rw [decide_eq_false he]
  cases hq : (List.range 256).all fun i => xs.getD i 0 == ys.getD i 0 with
  | false => rfl
  | true =>
   exfalso
   apply he
   simp only [List.all_eq_true, List.mem_range, beq_iff_eq] at hq
   exact getD_ext (by omega) fun j hj => hq j (by omega)
def brought (z : Int) : Int := if 15 < (if z < 0 then 0 else z) then 15 else if z < 0 then 0 else z
theorem brought_fix {z : Int} : brought z = z ↔ (0 ≤ z ∧ z ≤ 15) := by
 unfold brought
 by_cases h : z < 0
 ·simp [h]; omega
 ·simp only [h, if_false]
  split <;> omega
theorem brought_eq {zs : List Int} (h : zs.length = 256) : decide (zs = zs.map brought) = catsB zs := by
 cases hc : catsB zs with
 | true =>
  simp only [catsB, Bool.and_eq_true, List.all_eq_true, decide_eq_true_eq] at hc
  rw [decide_eq_true_eq]
  have : zs.map brought = zs.map id := List.map_congr_left fun z hz => brought_fix.2 (hc.2 z hz)
  rw [this, List.map_id]
 | false =>
  rw [decide_eq_false_iff_not]
  intro he
  have : catsB zs = true := by
   refine catsB_yes h fun j hj => ?_
   have h1 : zs[j]? = some (zs.getD j 0) := by simp [List.getD, List.getElem?_eq_getElem (show j < zs.length by omega)]
   have h2 : (zs.map brought)[j]? = some (brought (zs.getD j 0)) := by rw [List.getElem?_map, h1]; rfl
   rw [← he, h1] at h2
   exact brought_fix.1 (Option.some.inj h2).symm
  rw [hc] at this
  cases this
set_option maxRecDepth 20000 in
set_option maxHeartbeats 1000000 in
theorem tableOf_short {ao : Option Addr} {n cap : Nat} {w : World} (hn : n ≠ 256) :
 Calls Tryz.prog 119 #[.slice ao n cap] w fun e w' => (∃ gs : List Int, e = .returned (.tuple #[.agg (cellsI gs), .bool false]) ∧ gs.length = 256) ∧ Below w.heap.size w w' := by
 obtain ⟨hv, hi⟩ := zero_of_info Tryz.info167
 rw [cellsI_zero] at hv
 obtain ⟨zs, hz⟩ : ∃ zs : List Int, zs = List.replicate 256 0 := ⟨_, rfl⟩
 rw [← hz] at hv
 have hzl : zs.length = 256 := by rw [hz, List.length_replicate]
 have hcs : (cellsI zs).size = 256 := by rw [cellsI_size, hzl]
 have hb : Blk (((w.alloc (Obj.cells (cellsI zs) 167)).alloc (Obj.cells (cellsI zs) 167)).alloc (Obj.cells (cellsI zs) 167)) w.heap.size zs := ((Blk.new w zs).alloc _).alloc _
 have hst := hb.store hzl hzl
 have hld := (hb.setRow zs).loadVar hzl
 have hbel : Below w.heap.size w ((((w.alloc (Obj.cells (cellsI zs) 167)).alloc (Obj.cells (cellsI zs) 167)).alloc (Obj.cells (cellsI zs) 167)).setRow w.heap.size (cellsI zs)) :=
  Below.setRow ((((Below.refl _ _).alloc (Nat.le_refl _) _).alloc (by simp) _).alloc (by simp; omega) _) (Nat.le_refl _) _
 have HB : Hid (Below w.heap.size w ((((w.alloc (Obj.cells (cellsI zs) 167)).alloc (Obj.cells (cellsI zs) 167)).alloc (Obj.cells (cellsI zs) 167)).setRow w.heap.size (cellsI zs))) := hbel
 have HZ : Hid (zs.length = 256) := hzl
 have HL : Hid ((Go.loadVar 167 ⟨w.heap.size, 0, none⟩).run Tryz.prog ((((w.alloc (Obj.cells (cellsI zs) 167)).alloc (Obj.cells (cellsI zs) 167)).alloc (Obj.cells (cellsI zs) 167)).setRow w.heap.size (cellsI zs)) = .ok (.agg (cellsI zs)) ((((w.alloc (Obj.cells (cellsI zs) 167)).alloc (Obj.cells (cellsI zs) 167)).alloc (Obj.cells (cellsI zs) 167)).setRow w.heap.size (cellsI zs))) := hld
 clear hz hi hzl hb hld hbel
 have hn' : ((n : Int) == 256) = false := by simp; omega
 go_enter Tryz.func119, Tryz.ntmps119
 go_wp2
 refine bodyPost_ret (v := .tuple #[.agg (cellsI zs), .bool false]) ?_ rfl ⟨⟨zs, rfl, HZ⟩, HB⟩
 rw [results_cell_tmp rfl]
 have hld : (Go.loadVar 167 ⟨w.heap.size, 0, none⟩).run Tryz.prog ((((w.alloc (Obj.cells (cellsI zs) 167)).alloc (Obj.cells (cellsI zs) 167)).alloc (Obj.cells (cellsI zs) 167)).setRow w.heap.size (cellsI zs)) = .ok (.agg (cellsI zs)) ((((w.alloc (Obj.cells (cellsI zs) 167)).alloc (Obj.cells (cellsI zs) 167)).alloc (Obj.cells (cellsI zs) 167)).setRow w.heap.size (cellsI zs)) := HL
 simp [asAddr, Result.andThen, hld]
set_option maxRecDepth 20000 in
set_option maxHeartbeats 2000000 in
theorem tableOf_full {b off cap : Nat} {zs : List Int} {w : World} (hzs : zs.length = 256) (hb : b < w.heap.size) (hc : ∀ i, i < 256 → w.cell? ⟨b, off + i, none⟩ = some (.int .i64 (zs.getD i 0))) :
 Calls Tryz.prog 119 #[.slice (some ⟨b, off, none⟩) 256 cap] w fun e w' => e = .returned (.tuple #[.agg (cellsI zs), .bool (catsB zs)]) ∧ Below w.heap.size w w' := by
 obtain ⟨hv, hi⟩ := zero_of_info Tryz.info167
 rw [cellsI_zero] at hv
 obtain ⟨os, ho⟩ : ∃ os : List Int, os = List.replicate 256 0 := ⟨_, rfl⟩
 rw [← ho] at hv
 have hol : os.length = 256 := by rw [ho, List.length_replicate]
 have HC : Hid (∀ i, i < 256 → w.cell? ⟨b, off + i, none⟩ = some (.int .i64 (zs.getD i 0))) := hc
 have HN : Hid (zs.length = 256) := hzs
 have HO : Hid (os.length = 256) := hol
 have HB : Hid (Blk (((w.alloc (Obj.cells (cellsI os) 167)).alloc (Obj.cells (cellsI os) 167)).alloc (Obj.cells (cellsI os) 167)) w.heap.size os ∧ Blk (((w.alloc (Obj.cells (cellsI os) 167)).alloc (Obj.cells (cellsI os) 167)).alloc (Obj.cells (cellsI os) 167)) (w.heap.size + 1) os ∧ Blk (((w.alloc (Obj.cells (cellsI os) 167)).alloc (Obj.cells (cellsI os) 167)).alloc (Obj.cells (cellsI os) 167)) (w.heap.size + 1 + 1) os ∧ Below w.heap.size w (((w.alloc (Obj.cells (cellsI os) 167)).alloc (Obj.cells (cellsI os) 167)).alloc (Obj.cells (cellsI os) 167))) :=
  ⟨((Blk.new w os).alloc _).alloc _, by simpa using (Blk.new (w.alloc (Obj.cells (cellsI os) 167)) os).alloc _, by simpa using Blk.new ((w.alloc (Obj.cells (cellsI os) 167)).alloc (Obj.cells (cellsI os) 167)) os,
   (((Below.refl _ _).alloc (Nat.le_refl _) _).alloc (by simp) _).alloc (by simp; omega) _⟩
 clear hc hzs hol ho hi
 go_enter Tryz.func119, Tryz.ntmps119
 go_wp2
 go_loopw [14] (fun s wr => ∃ (k : Nat) (gs bs : List Int), k ≤ 256 ∧ s = .int .i64 k ∧ gs.length = 256 ∧ bs.length = 256 ∧ (∀ j, j < k → gs.getD j 0 = zs.getD j 0 ∧ bs.getD j 0 = brought (zs.getD j 0)) ∧
  Blk wr w.heap.size os ∧ Blk wr (w.heap.size + 1) gs ∧ Blk wr (w.heap.size + 1 + 1) bs ∧ Below w.heap.size w wr)
  (fun s _ => 256 - (intOf s).toNat)
 case atStart => exact ⟨0, os, os, by omega, rfl, HO, HO, fun j hj => by omega, HB.1, HB.2.1, HB.2.2.1, HB.2.2.2⟩
 case round =>
  obtain ⟨k, gs, bs, hk, rfl, hgl, hbl, hj, h0, h1, h2, hbel⟩ := hrel
  by_cases hlt : k < 256
  ·have hki : (k : Int) < 256 := by omega
   obtain ⟨z, hz⟩ : ∃ z, z = zs.getD k 0 := ⟨_, rfl⟩
   have hcell : wr.cell? ⟨b, off + k, none⟩ = some (.int .i64 z) := by rw [hz]; exact (hbel.cell (p := ⟨b, off + k, none⟩) hb).trans (HC k hlt)
   have hc1 := h1.cell k (by omega)
   have hf1 := h1.free k
   have hc2 := (h2.other (show w.heap.size + 1 + 1 ≠ w.heap.size + 1 by omega) k (.int .i64 z)).cell k (by omega)
   have hf2 := (h2.other (show w.heap.size + 1 + 1 ≠ w.heap.size + 1 by omega) k (.int .i64 z)).free k
   have HJ : Hid (∀ j, j < k → gs.getD j 0 = zs.getD j 0 ∧ bs.getD j 0 = brought (zs.getD j 0)) := hj
   have HZ : Hid (z = zs.getD k 0) := hz
   have HR : Hid (Blk wr w.heap.size os ∧ Blk wr (w.heap.size + 1) gs ∧ Blk wr (w.heap.size + 1 + 1) bs ∧ Below w.heap.size w wr) := ⟨h0, h1, h2, hbel⟩
   clear hz hj h0 h1 h2 hbel
   go_wp2
   go_roundw
   case rel =>
    refine ⟨k + 1, gs.set k z, bs.set k (brought z), by omega, by go_num, by simp [hgl], by simp [hbl], fun j hj => ?_, (HR.1.other (by omega) _ _).other (by omega) _ _, (HR.2.1.set k z).other (by omega) _ _, ((HR.2.2.1.other (by omega) k _).set k (brought z)), ((HR.2.2.2.setCell (by simp) _).setCell (by simp; omega) _)⟩
    by_cases hjk : j = k
    ·subst hjk
     have hzz : z = zs.getD j 0 := HZ
     rw [← hzz]
     simp [List.getD, hgl, hbl, hlt]
    ·have := HJ j (by omega)
     refine ⟨Eq.trans ?_ this.1, Eq.trans ?_ this.2⟩ <;> simp [List.getD, List.getElem?_set, Ne.symm hjk]
   case measure => simp [intOf]; omega
  ·have hki : ¬ (k : Int) < 256 := by omega
   have hgz : gs = zs := getD_ext (hgl.trans (show zs.length = 256 from HN).symm) fun j hj' => (hj j (by omega)).1
   have hbz : bs = zs.map brought := by
    refine getD_ext (by rw [List.length_map, hbl]; exact (show zs.length = 256 from HN).symm) fun j hj' => ?_
    rw [(hj j (by omega)).2]
    have hl : j < zs.length := by have := (show zs.length = 256 from HN); omega
    simp [List.getD, List.getElem?_map, List.getElem?_eq_getElem hl]
   subst hgz
   obtain ⟨N2, hN2⟩ : ∃ N2, N2 = w.heap.size + 1 + 1 := ⟨_, rfl⟩
   obtain ⟨N1, hN1⟩ : ∃ N1, N1 = w.heap.size + 1 := ⟨_, rfl⟩
   obtain ⟨N0, hN0⟩ : ∃ N0, N0 = w.heap.size := ⟨_, rfl⟩
   have hd1 : N1 ≠ N0 := by omega
   have hd2 : N2 ≠ N0 := by omega
   have hle : w.heap.size ≤ N0 := by omega
   rw [← hN2] at h2 ⊢
   rw [← hN1] at h1 ⊢
   rw [← hN0] at h0
   have HE : Hid (N0 = w.heap.size) := hN0
   clear hN1 hN2
   obtain ⟨G, hG⟩ : ∃ G : List Value, G = gs.map (Value.int .i64) := ⟨_, rfl⟩
   obtain ⟨Bs, hBs⟩ : ∃ Bs : List Value, Bs = bs.map (Value.int .i64) := ⟨_, rfl⟩
   have hGl : G.length = 256 := by rw [hG, List.length_map, hgl]
   have hBl : Bs.length = 256 := by rw [hBs, List.length_map, hbl]
   have hi1 : (Tryz.prog.info? 167).map (·.size) = some G.length := by rw [hGl]; exact (zero_of_info Tryz.info167).2
   have hi2 : (Tryz.prog.info? 167).map (·.size) = some Bs.length := by rw [hBl]; exact (zero_of_info Tryz.info167).2
   have ho1 : ∀ v ∈ G, v.oneCell' = true := by intro v hv; rw [hG] at hv; simp at hv; obtain ⟨x, _, rfl⟩ := hv; rfl
   have ho2 : ∀ v ∈ Bs, v.oneCell' = true := by intro v hv; rw [hBs] at hv; simp at hv; obtain ⟨x, _, rfl⟩ := hv; rfl
   have hu121 := Tryz.underlying167
   have hr1 : wr.rangeAt N1 0 G := by rw [hG]; exact h1.range
   have hr2 : wr.rangeAt N2 0 Bs := by rw [hBs]; exact h2.range
   have ht0 : wr.there N0 0 256 := h0.there HO
   have heq : ∀ wx, (Op.equalIn 10000 167 (.agg G.toArray) (.agg Bs.toArray)).run Tryz.prog wx = .ok (catsB gs) wx := fun wx => by
    rw [hG, hBs]
    exact (run_eq121 wx gs bs hgl hbl).trans (by rw [hbz, brought_eq hgl])
   have hgt : Tryz.prog.eqGuardType Tryz.prog.depth 167 = false := by kernel_rfl
   have HGG : Hid (G = gs.map (Value.int .i64)) := hG
   have HBel : Hid (Below w.heap.size w wr ∧ w.heap.size ≤ N0) := ⟨hbel, hle⟩
   clear hj h0 h1 h2 hbel hgl hbl hbz hle hG hBs
   go_wp2
   rw [← hN0]
   clear hN0
   refine wp_region_held_drew (S := fun w' => w'.rangeAt N1 0 G ∧ w'.rangeAt N2 0 Bs ∧ w'.there N0 0 256) (by kernel_rfl) ⟨hr1, hr2, ht0⟩ (fun hS => ?_)
   refine wpAnyH_take (i := 0) (v := .agg G.toArray) rfl (by kernel_rfl) (by kernel_rfl) (by kernel_rfl) (fun _ _ _ h => h) (yieldsIf_load_mid (by rfl) _ _ rfl _ _ rfl _ _ (fun w h => h.1) hu121 rfl hi1) hS ?_
   try simp only [Act.put, List.setIfInBounds_toArray, List.set_cons_zero, List.set_cons_succ]
   refine wpAnyH_take (i := 1) (v := .agg G.toArray) rfl (by kernel_rfl) (by kernel_rfl) (by kernel_rfl) (fun _ _ _ h => h) (yieldsIf_load_mid (by rfl) _ _ rfl _ _ rfl _ _ (fun w h => h.1) hu121 rfl hi1) hS ?_
   try simp only [Act.put, List.setIfInBounds_toArray, List.set_cons_zero, List.set_cons_succ]
   refine wpAnyH_take (i := 2) (v := .agg Bs.toArray) rfl (by kernel_rfl) (by kernel_rfl) (by kernel_rfl) (fun _ _ _ h => h) (yieldsIf_load_mid (by rfl) _ _ rfl _ _ rfl _ _ (fun w h => h.2.1) hu121 rfl hi2) hS ?_
   try simp only [Act.put, List.setIfInBounds_toArray, List.set_cons_zero, List.set_cons_succ]
   refine wpAnyH_take (i := 3) (oi := { dst := some 31, op := Op.binOp BinOp.eql 167 (Operand.tmp 29) (Operand.tmp 30) 167, type := 4, pos := "l02_scan.go:71", after := #[{ on := 1, ground := Ground.data }, { on := 2, ground := Ground.data }, { on := 4, ground := Ground.gcOnly Departure.lateStores }], guard := none }) (v := .bool (catsB gs)) rfl (by kernel_rfl) (by kernel_rfl) (by kernel_rfl) (fun _ _ _ h => h) (Or.inl ⟨by rfl, fun wx hx => by go_simp⟩) hS ?_
   try simp only [Act.put, List.setIfInBounds_toArray, List.set_cons_zero, List.set_cons_succ]
   refine wpAnyH_ready (rs := [4]) (by kernel_rfl) (by simp) ?_
   refine AllReadyH.cons rfl (fun K hK => ?_) AllReadyH.nil
   rw [if_pos (by rfl)]
   refine wp_store_mid _ _ _ rfl N0 0 (List.toArray G) rfl rfl (by rw [List.size_toArray, hGl]; exact ht0) (by rw [List.size_toArray]; exact hi1) (all_oneCell_toArray ho1) ?_
   have hS2 : (wr.drew.setCells N0 0 G).rangeAt N1 0 G ∧ (wr.drew.setCells N0 0 G).rangeAt N2 0 Bs ∧ (wr.drew.setCells N0 0 G).there N0 0 256 :=
    ⟨World.rangeAt_setCells_apart hS.1 _ _ _ (Or.inl hd1), World.rangeAt_setCells_apart hS.2.1 _ _ _ (Or.inl hd2), World.there_setCells hS.2.2 _ _ _⟩
   refine hK.out _ _ hS2 (fun hS3 => ?_)
   try simp only [Act.put, List.setIfInBounds_toArray, List.set_cons_zero, List.set_cons_succ]
   refine wpAnyH_take (i := 5) (oi := { dst := some 3, op := Op.assign (Operand.tmp 31), type := 4, pos := "l02_scan.go:71", after := #[{ on := 3, ground := Ground.data }, { on := 4, ground := Ground.chain }, { on := 0, ground := Ground.phase }, { on := 1, ground := Ground.phase }, { on := 2, ground := Ground.phase }, { on := 3, ground := Ground.phase }, { on := 4, ground := Ground.phase }], guard := none }) (v := .bool (catsB gs)) rfl (by kernel_rfl) (by kernel_rfl) (by kernel_rfl) (fun _ _ _ h => h) (Or.inl ⟨by rfl, fun wx hx => by go_simp⟩) hS3 ?_
   try simp only [Act.put, List.setIfInBounds_toArray, List.set_cons_zero, List.set_cons_succ]
   refine wpAnyH_done (by kernel_rfl) ?_ _
   have HF : Hid ((loadVar 167 ⟨N0, 0, none⟩).run Tryz.prog (wr.drew.setCells N0 0 G) = .ok (.agg G.toArray) (wr.drew.setCells N0 0 G) ∧ Below w.heap.size w (wr.drew.setCells N0 0 G)) :=
    ⟨run_loadVar_mid _ N0 0 167 G _ (World.rangeAt_setCells_same _ _ _ _ (by rw [hGl]; exact ht0)) hu121 rfl hi1, below_setCells HBel.2 _ _ _ _ HBel.1.drew⟩
   clear hS hS2 hS3 hK hr1 hr2 ht0 heq hi1 hi2 ho1 ho2
   go_wp2
   refine bodyPost_ret (v := .tuple #[.agg (cellsI gs), .bool (catsB gs)]) ?_ rfl ⟨rfl, HF.2⟩
   rw [results_cell_tmp rfl]
   have hld : (loadVar 167 ⟨N0, 0, none⟩).run Tryz.prog (wr.drew.setCells N0 0 G) = .ok (.agg G.toArray) (wr.drew.setCells N0 0 G) := HF.1
   have hge : G.toArray = cellsI gs := by rw [show G = gs.map (Value.int .i64) from HGG]; rfl
   simp [asAddr, Result.andThen, hld, hge]
end Go.Proofs.YtbpidcfoldkhgaaGreat
