import Derived.Test.YtbbehmcekbnkiaaGreatDls
import Derived.OwnWalk
import Derived.Laws.OwnMore
import Derived.Test.YtbbehmcekbnkiaaGreatSdp
import Derived.Test.YtbbehmcekbnkiaaGreatOut
namespace Go.Proofs.YtbbehmcekbnkiaaGreat
open Go.RowKit
set_option linter.unusedVariables false
set_option linter.unusedSimpArgs false
theorem flatN_setc : ∀ (xs : List Nd) (p : Nat), p < xs.length → ∀ (y : Nd) (o : Nat) (v : Value), o < 15 → y.cells = (xs.getD p Nd.none).cells.set o v → flatN (xs.set p y) = (flatN xs).set (p * 15 + o) v
 | [], p, h, _, _, _, _, _ => by simp at h
 | x :: xs, 0, h, y, o, v, ho, hy => by
  simp only [List.getD_cons_zero] at hy
  simp only [List.set_cons_zero, flatN, hy]
  rw [List.set_append_left _ _ (by rw [cells_len]; omega)]
  simp
 | x :: xs, p + 1, h, y, o, v, ho, hy => by
  simp only [List.getD_cons_succ] at hy
  have ih := flatN_setc xs p (by simpa using h) y o v ho hy
  simp only [List.set_cons_succ, flatN, ih]
  rw [List.set_append_right _ _ (by rw [cells_len]; omega), cells_len]
  congr 2
  omega
theorem nd_putI (x : Nd) (s : Int) {o : Nat} (ho : o < 15) (h13 : o ≠ 13) : ∃ y : Nd, y.cells = x.cells.set o (.int .i64 s) := by
 rcases (show o = 0 ∨ o = 1 ∨ o = 2 ∨ o = 3 ∨ o = 4 ∨ o = 5 ∨ o = 6 ∨ o = 7 ∨ o = 8 ∨ o = 9 ∨ o = 10 ∨ o = 11 ∨ o = 12 ∨ o = 14 by omega) with rfl | rfl | rfl | rfl | rfl | rfl | rfl | rfl | rfl | rfl | rfl | rfl | rfl | rfl
 ·exact ⟨{ x with k := s }, rfl⟩
 ·exact ⟨{ x with wd := s }, rfl⟩
 ·exact ⟨{ x with ht := s }, rfl⟩
 ·exact ⟨{ x with dp := s }, rfl⟩
 ·exact ⟨{ x with sh := s }, rfl⟩
 ·exact ⟨{ x with fo := s }, rfl⟩
 ·exact ⟨{ x with ch := s }, rfl⟩
 ·exact ⟨{ x with nn := s }, rfl⟩
 ·exact ⟨{ x with gs := s }, rfl⟩
 ·exact ⟨{ x with gp := s }, rfl⟩
 ·exact ⟨{ x with gpo := s }, rfl⟩
 ·exact ⟨{ x with gm := s }, rfl⟩
 ·exact ⟨{ x with gmo := s }, rfl⟩
 ·exact ⟨{ x with kids := s }, rfl⟩
section
variable {w : World} {base g n cap p o : Nat}
theorem OwnN.putI (h : OwnN w base (.slice (some ⟨g, 0, none⟩) n cap) n) (hp : p < n) (ho : o < 15) (h13 : o ≠ 13) (s : Int) : OwnN (w.setCell ⟨g, p * 15 + o, none⟩ (.int .i64 s)) base (.slice (some ⟨g, 0, none⟩) n cap) n := by
 obtain ⟨xs, hl, hx⟩ := h
 obtain ⟨y, hy⟩ := nd_putI (xs.getD p Nd.none) s ho h13
 exact ⟨xs.set p y, by rw [List.length_set]; exact hl, by rw [flatN_setc xs p (by omega) y o _ ho hy]; exact own_set hx _ _⟩
theorem OwnN.putS (h : OwnN w base (.slice (some ⟨g, 0, none⟩) n cap) n) (hp : p < n) (s : ByteArray) : OwnN (w.setCell ⟨g, p * 15 + 13, none⟩ (.string s)) base (.slice (some ⟨g, 0, none⟩) n cap) n := by
 obtain ⟨xs, hl, hx⟩ := h
 exact ⟨xs.set p { xs.getD p Nd.none with tx := s }, by rw [List.length_set]; exact hl, by rw [flatN_setc xs p (by omega) _ 13 (.string s) (by omega) rfl]; exact own_set hx _ _⟩
theorem OwnN.cellI (h : OwnN w base (.slice (some ⟨g, 0, none⟩) n cap) n) (hp : p < n) (ho : o < 15) (h13 : o ≠ 13) : ∃ s : Int, w.cell? ⟨g, p * 15 + o, none⟩ = some (.int .i64 s) ∧ w.frozen? ⟨g, p * 15 + o, none⟩ = false := by
 obtain ⟨xs, hl, hx⟩ := h
 have key : ∃ s : Int, (xs.getD p Nd.none).cells[o]? = some (.int .i64 s) := by
  rcases (show o = 0 ∨ o = 1 ∨ o = 2 ∨ o = 3 ∨ o = 4 ∨ o = 5 ∨ o = 6 ∨ o = 7 ∨ o = 8 ∨ o = 9 ∨ o = 10 ∨ o = 11 ∨ o = 12 ∨ o = 14 by omega) with rfl | rfl | rfl | rfl | rfl | rfl | rfl | rfl | rfl | rfl | rfl | rfl | rfl | rfl <;> exact ⟨_, rfl⟩
 obtain ⟨s, hs⟩ := key
 exact ⟨s, own_cell hx (flatN_at xs p (by omega) o ho hs)⟩
theorem OwnN.cellS (h : OwnN w base (.slice (some ⟨g, 0, none⟩) n cap) n) (hp : p < n) : ∃ s : ByteArray, w.cell? ⟨g, p * 15 + 13, none⟩ = some (.string s) ∧ w.frozen? ⟨g, p * 15 + 13, none⟩ = false := by
 obtain ⟨xs, hl, hx⟩ := h
 exact ⟨_, own_cell hx (flatN_at xs p (by omega) 13 (by omega) (u := .string (xs.getD p Nd.none).tx) rfl)⟩
end
def FramX (w : World) (v : Value) (wi wj : World) : Prop := wi.heap.size ≤ wj.heap.size ∧ ∀ b, b < wi.heap.size → b ≠ w.heap.size → v.ownBlock ≠ some b → wj.heap[b]? = wi.heap[b]?
def Ret (e : Ending) : Prop := ∃ r, e = .returned r
def DS (w wr wi : World) (ao : Option Addr) (len cap base : Nat) (v : Value) (n : Nat) : Prop := Cur w wi ao len cap ∧ Fram w wr wi ∧ OwnN wi base v n
section
variable {w wr wi wj : World} {ao : Option Addr} {len cap base n g c : Nat} {v : Value}
theorem DS.fram (h : DS w wr wi ao len cap base v n) (hw : w.heap.size < base) (hf : Fram w wi wj) (hc : Cur w wj ao len cap) : DS w wr wj ao len cap base v n := ⟨hc, h.2.1.trans hf, h.2.2.fram hw hf⟩
theorem DS.other (h : DS w wr wi ao len cap base v n) (hw : w.heap.size < base) (ho : Other w wi wj) (hc : Cur w wj ao len cap) : DS w wr wj ao len cap base v n := h.fram hw ⟨Other.size ho hc.lt, fun n _ hne => ho n hne⟩ hc
theorem DS.bel (h : DS w wr wi ao len cap base v n) (hw : w.heap.size < base) (hb : Below wi.heap.size wi wj) : DS w wr wj ao len cap base v n := h.fram hw (Fram.ofBel hb) (h.1.bel hb)
theorem DS.put (h : DS w wr wi ao len cap base (.slice (some ⟨g, 0, none⟩) n c) n) (hw : w.heap.size < base) (j : Nat) (x : Value) (ho : OwnN (wi.setCell ⟨g, j, none⟩ x) base (.slice (some ⟨g, 0, none⟩) n c) n) : Cur w (wi.setCell ⟨g, j, none⟩ x) ao len cap ∧ FramX w (.slice (some ⟨g, 0, none⟩) n c) wr (wi.setCell ⟨g, j, none⟩ x) ∧ OwnN (wi.setCell ⟨g, j, none⟩ x) base (.slice (some ⟨g, 0, none⟩) n c) n := by
 have hg : base ≤ g := by
  obtain ⟨xs, _, hx⟩ := h.2.2
  exact (own_lt hx rfl).1
 refine ⟨h.1.set (by omega) _ _, ⟨by simpa [World.setCell] using h.2.1.1, fun b hb hne hv => ?_⟩, ho⟩
 exact (Below.heap_setCell _ _ _ _ (fun e => hv (by rw [e]; rfl))).trans (h.2.1.2 b hb hne)
end
theorem Tryz.info5b : (Tryz.prog.info? 5).map (fun i => (i.zero, i.size, i.bytes)) = some (some (.int .u8 0), 1, 1) := by kernel_rfl
theorem made_bytes (m : Nat) : (madeCells (Value.cells (.int .u8 0)) (m * 1)).toList = (List.replicate m (0 : Int)).map (Value.int .u8) := by
 apply List.ext_getElem
 ·simp [madeCells]
 ·intro i h1 h2
  simp only [madeCells, Value.cells, Array.toList_map, Array.toList_range, List.getElem_map, List.getElem_range, List.getElem_replicate]
  simp [Nat.mod_one]
theorem conv_made {w : World} {base D n : Nat} (h : w.ownsRow base 5 1 (.slice (some ⟨D, 0, none⟩) n n) n (madeCells (Value.cells (.int .u8 0)) (n * 1)).toList) : ∃ s : ByteArray, (convert 22 9 (.slice (some ⟨D, 0, none⟩) n n)).run Tryz.prog w = .ok (.string s) w := by
 rw [made_bytes] at h
 refine ⟨_, run_convert_bytes_arg w 22 5 Tryz.underlying22 Tryz.underlying5 D 0 n n (List.replicate n 0) (by simp) ?_ 9 Tryz.underlying9⟩
 intro i hi
 obtain ⟨hl, ⟨h, _⟩ | ⟨g, cap, cur, e, _, hb, hn, hm, hs, hx⟩⟩ := h
 ·simp at h
 ·simp only [Value.slice.injEq, Option.some.injEq, Addr.mk.injEq, and_true, true_and] at e
  obtain ⟨rfl, rfl⟩ := e
  rw [Nat.zero_add, cell_of_row w D i cur 5 _ hb, ← Array.getElem?_toList]
  have h1 : ((List.replicate n (0 : Int)).map (Value.int .u8))[i]? = some (.int .u8 ((List.replicate n (0 : Int)).getD i 0)) := by simp [hi, List.getD]
  rw [← hx, List.getElem?_take] at h1
  split at h1
  ·exact h1
  ·cases h1
set_option maxRecDepth 20000 in
set_option maxHeartbeats 8000000 in
theorem spoil_any {base n : Nat} {v : Value} (ao : Option Addr) (len cap : Nat) (w wr : World) (hB : Bytes w ao len cap) (hC : Cur w wr ao len cap) (hw : w.heap.size < base) (hbs : base ≤ wr.heap.size) (ho : OwnN wr base v n) (hn : n ≤ 100000) :
 Calls Tryz.prog 55 #[curP w, v] wr fun e w' => Ret e ∧ Cur w w' ao len cap ∧ FramX w v wr w' ∧ OwnN w' base v n := by
 have HB := hideD hB
 have D0 : Hid (DS w wr wr ao len cap base v n) := hideP ⟨hC, Fram.refl w wr, ho⟩
 clear hB hC
 obtain ⟨i0, hi, hz0, hz1, hz2⟩ := info_parts Tryz.info5b
 by_cases hn0 : n = 0
 ·subst hn0
  obtain ⟨va, vc, hve⟩ := ho.shape
  subst hve
  clear ho
  go_enter Tryz.func55, Tryz.ntmps55
  go_wp2
  refine bodyPost_ret (results_none rfl _ _ _) rfl ?_
  exact ⟨⟨_, rfl⟩, D0.out.1, ⟨Nat.le_refl _, fun _ _ _ _ => rfl⟩, D0.out.2.2⟩
 ·obtain ⟨g, c, hve⟩ : ∃ g c, v = .slice (some ⟨g, 0, none⟩) n c := by
   obtain ⟨_, _, h⟩ := ho
   exact own_some h (by omega)
  subst hve
  clear ho
  have hn0i : ¬ (n : Int) = 0 := by omega
  go_enter Tryz.func55, Tryz.ntmps55
  go_wp2_with fail
  refine (belowN_any (n : Int) ao len cap w _ HB.out D0.out.1 (by omega) (by omega)).mono ?_
  rintro e w1 ⟨ji, rfl, j0, j1, c1, o1⟩
  have D1 := hideP (DS.other D0.out hw o1 c1)
  clear D0 c1 o1
  obtain ⟨j, rfl⟩ := Int.eq_ofNat_of_zero_le j0
  have hjn : j < n := by omega
  have hs1 : w1.heap.size ≠ w.heap.size := by have := D1.out.1.lt; omega
  have DA := hideP (DS.bel D1.out hw (below1 w1 (.cells #[.int .i64 1, .int .i64 (-1), .int .i64 1073741823, .int .i64 300] 2)))
  have HSL := hideP (heap_alloc_new w1 (.cells #[.int .i64 1, .int .i64 (-1), .int .i64 1073741823, .int .i64 300] 2))
  go_wp2_with fail
  refine (belowN_any 4 ao len cap w _ HB.out DA.out.1 (by omega) (by omega)).mono ?_
  rintro e w2 ⟨q, rfl, q0, q1, c2, o2⟩
  have D2 := hideP (DS.other DA.out hw o2 c2)
  have hsl := (o2 w1.heap.size hs1).trans HSL.out
  clear D1 DA c2 o2 HSL
  obtain ⟨qn, rfl⟩ := Int.eq_ofNat_of_zero_le q0
  obtain ⟨x, hcx⟩ : ∃ x : Int, w2.cell? ⟨w1.heap.size, qn, none⟩ = some (.int .i64 x) := by
   rw [cell_of_row w2 w1.heap.size qn _ 2 (0, 0) hsl]
   rcases (show qn = 0 ∨ qn = 1 ∨ qn = 2 ∨ qn = 3 by omega) with rfl | rfl | rfl | rfl
   ·exact ⟨1, rfl⟩
   ·exact ⟨-1, rfl⟩
   ·exact ⟨1073741823, rfl⟩
   ·exact ⟨300, rfl⟩
  have hqn : (qn : Int) < 4 := q1
  clear hsl hs1
  go_wp2_with fail
  refine (belowN_any 8 ao len cap w _ HB.out D2.out.1 (by omega) (by omega)).mono ?_
  rintro e w3 ⟨y, rfl, y0, y1, c3, o3⟩
  have D3 := hideP (DS.other D2.out hw o3 c3)
  clear D2 c3 o3 hcx
  have hgz : g < w3.heap.size := by
   obtain ⟨xs, _, h⟩ := D3.out.2.2
   exact (own_lt h rfl).2.1
  rcases (show y = 0 ∨ y = 1 ∨ y = 2 ∨ y = 3 ∨ y = 4 ∨ y = 5 ∨ y = 6 ∨ y = 7 by omega) with rfl | rfl | rfl | rfl | rfl | rfl | rfl | rfl
  ·obtain ⟨s, hcs, hfs⟩ := D3.out.2.2.cellI hjn (o := 0) (by omega) (by omega)
   have HF := hideP (DS.put D3.out hw (j * 15 + 0) _ (D3.out.2.2.putI hjn (o := 0) (by omega) (by omega) (wrap64 (s + x))))
   clear D3
   simp only [Nat.add_zero] at hcs hfs HF
   go_wp2
   refine bodyPost_end (results_none rfl _ _ _) rfl ?_
   exact ⟨⟨_, rfl⟩, HF.out⟩
  ·obtain ⟨s, hcs, hfs⟩ := D3.out.2.2.cellI hjn (o := 1) (by omega) (by omega)
   have HF := hideP (DS.put D3.out hw (j * 15 + 1) _ (D3.out.2.2.putI hjn (o := 1) (by omega) (by omega) (wrap64 (s + x))))
   clear D3
   go_wp2
   refine bodyPost_end (results_none rfl _ _ _) rfl ?_
   exact ⟨⟨_, rfl⟩, HF.out⟩
  ·obtain ⟨s, hcs, hfs⟩ := D3.out.2.2.cellI hjn (o := 14) (by omega) (by omega)
   have HF := hideP (DS.put D3.out hw (j * 15 + 14) _ (D3.out.2.2.putI hjn (o := 14) (by omega) (by omega) (wrap64 (s + x))))
   clear D3
   go_wp2
   refine bodyPost_end (results_none rfl _ _ _) rfl ?_
   exact ⟨⟨_, rfl⟩, HF.out⟩
  ·obtain ⟨s, hcs, hfs⟩ := D3.out.2.2.cellI hjn (o := 5) (by omega) (by omega)
   have HF := hideP (DS.put D3.out hw (j * 15 + 5) _ (D3.out.2.2.putI hjn (o := 5) (by omega) (by omega) (wrap64 (s + x))))
   clear D3
   go_wp2
   refine bodyPost_end (results_none rfl _ _ _) rfl ?_
   exact ⟨⟨_, rfl⟩, HF.out⟩
  ·obtain ⟨s, hcs, hfs⟩ := D3.out.2.2.cellI hjn (o := 7) (by omega) (by omega)
   have HF := hideP (DS.put D3.out hw (j * 15 + 7) _ (D3.out.2.2.putI hjn (o := 7) (by omega) (by omega) (wrap64 (s + x))))
   clear D3
   go_wp2
   refine bodyPost_end (results_none rfl _ _ _) rfl ?_
   exact ⟨⟨_, rfl⟩, HF.out⟩
  ·obtain ⟨s, hcs, hfs⟩ := D3.out.2.2.cellI hjn (o := 4) (by omega) (by omega)
   have HF := hideP (DS.put D3.out hw (j * 15 + 4) _ (D3.out.2.2.putI hjn (o := 4) (by omega) (by omega) (wrap64 (s + x))))
   clear D3
   go_wp2
   refine bodyPost_end (results_none rfl _ _ _) rfl ?_
   exact ⟨⟨_, rfl⟩, HF.out⟩
  ·go_wp2_with fail
   refine (belowN_any 2 ao len cap w _ HB.out D3.out.1 (by omega) (by omega)).mono ?_
   rintro e w4 ⟨t, rfl, t0, t1, c4, o4⟩
   have D4 := hideP (DS.other D3.out hw o4 c4)
   clear D3 c4 o4
   obtain ⟨tn, rfl⟩ := Int.eq_ofNat_of_zero_le t0
   have hz4 : base ≤ w4.heap.size := by have := D4.out.2.1.1; omega
   have hg4 : g < w4.heap.size := by
    obtain ⟨xs, _, h⟩ := D4.out.2.2
    exact (own_lt h rfl).2.1
   go_wp2_with (at_make; refine wpList_make_full _ rfl _ _ 22 rfl base 5 i0 (.int .u8 0) 1 Tryz.underlying22 hi hz0 hz1 _ _ _ _ (1000 + tn) rfl rfl (by omega) (by omega) (by rw [hz2]; omega) (by unfold maxLen; omega) hz4 ?_; intro w5 hown5 hgr5; obtain ⟨s5, hs5⟩ := conv_made hown5; have hb5 : Below w4.heap.size w4 w5 := Below.grown (Below.refl _ _) hgr5 (Nat.le_refl _) (fun k hk => by cases hk); have D5 := hideP (DS.bel D4.out hw hb5); obtain ⟨st, hct, hft⟩ := D5.out.2.2.cellS hjn; have HF := hideP (DS.put D5.out hw (j * 15 + 13) _ (D5.out.2.2.putS hjn s5)); clear D4 D5 hown5 hgr5 hb5)
   refine bodyPost_end (results_none rfl _ _ _) rfl ?_
   exact ⟨⟨_, rfl⟩, HF.out⟩
  ·obtain ⟨s, hcs, hfs⟩ := D3.out.2.2.cellI hjn (o := 2) (by omega) (by omega)
   have HF := hideP (DS.put D3.out hw (j * 15 + 2) _ (D3.out.2.2.putI hjn (o := 2) (by omega) (by omega) (wrap64 (s + x))))
   clear D3
   go_wp2
   refine bodyPost_end (results_none rfl _ _ _) rfl ?_
   exact ⟨⟨_, rfl⟩, HF.out⟩
theorem flatN_rep : ∀ n : Nat, ∀ i, i < n * 15 → (flatN (List.replicate n Nd.none))[i]? = Nd.none.cells[i % 15]? := fun n i hi => by
 have h1 := flatN_get (List.replicate n Nd.none) (i / 15) (by rw [List.length_replicate]; omega) (i % 15) (Nat.mod_lt _ (by omega))
 rw [show i / 15 * 15 + i % 15 = i by omega] at h1
 rw [h1]
 congr 2
 simp [List.getD, show i / 15 < n by omega]
theorem made_nodes (n : Nat) : (madeCells (Value.cells (ndV Nd.none)) (n * 15)).toList = flatN (List.replicate n Nd.none) := by
 apply List.ext_getElem?
 intro i
 by_cases hi : i < n * 15
 ·rw [flatN_rep n i hi]
  have : (madeCells (Value.cells (ndV Nd.none)) (n * 15)).toList[i]? = some ((Value.cells (ndV Nd.none))[i % (Value.cells (ndV Nd.none)).size]!) := by
   simp [madeCells, hi]
  rw [this]
  have hr : i % 15 < 15 := Nat.mod_lt _ (by omega)
  show some (((ndA Nd.none))[i % 15]!) = _
  generalize i % 15 = r at hr
  match r, hr with
  | 0, _ | 1, _ | 2, _ | 3, _ | 4, _ | 5, _ | 6, _ | 7, _ | 8, _ | 9, _ | 10, _ | 11, _ | 12, _ | 13, _ | 14, _ => rfl
 ·rw [List.getElem?_eq_none (by simp [madeCells]; omega), List.getElem?_eq_none (by rw [flatN_len, List.length_replicate]; omega)]
section
variable {w wr wi wj : World} {ao : Option Addr} {len cap n m : Nat} {v v' : Value}
theorem FramX.fram (hf : Fram w wr wi) (hx : FramX w v wi wj) (hv : ∀ g, v.ownBlock = some g → wr.heap.size ≤ g) : Fram w wr wj :=
 ⟨Nat.le_trans hf.1 hx.1, fun b hb hne => (hx.2 b (Nat.lt_of_lt_of_le hb hf.1) hne (fun e => by have := hv b e; omega)).trans (hf.2 b hb hne)⟩
theorem OwnN.ge {base : Nat} (h : OwnN wi base v n) : ∀ g, v.ownBlock = some g → base ≤ g := fun g hg => by
 obtain ⟨_, _, h⟩ := h
 exact (own_lt h hg).1
theorem DS.app {xs : List Nd} (hc : Cur w wi ao len cap) (hf : Fram w wr wi) (hb : ∀ g, v.ownBlock = some g → wr.heap.size ≤ g) (hw : w.heap.size < wr.heap.size) (hg : wi.grownBy wj v.ownBlock) (ho : wj.ownsRow wr.heap.size 36 15 v' m (flatN xs)) (hx : xs.length = m) : DS w wr wj ao len cap wr.heap.size v' m := by
 obtain ⟨j, x, h1, h2, h3, h4⟩ := hc
 have hl := (Array.getElem?_eq_some_iff.1 h3).1
 refine ⟨⟨j, x, h1, h2, (hg.block _ hl (fun e => by have := hb _ e.symm; omega)).trans h3, Below.grown h4 hg h4.size fun g hg' => by have := hb g hg'; omega⟩, ⟨Nat.le_trans hf.1 hg.size, fun b hb' hne => ?_⟩, ⟨xs, hx, ho⟩⟩
 exact (hg.block b (Nat.lt_of_lt_of_le hb' hf.1) (fun e => by have := hb _ e.symm; omega)).trans (hf.2 b hb' hne)
theorem one_own {base : Nat} (w : World) (x : Nd) (hb : base ≤ w.heap.size) : (w.alloc (ndO x)).ownsRow base 36 15 (.slice (some ⟨w.heap.size, 0, none⟩) 1 1) 1 (flatN [x]) :=
 ⟨rfl, .inr ⟨_, _, _, rfl, hb, heap_alloc_new w _, Nat.le_refl _, by unfold maxLen; omega, rfl, rfl⟩⟩
end
set_option maxRecDepth 20000 in
set_option maxHeartbeats 16000000 in
theorem drawAny_any (ao : Option Addr) (len cap : Nat) (w w0 : World) (hB : Bytes w ao len cap) (hC : Cur w w0 ao len cap) :
 Calls Tryz.prog 28 #[curP w] w0 fun e w' => DL w w0 w' ao len cap e 20001 := by
 have HB := hideD hB
 have HC := hideD hC
 have hw : w.heap.size < w0.heap.size := hC.lt
 clear hB hC
 obtain ⟨i0, hi, hz0, hz1, hz2⟩ := info_parts Tryz.info57c
 go_enter Tryz.func28, Tryz.ntmps28
 go_wp2_with fail
 refine (belowN_any 10 ao len cap w _ HB.out HC.out (by omega) (by omega)).mono ?_
 rintro e w1 ⟨ni, rfl, n0, n1, c1, o1⟩
 obtain ⟨n, rfl⟩ := Int.eq_ofNat_of_zero_le n0
 have hF1 : Fram w w0 w1 := ⟨Other.size o1 c1.lt, fun n _ hne => o1 n hne⟩
 have HF1 := hideP hF1
 have HC1 := hideP c1
 clear HC o1 c1 hF1
 go_wp2_with fail
 refine (drawList_any ao len cap w HB.out 2 n w1 (by omega) (by omega) HC1.out).mono ?_
 rintro e w2 ⟨u, k, rfl, hou, hk, c2, f2⟩
 have hk1 : k ≤ 1000 := by
  have h1 : n * bnd 2 ≤ 9 * bnd 2 := Nat.mul_le_mul_right _ (by omega)
  have h2 : 9 * bnd 2 = 189 := by decide
  omega
 have D2 : Hid (DS w w0 w2 ao len cap w0.heap.size u k) := hideP ⟨c2, HF1.out.trans f2, by
  obtain ⟨xs, hl, hx⟩ := hou
  exact ⟨xs, hl, own_mon hx HF1.out.1⟩⟩
 clear hou hk c2 f2 HF1 HC1 n0 n1
 obtain ⟨ua, uc, hue⟩ := D2.out.2.2.shape
 subst hue
 go_wp2_with fail
 refine (once_any 12 ao len cap w _ HB.out D2.out.1 (by omega) (by omega)).mono ?_
 rintro e w3 ⟨bb, rfl, c3, o3⟩
 have D3 := hideP (DS.other D2.out hw o3 c3)
 clear D2 c3 o3
 go_upto_if 11 with fail
 go_cut [] (fun wc => Hid (DS w w0 wc ao len cap w0.heap.size (.slice ua k uc) k))
 case first =>
  cases bb with
  | false =>
   go_wp2
   go_meet
   case rel => exact D3
  | true =>
   go_wp2_with fail
   refine (spoil_any ao len cap w _ HB.out D3.out.1 hw D3.out.2.1.1 D3.out.2.2 (by omega)).mono ?_
   rintro e w4 ⟨⟨r, rfl⟩, c4, x4, o4⟩
   have D4 : Hid (DS w w0 w4 ao len cap w0.heap.size (.slice ua k uc) k) := hideP ⟨c4, FramX.fram D3.out.2.1 x4 D3.out.2.2.ge, o4⟩
   clear D3 c4 x4 o4
   go_wp2
   go_meet
   case rel => exact D4
 case rest =>
  clear D3
  have D3 := hcut
  clear hcut
  go_wp2_with fail
  refine (once_any 40 ao len cap w _ HB.out D3.out.1 (by omega) (by omega)).mono ?_
  rintro e w5 ⟨bb2, rfl, c5, o5⟩
  have D5 := hideP (DS.other D3.out hw o5 c5)
  clear D3 c5 o5
  go_upto_if 16 with fail
  go_cut [3, 4] (fun s3 _ wc => ∃ (v : Value) (k : Nat), s3 = v ∧ k ≤ 2000 ∧ Hid (DS w w0 wc ao len cap w0.heap.size v k))
  case first =>
   cases bb2 with
   | false =>
    go_wp2
    go_meet
    case rel => exact ⟨_, k, rfl, by omega, D5⟩
   | true =>
    go_wp2_with fail
    refine (belowN_any 4 ao len cap w _ HB.out D5.out.1 (by omega) (by omega)).mono ?_
    rintro e w6 ⟨yi, rfl, y0, y1, c6, o6⟩
    obtain ⟨y, rfl⟩ := Int.eq_ofNat_of_zero_le y0
    have D6 := hideP (DS.other D5.out hw o6 c6)
    clear D5 c6 o6
    go_wp2_with fail
    go_loopw [3, 4] (fun s3 s4 wi => ∃ (i k : Nat) (v : Value), i ≤ 50 ∧ s4 = .int .i64 (i : Int) ∧ k + i ≤ 1100 ∧ s3 = v ∧ Hid (DS w w0 wi ao len cap w0.heap.size v k)) (fun _ s4 _ => (intOf s4).toNat)
    case atStart => exact ⟨y + 39, k, _, by omega, by go_num, by omega, rfl, D6⟩
    case round =>
     obtain ⟨i, k', v, hi50, rfl, hki, rfl, DI⟩ := hrel
     obtain ⟨va, vc, hve⟩ := DI.out.2.2.shape
     subst hve
     clear D6
     by_cases hi0 : 0 < i
     ·have hi0i : (0 : Int) < (i : Int) := by omega
      obtain ⟨xs, hxl, hox⟩ := DI.out.2.2
      obtain ⟨nx, hnx⟩ : ∃ nx : Nd, nx = ⟨6, 0, 0, 0, 0, 0, 0, 0, 0, 0, 0, 0, 0, ⟨#[]⟩, (k' : Int)⟩ := ⟨_, rfl⟩
      have hw1 : w0.heap.size ≤ wr.heap.size := DI.out.2.1.1
      have hone : Hid ((wr.alloc (ndO ⟨6, 0, 0, 0, 0, 0, 0, 0, 0, 0, 0, 0, 0, ⟨#[]⟩, (k' : Int)⟩)).ownsRow w0.heap.size 36 15 (.slice (some ⟨wr.heap.size, 0, none⟩) 1 1) 1 (flatN [⟨6, 0, 0, 0, 0, 0, 0, 0, 0, 0, 0, 0, 0, ⟨#[]⟩, (k' : Int)⟩])) := hideP (one_own wr _ hw1)
      have hNB := hideP (own_NN (own_below hox (below1 wr (ndO ⟨6, 0, 0, 0, 0, 0, 0, 0, 0, 0, 0, 0, 0, ⟨#[]⟩, (k' : Int)⟩))) hxl)
      have hcA : Hid (Cur w (wr.alloc (ndO ⟨6, 0, 0, 0, 0, 0, 0, 0, 0, 0, 0, 0, 0, ⟨#[]⟩, (k' : Int)⟩)) ao len cap) := hideP (DI.out.1.alloc _)
      have hfA : Hid (Fram w w0 (wr.alloc (ndO ⟨6, 0, 0, 0, 0, 0, 0, 0, 0, 0, 0, 0, 0, ⟨#[]⟩, (k' : Int)⟩))) := hideP (DI.out.2.1.alloc _)
      clear DI hox hnx
      go_wp2_with (at_builtin; refine wpList_appN rfl _ _ rfl w0.heap.size (.slice (some ⟨wr.heap.size, 0, none⟩) 1 1) 1 [⟨6, 0, 0, 0, 0, 0, 0, 0, 0, 0, 0, 0, 0, ⟨#[]⟩, (k' : Int)⟩] rfl hone.out _ xs rfl hNB.out (by omega) hfA.out.1 ?_; intro v7 w7 ho7 hg7 hat7; have D7 := hideP (DS.app hcA.out hfA.out (fun g hg => (own_lt hone.out hg).1) hw hg7 ho7 (by simp; omega)); obtain ⟨a7, c7, h7⟩ := D7.out.2.2.shape; subst h7; clear ho7 hg7 hat7 hcA hfA hone hNB)
      go_roundw
      case rel => exact ⟨i - 1, 1 + k', _, by omega, by (congr 1; omega), by omega, rfl, by (have h := D7; rw [hxl] at h; exact h)⟩
      case measure => simp [intOf]; omega
     ·have hi0i : ¬ (0 : Int) < (i : Int) := by omega
      go_wp2
      go_meet
      case rel => exact ⟨_, k', rfl, by omega, DI⟩
  case rest =>
   obtain ⟨v, k3, rfl, hk3, D6⟩ := hcut
   clear D5
   obtain ⟨va, vc, hve⟩ := D6.out.2.2.shape
   subst hve
   go_wp2_with fail
   refine (once_any 100 ao len cap w _ HB.out D6.out.1 (by omega) (by omega)).mono ?_
   rintro e w7 ⟨bb3, rfl, c7, o7⟩
   have D7 := hideP (DS.other D6.out hw o7 c7)
   clear D6 c7 o7
   go_upto_if 31 with fail
   go_cut [3, 5] (fun s3 _ wc => ∃ (v : Value) (k : Nat), s3 = v ∧ k ≤ 20001 ∧ Hid (DS w w0 wc ao len cap w0.heap.size v k))
   case first =>
    cases bb3 with
    | false =>
     go_wp2
     go_meet
     case rel => exact ⟨_, k3, rfl, by omega, D7⟩
    | true =>
     go_wp2_with fail
     refine (belowN_any 3 ao len cap w _ HB.out D7.out.1 (by omega) (by omega)).mono ?_
     rintro e w8 ⟨yi, rfl, y0, y1, c8, o8⟩
     obtain ⟨y, rfl⟩ := Int.eq_ofNat_of_zero_le y0
     have D8 := hideP (DS.other D7.out hw o8 c8)
     clear D7 c8 o8
     have hw8 : w0.heap.size ≤ w8.heap.size := D8.out.2.1.1
     obtain ⟨M, hM⟩ : ∃ M : Nat, M = 19999 + y := ⟨_, rfl⟩
     have hMi : 20000 + (y : Int) - 1 = (M : Int) := by omega
     have hM1 : M ≤ 20001 := by omega
     clear hM
     go_wp2_with (at_make; refine wpList_make_full _ rfl _ _ 24 rfl w0.heap.size 36 i0 (ndV Nd.none) 15 Tryz.underlying24 hi hz0 hz1 _ _ _ _ M rfl rfl (by omega) (by omega) (by rw [hz2]; omega) (by unfold maxLen; omega) hw8 ?_; intro w9 hown9 hgr9; rw [made_nodes] at hown9; have D9 : Hid (DS w w0 w9 ao len cap w0.heap.size (.slice (some ⟨w8.heap.size, 0, none⟩) M M) M) := hideP (DS.app (v := .slice none 0 0) D8.out.1 D8.out.2.1 (fun g hg => by cases hg) hw hgr9 hown9 (by simp)); clear hown9 hgr9)
     go_loopw [5] (fun s5 wi => ∃ j : Nat, j ≤ M ∧ s5 = .int .i64 (j : Int) ∧ Hid (DS w w0 wi ao len cap w0.heap.size (.slice (some ⟨w8.heap.size, 0, none⟩) M M) M)) (fun s5 _ => M - (intOf s5).toNat)
     case atStart => exact ⟨0, Nat.zero_le _, rfl, D9⟩
     case round =>
      obtain ⟨j, hj, rfl, DJ⟩ := hrel
      clear D9
      by_cases hjM : j < M
      ·have hji : (j : Int) < (M : Int) := by omega
       obtain ⟨s, hcs, hfs⟩ := DJ.out.2.2.cellI hjM (o := 0) (by omega) (by omega)
       have HF := hideP (DS.put DJ.out hw (j * 15 + 0) _ (DJ.out.2.2.putI hjM (o := 0) (by omega) (by omega) 2))
       simp only [Nat.add_zero] at hcs hfs HF
       have hge := DJ.out.2.2.ge
       have D10 : Hid (DS w w0 (wr.setCell ⟨w8.heap.size, j * 15, none⟩ (.int .i64 2)) ao len cap w0.heap.size (.slice (some ⟨w8.heap.size, 0, none⟩) M M) M) := hideP ⟨HF.out.1, FramX.fram (Fram.refl w w0) HF.out.2.1 hge, HF.out.2.2⟩
       clear HF DJ hge
       go_wp2
       go_roundw
       case rel => exact ⟨j + 1, by omega, by go_num, D10⟩
       case measure => simp [intOf]; omega
      ·have hji : ¬ (j : Int) < (M : Int) := by omega
       go_wp2
       go_meet
       case rel => exact ⟨_, M, rfl, hM1, DJ⟩
   case rest =>
    obtain ⟨v, k4, rfl, hk4, D8⟩ := hcut
    clear D7
    obtain ⟨va, vc, hve⟩ := D8.out.2.2.shape
    subst hve
    go_wp2
    go_ret
    exact ⟨_, k4, rfl, D8.out.2.2, hk4, D8.out.1, D8.out.2.1⟩
def CF (w wr wi : World) (ao : Option Addr) (len cap : Nat) : Prop := Cur w wi ao len cap ∧ Fram w wr wi
theorem CF.other {w wr wi wj : World} {ao : Option Addr} {len cap : Nat} (h : CF w wr wi ao len cap) (ho : Other w wi wj) (hc : Cur w wj ao len cap) : CF w wr wj ao len cap := ⟨hc, Fram.other h.2 ho hc⟩
theorem CF.fram {w wr wi wj : World} {ao : Option Addr} {len cap : Nat} (h : CF w wr wi ao len cap) (hf : Fram w wi wj) (hc : Cur w wj ao len cap) : CF w wr wj ao len cap := ⟨hc, h.2.trans hf⟩
set_option maxRecDepth 20000 in
set_option maxHeartbeats 8000000 in
theorem drawMode_any (ao : Option Addr) (len cap : Nat) (w w0 : World) (hB : Bytes w ao len cap) (hC : Cur w w0 ao len cap) :
 Calls Tryz.prog 29 #[curP w] w0 fun e w' => ∃ m s : Int, e = .returned (.tuple #[.int .i64 m, .int .i64 s]) ∧ CF w w0 w' ao len cap := by
 have HB := hideD hB
 have D0 : Hid (CF w w0 w0 ao len cap) := hideP ⟨hC, Fram.refl w w0⟩
 clear hB hC
 go_enter Tryz.func29, Tryz.ntmps29
 go_wp2_with fail
 refine (belowN_any 3 ao len cap w _ HB.out D0.out.1 (by omega) (by omega)).mono ?_
 rintro e w1 ⟨m, rfl, m0, m1, c1, o1⟩
 have D1 := hideP (CF.other D0.out o1 c1)
 clear D0 c1 o1
 go_wp2_with fail
 refine (drawSize_any ao len cap w _ HB.out D1.out.1).mono ?_
 rintro e w2 ⟨y, rfl, ⟨ya, yb⟩, c2, f2⟩
 have D2 := hideP (CF.fram D1.out f2 c2)
 clear D1 c2 f2
 go_upto_region 3 with fail
 go_cut [12] (fun s12 wc => (∃ t : Bool, s12 = .bool t ∧ True) ∧ wc = w2)
 case first =>
  by_cases hm : m = 2
  all_goals go_wp2
  all_goals go_meet
  all_goals exact ⟨⟨_, rfl, trivial⟩, rfl⟩
 case rest =>
 obtain ⟨⟨t, rfl, _⟩, rfl⟩ := hcut
 go_upto_if 12 with fail
 go_cut [5] (fun s5 wc => (∃ s : Int, s5 = .int .i64 s ∧ True) ∧ Hid (CF w w0 wc ao len cap))
 case first =>
  cases t with
  | false =>
   go_wp2
   go_meet
   case rel => exact ⟨⟨_, rfl, trivial⟩, D2⟩
  | true =>
   go_wp2_with fail
   refine (drawSize_any ao len cap w _ HB.out D2.out.1).mono ?_
   rintro e w3 ⟨z, rfl, ⟨za, zb⟩, c3, f3⟩
   have D3 := hideP (CF.fram D2.out f3 c3)
   clear c3 f3
   go_wp2
   go_meet
   case rel => exact ⟨⟨_, rfl, trivial⟩, D3⟩
 case rest =>
 clear D2
 obtain ⟨⟨s, rfl, _⟩, D2⟩ := hcut
 go_wp2_with fail
 refine (once_any 30 ao len cap w _ HB.out D2.out.1 (by omega) (by omega)).mono ?_
 rintro e w4 ⟨bb, rfl, c4, o4⟩
 have D4 := hideP (CF.other D2.out o4 c4)
 clear D2 c4 o4
 go_upto_if 17 with fail
 go_cut [4] (fun s4 wc => (∃ m : Int, s4 = .int .i64 m ∧ True) ∧ Hid (CF w w0 wc ao len cap))
 case first =>
  cases bb with
  | false =>
   go_wp2
   go_meet
   case rel => exact ⟨⟨_, rfl, trivial⟩, D4⟩
  | true =>
   have hs1 : w4.heap.size ≠ w.heap.size := by have := D4.out.1.lt; omega
   have DA : Hid (CF w w0 (w4.alloc (.cells #[.int .i64 (-1), .int .i64 3] 2)) ao len cap) := hideP ⟨D4.out.1.alloc _, D4.out.2.alloc _⟩
   have HSL := hideP (heap_alloc_new w4 (.cells #[.int .i64 (-1), .int .i64 3] 2))
   go_wp2_with fail
   refine (belowN_any 2 ao len cap w _ HB.out DA.out.1 (by omega) (by omega)).mono ?_
   rintro e w5 ⟨q, rfl, q0, q1, c5, o5⟩
   have D5 := hideP (CF.other DA.out o5 c5)
   have hsl := (o5 w4.heap.size hs1).trans HSL.out
   clear DA c5 o5 HSL
   obtain ⟨qn, rfl⟩ := Int.eq_ofNat_of_zero_le q0
   obtain ⟨x, hcx⟩ : ∃ x : Int, w5.cell? ⟨w4.heap.size, qn, none⟩ = some (.int .i64 x) := by
    rw [cell_of_row w5 w4.heap.size qn _ 2 (0, 0) hsl]
    rcases (show qn = 0 ∨ qn = 1 by omega) with rfl | rfl
    ·exact ⟨-1, rfl⟩
    ·exact ⟨3, rfl⟩
   have hqn : (qn : Int) < 2 := q1
   clear hsl hs1
   go_wp2
   go_meet
   case rel => exact ⟨⟨_, rfl, trivial⟩, D5⟩
 case rest =>
 clear D4
 obtain ⟨⟨m', rfl, _⟩, D4⟩ := hcut
 go_wp2_with fail
 refine (once_any 30 ao len cap w _ HB.out D4.out.1 (by omega) (by omega)).mono ?_
 rintro e w6 ⟨bb, rfl, c6, o6⟩
 have D6 := hideP (CF.other D4.out o6 c6)
 clear D4 c6 o6
 cases bb with
 | false =>
  go_wp2
  go_ret2
  exact ⟨_, _, rfl, D6.out⟩
 | true =>
  go_wp2_with fail
  refine (drawLen_kept ao len cap w _ HB.out D6.out.1).mono ?_
  rintro e w7 ⟨z, rfl, _, c7, f7⟩
  have D7 := hideP (CF.fram D6.out f7 c7)
  clear D6 c7 f7
  go_wp2
  go_ret2
  exact ⟨_, _, rfl, D7.out⟩
theorem big_any (ao : Option Addr) (len cap : Nat) (w : World) (hl : len ≤ 9223372036854775807) : Calls Tryz.prog 8 #[.slice ao len cap] w fun e w' => e = .returned (.bool (decide (1048576 < len))) ∧ w' = w := by
 by_cases h : 1048576 < len
 ·have hi : (1048576 : Int) < (len : Int) := by omega
  go_enter Tryz.func8, Tryz.ntmps8
  go_wp2
  go_ret
  exact ⟨by simp [h], rfl⟩
 ·have hi : ¬ (1048576 : Int) < (len : Int) := by omega
  go_enter Tryz.func8, Tryz.ntmps8
  go_wp2
  go_ret
  exact ⟨by simp [h], rfl⟩
theorem itemAt_drop {xs : List Nd} {p : Nat} (hp : p < xs.length) : itemAt xs p = xs.getD p Nd.none :: (xs.drop (p + 1)).take (xs.getD p Nd.none).kids.toNat := by
 unfold itemAt
 rw [List.drop_eq_getElem_cons hp, Nat.add_comm 1, List.take_succ_cons]
 simp [List.getD, List.getElem?_eq_getElem hp]
theorem listB_iff {xs : List Nd} : listB xs = true ↔ xs.length ≤ 20000 ∧ okFrom xs.length 0 [] xs = true := by
 unfold listB; simp
end Go.Proofs.YtbbehmcekbnkiaaGreat
namespace Go.Proofs.YtbbehmcekbnkiaaGreat.Shr
open Go.RowKit
set_option linter.unusedVariables false
set_option linter.unusedSimpArgs false
theorem stp_sum_aux (f o : Gl → Int) (ord want hv : Int) : ∀ (gs : List Gl) (s d : Int) (ps : List Int),
 (gs.foldl (fun st g => if o g = ord then (st.1 + f g, cut want (st.1 + f g) hv, st.2.2 ++ [cut want (st.1 + f g) hv - st.2.1]) else (st.1, st.2.1, st.2.2 ++ [0])) ((s, d, ps) : Int × Int × List Int)).2.2.sum - (gs.foldl (fun st g => if o g = ord then (st.1 + f g, cut want (st.1 + f g) hv, st.2.2 ++ [cut want (st.1 + f g) hv - st.2.1]) else (st.1, st.2.1, st.2.2 ++ [0])) ((s, d, ps) : Int × Int × List Int)).2.1 = ps.sum - d
 | [], s, d, ps => rfl
 | g :: gs, s, d, ps => by
  rw [List.foldl_cons]
  by_cases h : o g = ord
  ·rw [if_pos h, stp_sum_aux f o ord want hv gs]
   simp
   omega
  ·rw [if_neg h, stp_sum_aux f o ord want hv gs]
   simp
theorem stp_sum (f o : Gl → Int) (ord want hv : Int) (gs : List Gl) : (stp f o ord want hv gs).2.2.sum = (stp f o ord want hv gs).2.1 := by
 have := stp_sum_aux f o ord want hv gs 0 0 []
 have e : ([] : List Int).sum - 0 = 0 := rfl
 rw [e] at this
 unfold stp
 omega
theorem stp_fst_aux (f o : Gl → Int) (k : Nat) (want hv : Int) (hk : k < 4) : ∀ (gs : List Gl), (∀ g ∈ gs, 0 ≤ o g ∧ o g ≤ 3) → ∀ (s d : Int) (ps ys : List Int), ys.length = 4 →
 (gs.foldl (fun st g => if o g = (k : Int) then (st.1 + f g, cut want (st.1 + f g) hv, st.2.2 ++ [cut want (st.1 + f g) hv - st.2.1]) else (st.1, st.2.1, st.2.2 ++ [0])) ((s, d, ps) : Int × Int × List Int)).1 - s = (gs.foldl (fun ys g => ys.set (o g).toNat (ys.getD (o g).toNat 0 + f g)) ys).getD k 0 - ys.getD k 0
 | [], _, s, d, ps, ys, _ => by simp
 | g :: gs, hg, s, d, ps, ys, hl => by
  rw [List.foldl_cons, List.foldl_cons]
  have hb := hg g (by simp)
  have ih := stp_fst_aux f o k want hv hk gs (fun x hx => hg x (by simp [hx]))
  by_cases h : o g = (k : Int)
  ·rw [if_pos h]
   have e : (o g).toNat = k := by omega
   have := ih (s + f g) (cut want (s + f g) hv) (ps ++ [cut want (s + f g) hv - d]) (ys.set (o g).toNat (ys.getD (o g).toNat 0 + f g)) (by simp [hl])
   have e2 : (ys.set (o g).toNat (ys.getD (o g).toNat 0 + f g)).getD k 0 = ys.getD k 0 + f g := by
    rw [e]; simp [List.getD, hl, hk]
   rw [e2] at this
   show _ - s = _
   simp only at this ⊢
   omega
  ·rw [if_neg h]
   have e : (o g).toNat ≠ k := by omega
   have := ih s d (ps ++ [0]) (ys.set (o g).toNat (ys.getD (o g).toNat 0 + f g)) (by simp [hl])
   have e2 : (ys.set (o g).toNat (ys.getD (o g).toNat 0 + f g)).getD k 0 = ys.getD k 0 := by simp [List.getD, List.getElem?_set, e]
   rw [e2] at this
   exact this
theorem stp_fst (f o : Gl → Int) (k : Nat) (want hv : Int) (hk : k < 4) (gs : List Gl) (h : ∀ g ∈ gs, 0 ≤ o g ∧ o g ≤ 3) : (stp f o (k : Int) want hv gs).1 = (tot f o gs).getD k 0 := by
 have := stp_fst_aux f o k want hv hk gs h 0 0 [] [0, 0, 0, 0] rfl
 have e : ([0, 0, 0, 0] : List Int).getD k 0 = 0 := by
  rcases (show k = 0 ∨ k = 1 ∨ k = 2 ∨ k = 3 by omega) with rfl | rfl | rfl | rfl <;> rfl
 rw [e] at this
 unfold stp tot
 omega
theorem cut_all {want hv : Int} (h1 : 0 < want) (h2 : want ≤ 1152921504606846976) (h3 : 0 < hv) : cut want hv hv = want := by
 unfold cut cutN
 rw [if_neg (by omega), BigN.near_eq _ _ _ _ (by omega), Nat.mul_div_cancel _ (by omega), Nat.mul_mod_left, if_neg (by omega)]
 omega
theorem stp_snd (f o : Gl → Int) (ord want hv : Int) (gs : List Gl) (h0 : cut want 0 hv = 0) : (stp f o ord want hv gs).2.1 = cut want (stp f o ord want hv gs).1 hv := by
 have key : ∀ (gs : List Gl) (st : Int × Int × List Int), st.2.1 = cut want st.1 hv →
  (gs.foldl (fun st g => if o g = ord then (st.1 + f g, cut want (st.1 + f g) hv, st.2.2 ++ [cut want (st.1 + f g) hv - st.2.1]) else (st.1, st.2.1, st.2.2 ++ [0])) st).2.1 = cut want (gs.foldl (fun st g => if o g = ord then (st.1 + f g, cut want (st.1 + f g) hv, st.2.2 ++ [cut want (st.1 + f g) hv - st.2.1]) else (st.1, st.2.1, st.2.2 ++ [0])) st).1 hv := by
  intro gs
  induction gs with
  | nil => intro st h; exact h
  | cons g gs ih =>
   intro st h
   rw [List.foldl_cons]
   by_cases hh : o g = ord
   ·rw [if_pos hh]; exact ih _ rfl
   ·rw [if_neg hh]; exact ih _ h
 exact key gs (0, 0, []) h0.symm
theorem cut_none {want hv : Int} (h3 : 0 < hv) : cut want 0 hv = 0 := by
 unfold cut cutN
 rw [if_neg (by omega), BigN.near_eq _ _ _ _ (by omega)]
 simp
 omega
theorem stp_total (f o : Gl → Int) (want : Int) (gs : List Gl) (h : ∀ g ∈ gs, 0 ≤ o g ∧ o g ≤ 3) (hv : Int) (hhv : hv = hvOf f o gs) (h1 : 0 < want) (h2 : want ≤ 1152921504606846976) (h3 : 0 < hv) : (stp f o (ordOf f o gs) want hv gs).2.2.sum = want := by
 rw [stp_sum, stp_snd _ _ _ _ _ _ (cut_none h3)]
 unfold ordOf
 rw [stp_fst f o _ want hv (by have := top_le (tot f o gs); omega) gs h]
 have : (tot f o gs).getD (top (tot f o gs)) 0 = hv := hhv.symm
 rw [this, cut_all h1 h2 h3]
end Go.Proofs.YtbbehmcekbnkiaaGreat.Shr
