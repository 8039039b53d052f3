import Derived.Test.YtlohbaoigfaneaaGreatProg
import Derived.WalkKit
import Derived.WalkSpells
import Derived.RowKit3
import Derived.Below
import Derived.Outline
import Derived.Test.YtlohbaoigfaneaaGreatInts
import Derived.Deep.RegionWith
import Derived.RegionTactic
namespace Go.Proofs.YtlohbaoigfaneaaGreat.Shr
open Go.RowKit
set_option linter.unusedVariables false
set_option linter.unusedSimpArgs false
def fitsB (x : Int) : Bool := decide (-1073741823 ≤ x ∧ x ≤ 1073741823)
def orderB (x : Int) : Bool := decide (0 ≤ x ∧ x ≤ 3)
theorem fits_yes {x : Int} (h1 : -1073741823 ≤ x) (h2 : x ≤ 1073741823) : fitsB x = true := by simp [fitsB, h1, h2]
theorem fits_no {x : Int} (h : ¬ (-1073741823 ≤ x ∧ x ≤ 1073741823)) : fitsB x = false := by simp [fitsB]; omega
theorem order_no {x : Int} (h : ¬ (0 ≤ x ∧ x ≤ 3)) : orderB x = false := by simp [orderB]; omega
theorem specFits_any (x : Int) (w : World) : Calls Tryz.prog 116 #[.int .i64 x] w fun e w' => e = .returned (.bool (fitsB x)) ∧ w' = w := by
 by_cases h1 : -1073741823 ≤ x
 ·by_cases h2 : x ≤ 1073741823
  ·rw [fits_yes h1 h2]
   go_enter Tryz.func116, Tryz.ntmps116
   go_wp2
   go_ret
   exact ⟨rfl, rfl⟩
  ·rw [fits_no (by omega)]
   go_enter Tryz.func116, Tryz.ntmps116
   go_wp2
   go_ret
   exact ⟨rfl, rfl⟩
 ·rw [fits_no (by omega)]
  go_enter Tryz.func116, Tryz.ntmps116
  go_wp2
  go_ret
  exact ⟨rfl, rfl⟩
theorem implFits_any (x : Int) (w : World) : Calls Tryz.prog 125 #[.int .i64 x] w fun e w' => e = .returned (.bool (fitsB x)) ∧ w' = w := by
 by_cases h1 : -1073741823 ≤ x
 ·by_cases h2 : x ≤ 1073741823
  ·rw [fits_yes h1 h2]
   go_enter Tryz.func125, Tryz.ntmps125
   go_wp2
   go_ret
   exact ⟨rfl, rfl⟩
  ·rw [fits_no (by omega)]
   go_enter Tryz.func125, Tryz.ntmps125
   go_wp2
   go_ret
   exact ⟨rfl, rfl⟩
 ·rw [fits_no (by omega)]
  go_enter Tryz.func125, Tryz.ntmps125
  go_wp2
  go_ret
  exact ⟨rfl, rfl⟩
theorem specOrder_any (x : Int) (w : World) : Calls Tryz.prog 117 #[.int .i64 x] w fun e w' => e = .returned (.bool (orderB x)) ∧ w' = w := by
 by_cases h1 : 0 ≤ x
 ·by_cases h2 : x ≤ 3
  ·rw [show orderB x = true by simp [orderB, h1, h2]]
   go_enter Tryz.func117, Tryz.ntmps117
   go_wp2
   go_ret
   exact ⟨rfl, rfl⟩
  ·rw [order_no (by omega)]
   go_enter Tryz.func117, Tryz.ntmps117
   go_wp2
   go_ret
   exact ⟨rfl, rfl⟩
 ·rw [order_no (by omega)]
  go_enter Tryz.func117, Tryz.ntmps117
  go_wp2
  go_ret
  exact ⟨rfl, rfl⟩
theorem implOrder_any (x : Int) (w : World) : Calls Tryz.prog 126 #[.int .i64 x] w fun e w' => e = .returned (.bool (orderB x)) ∧ w' = w := by
 by_cases h1 : 0 ≤ x
 ·by_cases h2 : x ≤ 3
  ·rw [show orderB x = true by simp [orderB, h1, h2]]
   go_enter Tryz.func126, Tryz.ntmps126
   go_wp2
   go_ret
   exact ⟨rfl, rfl⟩
  ·rw [order_no (by omega)]
   go_enter Tryz.func126, Tryz.ntmps126
   go_wp2
   go_ret
   exact ⟨rfl, rfl⟩
 ·rw [order_no (by omega)]
  go_enter Tryz.func126, Tryz.ntmps126
  go_wp2
  go_ret
  exact ⟨rfl, rfl⟩
def okB (s p po m mo : Int) : Bool := fitsB s && fitsB p && fitsB m && orderB po && orderB mo
abbrev glueV (s p po m mo : Int) : Value := .agg #[.int .i64 s, .int .i64 p, .int .i64 po, .int .i64 m, .int .i64 mo]
theorem specGlueOk_ex (s p po m mo : Int) (w : World) : Calls Tryz.prog 96 #[glueV s p po m mo] w fun e w' => e = .returned (.bool (okB s p po m mo)) ∧ ∃ c : Array Value, w' = w.alloc (.cells c 33) := by
 unfold okB
 cases h1 : fitsB s <;> cases h2 : fitsB p <;> cases h3 : fitsB m <;> cases h4 : orderB po <;> cases h5 : orderB mo
 all_goals
  go_enter Tryz.func96, Tryz.ntmps96
  go_wp2_with (first
   | (go_at_call 116; refine (specFits_any _ _).mono ?_; rintro e w' ⟨rfl, rfl⟩)
   | (go_at_call 117; refine (specOrder_any _ _).mono ?_; rintro e w' ⟨rfl, rfl⟩))
  go_ret
  exact ⟨rfl, _, rfl⟩
theorem specGlueOk_any (s p po m mo : Int) (w : World) : Calls Tryz.prog 96 #[glueV s p po m mo] w fun e w' => e = .returned (.bool (okB s p po m mo)) ∧ Below w.heap.size w w' := by
 refine (specGlueOk_ex s p po m mo w).mono ?_
 rintro e w' ⟨rfl, c, rfl⟩
 exact ⟨rfl, (Below.refl _ _).alloc (Nat.le_refl _) _⟩
theorem implGlueOk_ex (s p po m mo : Int) (w : World) : Calls Tryz.prog 106 #[glueV s p po m mo] w fun e w' => e = .returned (.bool (okB s p po m mo)) ∧ ∃ c : Array Value, w' = w.alloc (.cells c 33) := by
 unfold okB
 cases h1 : fitsB s <;> cases h2 : fitsB p <;> cases h3 : fitsB m <;> cases h4 : orderB po <;> cases h5 : orderB mo
 all_goals
  go_enter Tryz.func106, Tryz.ntmps106
  go_wp2_with (first
   | (go_at_call 125; refine (implFits_any _ _).mono ?_; rintro e w' ⟨rfl, rfl⟩)
   | (go_at_call 126; refine (implOrder_any _ _).mono ?_; rintro e w' ⟨rfl, rfl⟩))
  go_ret
  exact ⟨rfl, _, rfl⟩
theorem implGlueOk_any (s p po m mo : Int) (w : World) : Calls Tryz.prog 106 #[glueV s p po m mo] w fun e w' => e = .returned (.bool (okB s p po m mo)) ∧ Below w.heap.size w w' := by
 refine (implGlueOk_ex s p po m mo w).mono ?_
 rintro e w' ⟨rfl, c, rfl⟩
 exact ⟨rfl, (Below.refl _ _).alloc (Nat.le_refl _) _⟩
theorem bcell {W w1 : World} (hb : Below W.heap.size W w1) : (∀ b o, b < W.heap.size → w1.cell? ⟨b, o, none⟩ = W.cell? ⟨b, o, none⟩) ∧ (∀ b o, b < W.heap.size → w1.frozen? ⟨b, o, none⟩ = W.frozen? ⟨b, o, none⟩) :=
 ⟨fun b o h => hb.cell (p := ⟨b, o, none⟩) h, fun b o h => hb.frozen (p := ⟨b, o, none⟩) h⟩
structure Gl where
 s : Int
 p : Int
 po : Int
 m : Int
 mo : Int
abbrev Gl.v (g : Gl) : Value := glueV g.s g.p g.po g.m g.mo
def Gl.none : Gl := ⟨0, 0, 0, 0, 0⟩
def GRow (w : World) (v : Value) (gs : List Gl) : Prop :=
 ∃ ao n cap, v = .slice ao n cap ∧ gs.length = n ∧ (0 < n → ∃ b off, ao = some ⟨b, off, none⟩ ∧ b < w.heap.size ∧ ∀ i, i < n → w.cell? ⟨b, off + i * 5, none⟩ = some (.int .i64 (gs.getD i Gl.none).s) ∧ w.cell? ⟨b, off + i * 5 + 1, none⟩ = some (.int .i64 (gs.getD i Gl.none).p) ∧ w.cell? ⟨b, off + i * 5 + 2, none⟩ = some (.int .i64 (gs.getD i Gl.none).po) ∧ w.cell? ⟨b, off + i * 5 + 3, none⟩ = some (.int .i64 (gs.getD i Gl.none).m) ∧ w.cell? ⟨b, off + i * 5 + 4, none⟩ = some (.int .i64 (gs.getD i Gl.none).mo))
theorem GRow.below {w w' : World} {v : Value} {gs : List Gl} (h : GRow w v gs) (hb : Below w.heap.size w w') : GRow w' v gs := by
 obtain ⟨ao, n, cap, rfl, hn, hc⟩ := h
 refine ⟨ao, n, cap, rfl, hn, fun hp => ?_⟩
 obtain ⟨b, off, rfl, hlt, hcell⟩ := hc hp
 refine ⟨b, off, rfl, Nat.lt_of_lt_of_le hlt hb.size, fun i hi => ?_⟩
 obtain ⟨h0, h1, h2, h3, h4⟩ := hcell i hi
 exact ⟨(hb.cell (p := ⟨b, off + i * 5, none⟩) hlt).trans h0, (hb.cell (p := ⟨b, off + i * 5 + 1, none⟩) hlt).trans h1, (hb.cell (p := ⟨b, off + i * 5 + 2, none⟩) hlt).trans h2, (hb.cell (p := ⟨b, off + i * 5 + 3, none⟩) hlt).trans h3, (hb.cell (p := ⟨b, off + i * 5 + 4, none⟩) hlt).trans h4⟩
theorem Tryz.info33 : (Tryz.prog.info? 33).map (fun i => (i.zero, i.size, i.bytes)) = some (some (.agg #[.int .i64 0, .int .i64 0, .int .i64 0, .int .i64 0, .int .i64 0]), 5, 40) := by kernel_rfl
def GPart (w : World) (g n k : Nat) (gs : List Gl) : Prop :=
 ∃ cur : Array Value, w.heap[g]? = some (.cells cur 33 (0, 0)) ∧ cur.size = n * 5 ∧ ∀ i, i < k → cur[i * 5]? = some (.int .i64 (gs.getD i Gl.none).s) ∧ cur[i * 5 + 1]? = some (.int .i64 (gs.getD i Gl.none).p) ∧ cur[i * 5 + 2]? = some (.int .i64 (gs.getD i Gl.none).po) ∧ cur[i * 5 + 3]? = some (.int .i64 (gs.getD i Gl.none).m) ∧ cur[i * 5 + 4]? = some (.int .i64 (gs.getD i Gl.none).mo)
theorem GPart.row {w : World} {g n cap : Nat} {gs : List Gl} (h : GPart w g n n gs) (hn : gs.length = n) : GRow w (.slice (some ⟨g, 0, none⟩) n cap) gs := by
 obtain ⟨cur, hg, hs, hc⟩ := h
 refine ⟨_, n, cap, rfl, hn, fun _ => ⟨g, 0, rfl, (Array.getElem?_eq_some_iff.1 hg).1, fun i hi => ?_⟩⟩
 obtain ⟨h0, h1, h2, h3, h4⟩ := hc i hi
 rw [Nat.zero_add, cell_of_row w g _ cur 33 _ hg, cell_of_row w g _ cur 33 _ hg, cell_of_row w g _ cur 33 _ hg, cell_of_row w g _ cur 33 _ hg, cell_of_row w g _ cur 33 _ hg]
 exact ⟨h0, h1, h2, h3, h4⟩
theorem GPart.put {w : World} {g n k : Nat} {gs : List Gl} (h : GPart w g n k gs) (hk : k < n) {t : Gl} (ht : t = gs.getD k Gl.none) :
 GPart ((((((w.setCell ⟨g, k * 5, none⟩ (.int .i64 t.s)).setCell ⟨g, k * 5 + 1, none⟩ (.int .i64 t.p)).setCell ⟨g, k * 5 + 2, none⟩ (.int .i64 t.po)).setCell ⟨g, k * 5 + 3, none⟩ (.int .i64 t.m)).setCell ⟨g, k * 5 + 4, none⟩ (.int .i64 t.mo))) g n (k + 1) gs := by
 obtain ⟨cur, hg, hs, hc⟩ := h
 have e0 := heap_setCell_same w g (k * 5) cur 33 (.int .i64 t.s) hg
 have e1 := heap_setCell_same _ g (k * 5 + 1) _ 33 (.int .i64 t.p) e0
 have e2 := heap_setCell_same _ g (k * 5 + 2) _ 33 (.int .i64 t.po) e1
 have e3 := heap_setCell_same _ g (k * 5 + 3) _ 33 (.int .i64 t.m) e2
 have e4 := heap_setCell_same _ g (k * 5 + 4) _ 33 (.int .i64 t.mo) e3
 refine ⟨_, e4, by simp [hs], fun i hi => ?_⟩
 by_cases hik : i = k
 ·subst hik
  subst ht
  simp only [Array.getElem?_setIfInBounds, Array.size_setIfInBounds, hs]
  refine ⟨?_, ?_, ?_, ?_, ?_⟩ <;> (simp; omega)
 ·obtain ⟨h0, h1, h2, h3, h4⟩ := hc i (by omega)
  simp only [Array.getElem?_setIfInBounds, Array.size_setIfInBounds]
  refine ⟨?_, ?_, ?_, ?_, ?_⟩
  ·rw [if_neg (by omega), if_neg (by omega), if_neg (by omega), if_neg (by omega), if_neg (by omega)]; exact h0
  ·rw [if_neg (by omega), if_neg (by omega), if_neg (by omega), if_neg (by omega), if_neg (by omega)]; exact h1
  ·rw [if_neg (by omega), if_neg (by omega), if_neg (by omega), if_neg (by omega), if_neg (by omega)]; exact h2
  ·rw [if_neg (by omega), if_neg (by omega), if_neg (by omega), if_neg (by omega), if_neg (by omega)]; exact h3
  ·rw [if_neg (by omega), if_neg (by omega), if_neg (by omega), if_neg (by omega), if_neg (by omega)]; exact h4
theorem GPart.cells {w : World} {g n k : Nat} {gs : List Gl} (h : GPart w g n k gs) (j : Nat) (hj : j < n * 5) : ∃ x, w.cell? ⟨g, j, none⟩ = some x := by
 obtain ⟨cur, hg, hs, _⟩ := h
 rw [cell_of_row w g _ cur 33 _ hg]
 exact ⟨_, Array.getElem?_eq_getElem (by omega)⟩
theorem GPart.free {w : World} {g n k : Nat} {gs : List Gl} (h : GPart w g n k gs) (j : Nat) : w.frozen? ⟨g, j, none⟩ = false := by
 obtain ⟨cur, hg, hs, _⟩ := h
 exact frozen_of_row w g j cur 33 hg
theorem GPart.below {w w' : World} {g n k : Nat} {gs : List Gl} (h : GPart w g n k gs) (hb : Below w.heap.size w w') : GPart w' g n k gs := by
 obtain ⟨cur, hg, hs, hc⟩ := h
 exact ⟨cur, (hb.block g (Array.getElem?_eq_some_iff.1 hg).1).trans hg, hs, hc⟩
theorem GPart.lt {w : World} {g n k : Nat} {gs : List Gl} (h : GPart w g n k gs) : g < w.heap.size := by
 obtain ⟨cur, hg, _⟩ := h
 exact (Array.getElem?_eq_some_iff.1 hg).1
set_option maxHeartbeats 2000000 in
def Only (g : Nat) (w w' : World) : Prop := w'.heap.size = w.heap.size ∧ (∀ b, b ≠ g → w'.heap[b]? = w.heap[b]?) ∧ Below g w w'
theorem Only.set {g : Nat} {w w' : World} (h : Only g w w') (j : Nat) (v : Value) : Only g w (w'.setCell ⟨g, j, none⟩ v) :=
 ⟨by simpa using h.1, fun b hb => (Below.heap_setCell _ _ _ _ hb).trans (h.2.1 b hb), h.2.2.setCell (Nat.le_refl _) _⟩
abbrev Gl.ok (g : Gl) : Bool := okB g.s g.p g.po g.m g.mo
theorem take_snoc {gs : List Gl} {k : Nat} (h : k < gs.length) : gs.take (k + 1) = gs.take k ++ [gs.getD k Gl.none] := by
 rw [List.take_succ_eq_append_getElem h]
 simp [List.getD, List.getElem?_eq_getElem h]
theorem Tryz.info2 : (Tryz.prog.info? 2).map (fun i => (i.zero, i.size, i.bytes)) = some (some (.int .i64 0), 1, 8) := by kernel_rfl
def Four (w : World) (e g : Nat) (xs : List Int) : Prop := w.heap[g]? = some (.cells (xs.map (Value.int .i64)).toArray e (0, 0)) ∧ xs.length = 4
theorem Four.cell {w : World} {e g : Nat} {xs : List Int} (h : Four w e g xs) (j : Nat) (hj : j < 4) : w.cell? ⟨g, j, none⟩ = some (.int .i64 (xs.getD j 0)) := by
 rw [cell_of_row w g j _ _ _ h.1]
 simp [List.getElem?_map, List.getD, List.getElem?_eq_getElem (show j < xs.length by have := h.2; omega)]
theorem Four.free {w : World} {e g : Nat} {xs : List Int} (h : Four w e g xs) (j : Nat) : w.frozen? ⟨g, j, none⟩ = false := frozen_of_row w g j _ _ h.1
theorem Four.set {w : World} {e g : Nat} {xs : List Int} (h : Four w e g xs) (j : Nat) (z : Int) : Four (w.setCell ⟨g, j, none⟩ (.int .i64 z)) e g (xs.set j z) := by
 refine ⟨?_, by rw [List.length_set]; exact h.2⟩
 have e1 : ((xs.set j z).map (Value.int .i64)).toArray = ((xs.map (Value.int .i64)).toArray).setIfInBounds j (.int .i64 z) := by
  apply Array.ext'
  simp [Array.toList_setIfInBounds, List.map_set]
 rw [e1]
 exact heap_setCell_same w g j _ _ _ h.1
theorem Four.other {w : World} {e g g' : Nat} {xs : List Int} (h : Four w e g xs) (hne : g ≠ g') (j : Nat) (v : Value) : Four (w.setCell ⟨g', j, none⟩ v) e g xs := ⟨(Below.heap_setCell w ⟨g', j, none⟩ v g hne).trans h.1, h.2⟩
theorem Four.lt {w : World} {e g : Nat} {xs : List Int} (h : Four w e g xs) : g < w.heap.size := (Array.getElem?_eq_some_iff.1 h.1).1
theorem Four.alloc {w : World} {e g : Nat} {xs : List Int} (h : Four w e g xs) (o : Obj) : Four (w.alloc o) e g xs := ⟨(Below.heap_alloc w o g h.lt).trans h.1, h.2⟩
theorem Four.drew {w : World} {e g : Nat} {xs : List Int} (h : Four w e g xs) : Four w.drew e g xs := h
theorem Four.below {w w' : World} {e g : Nat} {xs : List Int} (h : Four w e g xs) (hb : Below w.heap.size w w') : Four w' e g xs := ⟨(hb.block g h.lt).trans h.1, h.2⟩
theorem Four.row {w : World} {e g cap : Nat} {xs : List Int} (h : Four w e g xs) : Row w (.slice (some ⟨g, 0, none⟩) 4 cap) xs :=
 ⟨_, 4, cap, rfl, h.2, fun _ => ⟨g, 0, rfl, h.lt, fun i hi => by rw [Nat.zero_add]; exact h.cell i hi⟩⟩
end Go.Proofs.YtlohbaoigfaneaaGreat.Shr
