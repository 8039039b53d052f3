import Derived.Test.YtlohbaoigfaneaaGreatGlue
import Derived.Deep.RegionWith
import Derived.RegionTactic
import Derived.Test.YtlohbaoigfaneaaGreatProg
import Derived.WalkKit
import Derived.WalkSpells
import Derived.Below
import Derived.Outline
import Derived.Deep.QuietTactic
import Derived.BigQuiet
import Derived.WalkSmall
namespace Go.Proofs.YtlohbaoigfaneaaGreat.Shr
open Go.RowKit
set_option linter.unusedVariables false
set_option linter.unusedSimpArgs false
structure Gl where
 s : Int
 p : Int
 po : Int
 m : Int
 mo : Int
abbrev Gl.v (g : Gl) : Value := glueV g.s g.p g.po g.m g.mo
def Gl.none : Gl := ⟨0, 0, 0, 0, 0⟩
def GRow (w : World) (v : Value) (gs : List Gl) : Prop :=
 ∃ ao n cap, v = .slice ao n cap ∧ gs.length = n ∧ (0 < n → ∃ b off, ao = some ⟨b, off, none⟩ ∧ b < w.heap.size ∧ ∀ i, i < n → w.cell? ⟨b, off + i * 5, none⟩ = some (.int .i64 (gs.getD i Gl.none).s) ∧ w.cell? ⟨b, off + i * 5 + 1, none⟩ = some (.int .i64 (gs.getD i Gl.none).p) ∧ w.cell? ⟨b, off + i * 5 + 2, none⟩ = some (.int .i64 (gs.getD i Gl.none).po) ∧ w.cell? ⟨b, off + i * 5 + 3, none⟩ = some (.int .i64 (gs.getD i Gl.none).m) ∧ w.cell? ⟨b, off + i * 5 + 4, none⟩ = some (.int .i64 (gs.getD i Gl.none).mo))
theorem GRow.below {w w' : World} {v : Value} {gs : List Gl} (h : GRow w v gs) (hb : Below w.heap.size w w') : GRow w' v gs := by
 obtain ⟨ao, n, cap, rfl, hn, hc⟩ := h
 refine ⟨ao, n, cap, rfl, hn, fun hp => ?_⟩
 obtain ⟨b, off, rfl, hlt, hcell⟩ := hc hp
 refine ⟨b, off, rfl, Nat.lt_of_lt_of_le hlt hb.size, fun i hi => ?_⟩
 obtain ⟨h0, h1, h2, h3, h4⟩ := hcell i hi
 exact ⟨(hb.cell (p := ⟨b, off + i * 5, none⟩) hlt).trans h0, (hb.cell (p := ⟨b, off + i * 5 + 1, none⟩) hlt).trans h1, (hb.cell (p := ⟨b, off + i * 5 + 2, none⟩) hlt).trans h2, (hb.cell (p := ⟨b, off + i * 5 + 3, none⟩) hlt).trans h3, (hb.cell (p := ⟨b, off + i * 5 + 4, none⟩) hlt).trans h4⟩
def GPart (w : World) (g n k : Nat) (gs : List Gl) : Prop :=
 ∃ cur : Array Value, w.heap[g]? = some (.cells cur 33 (0, 0)) ∧ cur.size = n * 5 ∧ ∀ i, i < k → cur[i * 5]? = some (.int .i64 (gs.getD i Gl.none).s) ∧ cur[i * 5 + 1]? = some (.int .i64 (gs.getD i Gl.none).p) ∧ cur[i * 5 + 2]? = some (.int .i64 (gs.getD i Gl.none).po) ∧ cur[i * 5 + 3]? = some (.int .i64 (gs.getD i Gl.none).m) ∧ cur[i * 5 + 4]? = some (.int .i64 (gs.getD i Gl.none).mo)
theorem GPart.row {w : World} {g n cap : Nat} {gs : List Gl} (h : GPart w g n n gs) (hn : gs.length = n) : GRow w (.slice (some ⟨g, 0, none⟩) n cap) gs := by
 obtain ⟨cur, hg, hs, hc⟩ := h
 refine ⟨_, n, cap, rfl, hn, fun _ => ⟨g, 0, rfl, (Array.getElem?_eq_some_iff.1 hg).1, fun i hi => ?_⟩⟩
 obtain ⟨h0, h1, h2, h3, h4⟩ := hc i hi
 rw [Nat.zero_add, cell_of_row w g _ cur 33 _ hg, cell_of_row w g _ cur 33 _ hg, cell_of_row w g _ cur 33 _ hg, cell_of_row w g _ cur 33 _ hg, cell_of_row w g _ cur 33 _ hg]
 exact ⟨h0, h1, h2, h3, h4⟩
theorem GPart.put {w : World} {g n k : Nat} {gs : List Gl} (h : GPart w g n k gs) (hk : k < n) {t : Gl} (ht : t = gs.getD k Gl.none) :
 GPart ((((((w.setCell ⟨g, k * 5, none⟩ (.int .i64 t.s)).setCell ⟨g, k * 5 + 1, none⟩ (.int .i64 t.p)).setCell ⟨g, k * 5 + 2, none⟩ (.int .i64 t.po)).setCell ⟨g, k * 5 + 3, none⟩ (.int .i64 t.m)).setCell ⟨g, k * 5 + 4, none⟩ (.int .i64 t.mo))) g n (k + 1) gs := by
 obtain ⟨cur, hg, hs, hc⟩ := h
 have e0 := heap_setCell_same w g (k * 5) cur 33 (.int .i64 t.s) hg
 have e1 := heap_setCell_same _ g (k * 5 + 1) _ 33 (.int .i64 t.p) e0
 have e2 := heap_setCell_same _ g (k * 5 + 2) _ 33 (.int .i64 t.po) e1
 have e3 := heap_setCell_same _ g (k * 5 + 3) _ 33 (.int .i64 t.m) e2
 have e4 := heap_setCell_same _ g (k * 5 + 4) _ 33 (.int .i64 t.mo) e3
 refine ⟨_, e4, by simp [hs], fun i hi => ?_⟩
 by_cases hik : i = k
 ·subst hik
  subst ht
  simp only [Array.getElem?_setIfInBounds, Array.size_setIfInBounds, hs]
  refine ⟨?_, ?_, ?_, ?_, ?_⟩ <;> (simp; omega)
 ·obtain ⟨h0, h1, h2, h3, h4⟩ := hc i (by omega)
  simp only [Array.getElem?_setIfInBounds, Array.size_setIfInBounds]
  refine ⟨?_, ?_, ?_, ?_, ?_⟩
  ·rw [if_neg (by omega), if_neg (by omega), if_neg (by omega), if_neg (by omega), if_neg (by omega)]; exact h0
  ·rw [if_neg (by omega), if_neg (by omega), if_neg (by omega), if_neg (by omega), if_neg (by omega)]; exact h1
  ·rw [if_neg (by omega), if_neg (by omega), if_neg (by omega), if_neg (by omega), if_neg (by omega)]; exact h2
  ·rw [if_neg (by omega), if_neg (by omega), if_neg (by omega), if_neg (by omega), if_neg (by omega)]; exact h3
  ·rw [if_neg (by omega), if_neg (by omega), if_neg (by omega), if_neg (by omega), if_neg (by omega)]; exact h4
theorem GPart.cells {w : World} {g n k : Nat} {gs : List Gl} (h : GPart w g n k gs) (j : Nat) (hj : j < n * 5) : ∃ x, w.cell? ⟨g, j, none⟩ = some x := by
 obtain ⟨cur, hg, hs, _⟩ := h
 rw [cell_of_row w g _ cur 33 _ hg]
 exact ⟨_, Array.getElem?_eq_getElem (by omega)⟩
theorem GPart.free {w : World} {g n k : Nat} {gs : List Gl} (h : GPart w g n k gs) (j : Nat) : w.frozen? ⟨g, j, none⟩ = false := by
 obtain ⟨cur, hg, hs, _⟩ := h
 exact frozen_of_row w g j cur 33 hg
theorem GPart.below {w w' : World} {g n k : Nat} {gs : List Gl} (h : GPart w g n k gs) (hb : Below w.heap.size w w') : GPart w' g n k gs := by
 obtain ⟨cur, hg, hs, hc⟩ := h
 exact ⟨cur, (hb.block g (Array.getElem?_eq_some_iff.1 hg).1).trans hg, hs, hc⟩
theorem GPart.lt {w : World} {g n k : Nat} {gs : List Gl} (h : GPart w g n k gs) : g < w.heap.size := by
 obtain ⟨cur, hg, _⟩ := h
 exact (Array.getElem?_eq_some_iff.1 hg).1
set_option maxHeartbeats 2000000 in
def Only (g : Nat) (w w' : World) : Prop := w'.heap.size = w.heap.size ∧ (∀ b, b ≠ g → w'.heap[b]? = w.heap[b]?) ∧ Below g w w'
theorem Only.set {g : Nat} {w w' : World} (h : Only g w w') (j : Nat) (v : Value) : Only g w (w'.setCell ⟨g, j, none⟩ v) :=
 ⟨by simpa using h.1, fun b hb => (Below.heap_setCell _ _ _ _ hb).trans (h.2.1 b hb), h.2.2.setCell (Nat.le_refl _) _⟩
abbrev Gl.ok (g : Gl) : Bool := okB g.s g.p g.po g.m g.mo
theorem take_snoc {gs : List Gl} {k : Nat} (h : k < gs.length) : gs.take (k + 1) = gs.take k ++ [gs.getD k Gl.none] := by
 rw [List.take_succ_eq_append_getElem h]
 simp [List.getD, List.getElem?_eq_getElem h]
theorem Tryz.info2 : (Tryz.prog.info? 2).map (fun i => (i.zero, i.size, i.bytes)) = some (some (.int .i64 0), 1, 8) := by kernel_rfl
def Four (w : World) (e g : Nat) (xs : List Int) : Prop := w.heap[g]? = some (.cells (xs.map (Value.int .i64)).toArray e (0, 0)) ∧ xs.length = 4
theorem Four.cell {w : World} {e g : Nat} {xs : List Int} (h : Four w e g xs) (j : Nat) (hj : j < 4) : w.cell? ⟨g, j, none⟩ = some (.int .i64 (xs.getD j 0)) := by
 rw [cell_of_row w g j _ _ _ h.1]
 simp [List.getElem?_map, List.getD, List.getElem?_eq_getElem (show j < xs.length by have := h.2; omega)]
theorem Four.free {w : World} {e g : Nat} {xs : List Int} (h : Four w e g xs) (j : Nat) : w.frozen? ⟨g, j, none⟩ = false := frozen_of_row w g j _ _ h.1
theorem Four.set {w : World} {e g : Nat} {xs : List Int} (h : Four w e g xs) (j : Nat) (z : Int) : Four (w.setCell ⟨g, j, none⟩ (.int .i64 z)) e g (xs.set j z) := by
 refine ⟨?_, by rw [List.length_set]; exact h.2⟩
 have e1 : ((xs.set j z).map (Value.int .i64)).toArray = ((xs.map (Value.int .i64)).toArray).setIfInBounds j (.int .i64 z) := by
  apply Array.ext'
  simp [Array.toList_setIfInBounds, List.map_set]
 rw [e1]
 exact heap_setCell_same w g j _ _ _ h.1
theorem Four.other {w : World} {e g g' : Nat} {xs : List Int} (h : Four w e g xs) (hne : g ≠ g') (j : Nat) (v : Value) : Four (w.setCell ⟨g', j, none⟩ v) e g xs := ⟨(Below.heap_setCell w ⟨g', j, none⟩ v g hne).trans h.1, h.2⟩
theorem Four.lt {w : World} {e g : Nat} {xs : List Int} (h : Four w e g xs) : g < w.heap.size := (Array.getElem?_eq_some_iff.1 h.1).1
theorem Four.alloc {w : World} {e g : Nat} {xs : List Int} (h : Four w e g xs) (o : Obj) : Four (w.alloc o) e g xs := ⟨(Below.heap_alloc w o g h.lt).trans h.1, h.2⟩
theorem Four.drew {w : World} {e g : Nat} {xs : List Int} (h : Four w e g xs) : Four w.drew e g xs := h
theorem Four.below {w w' : World} {e g : Nat} {xs : List Int} (h : Four w e g xs) (hb : Below w.heap.size w w') : Four w' e g xs := ⟨(hb.block g h.lt).trans h.1, h.2⟩
theorem Four.row {w : World} {e g cap : Nat} {xs : List Int} (h : Four w e g xs) : Row w (.slice (some ⟨g, 0, none⟩) 4 cap) xs :=
 ⟨_, 4, cap, rfl, h.2, fun _ => ⟨g, 0, rfl, h.lt, fun i hi => by rw [Nat.zero_add]; exact h.cell i hi⟩⟩
end Go.Proofs.YtlohbaoigfaneaaGreat.Shr
namespace Go.Proofs.YtlohbaoigfaneaaGreat.BigN
def val : List Nat → Nat
 | [] => 0
 | d :: ds => d + 16777216 * val ds
def Digits (xs : List Nat) : Prop := ∀ d ∈ xs, d < 16777216
def Trim (xs : List Nat) : Prop := xs ≠ [] → xs.getD (xs.length - 1) 0 ≠ 0
theorem getD_lt' (xs : List Nat) (n : Nat) (h : n < xs.length) : xs.getD n 0 = xs[n] := by simp [List.getD, h]
theorem getD_ge' (xs : List Nat) (n : Nat) (h : xs.length ≤ n) : xs.getD n 0 = 0 := by simp [List.getD, h]
theorem pow_pos' (n : Nat) : 0 < 16777216 ^ n := Nat.pow_pos (by decide)
theorem val_append (xs ys : List Nat) : val (xs ++ ys) = val xs + 16777216 ^ xs.length * val ys := by
 induction xs with
 | nil => simp [val]
 | cons d ds ih =>
  simp only [List.cons_append, val, ih, List.length_cons, Nat.pow_succ, Nat.mul_add]
  rw [Nat.mul_comm (16777216 ^ ds.length) 16777216, Nat.mul_assoc]
  omega
theorem val_snoc (xs : List Nat) (d : Nat) : val (xs ++ [d]) = val xs + 16777216 ^ xs.length * d := by
 rw [val_append]; simp [val]
theorem val_lt (xs : List Nat) (h : Digits xs) : val xs < 16777216 ^ xs.length := by
 induction xs with
 | nil => simp [val]
 | cons d ds ih =>
  have h1 := ih (fun x hx => h x (List.mem_cons_of_mem _ hx))
  have h2 := h d (List.mem_cons_self)
  simp only [val, List.length_cons, Nat.pow_succ]
  omega
theorem Digits.take {xs : List Nat} (h : Digits xs) (n : Nat) : Digits (xs.take n) := fun d hd => h d (List.mem_of_mem_take hd)
theorem Digits.drop {xs : List Nat} (h : Digits xs) (n : Nat) : Digits (xs.drop n) := fun d hd => h d (List.mem_of_mem_drop hd)
theorem Digits.getD {xs : List Nat} (h : Digits xs) (n : Nat) : xs.getD n 0 < 16777216 := by
 by_cases hn : n < xs.length
 ·rw [getD_lt' _ _ hn]; exact h _ (List.getElem_mem hn)
 ·rw [getD_ge' _ _ (by omega)]; decide
theorem Digits.snoc {xs : List Nat} (h : Digits xs) {d : Nat} (hd : d < 16777216) : Digits (xs ++ [d]) := by
 intro x hx
 rcases List.mem_append.1 hx with hx | hx
 ·exact h x hx
 ·rw [List.mem_singleton.1 hx]; exact hd
theorem Digits.set {xs : List Nat} (h : Digits xs) (j : Nat) {d : Nat} (hd : d < 16777216) : Digits (xs.set j d) := by
 intro x hx
 rcases List.mem_or_eq_of_mem_set hx with hx | hx
 ·exact h x hx
 ·rw [hx]; exact hd
theorem Digits.nil : Digits [] := fun _ h => by cases h
theorem Digits.zeros (n : Nat) : Digits (List.replicate n 0) := fun d hd => by rw [List.eq_of_mem_replicate hd]; decide
theorem val_zeros (n : Nat) : val (List.replicate n 0) = 0 := by
 induction n with
 | zero => rfl
 | succ n ih => simp [List.replicate_succ, val, ih]
theorem take_succ_getD (xs : List Nat) (k : Nat) (h : k < xs.length) : xs.take (k + 1) = xs.take k ++ [xs.getD k 0] := by
 rw [List.take_succ_eq_append_getElem h, getD_lt' _ _ h]
theorem val_take_succ (xs : List Nat) (k : Nat) (h : k < xs.length) : val (xs.take (k + 1)) = val (xs.take k) + 16777216 ^ k * xs.getD k 0 := by
 rw [take_succ_getD xs k h, val_snoc, List.length_take, Nat.min_eq_left (Nat.le_of_lt h)]
theorem val_set (xs : List Nat) (j d : Nat) (h : j < xs.length) : val (xs.set j d) + 16777216 ^ j * xs.getD j 0 = val xs + 16777216 ^ j * d := by
 induction xs generalizing j with
 | nil => simp at h
 | cons x xs ih =>
  cases j with
  | zero => simp [val]; omega
  | succ j =>
   have := ih j (by simpa using h)
   simp only [List.set_cons_succ, val, List.getD_cons_succ, Nat.pow_succ]
   rw [Nat.mul_comm (16777216 ^ j) 16777216, Nat.mul_assoc, Nat.mul_assoc]
   omega
theorem val_ge (xs : List Nat) (ht : Trim xs) (hne : xs ≠ []) : 16777216 ^ (xs.length - 1) ≤ val xs := by
 have hl : 0 < xs.length := by cases xs with | nil => exact absurd rfl hne | cons a b => simp
 have h1 := val_take_succ xs (xs.length - 1) (by omega)
 rw [show xs.length - 1 + 1 = xs.length by omega, List.take_length] at h1
 have h2 := ht hne
 have h3 : 16777216 ^ (xs.length - 1) * 1 ≤ 16777216 ^ (xs.length - 1) * xs.getD (xs.length - 1) 0 := Nat.mul_le_mul_left _ (by omega)
 omega
theorem len_le_of_val (xs : List Nat) (ht : Trim xs) (n : Nat) (h : val xs < 16777216 ^ n) : xs.length ≤ n := by
 by_cases hne : xs = []
 ·simp [hne]
 ·have h1 := val_ge xs ht hne
  have h2 : 16777216 ^ (xs.length - 1) < 16777216 ^ n := Nat.lt_of_le_of_lt h1 h
  have h3 := (Nat.pow_lt_pow_iff_right (by decide : 1 < 16777216)).1 h2
  omega
theorem val_lt_of_len (xs ys : List Nat) (hx : Digits xs) (ty : Trim ys) (h : xs.length < ys.length) : val xs < val ys := by
 have hne : ys ≠ [] := by intro e; simp [e] at h
 have h1 := val_lt xs hx
 have h2 := val_ge ys ty hne
 have h3 : 16777216 ^ xs.length ≤ 16777216 ^ (ys.length - 1) := Nat.pow_le_pow_right (by decide) (by omega)
 omega
theorem val_split (xs : List Nat) (k : Nat) (h : k < xs.length) : val xs = val (xs.take k) + 16777216 ^ k * (xs.getD k 0 + 16777216 * val (xs.drop (k + 1))) := by
 have e : xs = xs.take (k + 1) ++ xs.drop (k + 1) := (List.take_append_drop _ _).symm
 have h1 : val xs = val (xs.take (k + 1)) + 16777216 ^ (k + 1) * val (xs.drop (k + 1)) := by
  have := val_append (xs.take (k + 1)) (xs.drop (k + 1))
  rw [List.take_append_drop, List.length_take, Nat.min_eq_left (by omega)] at this
  exact this
 rw [h1, val_take_succ xs k h, Nat.mul_add, Nat.pow_succ, Nat.mul_assoc]
 omega
theorem val_decides (xs ys : List Nat) (k : Nat) (hx : Digits xs) (hk : k < xs.length) (hl : xs.length = ys.length)
 (hd : xs.drop (k + 1) = ys.drop (k + 1)) (h : xs.getD k 0 < ys.getD k 0) : val xs < val ys := by
 rw [val_split xs k hk, val_split ys k (by omega), ← hd]
 have h1 : val (xs.take k) < 16777216 ^ k := by
  have := val_lt _ (hx.take k)
  rwa [List.length_take, Nat.min_eq_left (by omega)] at this
 have h2 : 16777216 ^ k * (xs.getD k 0 + 16777216 * val (xs.drop (k + 1)) + 1) ≤ 16777216 ^ k * (ys.getD k 0 + 16777216 * val (xs.drop (k + 1))) :=
  Nat.mul_le_mul_left _ (by omega)
 rw [Nat.mul_add, Nat.mul_one] at h2
 omega
theorem times_step (out : List Nat) (j c add : Nat) (hj : j < out.length) :
 val (out.set j ((c + out.getD j 0 + add) % 16777216)) + 16777216 ^ (j + 1) * ((c + out.getD j 0 + add) / 16777216) = val out + 16777216 ^ j * c + 16777216 ^ j * add := by
 have h1 := val_set out j ((c + out.getD j 0 + add) % 16777216) hj
 have h2 : 16777216 ^ j * (c + out.getD j 0 + add) = 16777216 ^ j * ((c + out.getD j 0 + add) % 16777216) + 16777216 ^ (j + 1) * ((c + out.getD j 0 + add) / 16777216) := by
  rw [Nat.pow_succ, Nat.mul_assoc, ← Nat.mul_add, Nat.mod_add_div]
 rw [Nat.mul_add, Nat.mul_add] at h2
 omega
theorem carry_room (xs ys : List Nat) (hx : Digits xs) (hy : Digits ys) (i k c v : Nat) (hi : i < xs.length) (hc : 0 < c)
 (h : v + 16777216 ^ (i + k) * c ≤ val (xs.take (i + 1)) * val ys) : k < ys.length + 1 := by
 have h1 : val (xs.take (i + 1)) < 16777216 ^ (i + 1) := by
  have := val_lt _ (hx.take (i + 1))
  rwa [List.length_take, Nat.min_eq_left (by omega)] at this
 have h2 := val_lt ys hy
 have h3 : val (xs.take (i + 1)) * val ys < 16777216 ^ (i + 1 + ys.length) := by
  rw [Nat.pow_add]
  exact Nat.mul_lt_mul_of_lt_of_le h1 (Nat.le_of_lt h2) (pow_pos' _)
 have h4 : 16777216 ^ (i + k) * 1 ≤ 16777216 ^ (i + k) * c := Nat.mul_le_mul_left _ hc
 have h5 : 16777216 ^ (i + k) < 16777216 ^ (i + 1 + ys.length) := by omega
 have := (Nat.pow_lt_pow_iff_right (by decide : 1 < 16777216)).1 h5
 omega
theorem val_take_le (xs : List Nat) (k : Nat) : val (xs.take k) ≤ val xs := by
 have := val_append (xs.take k) (xs.drop k)
 rw [List.take_append_drop] at this
 omega
theorem take_all (xs : List Nat) (k : Nat) (h : xs.length ≤ k) : xs.take k = xs := List.take_of_length_le h
theorem val_take_succ' (xs : List Nat) (k : Nat) : val (xs.take (k + 1)) = val (xs.take k) + 16777216 ^ k * xs.getD k 0 := by
 by_cases h : k < xs.length
 ·exact val_take_succ xs k h
 ·rw [take_all xs _ (by omega), take_all xs _ (by omega), getD_ge' xs k (by omega)]; omega
theorem trim_of_val (xs : List Nat) (hx : Digits xs) (h : xs ≠ [] → 16777216 ^ (xs.length - 1) ≤ val xs) : Trim xs := by
 intro hne h0
 have hl : 0 < xs.length := by cases xs with | nil => exact absurd rfl hne | cons a b => simp
 have h1 := val_take_succ xs (xs.length - 1) (by omega)
 rw [show xs.length - 1 + 1 = xs.length by omega, List.take_length, h0] at h1
 have h2 := val_lt _ (hx.take (xs.length - 1))
 rw [List.length_take, Nat.min_eq_left (by omega)] at h2
 have := h hne
 omega
theorem sum_step (out : List Nat) (c a b va vb : Nat) (h : val out + 16777216 ^ out.length * c = va + vb) :
 val (out ++ [(c + a + b) % 16777216]) + 16777216 ^ (out.length + 1) * ((c + a + b) / 16777216) = (va + 16777216 ^ out.length * a) + (vb + 16777216 ^ out.length * b) := by
 rw [val_snoc]
 have h2 : 16777216 ^ out.length * (c + a + b) = 16777216 ^ out.length * ((c + a + b) % 16777216) + 16777216 ^ (out.length + 1) * ((c + a + b) / 16777216) := by
  rw [Nat.pow_succ, Nat.mul_assoc, ← Nat.mul_add, Nat.mod_add_div]
 rw [Nat.mul_add, Nat.mul_add] at h2
 omega
def part (n d most : Nat) : Nat := if d = 0 then most else min most (n / d)
theorem part_le (n d most : Nat) : part n d most ≤ most := by unfold part; split <;> omega
theorem part_iff (n d most mid : Nat) (h : mid ≤ most) : mid * d ≤ n ↔ mid ≤ part n d most := by
 unfold part
 by_cases hd : d = 0
 ·simp [hd, h]
 ·rw [if_neg hd, ← Nat.le_div_iff_mul_le (by omega)]; omega
end Go.Proofs.YtlohbaoigfaneaaGreat.BigN
namespace Go.Proofs.YtlohbaoigfaneaaGreat.Shr
open Go.RowKit
set_option linter.unusedVariables false
set_option linter.unusedSimpArgs false
theorem hideB {p : Prop} (h : p) : Hid p := h
abbrev numC (d : Nat) : Value := .int .i64 (d : Int)
def IsNum (w : World) (v : Value) (xs : List Nat) : Prop :=
 ∃ g cap : Nat, v = .slice (some ⟨g, 0, none⟩) xs.length cap ∧ xs.length ≤ cap ∧ cap ≤ maxLen ∧ g < w.heap.size ∧ ∀ i, i < xs.length → w.cell? ⟨g, i, none⟩ = some (numC (xs.getD i 0))
def IsBig (w : World) (v : Value) (N : Nat) : Prop := ∃ xs, IsNum w v xs ∧ BigN.Digits xs ∧ BigN.Trim xs ∧ BigN.val xs = N
theorem IsNum.kept {w w' : World} {v : Value} {xs : List Nat} (h : IsNum w v xs) (hb : Below w.heap.size w w') : IsNum w' v xs := by
 obtain ⟨g, cap, rfl, h1, h2, h3, h4⟩ := h
 refine ⟨g, cap, rfl, h1, h2, by have := hb.size; omega, fun i hi => ?_⟩
 rw [hb.cell (p := ⟨g, i, none⟩) h3]
 exact h4 i hi
theorem IsBig.kept {w w' : World} {v : Value} {N : Nat} (h : IsBig w v N) (hb : Below w.heap.size w w') : IsBig w' v N := by
 obtain ⟨xs, h1, h2⟩ := h
 exact ⟨xs, h1.kept hb, h2⟩
theorem isNum_of_own {w : World} {base n : Nat} {v : Value} {xs : List Nat} (h : w.ownsRow base 2 1 v n (xs.map numC)) (hv : v ≠ .slice none 0 0) (hn : n = xs.length) : IsNum w v xs := by
 subst hn
 rcases h.2 with ⟨h1, _⟩ | ⟨g, cap, cur, rfl, _, hg, h1, h2, _, _⟩
 ·exact absurd h1 hv
 ·refine ⟨g, cap, rfl, h1, h2, (Array.getElem?_eq_some_iff.1 hg).1, fun i hi => ?_⟩
  rw [h.cellAt i (by omega)]
  simp [List.getElem?_map, List.getD, hi]
theorem info2 : (Tryz.prog.info? 2).map (fun i => (i.zero, i.size, i.bytes)) = some (some (.int .i64 0), 1, 8) := by kernel_rfl
def BigAt (x : Nat) (w wr : World) (s0 s3 : Value) (k x' : Nat) (xs : List Nat) : Prop :=
 s0 = .int .u64 (x' : Int) ∧ xs.length = k ∧ BigN.Digits xs ∧ BigN.val xs + 16777216 ^ k * x' = x ∧ (0 < k → 16777216 ^ (k - 1) ≤ x) ∧ k ≤ 3 ∧
  wr.ownsRow w.heap.size 2 1 s3 k (xs.map numC) ∧ s3 ≠ .slice none 0 0 ∧ Below w.heap.size w wr
theorem k_le {x k : Nat} (hx : x < 18446744073709551616) (h : 16777216 ^ k ≤ x) : k ≤ 2 := by
 by_cases hk : k ≤ 2
 ·exact hk
 ·exfalso
  have h1 : 16777216 ^ 3 ≤ 16777216 ^ k := Nat.pow_le_pow_right (by decide) (by omega)
  have h2 : (16777216 : Nat) ^ 3 = 4722366482869645213696 := by decide
  omega
theorem big_step {x k x' : Nat} {xs : List Nat} (hx : x < 18446744073709551616) (h0 : 0 < x') (hl : xs.length = k) (hd : BigN.Digits xs) (hv : BigN.val xs + 16777216 ^ k * x' = x) :
 (xs ++ [x' % 16777216]).length = k + 1 ∧ BigN.Digits (xs ++ [x' % 16777216]) ∧ BigN.val (xs ++ [x' % 16777216]) + 16777216 ^ (k + 1) * (x' / 16777216) = x ∧ (0 < k + 1 → 16777216 ^ (k + 1 - 1) ≤ x) ∧ k + 1 ≤ 3 := by
 have hp : 16777216 ^ k ≤ x := by
  have : 16777216 ^ k * 1 ≤ 16777216 ^ k * x' := Nat.mul_le_mul_left _ h0
  omega
 have hk := k_le hx hp
 refine ⟨by simp [hl], hd.snoc (by omega), ?_, fun _ => by simpa using hp, by omega⟩
 rw [BigN.val_snoc, hl]
 have : 16777216 ^ k * x' = 16777216 ^ k * (x' % 16777216) + 16777216 ^ (k + 1) * (x' / 16777216) := by
  rw [Nat.pow_succ, Nat.mul_assoc, ← Nat.mul_add, Nat.mod_add_div]
 omega
set_option maxHeartbeats 1000000 in
theorem big_any (x : Nat) (w : World) (hx : x < 18446744073709551616) : Calls Tryz.prog 101 #[.int .u64 (x : Int)] w fun e w' => ∃ v, e = .returned v ∧ IsBig w' v x ∧ Below w.heap.size w w' := by
 obtain ⟨i0, hi, hz0, hz1, hz2⟩ := info_parts info2
 have hat : BigAt x w (w.alloc (.cells #[] 2)) (.int .u64 (x : Int)) (.slice (some ⟨w.heap.size, 0, none⟩) 0 0) 0 x [] :=
  ⟨rfl, rfl, BigN.Digits.nil, by simp [BigN.val], by simp, by omega, World.ownsRow_lit w #[] 0 (Nat.le_refl _) (by decide) rfl, by simp, (Below.refl _ _).alloc (Nat.le_refl _) _⟩
 have HAT := hideB hat
 clear hat
 go_enter Tryz.func101, Tryz.ntmps101
 go_wp2_with fail
 go_loopw [0, 3] (fun s0 s3 wr => ∃ k x' xs, BigAt x w wr s0 s3 k x' xs) (fun s0 _ _ => (intOf s0).toNat)
 case atStart => exact ⟨0, x, [], HAT.out⟩
 case round =>
  obtain ⟨k, x', xs, rfl, hl, hd, hv, hp, hk, hown, hnil, hbel⟩ := hrel
  have hxl : x' < 18446744073709551616 := by
   have : 1 * x' ≤ 16777216 ^ k * x' := Nat.mul_le_mul_right _ (BigN.pow_pos' k)
   omega
  by_cases h0 : 0 < x'
  ·have hst := big_step hx h0 hl hd hv
   have HST := hideB hst
   have HOWN := hideB hown
   have HBEL := hideB hbel
   have HNIL := hideB hnil
   clear hst hown hbel hl hd hv hp hnil
   have hz := HBEL.out.size
   go_wp2_with (at_builtin; refine wpList_append_own _ rfl _ _ 27 rfl w.heap.size 2 i0 (.int .i64 0) 1 8 Tryz.underlying27 hi hz0 hz1 hz2 rfl (by decide) _ _ _ rfl (HOWN.out.alloc _) ⟨wr.heap.size, 0, none⟩ 1 1 [numC (x' % 16777216)] rfl rfl ?c1 ?c2 ?c3 ?c4 ?c5 ?_)
   case c1 =>
    intro j u hj
    match j, hj with
    | 0, hj => simp at hj; subst hj; simp [Addr.add]
   case c2 => intro u hu; simp at hu; subst hu; rfl
   case c3 => unfold maxLen; omega
   case c4 => omega
   case c5 => simp; omega
   intro v' w1 hown' hgrow hnil'
   have hst := HST.out
   have hb1 : Below w.heap.size w w1 := (HBEL.out.alloc hz _).grown hgrow (by simp; omega) (fun r hr => (HOWN.out.lt r hr).1)
   have hne : v' ≠ .slice none 0 0 := hnil'
   have HR : Hid (BigAt x w w1 (.int .u64 ((x' / 16777216 : Nat) : Int)) v' (k + 1) (x' / 16777216) (xs ++ [x' % 16777216])) :=
    ⟨rfl, hst.1, hst.2.1, hst.2.2.1, hst.2.2.2.1, hst.2.2.2.2, by simpa using hown', hne, hb1⟩
   clear hown' hgrow hnil' hst hb1 hne HOWN HBEL HNIL HST
   go_wp2
   go_roundw
   case rel => exact ⟨k + 1, x' / 16777216, xs ++ [x' % 16777216], by simpa using HR.out⟩
   case measure => simp [intOf]; omega
  ·obtain rfl : x' = 0 := by omega
   have hfin : IsBig wr _ x := ⟨xs, isNum_of_own hown hnil hl.symm, hd, BigN.trim_of_val xs hd (fun hne => by rw [hl]; have := hp (by rw [← hl]; exact List.length_pos_iff.2 hne); omega), by omega⟩
   have HF := hideB (And.intro hfin hbel)
   clear hown hbel hnil hl hd hv hp hfin
   go_wp2
   go_ret
   exact ⟨_, rfl, HF.out⟩
theorem sum_next {xs ys zs : List Nat} {k c da db : Nat} (hx : BigN.Digits xs) (hy : BigN.Digits ys) (tx : BigN.Trim xs) (ty : BigN.Trim ys) (hl : zs.length = k) (hd : BigN.Digits zs) (hc : c ≤ 1)
 (hv : BigN.val zs + 16777216 ^ k * c = BigN.val (xs.take k) + BigN.val (ys.take k)) (ha : da = xs.getD k 0) (hb : db = ys.getD k 0) (hgo : k < xs.length ∨ k < ys.length ∨ 0 < c) :
 (zs ++ [(c + da + db) % 16777216]).length = k + 1 ∧ BigN.Digits (zs ++ [(c + da + db) % 16777216]) ∧ (c + da + db) / 16777216 ≤ 1 ∧
  BigN.val (zs ++ [(c + da + db) % 16777216]) + 16777216 ^ (k + 1) * ((c + da + db) / 16777216) = BigN.val (xs.take (k + 1)) + BigN.val (ys.take (k + 1)) ∧
  (0 < k + 1 → 16777216 ^ (k + 1 - 1) ≤ BigN.val xs + BigN.val ys) ∧ da < 16777216 ∧ db < 16777216 := by
 have h1 : da < 16777216 := by rw [ha]; exact hx.getD k
 have h2 : db < 16777216 := by rw [hb]; exact hy.getD k
 refine ⟨by simp [hl], hd.snoc (Nat.mod_lt _ (by decide)), by omega, ?_, fun _ => ?_, h1, h2⟩
 ·have := BigN.sum_step zs c da db (BigN.val (xs.take k)) (BigN.val (ys.take k)) (by rw [hl]; exact hv)
  rw [hl] at this
  rw [this, BigN.val_take_succ' xs, BigN.val_take_succ' ys, ha, hb]
 ·rw [Nat.add_sub_cancel]
  rcases hgo with h | h | h
  ·have := BigN.val_ge xs tx (by intro e; simp [e] at h)
   have h3 : 16777216 ^ k ≤ 16777216 ^ (xs.length - 1) := Nat.pow_le_pow_right (by decide) (by omega)
   omega
  ·have := BigN.val_ge ys ty (by intro e; simp [e] at h)
   have h3 : 16777216 ^ k ≤ 16777216 ^ (ys.length - 1) := Nat.pow_le_pow_right (by decide) (by omega)
   omega
  ·have h3 : 16777216 ^ k * 1 ≤ 16777216 ^ k * c := Nat.mul_le_mul_left _ h
   have h4 := BigN.val_take_le xs k
   have h5 := BigN.val_take_le ys k
   omega
def SumAt (xs ys : List Nat) (w wr : World) (s5 s6 s7 : Value) (k c : Nat) (zs : List Nat) : Prop :=
 s7 = .int .i64 (k : Int) ∧ s6 = .int .i64 (c : Int) ∧ zs.length = k ∧ BigN.Digits zs ∧ c ≤ 1 ∧ BigN.val zs + 16777216 ^ k * c = BigN.val (xs.take k) + BigN.val (ys.take k) ∧
  (0 < k → 16777216 ^ (k - 1) ≤ BigN.val xs + BigN.val ys) ∧ (k ≤ xs.length ∨ k ≤ ys.length ∨ (c = 0 ∧ (k ≤ xs.length + 1 ∨ k ≤ ys.length + 1))) ∧
  wr.ownsRow w.heap.size 2 1 s5 k (zs.map numC) ∧ s5 ≠ .slice none 0 0 ∧ Below w.heap.size w wr
theorem sum_end {xs ys zs : List Nat} {k : Nat} (hl : zs.length = k) (hd : BigN.Digits zs) (hv : BigN.val zs + 16777216 ^ k * 0 = BigN.val (xs.take k) + BigN.val (ys.take k))
 (hp : 0 < k → 16777216 ^ (k - 1) ≤ BigN.val xs + BigN.val ys) (h1 : ¬ k < xs.length) (h2 : ¬ k < ys.length) : BigN.Trim zs ∧ BigN.val zs = BigN.val xs + BigN.val ys := by
 rw [BigN.take_all xs k (by omega), BigN.take_all ys k (by omega)] at hv
 have e : BigN.val zs = BigN.val xs + BigN.val ys := by omega
 refine ⟨BigN.trim_of_val zs hd fun hne => ?_, e⟩
 rw [hl, e]
 exact hp (by rw [← hl]; exact List.length_pos_iff.2 hne)
theorem numC_at {w w' : World} {g cap n : Nat} {xs : List Nat} (h : ∀ i, i < xs.length → w.cell? ⟨g, i, none⟩ = some (numC (xs.getD i 0))) (hg : g < w.heap.size) (hb : Below w.heap.size w w') (k : Nat) :
 ∃ d, d = xs.getD k 0 ∧ (k < xs.length → w'.cell? ⟨g, k, none⟩ = some (.int .i64 (d : Int))) :=
 ⟨_, rfl, fun hk => (hb.cell (p := ⟨g, k, none⟩) hg).trans (h k hk)⟩
set_option maxHeartbeats 2000000 in
theorem sum_num (va vb : Value) (xs ys : List Nat) (w : World) (na : IsNum w va xs) (nb : IsNum w vb ys) (hx : BigN.Digits xs) (hy : BigN.Digits ys) (tx : BigN.Trim xs) (ty : BigN.Trim ys) (lx : xs.length ≤ 1000) (ly : ys.length ≤ 1000) :
 Calls Tryz.prog 103 #[va, vb] w fun e w' => ∃ v, e = .returned v ∧ IsBig w' v (BigN.val xs + BigN.val ys) ∧ Below w.heap.size w w' := by
 obtain ⟨i0, hi, hz0, hz1, hz2⟩ := info_parts info2
 obtain ⟨ga, ca, rfl, la, ma, wa, cella⟩ := na
 obtain ⟨gb, cb, rfl, lb, mb, wb, cellb⟩ := nb
 have hat : SumAt xs ys w (w.alloc (.cells #[] 2)) (.slice (some ⟨w.heap.size, 0, none⟩) 0 0) (.int .i64 0) (.int .i64 0) 0 0 [] :=
  ⟨rfl, rfl, rfl, BigN.Digits.nil, by omega, by simp [BigN.val], by simp, by omega, World.ownsRow_lit w #[] 0 (Nat.le_refl _) (by decide) rfl, by simp, (Below.refl _ _).alloc (Nat.le_refl _) _⟩
 have HAT := hideB hat
 have CA := hideB cella
 have CB := hideB cellb
 have HX := hideB hx
 have HY := hideB hy
 have TX := hideB tx
 have TY := hideB ty
 clear hat cella cellb hx hy tx ty ma mb
 go_enter Tryz.func103, Tryz.ntmps103
 go_wp2_with fail
 go_loopw [5, 6, 7] (fun s5 s6 s7 wr => ∃ k c zs, SumAt xs ys w wr s5 s6 s7 k c zs) (fun _ _ s7 _ => xs.length + ys.length + 2 - (intOf s7).toNat)
 case atStart => exact ⟨0, 0, [], HAT.out⟩
 case round =>
  obtain ⟨k, c, zs, rfl, rfl, hl, hd, hc, hv, hp, hk, hown, hnil, hbel⟩ := hrel
  obtain ⟨da, ha, hca⟩ := numC_at (cap := ca) (n := 0) CA.out wa hbel k
  obtain ⟨db, hb, hcb⟩ := numC_at (cap := cb) (n := 0) CB.out wb hbel k
  have HN := hideB (fun hgo => sum_next HX.out HY.out TX.out TY.out hl hd hc hv ha hb hgo)
  have da1 : da < 16777216 := by rw [ha]; exact HX.out.getD k
  have db1 : db < 16777216 := by rw [hb]; exact HY.out.getD k
  have HA := hideB ha
  have HB := hideB hb
  have HOWN := hideB hown
  have HBEL := hideB hbel
  have HNIL := hideB hnil
  have HP := hideB hp
  have HL := hideB hl
  have HD := hideB hd
  have HV := hideB hv
  have hz := HBEL.out.size
  clear hown hbel hnil hp hl hd hv ha hb
  have step : ∀ o w1 v', (k < xs.length ∨ k < ys.length ∨ 0 < c) → (k + 1 ≤ xs.length ∨ k + 1 ≤ ys.length ∨ ((c + da + db) / 16777216 = 0 ∧ (k + 1 ≤ xs.length + 1 ∨ k + 1 ≤ ys.length + 1))) → w1.ownsRow w.heap.size 2 1 v' (k + 1) (zs.map numC ++ [numC ((c + da + db) % 16777216)]) → World.grownBy (wr.alloc o) w1 (Value.ownBlock u5) → v' ≠ .slice none 0 0 →
   SumAt xs ys w w1 v' (.int .i64 (((c + da + db) / 16777216 : Nat) : Int)) (.int .i64 ((k + 1 : Nat) : Int)) (k + 1) ((c + da + db) / 16777216) (zs ++ [(c + da + db) % 16777216]) := by
   intro o w1 v' hgo hbd h1 h2 h3
   obtain ⟨n1, n2, n3, n4, n5, _, _⟩ := HN.out hgo
   exact ⟨rfl, rfl, n1, n2, n3, n4, n5, hbd, by simpa using h1, h3, (HBEL.out.alloc hz _).grown h2 (by simp; omega) (fun r hr => (HOWN.out.lt r hr).1)⟩
  have STEP := hideB step
  clear step
  by_cases hax : k < xs.length
  ·have hca' := hca hax
   by_cases hby : k < ys.length
   ·have hcb' := hcb hby
    clear hca hcb
    go_wp2_with (at_builtin; refine wpList_append_own _ rfl _ _ 27 rfl w.heap.size 2 i0 (.int .i64 0) 1 8 Tryz.underlying27 hi hz0 hz1 hz2 rfl (by decide) _ _ _ rfl (HOWN.out.alloc _) ⟨wr.heap.size, 0, none⟩ 1 1 [numC ((c + da + db) % 16777216)] rfl rfl ?c1A ?c2A ?c3A ?c4A ?c5A ?_)
    case c1A =>
     intro j u hj
     match j, hj with
     | 0, hj => simp at hj; subst hj; simp [Addr.add]
    case c2A => intro u hu; simp at hu; subst hu; rfl
    case c3A => unfold maxLen; omega
    case c4A => omega
    case c5A => simp; omega
    intro v' w1 hown' hgrow hnil'
    have HR := hideB (STEP.out _ w1 v' (by omega) (by omega) hown' hgrow hnil')
    clear hown' hgrow hnil' HOWN HBEL HNIL STEP HN
    go_wp2
    go_roundw
    case rel => exact ⟨k + 1, _, _, by simpa using HR.out⟩
    case measure => simp [intOf]; omega
   ·obtain rfl : db = 0 := by rw [HB.out]; exact BigN.getD_ge' _ _ (by omega)
    clear hca hcb
    go_wp2_with (at_builtin; refine wpList_append_own _ rfl _ _ 27 rfl w.heap.size 2 i0 (.int .i64 0) 1 8 Tryz.underlying27 hi hz0 hz1 hz2 rfl (by decide) _ _ _ rfl (HOWN.out.alloc _) ⟨wr.heap.size, 0, none⟩ 1 1 [numC ((c + da + 0) % 16777216)] rfl rfl ?c1B ?c2B ?c3B ?c4B ?c5B ?_)
    case c1B =>
     intro j u hj
     match j, hj with
     | 0, hj => simp at hj; subst hj; simp [Addr.add]
    case c2B => intro u hu; simp at hu; subst hu; rfl
    case c3B => unfold maxLen; omega
    case c4B => omega
    case c5B => simp; omega
    intro v' w1 hown' hgrow hnil'
    have HR := hideB (STEP.out _ w1 v' (by omega) (by omega) hown' hgrow hnil')
    clear hown' hgrow hnil' HOWN HBEL HNIL STEP HN
    go_wp2
    go_roundw
    case rel => exact ⟨k + 1, _, _, by simpa using HR.out⟩
    case measure => simp [intOf]; omega
  ·obtain rfl : da = 0 := by rw [HA.out]; exact BigN.getD_ge' _ _ (by omega)
   by_cases hby : k < ys.length
   ·have hcb' := hcb hby
    clear hca hcb
    go_wp2_with (at_builtin; refine wpList_append_own _ rfl _ _ 27 rfl w.heap.size 2 i0 (.int .i64 0) 1 8 Tryz.underlying27 hi hz0 hz1 hz2 rfl (by decide) _ _ _ rfl (HOWN.out.alloc _) ⟨wr.heap.size, 0, none⟩ 1 1 [numC ((c + 0 + db) % 16777216)] rfl rfl ?c1C ?c2C ?c3C ?c4C ?c5C ?_)
    case c1C =>
     intro j u hj
     match j, hj with
     | 0, hj => simp at hj; subst hj; simp [Addr.add]
    case c2C => intro u hu; simp at hu; subst hu; rfl
    case c3C => unfold maxLen; omega
    case c4C => omega
    case c5C => simp; omega
    intro v' w1 hown' hgrow hnil'
    have HR := hideB (STEP.out _ w1 v' (by omega) (by omega) hown' hgrow hnil')
    clear hown' hgrow hnil' HOWN HBEL HNIL STEP HN
    go_wp2
    go_roundw
    case rel => exact ⟨k + 1, _, _, by simpa using HR.out⟩
    case measure => simp [intOf]; omega
   ·obtain rfl : db = 0 := by rw [HB.out]; exact BigN.getD_ge' _ _ (by omega)
    clear hca hcb
    by_cases hcc : 0 < c
    ·obtain rfl : c = 1 := by omega
     go_wp2_with (at_builtin; refine wpList_append_own _ rfl _ _ 27 rfl w.heap.size 2 i0 (.int .i64 0) 1 8 Tryz.underlying27 hi hz0 hz1 hz2 rfl (by decide) _ _ _ rfl (HOWN.out.alloc _) ⟨wr.heap.size, 0, none⟩ 1 1 [numC ((1 + 0 + 0) % 16777216)] rfl rfl ?c1D ?c2D ?c3D ?c4D ?c5D ?_)
     case c1D =>
      intro j u hj
      match j, hj with
      | 0, hj => simp at hj; subst hj; simp [Addr.add]
     case c2D => first | rfl | (intro u hu; simp at hu; subst hu; rfl)
     case c3D => unfold maxLen; omega
     case c4D => omega
     case c5D => first | omega | (simp; omega)
     intro v' w1 hown' hgrow hnil'
     have HR := hideB (STEP.out _ w1 v' (by omega) (Or.inr (Or.inr ⟨by first | trivial | omega, by omega⟩)) hown' hgrow hnil')
     clear hown' hgrow hnil' HOWN HBEL HNIL STEP HN
     go_wp2
     go_roundw
     case rel => exact ⟨k + 1, _, _, by simpa using HR.out⟩
     case measure => simp [intOf]; omega
    ·obtain rfl : c = 0 := by omega
     have hend := sum_end HL.out HD.out HV.out HP.out hax hby
     have hfin : IsBig wr _ (BigN.val xs + BigN.val ys) := ⟨zs, isNum_of_own HOWN.out HNIL.out HL.out.symm, HD.out, hend.1, hend.2⟩
     have HF := hideB (And.intro hfin HBEL.out)
     clear hend hfin HOWN HBEL HNIL STEP HN
     go_wp2
     go_ret
     exact ⟨_, rfl, HF.out⟩
theorem take_pred {xs : List Nat} {n : Nat} (h0 : 0 < n) (hn : n ≤ xs.length) (hz : xs.getD (n - 1) 0 = 0) : BigN.val (xs.take (n - 1)) = BigN.val (xs.take n) := by
 have := BigN.val_take_succ xs (n - 1) (by omega)
 rw [show n - 1 + 1 = n by omega, hz] at this
 omega
set_option maxHeartbeats 1000000 in
theorem trim_any (g cap : Nat) (xs : List Nat) (w : World) (hl : xs.length ≤ cap) (hm : cap ≤ maxLen) (hg : g < w.heap.size) (hc : ∀ i, i < xs.length → w.cell? ⟨g, i, none⟩ = some (numC (xs.getD i 0))) (hd : BigN.Digits xs) :
 Calls Tryz.prog 123 #[.slice (some ⟨g, 0, none⟩) xs.length cap] w fun e w' => ∃ v, e = .returned v ∧ IsBig w v (BigN.val xs) ∧ w' = w := by
 have HC := hideB hc
 have HD := hideB hd
 unfold maxLen at hm
 clear hc hd
 go_enter Tryz.func123, Tryz.ntmps123
 go_wp2_with fail
 go_loop [0] (fun s0 => ∃ n : Nat, n ≤ xs.length ∧ s0 = .slice (some ⟨g, 0, none⟩) n cap ∧ Hid (BigN.val (xs.take n) = BigN.val xs)) (fun s0 => (match s0 with | .slice _ n _ => n | _ => 0))
 case atStart => exact ⟨xs.length, Nat.le_refl _, rfl, hideB (by rw [List.take_length])⟩
 case round =>
  obtain ⟨n, hn, rfl, HV⟩ := hrel
  by_cases h0 : n = 0
  ·subst h0
   have hfin : IsBig w (.slice (some ⟨g, 0, none⟩) 0 cap) (BigN.val xs) := ⟨[], ⟨g, cap, rfl, by simp, by unfold maxLen; omega, hg, by simp⟩, BigN.Digits.nil, fun h => absurd rfl h, by rw [← HV.out]; simp⟩
   have HF := hideB hfin
   clear hfin
   go_wp2
   go_ret
   exact ⟨_, rfl, HF.out, rfl⟩
  ·obtain ⟨d, hdd, hcell⟩ : ∃ d, d = xs.getD (n - 1) 0 ∧ w.cell? ⟨g, n - 1, none⟩ = some (.int .i64 (d : Int)) := ⟨_, rfl, HC.out (n - 1) (by omega)⟩
   have HDD := hideB hdd
   clear hdd
   have hp : (0 : Int) < (n : Int) := by omega
   by_cases hz : d = 0
   ·subst hz
    have HN := hideB (take_pred (by omega) hn HDD.out.symm)
    go_wp2
    exact ⟨⟨n - 1, by omega, rfl, hideB (HN.out.trans HV.out)⟩, by show n - 1 < n; omega⟩
   ·have hz' : ((d : Int) == 0) = false := by simp; omega
    have hlen : (xs.take n).length = n := by rw [List.length_take]; omega
    have hget : ∀ i, i < n → (xs.take n).getD i 0 = xs.getD i 0 := by
     intro i hi
     simp [List.getD, List.getElem?_take, hi]
    have hfin : IsBig w (.slice (some ⟨g, 0, none⟩) n cap) (BigN.val xs) := by
     refine ⟨xs.take n, ⟨g, cap, by rw [hlen], by omega, by unfold maxLen; omega, hg, fun i hi => ?_⟩, HD.out.take n, fun _ => ?_, HV.out⟩
     ·rw [hlen] at hi
      rw [hget i hi]
      exact HC.out i (by omega)
     ·rw [hlen, hget (n - 1) (by omega), ← HDD.out]
      exact hz
    have HF := hideB hfin
    clear hfin hget hlen hz
    go_wp2
    go_ret
    exact ⟨_, rfl, HF.out, rfl⟩
theorem most_end {xs ys : List Nat} (hx : BigN.Digits xs) (hy : BigN.Digits ys) (hl : xs.length = ys.length) (j : Nat) (hj : j < xs.length) (hd : xs.drop (j + 1) = ys.drop (j + 1)) (hne : xs.getD j 0 ≠ ys.getD j 0) :
 decide (xs.getD j 0 < ys.getD j 0) = decide (BigN.val xs ≤ BigN.val ys) := by
 by_cases h : xs.getD j 0 < ys.getD j 0
 ·have := BigN.val_decides xs ys j hx hj hl hd h
  exact decide_eq_decide.2 ⟨fun _ => by omega, fun _ => h⟩
 ·have := BigN.val_decides ys xs j hy (by omega) hl.symm hd.symm (by omega)
  exact decide_eq_decide.2 ⟨fun k => absurd k h, fun _ => by omega⟩
theorem drop_step {xs ys : List Nat} {j : Nat} (hl : xs.length = ys.length) (hj : j < xs.length) (hd : xs.drop (j + 1) = ys.drop (j + 1)) (he : xs.getD j 0 = ys.getD j 0) : xs.drop j = ys.drop j := by
 have hj' : j < ys.length := by omega
 rw [BigN.getD_lt' xs j hj, BigN.getD_lt' ys j hj'] at he
 rw [List.drop_eq_getElem_cons hj, List.drop_eq_getElem_cons hj', hd, he]
theorem most_len {xs ys : List Nat} (hx : BigN.Digits xs) (hy : BigN.Digits ys) (tx : BigN.Trim xs) (ty : BigN.Trim ys) (hne : xs.length ≠ ys.length) : decide (xs.length < ys.length) = decide (BigN.val xs ≤ BigN.val ys) := by
 by_cases h : xs.length < ys.length
 ·have := BigN.val_lt_of_len xs ys hx ty h
  simp [h, Nat.le_of_lt this]
 ·have := BigN.val_lt_of_len ys xs hy tx (by omega)
  simp [h]; omega
set_option maxHeartbeats 2000000 in
theorem most_num (va vb : Value) (xs ys : List Nat) (w : World) (na : IsNum w va xs) (nb : IsNum w vb ys) (hx : BigN.Digits xs) (hy : BigN.Digits ys) (tx : BigN.Trim xs) (ty : BigN.Trim ys) (lx : xs.length ≤ 1000) (ly : ys.length ≤ 1000) :
 Calls Tryz.prog 124 #[va, vb] w fun e w' => e = .returned (.bool (decide (BigN.val xs ≤ BigN.val ys))) ∧ Below w.heap.size w w' := by
 obtain ⟨ga, ca, rfl, la, ma, wa, cella⟩ := na
 obtain ⟨gb, cb, rfl, lb, mb, wb, cellb⟩ := nb
 by_cases hne : xs.length = ys.length
 ·have CA := hideB cella
  have CB := hideB cellb
  have HX := hideB hx
  have HY := hideB hy
  have HL := hideB hne
  clear cella cellb hx hy tx ty ma mb
  have hle : ((xs.length : Int) == (ys.length : Int)) = true := by simp [hne]
  have hls : xs.length ≤ ys.length := by omega
  have hlt : ys.length ≤ xs.length := by omega
  clear hne
  generalize hb : decide (BigN.val xs ≤ BigN.val ys) = B
  have HB := hideB hb
  clear hb
  go_enter Tryz.func124, Tryz.ntmps124
  go_wp2_with fail
  go_loopw [5] (fun s5 wr => Hid (Below w.heap.size w wr) ∧ ((s5 = .int .i64 (-1) ∧ Hid (xs = ys)) ∨ ∃ j : Nat, j < xs.length ∧ s5 = .int .i64 (j : Int) ∧ Hid (xs.drop (j + 1) = ys.drop (j + 1)))) (fun s5 _ => (intOf s5 + 1).toNat)
  case atStart =>
   refine ⟨hideB (Below.refl _ _), ?_⟩
   by_cases h0 : xs.length = 0
   ·left
    refine ⟨by rw [h0]; rfl, hideB ?_⟩
    have h1 : ys.length = 0 := by omega
    rw [List.eq_nil_of_length_eq_zero h0, List.eq_nil_of_length_eq_zero h1]
   ·right
    refine ⟨xs.length - 1, by omega, by congr 1; omega, hideB ?_⟩
    rw [List.drop_of_length_le (by omega), List.drop_of_length_le (by omega)]
  case round =>
   obtain ⟨HW, ⟨rfl, he⟩ | ⟨j, hj, rfl, hd⟩⟩ := hrel
   ·have hB : B = true := by rw [← HB.out, he.out]; simp
    subst hB
    go_wp2
    go_ret
    exact ⟨rfl, HW.out⟩
   ·obtain ⟨da, ha, hca⟩ : ∃ d, d = xs.getD j 0 ∧ wr.cell? ⟨ga, j, none⟩ = some (.int .i64 (d : Int)) := ⟨_, rfl, (HW.out.cell (p := ⟨ga, j, none⟩) wa).trans (CA.out j hj)⟩
    obtain ⟨db, hb, hcb⟩ : ∃ d, d = ys.getD j 0 ∧ wr.cell? ⟨gb, j, none⟩ = some (.int .i64 (d : Int)) := ⟨_, rfl, (HW.out.cell (p := ⟨gb, j, none⟩) wb).trans (CB.out j (by omega))⟩
    have HA := hideB ha
    have HBb := hideB hb
    clear ha hb
    have hj1 : (j : Int) < (xs.length : Int) := by omega
    have hj2 : (j : Int) < (ys.length : Int) := by omega
    have hj0 : (0 : Int) ≤ (j : Int) := by omega
    by_cases hdd : da = db
    ·have hne' : ((da : Int) != (db : Int)) = false := by simp [hdd]
     have HDN := hideB (drop_step HL.out hj hd.out (by rw [← HA.out, ← HBb.out]; exact hdd))
     clear hdd
     go_wp2
     go_quiet (fail)
     go_wp2
     refine ⟨⟨hideB (below_drewN HW.out nq), ?_⟩, by simp [intOf] <;> omega⟩
     by_cases h0 : j = 0
     ·subst h0
      exact .inl ⟨rfl, hideB (by simpa using HDN.out)⟩
     ·exact .inr ⟨j - 1, by omega, by congr 1; omega, hideB (by rw [show j - 1 + 1 = j by omega]; exact HDN.out)⟩
    ·have hne' : ((da : Int) != (db : Int)) = true := by simp; omega
     have hB := most_end HX.out HY.out HL.out j hj hd.out (by rw [← HA.out, ← HBb.out]; exact hdd)
     rw [← HA.out, ← HBb.out, HB.out] at hB
     have HBB : Hid (decide (da < db) = B) := hB
     clear hB hdd
     go_wp2
     go_quiet (fail)
     go_wp2
     go_quiet (fail)
     go_wp2
     go_ret
     exact ⟨by rw [← HBB.out]; rfl, below_drewN (below_drewN HW.out _) _⟩
 ·have e := most_len hx hy tx ty hne
  rw [← e]
  have hle : ((xs.length : Int) == (ys.length : Int)) = false := by simp; omega
  clear e cella cellb hx hy tx ty
  go_enter Tryz.func124, Tryz.ntmps124
  go_wp2
  go_ret
  exact ⟨by simp, Below.refl _ _⟩
end Go.Proofs.YtlohbaoigfaneaaGreat.Shr
