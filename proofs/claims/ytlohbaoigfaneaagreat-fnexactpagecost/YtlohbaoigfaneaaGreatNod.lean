import Derived.Test.YtlohbaoigfaneaaGreatProg
import Derived.WalkKit
import Derived.WalkSpells
import Derived.RowKit3
import Derived.Below
import Derived.Outline
import Derived.Deep.Light
import Derived.Deep.QuietTactic
import Derived.BigQuiet
import Derived.WalkSmall
import Derived.LoopTactic
import Derived.Deep.RegionWith
namespace Go.Proofs.YtlohbaoigfaneaaGreat
open Go.RowKit
set_option linter.unusedVariables false
set_option linter.unusedSimpArgs false
theorem bcell {W w1 : World} (hb : Below W.heap.size W w1) : (∀ b o, b < W.heap.size → w1.cell? ⟨b, o, none⟩ = W.cell? ⟨b, o, none⟩) ∧ (∀ b o, b < W.heap.size → w1.frozen? ⟨b, o, none⟩ = W.frozen? ⟨b, o, none⟩) :=
 ⟨fun b o h => hb.cell (p := ⟨b, o, none⟩) h, fun b o h => hb.frozen (p := ⟨b, o, none⟩) h⟩
theorem below1 (w : World) (o : Obj) : Below w.heap.size w (w.alloc o) := (Below.refl _ _).alloc (Nat.le_refl _) _
theorem below2 (w : World) (o o2 : Obj) : Below w.heap.size w ((w.alloc o).alloc o2) := (below1 w o).alloc (by simp) _
theorem below_more {w W w1 : World} {B : Nat} (h : Below B w W) (hb : Below W.heap.size W w1) (hB : B ≤ W.heap.size) : Below B w w1 := h.trans (hb.mono hB)
theorem hideP {p : Prop} (h : p) : Hid p := h
theorem retB {a b : Bool} (h : a = b) : Ending.returned (Value.bool a) = Ending.returned (Value.bool b) := by rw [h]
structure Abv (lo : Nat) (w w' : World) : Prop where
 size : w.heap.size ≤ w'.heap.size
 block : ∀ k, lo ≤ k → k < w.heap.size → w'.heap[k]? = w.heap[k]?
theorem Abv.refl (lo : Nat) (w : World) : Abv lo w w := ⟨Nat.le_refl _, fun _ _ _ => rfl⟩
theorem Abv.trans {lo : Nat} {a b c : World} (h : Abv lo a b) (k : Abv lo b c) : Abv lo a c :=
 ⟨Nat.le_trans h.size k.size, fun i h1 h2 => (k.block i h1 (Nat.lt_of_lt_of_le h2 h.size)).trans (h.block i h1 h2)⟩
theorem Abv.below {lo : Nat} {w w' : World} (h : Below w.heap.size w w') : Abv lo w w' := ⟨h.size, fun k _ hk => h.block k hk⟩
theorem Abv.set {lo b o : Nat} {w : World} (h : b < lo) (x : Value) : Abv lo w (w.setCell ⟨b, o, none⟩ x) :=
 ⟨by simp, fun k h1 _ => Below.heap_setCell _ _ _ _ (by simp; omega)⟩
theorem Abv.mono {lo lo' : Nat} {w w' : World} (h : Abv lo w w') (hl : lo ≤ lo') : Abv lo' w w' := ⟨h.size, fun k h1 h2 => h.block k (by omega) h2⟩
def putC (w : World) (g o : Nat) : List Value → World
 | [] => w
 | c :: cs => putC (w.setCell ⟨g, o, none⟩ c) g (o + 1) cs
theorem putC_below {lo g : Nat} {w0 : World} (hg : lo ≤ g) : ∀ (cs : List Value) (o : Nat) (w : World), Below lo w0 w → Below lo w0 (putC w g o cs)
 | [], _, _, h => h
 | c :: cs, o, w, h => putC_below hg cs (o + 1) _ (h.setCell hg _)
theorem putC_abv {lo g : Nat} (hg : g < lo) : ∀ (cs : List Value) (o : Nat) (w : World), Abv lo w (putC w g o cs)
 | [], _, _ => Abv.refl _ _
 | c :: cs, o, w => (Abv.set hg _).trans (putC_abv hg cs (o + 1) _)
theorem putC_block {g ty : Nat} : ∀ (cs : List Value) (o : Nat) (w : World) (cur : Array Value), w.heap[g]? = some (.cells cur ty (0, 0)) → o + cs.length ≤ cur.size →
 ∃ cur' : Array Value, (putC w g o cs).heap[g]? = some (.cells cur' ty (0, 0)) ∧ cur'.size = cur.size ∧ (∀ i, i < o ∨ o + cs.length ≤ i → cur'[i]? = cur[i]?) ∧ (∀ j, j < cs.length → cur'[o + j]? = cs[j]?)
 | [], o, w, cur, h, _ => ⟨cur, h, rfl, fun _ _ => rfl, fun j hj => by simp at hj⟩
 | c :: cs, o, w, cur, h, hl => by
  simp only [List.length_cons] at hl
  obtain ⟨cur', h1, h2, h3, h4⟩ := putC_block cs (o + 1) (w.setCell ⟨g, o, none⟩ c) _ (heap_setCell_same w g o cur ty c h) (by simp; omega)
  refine ⟨cur', h1, by simpa using h2, fun i hi => ?_, fun j hj => ?_⟩
  ·simp only [List.length_cons] at hi
   rw [h3 i (by omega), Array.getElem?_setIfInBounds, if_neg (by omega)]
  ·cases j with
   | zero =>
    rw [Nat.add_zero, h3 o (by omega), Array.getElem?_setIfInBounds, if_pos rfl, if_pos (by omega)]
    rfl
   | succ j =>
    simp only [List.length_cons] at hj
    rw [show o + (j + 1) = o + 1 + j by omega, h4 j (by omega)]
    rfl
structure Stable {α : Type} (R : Nat → World → List Value → α → Prop) : Prop where
 abv : ∀ {lo w w' cs x}, R lo w cs x → Abv lo w w' → R lo w' cs x
 mono : ∀ {lo lo' w cs x}, R lo w cs x → lo' ≤ lo → R lo' w cs x
def SRow {α : Type} (sz : Nat) (R : Nat → World → List Value → α → Prop) (d : α) (lo : Nat) (w : World) (v : Value) (xs : List α) : Prop :=
 ∃ ao n cap, v = .slice ao n cap ∧ xs.length = n ∧ (0 < n → ∃ b off, ao = some ⟨b, off, none⟩ ∧ lo ≤ b ∧ b < w.heap.size ∧ ∀ i, i < n → ∃ cs : List Value, cs.length = sz ∧ R lo w cs (xs.getD i d) ∧ ∀ j, j < sz → w.cell? ⟨b, off + i * sz + j, none⟩ = cs[j]?)
theorem SRow.abv {α : Type} {sz : Nat} {R : Nat → World → List Value → α → Prop} {d : α} (st : Stable R) {lo : Nat} {w w' : World} {v : Value} {xs : List α} (h : SRow sz R d lo w v xs) (ha : Abv lo w w') : SRow sz R d lo w' v xs := by
 obtain ⟨ao, n, cap, rfl, hn, hc⟩ := h
 refine ⟨ao, n, cap, rfl, hn, fun hp => ?_⟩
 obtain ⟨b, off, rfl, hlo, hlt, hcell⟩ := hc hp
 refine ⟨b, off, rfl, hlo, Nat.lt_of_lt_of_le hlt ha.size, fun i hi => ?_⟩
 obtain ⟨cs, hl, hr, hj⟩ := hcell i hi
 exact ⟨cs, hl, st.abv hr ha, fun j hj2 => (World.cell?_of_block (w := w) (a := ⟨b, off + i * sz + j, none⟩) (ha.block b hlo hlt)).trans (hj j hj2)⟩
theorem SRow.mono {α : Type} {sz : Nat} {R : Nat → World → List Value → α → Prop} {d : α} (st : Stable R) {lo lo' : Nat} {w : World} {v : Value} {xs : List α} (h : SRow sz R d lo w v xs) (hl : lo' ≤ lo) : SRow sz R d lo' w v xs := by
 obtain ⟨ao, n, cap, rfl, hn, hc⟩ := h
 refine ⟨ao, n, cap, rfl, hn, fun hp => ?_⟩
 obtain ⟨b, off, rfl, hlo, hlt, hcell⟩ := hc hp
 refine ⟨b, off, rfl, Nat.le_trans hl hlo, hlt, fun i hi => ?_⟩
 obtain ⟨cs, hcl, hr, hj⟩ := hcell i hi
 exact ⟨cs, hcl, st.mono hr hl, hj⟩
theorem SRow.below {α : Type} {sz : Nat} {R : Nat → World → List Value → α → Prop} {d : α} (st : Stable R) {lo : Nat} {w w' : World} {v : Value} {xs : List α} (h : SRow sz R d lo w v xs) (hb : Below w.heap.size w w') : SRow sz R d lo w' v xs := h.abv st (Abv.below hb)
theorem SRow.shape {α : Type} {sz : Nat} {R : Nat → World → List Value → α → Prop} {d : α} {lo : Nat} {w : World} {v : Value} {xs : List α} (h : SRow sz R d lo w v xs) : ∃ ao cap, v = .slice ao xs.length cap := by
 obtain ⟨ao, n, cap, rfl, rfl, _⟩ := h
 exact ⟨ao, cap, rfl⟩
def SPart {α : Type} (sz : Nat) (R : Nat → World → List Value → α → Prop) (d : α) (ty : Nat) (w : World) (g n k : Nat) (xs : List α) : Prop :=
 ∃ cur : Array Value, w.heap[g]? = some (.cells cur ty (0, 0)) ∧ cur.size = n * sz ∧ ∀ i, i < k → ∃ cs : List Value, cs.length = sz ∧ R (g + 1) w cs (xs.getD i d) ∧ ∀ j, j < sz → cur[i * sz + j]? = cs[j]?
theorem SPart.row {α : Type} {sz : Nat} {R : Nat → World → List Value → α → Prop} {d : α} {ty : Nat} (st : Stable R) {w : World} {g n cap : Nat} {xs : List α} (h : SPart sz R d ty w g n n xs) (hn : xs.length = n) : SRow sz R d g w (.slice (some ⟨g, 0, none⟩) n cap) xs := by
 obtain ⟨cur, hg, hs, hc⟩ := h
 refine ⟨_, n, cap, rfl, hn, fun _ => ⟨g, 0, rfl, Nat.le_refl _, (Array.getElem?_eq_some_iff.1 hg).1, fun i hi => ?_⟩⟩
 obtain ⟨cs, hl, hr, hj⟩ := hc i hi
 refine ⟨cs, hl, st.mono hr (by omega), fun j hj2 => ?_⟩
 rw [Nat.zero_add, cell_of_row w g _ cur ty _ hg]
 exact hj j hj2
theorem SPart.cells {α : Type} {sz : Nat} {R : Nat → World → List Value → α → Prop} {d : α} {ty : Nat} {w : World} {g n k : Nat} {xs : List α} (h : SPart sz R d ty w g n k xs) (j : Nat) (hj : j < n * sz) : ∃ x, w.cell? ⟨g, j, none⟩ = some x := by
 obtain ⟨cur, hg, hs, _⟩ := h
 rw [cell_of_row w g _ cur ty _ hg]
 exact ⟨_, Array.getElem?_eq_getElem (by omega)⟩
theorem SPart.free {α : Type} {sz : Nat} {R : Nat → World → List Value → α → Prop} {d : α} {ty : Nat} {w : World} {g n k : Nat} {xs : List α} (h : SPart sz R d ty w g n k xs) (j : Nat) : w.frozen? ⟨g, j, none⟩ = false := by
 obtain ⟨cur, hg, hs, _⟩ := h
 exact frozen_of_row w g j cur ty hg
theorem SPart.lt {α : Type} {sz : Nat} {R : Nat → World → List Value → α → Prop} {d : α} {ty : Nat} {w : World} {g n k : Nat} {xs : List α} (h : SPart sz R d ty w g n k xs) : g < w.heap.size := by
 obtain ⟨cur, hg, _⟩ := h
 exact (Array.getElem?_eq_some_iff.1 hg).1
theorem SPart.below {α : Type} {sz : Nat} {R : Nat → World → List Value → α → Prop} {d : α} {ty : Nat} (st : Stable R) {w w' : World} {g n k : Nat} {xs : List α} (h : SPart sz R d ty w g n k xs) (hb : Below w.heap.size w w') : SPart sz R d ty w' g n k xs := by
 obtain ⟨cur, hg, hs, hc⟩ := h
 refine ⟨cur, (hb.block g (Array.getElem?_eq_some_iff.1 hg).1).trans hg, hs, fun i hi => ?_⟩
 obtain ⟨cs, hl, hr, hj⟩ := hc i hi
 exact ⟨cs, hl, st.abv hr (Abv.below hb), hj⟩
theorem SPart.put {α : Type} {sz : Nat} {R : Nat → World → List Value → α → Prop} {d : α} {ty : Nat} (st : Stable R) {w : World} {g n k : Nat} {xs : List α} (h : SPart sz R d ty w g n k xs) (hk : k < n) {cs : List Value} (hl : cs.length = sz) (hr : R (g + 1) w cs (xs.getD k d)) :
 SPart sz R d ty (putC w g (k * sz) cs) g n (k + 1) xs := by
 obtain ⟨cur, hg, hs, hc⟩ := h
 have hroom : k * sz + cs.length ≤ cur.size := by
  rw [hl, hs, ← Nat.succ_mul]
  exact Nat.mul_le_mul_right _ hk
 obtain ⟨cur', h1, h2, h3, h4⟩ := putC_block cs (k * sz) w cur hg hroom
 have ha : Abv (g + 1) w (putC w g (k * sz) cs) := putC_abv (Nat.lt_succ_self _) _ _ _
 refine ⟨cur', h1, h2.trans hs, fun i hi => ?_⟩
 by_cases hik : i = k
 ·subst hik
  exact ⟨cs, hl, st.abv hr ha, fun j hj => h4 j (by omega)⟩
 ·obtain ⟨cs2, hl2, hr2, hj2⟩ := hc i (by omega)
  refine ⟨cs2, hl2, st.abv hr2 ha, fun j hj => ?_⟩
  rw [h3 _ (.inl ?_)]
  ·exact hj2 j hj
  ·have : (i + 1) * sz ≤ k * sz := Nat.mul_le_mul_right _ (by omega)
   rw [Nat.succ_mul] at this
   omega
theorem SPart.new {α : Type} {sz : Nat} {R : Nat → World → List Value → α → Prop} {d : α} {ty : Nat} {w : World} {g n : Nat} {xs : List α} {cur : Array Value} (hg : w.heap[g]? = some (.cells cur ty (0, 0))) (hs : cur.size = n * sz) : SPart sz R d ty w g n 0 xs := ⟨cur, hg, hs, fun i hi => by omega⟩
theorem below3 (w : World) (o o2 o3 : Obj) : Below w.heap.size w (((w.alloc o).alloc o2).alloc o3) := (below2 w o o2).alloc (by simp; omega) _
structure Nd where
 k : Int
 wd : Int
 ht : Int
 dp : Int
 sh : Int
 fo : Int
 ch : Int
 nn : Int
 gs : Int
 gp : Int
 gpo : Int
 gm : Int
 gmo : Int
 tx : ByteArray
 kids : Int
def Nd.cells (x : Nd) : List Value := [.int .i64 x.k, .int .i64 x.wd, .int .i64 x.ht, .int .i64 x.dp, .int .i64 x.sh, .int .i64 x.fo, .int .i64 x.ch, .int .i64 x.nn, .int .i64 x.gs, .int .i64 x.gp, .int .i64 x.gpo, .int .i64 x.gm, .int .i64 x.gmo, .string x.tx, .int .i64 x.kids]
abbrev glueV (s p po m mo : Int) : Value := .agg #[.int .i64 s, .int .i64 p, .int .i64 po, .int .i64 m, .int .i64 mo]
abbrev ndV (x : Nd) : Value := .agg #[.int .i64 x.k, .int .i64 x.wd, .int .i64 x.ht, .int .i64 x.dp, .int .i64 x.sh, .int .i64 x.fo, .int .i64 x.ch, .int .i64 x.nn, .int .i64 x.gs, .int .i64 x.gp, .int .i64 x.gpo, .int .i64 x.gm, .int .i64 x.gmo, .string x.tx, .int .i64 x.kids]
theorem szNode_any (x : Nd) (l : Int) (w : World) (hl0 : 0 ≤ l) (hl1 : l ≤ 1048576) (hs : x.tx.size ≤ 9223372036854775807) : Calls Tryz.prog 19 #[ndV x, .int .i64 l] w fun r w' => (∃ m : Int, r = .returned (.int .i64 m) ∧ m ≤ l ∧ (0 ≤ m → x.tx.size ≤ 1048576)) ∧ Below w.heap.size w w' := by
 obtain ⟨k, wd, ht, dp, sh, fo, ch, nn, gs, gp, gpo, gm, gmo, tx, kids⟩ := x
 dsimp only at hs
 simp only [ndV]
 by_cases hbig : l - (tx.size : Int) < 0
 ·go_enter Tryz.func19, Tryz.ntmps19
  go_wp2
  go_ret
  exact ⟨⟨-1, rfl, by omega, fun h => by omega⟩, below1 _ _⟩
 ·go_enter Tryz.func19, Tryz.ntmps19
  go_wp2
  go_ret
  exact ⟨⟨_, rfl, by omega, fun h => by omega⟩, below1 _ _⟩
theorem toGlue_any (a b c d e : Int) (w : World) : Calls Tryz.prog 29 #[glueV a b c d e] w fun r w' => r = .returned (glueV a b c d e) ∧ Below w.heap.size w w' := by
 go_enter Tryz.func29, Tryz.ntmps29
 go_wp2
 refine bodyPost_ret (v := glueV a b c d e) (by simp [results, Tryz.results29, go_sem]) rfl ⟨rfl, ?_⟩
 repeat (first | exact below3 _ _ _ _ | refine Below.setCell ?_ (by first | (simp; done) | (simp; omega)) _)
theorem eqGlue_same (a b c d e : Int) (w : World) : Calls Tryz.prog 82 #[glueV a b c d e, glueV a b c d e] w fun r w' => r = .returned (.bool true) ∧ Below w.heap.size w w' := by
 go_enter Tryz.func82, Tryz.ntmps82
 go_wp2
 go_ret
 exact ⟨rfl, below2 _ _ _⟩
set_option maxHeartbeats 2000000 in
theorem toNode_any (x : Nd) (w : World) : Calls Tryz.prog 28 #[ndV x] w fun r w' => r = .returned (ndV x) ∧ Below w.heap.size w w' := by
 obtain ⟨k, wd, ht, dp, sh, fo, ch, nn, gs, gp, gpo, gm, gmo, tx, kids⟩ := x
 simp only [ndV]
 go_enter Tryz.func28, Tryz.ntmps28
 go_wp2_with fail
 refine (toGlue_any _ _ _ _ _ _).mono ?_
 rintro e w1 ⟨rfl, hb1⟩
 have hz1 : w.heap.size + 1 + 1 < w1.heap.size := by have := hb1.size; simp at this; omega
 have hy1 : w.heap.size + 1 < w1.heap.size := by omega
 have hx1 : w.heap.size < w1.heap.size := by omega
 have BW : Below w.heap.size w w1 := by
  refine below_more ?_ hb1 (by simp; omega)
  repeat (first | exact below3 _ _ _ _ | refine Below.setCell ?_ (by first | (simp; done) | (simp; omega)) _)
 obtain ⟨hc1, hf1⟩ := bcell hb1
 have B1 := hideP BW
 simp only [World.size_alloc, World.size_setCell] at hc1 hf1
 clear hb1 BW
 go_wp2
 refine bodyPost_ret (v := ndV ⟨k, wd, ht, dp, sh, fo, ch, nn, gs, gp, gpo, gm, gmo, tx, kids⟩) (by simp [results, Tryz.results28, go_sem, hc1, hx1, hy1, hz1]) rfl ⟨rfl, ?_⟩
 have B2 := B1.out
 clear hc1 hf1 B1
 repeat (first | with_reducible exact B2 | (with_reducible refine Below.setCell ?_ ?_ _; rotate_left; focus (first | (simp; done) | (simp; omega))))
set_option maxHeartbeats 2000000 in
theorem eqNode_same (x : Nd) (w : World) : Calls Tryz.prog 38 #[ndV x, ndV x] w fun r w' => r = .returned (.bool true) ∧ Below w.heap.size w w' := by
 obtain ⟨k, wd, ht, dp, sh, fo, ch, nn, gs, gp, gpo, gm, gmo, tx, kids⟩ := x
 simp only [ndV]
 have hne : (tx.toList != tx.toList) = false := by simp
 go_enter Tryz.func38, Tryz.ntmps38
 go_wp2_with fail
 refine (eqGlue_same _ _ _ _ _ _).mono ?_
 rintro e w1 ⟨rfl, hb1⟩
 have hy1 : w.heap.size + 1 < w1.heap.size := by have := hb1.size; simp at this; omega
 have hx1 : w.heap.size < w1.heap.size := by omega
 obtain ⟨hc1, hf1⟩ := bcell hb1
 have B1 : Hid (Below w.heap.size w w1) := below_more (below2 _ _ _) hb1 (by simp; omega)
 simp only [World.size_alloc, World.size_setCell] at hc1 hf1
 clear hb1
 go_wp2
 go_ret
 exact ⟨rfl, B1⟩
end Go.Proofs.YtlohbaoigfaneaaGreat
