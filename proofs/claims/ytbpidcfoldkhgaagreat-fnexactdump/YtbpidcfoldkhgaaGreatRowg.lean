import Derived.Test.YtbpidcfoldkhgaaGreatRows
import Derived.Test.YtbpidcfoldkhgaaGreatMeanB
import Derived.ProofKit
import Derived.OpenShut
import Derived.ShutString
import Derived.ChangeOld
import Derived.Lib.SmallJoins
import Derived.Deep.Slices
namespace Go.Proofs.YtbpidcfoldkhgaaGreat
open Go.ChangeShapes Go.WideShapes Go.ChangeAt Go.RowKit Go.Joins
set_option linter.unusedVariables false
set_option linter.unusedSimpArgs false
theorem ownT : ownKnob Tryz.prog.godebug = none := by kernel_rfl
theorem laidOut : laidOutB Tryz.prog = true := by kernel_rfl
theorem cells2 : Tryz.prog.cellsOf 2 = 1 := by kernel_rfl
theorem cells9 : Tryz.prog.cellsOf 9 = 1 := by kernel_rfl
theorem cells132 : Tryz.prog.cellsOf 132 = 3 := by kernel_rfl
theorem cells133 : Tryz.prog.cellsOf 133 = 1 := by kernel_rfl
theorem cells135 : Tryz.prog.cellsOf 135 = 3 := by kernel_rfl
theorem cells137 : Tryz.prog.cellsOf 137 = 8 := by kernel_rfl
theorem list3 {α : Type} {cs : List α} (h : cs.length = 3) : ∃ c0 c1 c2, cs = [c0, c1, c2] := by
 match cs, h with
 | [c0, c1, c2], _ => exact ⟨c0, c1, c2, rfl⟩
theorem list4 {α : Type} {cs : List α} (h : cs.length = 4) : ∃ c0 c1 c2 c3, cs = [c0, c1, c2, c3] := by
 match cs, h with
 | [c0, c1, c2, c3], _ => exact ⟨c0, c1, c2, c3, rfl⟩
theorem list8 {α : Type} {cs : List α} (h : cs.length = 8) : ∃ c0 c1 c2 c3 c4 c5 c6 c7, cs = [c0, c1, c2, c3, c4, c5, c6, c7] := by
 match cs, h with
 | [c0, c1, c2, c3, c4, c5, c6, c7], _ => exact ⟨c0, c1, c2, c3, c4, c5, c6, c7, rfl⟩
theorem openTok {H : Type} {enc : TypeId × Value → H} {w : World} {base : Nat} {spare : Nat → Bool} {held : Bool} {fuel : Nat} {c0 c1 c2 : Value} {y : DataW H × List MemPlace}
 (h : DataW.trod enc Tryz.prog w base spare held fuel 132 [c0, c1, c2] = some y) : ∃ t : Tk, c0 = .int .i64 t.c ∧ c1 = .int .i64 t.h ∧ c2 = .string t.s ∧ t.s.size ≤ 9223372036854775807 := by
 obtain ⟨xs, n', _, _, _, hlx, hfs⟩ := DataW.trod_struct Tryz.underlying132 h
 obtain ⟨y0, y1, y2, rfl⟩ := list3 (by simpa using hlx)
 have g0 : DataW.trod enc Tryz.prog w base spare held n' 2 [c0] = some y0 := by simpa [cells2] using hfs 0 _ rfl
 have g1 : DataW.trod enc Tryz.prog w base spare held n' 2 [c1] = some y1 := by simpa [cells2] using hfs 1 _ rfl
 have g2 : DataW.trod enc Tryz.prog w base spare held n' 9 [c2] = some y2 := by simpa [cells2, cells9] using hfs 2 _ rfl
 obtain ⟨n0, e0, _, w0⟩ := DataW.trod_int Tryz.underlying2 g0
 obtain ⟨n1, e1, _, w1⟩ := DataW.trod_int Tryz.underlying2 g1
 obtain ⟨s, e2, _, hs⟩ := DataW.trod_string Tryz.underlying9 g2
 simp at e0 e1 e2
 exact ⟨⟨n0, n1, s⟩, e0, e1, e2, hs⟩
set_option maxRecDepth 100000 in
theorem openToks {H : Type} {enc : TypeId × Value → H} {w : World} {base : Nat} {held : Bool} {fuel : Nat} {v : Value} {y : DataW H × List MemPlace}
 (hf : DataW.trod enc Tryz.prog w base (fun _ => true) held fuel 133 [v] = some y) : ∃ ts : List Tk, TRow w v ts ∧ Fine ts := by
 rcases Go.Deep.open_slice Tryz.underlying133 hf with ⟨hcs, hx⟩ | ⟨a, len, cap, m, n, D, Pl, hcs, _, hl, hm, hmm, hx, hel⟩
 ·simp at hcs
  subst hcs
  exact ⟨[], ⟨none, 0, 0, rfl, rfl, fun h => by omega⟩, ⟨Nat.zero_le _, fun i hi => by simp at hi⟩⟩
 ·simp at hcs
  subst hcs
  by_cases h0 : len = 0
  ·subst h0
   exact ⟨[], ⟨_, 0, cap, rfl, rfl, fun h => by omega⟩, ⟨Nat.zero_le _, fun i hi => by simp at hi⟩⟩
  ·have hplain : ∃ b off, a = ⟨b, off, none⟩ := by
    obtain ⟨cs', hcells, htr⟩ := hel 0 (by simp at hmm; omega)
    rw [cells132] at hcells
    obtain ⟨_, hlen, hat⟩ := World.cells?_some hcells
    have h1 := hat 0 (by omega)
    rw [List.getElem?_eq_getElem (by omega)] at h1
    obtain ⟨b, off, spot⟩ := a
    have hspot : spot = none := by simpa [Addr.add] using World.cell?_spot h1
    subst hspot
    exact ⟨b, off, rfl⟩
   obtain ⟨b, off, rfl⟩ := hplain
   have each : ∀ i, i < len → ∃ t : Tk, w.cell? ⟨b, off + i * 3, none⟩ = some (.int .i64 t.c) ∧ w.cell? ⟨b, off + i * 3 + 1, none⟩ = some (.int .i64 t.h) ∧ w.cell? ⟨b, off + i * 3 + 2, none⟩ = some (.string t.s) ∧ t.s.size ≤ 9223372036854775807 := by
    intro i hi
    obtain ⟨cs', hcells, htr⟩ := hel i (by simp at hmm; omega)
    rw [cells132, add_plain] at hcells
    obtain ⟨_, hlen, hat⟩ := World.cells?_some hcells
    obtain ⟨c0, c1, c2, rfl⟩ := list3 hlen
    obtain ⟨t, rfl, rfl, rfl, hs⟩ := openTok htr
    refine ⟨t, ?_, ?_, ?_, hs⟩
    ·have := hat 0 (by omega); rw [add_plain] at this; simpa using this
    ·have := hat 1 (by omega); rw [add_plain] at this; simpa using this
    ·have := hat 2 (by omega); rw [add_plain] at this; simpa using this
   let f : Nat → Tk := fun i => if hi : i < len then Classical.choose (each i hi) else Tk.none
   have hf : ∀ i, (hi : i < len) → w.cell? ⟨b, off + i * 3, none⟩ = some (.int .i64 (f i).c) ∧ w.cell? ⟨b, off + i * 3 + 1, none⟩ = some (.int .i64 (f i).h) ∧ w.cell? ⟨b, off + i * 3 + 2, none⟩ = some (.string (f i).s) ∧ (f i).s.size ≤ 9223372036854775807 := by
    intro i hi
    have := Classical.choose_spec (each i hi)
    simp only [f, dif_pos hi]
    exact this
   have hget : ∀ i, i < len → ((List.range len).map f).getD i Tk.none = f i := by
    intro i hi
    simp [List.getD, List.getElem?_map, List.getElem?_range hi]
   refine ⟨(List.range len).map f, ⟨_, len, cap, rfl, by simp, fun hp => ⟨b, off, rfl, World.block_lt_of_cell? w _ (hf 0 hp).1, fun i hi => ?_⟩⟩, ?_, ?_⟩
   ·rw [hget i hi]
    exact ⟨(hf i hi).1, (hf i hi).2.1, (hf i hi).2.2.1⟩
   ·simp
    unfold maxLen at hm
    omega
   ·intro i hi
    have hi' : i < len := by simpa using hi
    rw [hget i hi']
    exact (hf i hi').2.2.2
theorem openMacro {H : Type} {enc : TypeId × Value → H} {w : World} {base : Nat} {held : Bool} {fuel : Nat} {c0 c1 c2 : Value} {y : DataW H × List MemPlace}
 (h : DataW.trod enc Tryz.prog w base (fun _ => true) held fuel 135 [c0, c1, c2] = some y) : ∃ (p b : List Tk) (sl : Int), TRow w c0 p ∧ Fine p ∧ c1 = .int .i64 sl ∧ TRow w c2 b ∧ Fine b := by
 obtain ⟨xs, n', _, _, _, hlx, hfs⟩ := DataW.trod_struct Tryz.underlying135 h
 obtain ⟨y0, y1, y2, rfl⟩ := list3 (by simpa using hlx)
 have g0 : DataW.trod enc Tryz.prog w base (fun _ => true) held n' 133 [c0] = some y0 := by simpa [cells133] using hfs 0 _ rfl
 have g1 : DataW.trod enc Tryz.prog w base (fun _ => true) held n' 2 [c1] = some y1 := by simpa [cells2] using hfs 1 _ rfl
 have g2 : DataW.trod enc Tryz.prog w base (fun _ => true) held n' 133 [c2] = some y2 := by simpa [cells133] using hfs 2 _ rfl
 obtain ⟨p, hp, fp⟩ := openToks g0
 obtain ⟨n1, e1, _, w1⟩ := DataW.trod_int Tryz.underlying2 g1
 obtain ⟨b, hb, fb⟩ := openToks g2
 simp at e1
 exact ⟨p, b, n1, hp, fp, e1, hb, fb⟩
theorem openMean {H : Type} {enc : TypeId × Value → H} {w : World} {base : Nat} {held : Bool} {fuel : Nat} {cs : List Value} {y : DataW H × List MemPlace}
 (h : DataW.trod enc Tryz.prog w base (fun _ => true) held fuel 137 cs = some y) : ∃ (k n : Int) (t : Tk) (vp vb : Value) (p b : List Tk) (sl : Int), cs = [.int .i64 k, .int .i64 n, .int .i64 t.c, .int .i64 t.h, .string t.s, vp, .int .i64 sl, vb] ∧ TRow w vp p ∧ Fine p ∧ TRow w vb b ∧ Fine b ∧ t.s.size ≤ 9223372036854775807 := by
 obtain ⟨xs, n', _, _, hlc, hlx, hfs⟩ := DataW.trod_struct Tryz.underlying137 h
 obtain ⟨c0, c1, c2, c3, c4, c5, c6, c7, rfl⟩ := list8 (hlc.trans cells137)
 obtain ⟨y0, y1, y2, y3, rfl⟩ := list4 (by simpa using hlx)
 have g0 : DataW.trod enc Tryz.prog w base (fun _ => true) held n' 2 [c0] = some y0 := by simpa [cells2] using hfs 0 _ rfl
 have g1 : DataW.trod enc Tryz.prog w base (fun _ => true) held n' 2 [c1] = some y1 := by simpa [cells2] using hfs 1 _ rfl
 have g2 : DataW.trod enc Tryz.prog w base (fun _ => true) held n' 132 [c2, c3, c4] = some y2 := by simpa [cells132] using hfs 2 _ rfl
 have g3 : DataW.trod enc Tryz.prog w base (fun _ => true) held n' 135 [c5, c6, c7] = some y3 := by simpa [cells135] using hfs 3 _ rfl
 obtain ⟨n0, e0, _, w0⟩ := DataW.trod_int Tryz.underlying2 g0
 obtain ⟨n1, e1, _, w1⟩ := DataW.trod_int Tryz.underlying2 g1
 obtain ⟨t, rfl, rfl, rfl, ht⟩ := openTok g2
 obtain ⟨p, b, sl, hp, fp, rfl, hb, fb⟩ := openMacro g3
 simp at e0 e1
 subst e0 e1
 exact ⟨n0, n1, t, c5, c7, p, b, sl, rfl, hp, fp, hb, fb, ht⟩
end Go.Proofs.YtbpidcfoldkhgaaGreat
namespace Go.Proofs.YtbpidcfoldkhgaaGreat
open Go.RowKit
set_option linter.unusedVariables false
set_option linter.unusedSimpArgs false
def putC (w : World) (g o : Nat) : List Value → World
 | [] => w
 | c :: cs => putC (w.setCell ⟨g, o, none⟩ c) g (o + 1) cs
theorem putC_below {lo g : Nat} {w0 : World} (hg : lo ≤ g) : ∀ (cs : List Value) (o : Nat) (w : World), Below lo w0 w → Below lo w0 (putC w g o cs)
 | [], _, _, h => h
 | c :: cs, o, w, h => putC_below hg cs (o + 1) _ (h.setCell hg _)
theorem putC_abv {lo g : Nat} (hg : g < lo) : ∀ (cs : List Value) (o : Nat) (w : World), Abv lo w (putC w g o cs)
 | [], _, _ => Abv.refl _ _
 | c :: cs, o, w => (Abv.set hg _).trans (putC_abv hg cs (o + 1) _)
theorem putC_block {g ty : Nat} : ∀ (cs : List Value) (o : Nat) (w : World) (cur : Array Value), w.heap[g]? = some (.cells cur ty (0, 0)) → o + cs.length ≤ cur.size →
 ∃ cur' : Array Value, (putC w g o cs).heap[g]? = some (.cells cur' ty (0, 0)) ∧ cur'.size = cur.size ∧ (∀ i, i < o ∨ o + cs.length ≤ i → cur'[i]? = cur[i]?) ∧ (∀ j, j < cs.length → cur'[o + j]? = cs[j]?)
 | [], o, w, cur, h, _ => ⟨cur, h, rfl, fun _ _ => rfl, fun j hj => by simp at hj⟩
 | c :: cs, o, w, cur, h, hl => by
  simp only [List.length_cons] at hl
  obtain ⟨cur', h1, h2, h3, h4⟩ := putC_block cs (o + 1) (w.setCell ⟨g, o, none⟩ c) _ (heap_setCell_same w g o cur ty c h) (by simp; omega)
  refine ⟨cur', h1, by simpa using h2, fun i hi => ?_, fun j hj => ?_⟩
  ·simp only [List.length_cons] at hi
   rw [h3 i (by omega), Array.getElem?_setIfInBounds, if_neg (by omega)]
  ·cases j with
   | zero =>
    rw [Nat.add_zero, h3 o (by omega), Array.getElem?_setIfInBounds, if_pos rfl, if_pos (by omega)]
    rfl
   | succ j =>
    simp only [List.length_cons] at hj
    rw [show o + (j + 1) = o + 1 + j by omega, h4 j (by omega)]
    rfl
structure Stable {α : Type} (R : Nat → World → List Value → α → Prop) : Prop where
 abv : ∀ {lo w w' cs x}, R lo w cs x → Abv lo w w' → R lo w' cs x
 mono : ∀ {lo lo' w cs x}, R lo w cs x → lo' ≤ lo → R lo' w cs x
def SRow {α : Type} (sz : Nat) (R : Nat → World → List Value → α → Prop) (d : α) (lo : Nat) (w : World) (v : Value) (xs : List α) : Prop :=
 ∃ ao n cap, v = .slice ao n cap ∧ xs.length = n ∧ (0 < n → ∃ b off, ao = some ⟨b, off, none⟩ ∧ lo ≤ b ∧ b < w.heap.size ∧ ∀ i, i < n → ∃ cs : List Value, cs.length = sz ∧ R lo w cs (xs.getD i d) ∧ ∀ j, j < sz → w.cell? ⟨b, off + i * sz + j, none⟩ = cs[j]?)
theorem SRow.abv {α : Type} {sz : Nat} {R : Nat → World → List Value → α → Prop} {d : α} (st : Stable R) {lo : Nat} {w w' : World} {v : Value} {xs : List α} (h : SRow sz R d lo w v xs) (ha : Abv lo w w') : SRow sz R d lo w' v xs := by
 obtain ⟨ao, n, cap, rfl, hn, hc⟩ := h
 refine ⟨ao, n, cap, rfl, hn, fun hp => ?_⟩
 obtain ⟨b, off, rfl, hlo, hlt, hcell⟩ := hc hp
 refine ⟨b, off, rfl, hlo, Nat.lt_of_lt_of_le hlt ha.size, fun i hi => ?_⟩
 obtain ⟨cs, hl, hr, hj⟩ := hcell i hi
 exact ⟨cs, hl, st.abv hr ha, fun j hj2 => (World.cell?_of_block (w := w) (a := ⟨b, off + i * sz + j, none⟩) (ha.block b hlo hlt)).trans (hj j hj2)⟩
theorem SRow.mono {α : Type} {sz : Nat} {R : Nat → World → List Value → α → Prop} {d : α} (st : Stable R) {lo lo' : Nat} {w : World} {v : Value} {xs : List α} (h : SRow sz R d lo w v xs) (hl : lo' ≤ lo) : SRow sz R d lo' w v xs := by
 obtain ⟨ao, n, cap, rfl, hn, hc⟩ := h
 refine ⟨ao, n, cap, rfl, hn, fun hp => ?_⟩
 obtain ⟨b, off, rfl, hlo, hlt, hcell⟩ := hc hp
 refine ⟨b, off, rfl, Nat.le_trans hl hlo, hlt, fun i hi => ?_⟩
 obtain ⟨cs, hcl, hr, hj⟩ := hcell i hi
 exact ⟨cs, hcl, st.mono hr hl, hj⟩
theorem SRow.below {α : Type} {sz : Nat} {R : Nat → World → List Value → α → Prop} {d : α} (st : Stable R) {lo : Nat} {w w' : World} {v : Value} {xs : List α} (h : SRow sz R d lo w v xs) (hb : Below w.heap.size w w') : SRow sz R d lo w' v xs := h.abv st (Abv.below hb)
theorem SRow.shape {α : Type} {sz : Nat} {R : Nat → World → List Value → α → Prop} {d : α} {lo : Nat} {w : World} {v : Value} {xs : List α} (h : SRow sz R d lo w v xs) : ∃ ao cap, v = .slice ao xs.length cap := by
 obtain ⟨ao, n, cap, rfl, rfl, _⟩ := h
 exact ⟨ao, cap, rfl⟩
def SPart {α : Type} (sz : Nat) (R : Nat → World → List Value → α → Prop) (d : α) (ty : Nat) (w : World) (g n k : Nat) (xs : List α) : Prop :=
 ∃ cur : Array Value, w.heap[g]? = some (.cells cur ty (0, 0)) ∧ cur.size = n * sz ∧ ∀ i, i < k → ∃ cs : List Value, cs.length = sz ∧ R (g + 1) w cs (xs.getD i d) ∧ ∀ j, j < sz → cur[i * sz + j]? = cs[j]?
theorem SPart.row {α : Type} {sz : Nat} {R : Nat → World → List Value → α → Prop} {d : α} {ty : Nat} (st : Stable R) {w : World} {g n cap : Nat} {xs : List α} (h : SPart sz R d ty w g n n xs) (hn : xs.length = n) : SRow sz R d g w (.slice (some ⟨g, 0, none⟩) n cap) xs := by
 obtain ⟨cur, hg, hs, hc⟩ := h
 refine ⟨_, n, cap, rfl, hn, fun _ => ⟨g, 0, rfl, Nat.le_refl _, (Array.getElem?_eq_some_iff.1 hg).1, fun i hi => ?_⟩⟩
 obtain ⟨cs, hl, hr, hj⟩ := hc i hi
 refine ⟨cs, hl, st.mono hr (by omega), fun j hj2 => ?_⟩
 rw [Nat.zero_add, cell_of_row w g _ cur ty _ hg]
 exact hj j hj2
theorem SPart.cells {α : Type} {sz : Nat} {R : Nat → World → List Value → α → Prop} {d : α} {ty : Nat} {w : World} {g n k : Nat} {xs : List α} (h : SPart sz R d ty w g n k xs) (j : Nat) (hj : j < n * sz) : ∃ x, w.cell? ⟨g, j, none⟩ = some x := by
 obtain ⟨cur, hg, hs, _⟩ := h
 rw [cell_of_row w g _ cur ty _ hg]
 exact ⟨_, Array.getElem?_eq_getElem (by omega)⟩
theorem SPart.free {α : Type} {sz : Nat} {R : Nat → World → List Value → α → Prop} {d : α} {ty : Nat} {w : World} {g n k : Nat} {xs : List α} (h : SPart sz R d ty w g n k xs) (j : Nat) : w.frozen? ⟨g, j, none⟩ = false := by
 obtain ⟨cur, hg, hs, _⟩ := h
 exact frozen_of_row w g j cur ty hg
theorem SPart.lt {α : Type} {sz : Nat} {R : Nat → World → List Value → α → Prop} {d : α} {ty : Nat} {w : World} {g n k : Nat} {xs : List α} (h : SPart sz R d ty w g n k xs) : g < w.heap.size := by
 obtain ⟨cur, hg, _⟩ := h
 exact (Array.getElem?_eq_some_iff.1 hg).1
theorem SPart.below {α : Type} {sz : Nat} {R : Nat → World → List Value → α → Prop} {d : α} {ty : Nat} (st : Stable R) {w w' : World} {g n k : Nat} {xs : List α} (h : SPart sz R d ty w g n k xs) (hb : Below w.heap.size w w') : SPart sz R d ty w' g n k xs := by
 obtain ⟨cur, hg, hs, hc⟩ := h
 refine ⟨cur, (hb.block g (Array.getElem?_eq_some_iff.1 hg).1).trans hg, hs, fun i hi => ?_⟩
 obtain ⟨cs, hl, hr, hj⟩ := hc i hi
 exact ⟨cs, hl, st.abv hr (Abv.below hb), hj⟩
theorem SPart.put {α : Type} {sz : Nat} {R : Nat → World → List Value → α → Prop} {d : α} {ty : Nat} (st : Stable R) {w : World} {g n k : Nat} {xs : List α} (h : SPart sz R d ty w g n k xs) (hk : k < n) {cs : List Value} (hl : cs.length = sz) (hr : R (g + 1) w cs (xs.getD k d)) :
 SPart sz R d ty (putC w g (k * sz) cs) g n (k + 1) xs := by
 obtain ⟨cur, hg, hs, hc⟩ := h
 have hroom : k * sz + cs.length ≤ cur.size := by
  rw [hl, hs, ← Nat.succ_mul]
  exact Nat.mul_le_mul_right _ hk
 obtain ⟨cur', h1, h2, h3, h4⟩ := putC_block cs (k * sz) w cur hg hroom
 have ha : Abv (g + 1) w (putC w g (k * sz) cs) := putC_abv (Nat.lt_succ_self _) _ _ _
 refine ⟨cur', h1, h2.trans hs, fun i hi => ?_⟩
 by_cases hik : i = k
 ·subst hik
  exact ⟨cs, hl, st.abv hr ha, fun j hj => h4 j (by omega)⟩
 ·obtain ⟨cs2, hl2, hr2, hj2⟩ := hc i (by omega)
  refine ⟨cs2, hl2, st.abv hr2 ha, fun j hj => ?_⟩
  rw [h3 _ (.inl ?_)]
  ·exact hj2 j hj
  ·have : (i + 1) * sz ≤ k * sz := Nat.mul_le_mul_right _ (by omega)
   rw [Nat.succ_mul] at this
   omega
theorem SPart.new {α : Type} {sz : Nat} {R : Nat → World → List Value → α → Prop} {d : α} {ty : Nat} {w : World} {g n : Nat} {xs : List α} {cur : Array Value} (hg : w.heap[g]? = some (.cells cur ty (0, 0))) (hs : cur.size = n * sz) : SPart sz R d ty w g n 0 xs := ⟨cur, hg, hs, fun i hi => by omega⟩
def TsR (lo : Nat) (w : World) (cs : List Value) (ts : List Tk) : Prop := ∃ v, cs = [v] ∧ TIn lo w v ts
theorem tsStable : Stable TsR where
 abv := by rintro lo w w' cs x ⟨v, rfl, h⟩ ha; exact ⟨v, rfl, h.abv ha⟩
 mono := by rintro lo lo' w cs x ⟨v, rfl, h⟩ hl; exact ⟨v, rfl, h.mono hl⟩
abbrev TsRow (lo : Nat) (w : World) (v : Value) (tss : List (List Tk)) : Prop := SRow 1 TsR [] lo w v tss
end Go.Proofs.YtbpidcfoldkhgaaGreat
