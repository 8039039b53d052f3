/-
  The walk of impl.stretch.
-/
import Derived.Test.YtgfphgbemfmkfaaPor
namespace Go.Proofs.Ytgfphgbemfmkfaa
open Go.RowKit
set_option linter.unusedVariables false
set_option linter.unusedSimpArgs false

theorem hidW {p : Prop} (h : p) : Hid p := h
/-- Of what was there only block L may have turned. -/
def Fr (L : Nat) (w w' : World) : Prop := w'.os = w.os ∧ w'.tape = w.tape ∧ w'.output = w.output ∧ w.heap.size ≤ w'.heap.size ∧ ∀ b, b < w.heap.size → b ≠ L → w'.heap[b]? = w.heap[b]?
theorem Fr.refl (L : Nat) (w : World) : Fr L w w := ⟨rfl, rfl, rfl, Nat.le_refl _, fun _ _ _ => rfl⟩
theorem Fr.below {L : Nat} {w a b : World} (h : Fr L w a) (hb : Below a.heap.size a b) : Fr L w b :=
  ⟨hb.os.trans h.1, hb.tape.trans h.2.1, hb.output.trans h.2.2.1, Nat.le_trans h.2.2.2.1 hb.size, fun k hk hne => (hb.block k (Nat.lt_of_lt_of_le hk h.2.2.2.1)).trans (h.2.2.2.2 k hk hne)⟩
theorem Fr.alloc {L : Nat} {w a : World} (h : Fr L w a) (o : Obj) : Fr L w (a.alloc o) := h.below ((Below.refl _ _).alloc (Nat.le_refl _) _)
theorem Fr.set {L : Nat} {w a : World} (h : Fr L w a) {p : Addr} (hp : p.block = L ∨ w.heap.size ≤ p.block) (v : Value) : Fr L w (a.setCell p v) :=
  ⟨h.1, h.2.1, h.2.2.1, by simpa [World.setCell] using h.2.2.2.1, fun k hk hne => (Below.heap_setCell _ _ _ _ (by rcases hp with hp | hp <;> omega)).trans (h.2.2.2.2 k hk hne)⟩
theorem Fr.drew {L : Nat} {w a : World} (h : Fr L w a) : Fr L w a.drew := h
theorem Fr.toBelow {L B : Nat} {w a : World} (h : Fr L w a) (hL : B ≤ L) (hB : B ≤ w.heap.size) : Below B w a := ⟨h.1, h.2.1, h.2.2.1, h.2.2.2.1, fun k hk => h.2.2.2.2 k (by omega) (by omega)⟩

abbrev setO (a b c d e f : Int) : Obj := .cells #[.int .i64 a, .int .i64 b, .int .i64 c, .int .i64 d, .int .i64 e, .int .i64 f] 29 (0, 0)
abbrev six (w : World) (R : Nat) (a b c d e f : Int) : World := (((((w.setCell ⟨R, 0, none⟩ (.int .i64 a)).setCell ⟨R, 1, none⟩ (.int .i64 b)).setCell ⟨R, 2, none⟩ (.int .i64 c)).setCell ⟨R, 3, none⟩ (.int .i64 d)).setCell ⟨R, 4, none⟩ (.int .i64 e)).setCell ⟨R, 5, none⟩ (.int .i64 f)
theorem six_heap {w : World} {R : Nat} {a0 b0 c0 d0 e0 f0 : Int} (h : w.heap[R]? = some (setO a0 b0 c0 d0 e0 f0)) (a b c d e f : Int) : (six w R a b c d e f).heap[R]? = some (setO a b c d e f) :=
  heap_setCell_same _ R 5 _ 29 _ (heap_setCell_same _ R 4 _ 29 _ (heap_setCell_same _ R 3 _ 29 _ (heap_setCell_same _ R 2 _ 29 _ (heap_setCell_same _ R 1 _ 29 _ (heap_setCell_same _ R 0 _ 29 _ h)))))
theorem six_other {w : World} {R g : Nat} {o : Obj} (h : w.heap[g]? = some o) (hne : g ≠ R) (a b c d e f : Int) : (six w R a b c d e f).heap[g]? = some o :=
  (Below.heap_setCell _ _ _ _ hne).trans ((Below.heap_setCell _ _ _ _ hne).trans ((Below.heap_setCell _ _ _ _ hne).trans ((Below.heap_setCell _ _ _ _ hne).trans ((Below.heap_setCell _ _ _ _ hne).trans ((Below.heap_setCell _ _ _ _ hne).trans h)))))
theorem six_fr {L : Nat} {w a : World} (h : Fr L w a) {R : Nat} (hR : w.heap.size ≤ R) (x0 x1 x2 x3 x4 x5 : Int) : Fr L w (six a R x0 x1 x2 x3 x4 x5) :=
  (((((h.set (p := ⟨R, 0, none⟩) (.inr hR) _).set (p := ⟨R, 1, none⟩) (.inr hR) _).set (p := ⟨R, 2, none⟩) (.inr hR) _).set (p := ⟨R, 3, none⟩) (.inr hR) _).set (p := ⟨R, 4, none⟩) (.inr hR) _).set (p := ⟨R, 5, none⟩) (.inr hR) _
theorem owns_heap {w w' : World} {base e size n g cap : Nat} {xs : List Value} (h : w.ownsRow base e size (.slice (some ⟨g, 0, none⟩) n cap) n xs) (hb : w'.heap[g]? = w.heap[g]?) : w'.ownsRow base e size (.slice (some ⟨g, 0, none⟩) n cap) n xs := by
  refine ⟨h.1, ?_⟩
  rcases h.2 with ⟨h', _⟩ | ⟨g', cap', cur, hv, hg0, hg, hr⟩
  · simp at h'
  · simp only [Value.slice.injEq, Option.some.injEq, Addr.mk.injEq, and_true, true_and] at hv
    obtain ⟨rfl, rfl⟩ := hv
    exact .inr ⟨g, cap, cur, rfl, hg0, hb.trans hg, hr⟩
theorem six_same {w : World} {R g : Nat} (hne : g ≠ R) (a b c d e f : Int) : (six w R a b c d e f).heap[g]? = w.heap[g]? :=
  (Below.heap_setCell _ _ _ _ hne).trans ((Below.heap_setCell _ _ _ _ hne).trans ((Below.heap_setCell _ _ _ _ hne).trans ((Below.heap_setCell _ _ _ _ hne).trans ((Below.heap_setCell _ _ _ _ hne).trans (Below.heap_setCell _ _ _ _ hne)))))
theorem loadSet {w : World} {R : Nat} {a b c d e f : Int} (h : w.heap[R]? = some (setO a b c d e f)) : (loadVar 29 ⟨R, 0, none⟩).run Try.prog w = .ok (setV a b c d e f) w :=
  run_loadVar_row _ _ 29 29 _ (0, 0) _ h Try.underlying29 rfl (by kernel_rfl)

/-- The lengths behind the portions. -/
def plusL (zs ps : List Int) : List Int := (List.range zs.length).map (fun j => zs.getD j 0 + ps.getD j 0)
def minusL (zs ps : List Int) : List Int := (List.range zs.length).map (fun j => zs.getD j 0 - ps.getD j 0)
theorem plusL_length (zs ps : List Int) : (plusL zs ps).length = zs.length := by simp [plusL]
theorem minusL_length (zs ps : List Int) : (minusL zs ps).length = zs.length := by simp [minusL]
theorem plusL_at {zs ps : List Int} {j : Nat} (h : j < zs.length) : (plusL zs ps).getD j 0 = zs.getD j 0 + ps.getD j 0 := by simp [plusL, List.getD, List.getElem?_map, List.getElem?_range h]
theorem minusL_at {zs ps : List Int} {j : Nat} (h : j < zs.length) : (minusL zs ps).getD j 0 = zs.getD j 0 - ps.getD j 0 := by simp [minusL, List.getD, List.getElem?_map, List.getElem?_range h]
def sizes (gs : List Gl) : List Int := gs.map (fun g => g.s)
theorem sizes_at {gs : List Gl} {j : Nat} (h : j < gs.length) : (sizes gs).getD j 0 = (gs.getD j Gl.none).s := by simp [sizes, List.getD, List.getElem?_map, List.getElem?_eq_getElem h]
theorem owns_cell {w : World} {base e g n cap : Nat} {zs : List Int} (h : w.ownsRow base e 1 (.slice (some ⟨g, 0, none⟩) n cap) n (zs.map (Value.int .i64))) (i : Nat) (hi : i < n) : w.cell? ⟨g, i, none⟩ = some (.int .i64 (zs.getD i 0)) := by
  have hl : zs.length = n := by simpa using h.1
  rw [World.ownsRow.cellAt h i (by omega)]
  simp [List.getElem?_map, List.getD, List.getElem?_eq_getElem (show i < zs.length by omega)]

/-- Where the sums of a row's stretch or shrink lie. -/
theorem tot_have (f o : Gl → Int) (gs : List Gl) (hl : gs.length ≤ 10000) (h : ∀ k, k < gs.length → -1073741823 ≤ f (gs.getD k Gl.none) ∧ f (gs.getD k Gl.none) ≤ 1073741823) (j : Nat) :
    -10737418230000 ≤ (tot f o gs).getD j 0 ∧ (tot f o gs).getD j 0 ≤ 10737418230000 := by
  have := tot_bound f o gs h gs.length (Nat.le_refl _) j
  rw [List.take_length] at this
  omega

end Go.Proofs.Ytgfphgbemfmkfaa
