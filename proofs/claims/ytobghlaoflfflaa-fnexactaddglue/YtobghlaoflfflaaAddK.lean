/-
  What the walk of laws.FnExactAddGlue carries: the cells of the two arguments and of the new glue from world to world.
-/
import Derived.Test.YtobghlaoflfflaaAddC
import Derived.Test.YtobghlaoflfflaaGlueLaw
import Derived.Deep.Light
namespace Go.Proofs.Ytobghlaoflfflaa
open Go.ChangeShapes Go.WideShapes Go.ChangeAt Go.RowKit
set_option linter.unusedVariables false
set_option linter.unusedSimpArgs false

set_option maxHeartbeats 1000000 in
theorem eqGlue_same (s p po m mo : Int) (w : World) : Calls Try.prog 22 #[glueV s p po m mo, glueV s p po m mo] w fun e w' => e = .returned (.bool true) ∧ Below w.heap.size w w' := by
  go_enter Try.func22, Try.ntmps22
  go_wp2
  go_ret
  exact ⟨rfl, bal (bal (Below.refl _ _) _) _⟩

theorem addV_shape (s p po m mo s' p' po' m' mo' : Int) : ∃ a b c d e f, addV s p po m mo s' p' po' m' mo' = .tuple #[glueV a b c d e, .bool f] := by
  unfold addV
  split
  · exact ⟨_, _, _, _, _, _, rfl⟩
  · exact ⟨_, _, _, _, _, _, rfl⟩

/-- The two blocks that the law lays first: its two arguments. -/
def two (w : World) (s p po m mo s' p' po' m' mo' : Int) : World :=
  (w.alloc (.cells #[.int .i64 s, .int .i64 p, .int .i64 po, .int .i64 m, .int .i64 mo] 35)).alloc (.cells #[.int .i64 s', .int .i64 p', .int .i64 po', .int .i64 m', .int .i64 mo'] 35)

theorem keepS {w W w1 : World} {s p po m mo s' p' po' m' mo' : Int} (h : W.cell? ⟨w.heap.size, 0, none⟩ = some (.int .i64 s) ∧ W.cell? ⟨w.heap.size, 1, none⟩ = some (.int .i64 p) ∧ W.cell? ⟨w.heap.size, 2, none⟩ = some (.int .i64 po) ∧ W.cell? ⟨w.heap.size, 3, none⟩ = some (.int .i64 m) ∧ W.cell? ⟨w.heap.size, 4, none⟩ = some (.int .i64 mo) ∧ W.cell? ⟨w.heap.size + 1, 0, none⟩ = some (.int .i64 s') ∧ W.cell? ⟨w.heap.size + 1, 1, none⟩ = some (.int .i64 p') ∧ W.cell? ⟨w.heap.size + 1, 2, none⟩ = some (.int .i64 po') ∧ W.cell? ⟨w.heap.size + 1, 3, none⟩ = some (.int .i64 m') ∧ W.cell? ⟨w.heap.size + 1, 4, none⟩ = some (.int .i64 mo')) (hb : Below W.heap.size W w1) :
    w1.cell? ⟨w.heap.size, 0, none⟩ = some (.int .i64 s) ∧ w1.cell? ⟨w.heap.size, 1, none⟩ = some (.int .i64 p) ∧ w1.cell? ⟨w.heap.size, 2, none⟩ = some (.int .i64 po) ∧ w1.cell? ⟨w.heap.size, 3, none⟩ = some (.int .i64 m) ∧ w1.cell? ⟨w.heap.size, 4, none⟩ = some (.int .i64 mo) ∧ w1.cell? ⟨w.heap.size + 1, 0, none⟩ = some (.int .i64 s') ∧ w1.cell? ⟨w.heap.size + 1, 1, none⟩ = some (.int .i64 p') ∧ w1.cell? ⟨w.heap.size + 1, 2, none⟩ = some (.int .i64 po') ∧ w1.cell? ⟨w.heap.size + 1, 3, none⟩ = some (.int .i64 m') ∧ w1.cell? ⟨w.heap.size + 1, 4, none⟩ = some (.int .i64 mo') := by
  obtain ⟨h0, h1, h2, h3, h4, h5, h6, h7, h8, h9⟩ := h
  have z0 := lt_of_cell h0
  have z1 := lt_of_cell h5
  obtain ⟨hc, _⟩ := bcell hb
  exact ⟨(hc _ _ z0).trans h0, (hc _ _ z0).trans h1, (hc _ _ z0).trans h2, (hc _ _ z0).trans h3, (hc _ _ z0).trans h4, (hc _ _ z1).trans h5, (hc _ _ z1).trans h6, (hc _ _ z1).trans h7, (hc _ _ z1).trans h8, (hc _ _ z1).trans h9⟩

theorem keepR {w w' : World} {X Y : Obj} {s p po m mo s' p' po' m' mo' : Int} (h : (w'.alloc X).cell? ⟨w.heap.size, 0, none⟩ = some (.int .i64 s) ∧ (w'.alloc X).cell? ⟨w.heap.size, 1, none⟩ = some (.int .i64 p) ∧ (w'.alloc X).cell? ⟨w.heap.size, 2, none⟩ = some (.int .i64 po) ∧ (w'.alloc X).cell? ⟨w.heap.size, 3, none⟩ = some (.int .i64 m) ∧ (w'.alloc X).cell? ⟨w.heap.size, 4, none⟩ = some (.int .i64 mo) ∧ (w'.alloc X).cell? ⟨w.heap.size + 1, 0, none⟩ = some (.int .i64 s') ∧ (w'.alloc X).cell? ⟨w.heap.size + 1, 1, none⟩ = some (.int .i64 p') ∧ (w'.alloc X).cell? ⟨w.heap.size + 1, 2, none⟩ = some (.int .i64 po') ∧ (w'.alloc X).cell? ⟨w.heap.size + 1, 3, none⟩ = some (.int .i64 m') ∧ (w'.alloc X).cell? ⟨w.heap.size + 1, 4, none⟩ = some (.int .i64 mo')) (hz : w.heap.size + 1 < w'.heap.size) :
    (w'.alloc Y).cell? ⟨w.heap.size, 0, none⟩ = some (.int .i64 s) ∧ (w'.alloc Y).cell? ⟨w.heap.size, 1, none⟩ = some (.int .i64 p) ∧ (w'.alloc Y).cell? ⟨w.heap.size, 2, none⟩ = some (.int .i64 po) ∧ (w'.alloc Y).cell? ⟨w.heap.size, 3, none⟩ = some (.int .i64 m) ∧ (w'.alloc Y).cell? ⟨w.heap.size, 4, none⟩ = some (.int .i64 mo) ∧ (w'.alloc Y).cell? ⟨w.heap.size + 1, 0, none⟩ = some (.int .i64 s') ∧ (w'.alloc Y).cell? ⟨w.heap.size + 1, 1, none⟩ = some (.int .i64 p') ∧ (w'.alloc Y).cell? ⟨w.heap.size + 1, 2, none⟩ = some (.int .i64 po') ∧ (w'.alloc Y).cell? ⟨w.heap.size + 1, 3, none⟩ = some (.int .i64 m') ∧ (w'.alloc Y).cell? ⟨w.heap.size + 1, 4, none⟩ = some (.int .i64 mo') := by
  have hc : ∀ b o, b < w'.heap.size → (w'.alloc Y).cell? ⟨b, o, none⟩ = (w'.alloc X).cell? ⟨b, o, none⟩ := fun b o hb => (World.cell?_alloc_past (w := w') Y b o hb).trans (World.cell?_alloc_past (w := w') X b o hb).symm
  obtain ⟨h0, h1, h2, h3, h4, h5, h6, h7, h8, h9⟩ := h
  have z0 : w.heap.size < w'.heap.size := by omega
  exact ⟨(hc _ _ z0).trans h0, (hc _ _ z0).trans h1, (hc _ _ z0).trans h2, (hc _ _ z0).trans h3, (hc _ _ z0).trans h4, (hc _ _ hz).trans h5, (hc _ _ hz).trans h6, (hc _ _ hz).trans h7, (hc _ _ hz).trans h8, (hc _ _ hz).trans h9⟩

theorem keepAl {w W : World} {s p po m mo s' p' po' m' mo' : Int} (h : W.cell? ⟨w.heap.size, 0, none⟩ = some (.int .i64 s) ∧ W.cell? ⟨w.heap.size, 1, none⟩ = some (.int .i64 p) ∧ W.cell? ⟨w.heap.size, 2, none⟩ = some (.int .i64 po) ∧ W.cell? ⟨w.heap.size, 3, none⟩ = some (.int .i64 m) ∧ W.cell? ⟨w.heap.size, 4, none⟩ = some (.int .i64 mo) ∧ W.cell? ⟨w.heap.size + 1, 0, none⟩ = some (.int .i64 s') ∧ W.cell? ⟨w.heap.size + 1, 1, none⟩ = some (.int .i64 p') ∧ W.cell? ⟨w.heap.size + 1, 2, none⟩ = some (.int .i64 po') ∧ W.cell? ⟨w.heap.size + 1, 3, none⟩ = some (.int .i64 m') ∧ W.cell? ⟨w.heap.size + 1, 4, none⟩ = some (.int .i64 mo')) (Z : Obj) :
    (W.alloc Z).cell? ⟨w.heap.size, 0, none⟩ = some (.int .i64 s) ∧ (W.alloc Z).cell? ⟨w.heap.size, 1, none⟩ = some (.int .i64 p) ∧ (W.alloc Z).cell? ⟨w.heap.size, 2, none⟩ = some (.int .i64 po) ∧ (W.alloc Z).cell? ⟨w.heap.size, 3, none⟩ = some (.int .i64 m) ∧ (W.alloc Z).cell? ⟨w.heap.size, 4, none⟩ = some (.int .i64 mo) ∧ (W.alloc Z).cell? ⟨w.heap.size + 1, 0, none⟩ = some (.int .i64 s') ∧ (W.alloc Z).cell? ⟨w.heap.size + 1, 1, none⟩ = some (.int .i64 p') ∧ (W.alloc Z).cell? ⟨w.heap.size + 1, 2, none⟩ = some (.int .i64 po') ∧ (W.alloc Z).cell? ⟨w.heap.size + 1, 3, none⟩ = some (.int .i64 m') ∧ (W.alloc Z).cell? ⟨w.heap.size + 1, 4, none⟩ = some (.int .i64 mo') := keepS h (bal (Below.refl _ _) Z)

/-- A new glue of nothing lies there behind what only makes memory. -/
theorem zb_new {X w' : World} {g : Nat} (hg : X.heap.size = g) (hb : Below (X.alloc (.cells #[.int .i64 0, .int .i64 0, .int .i64 0, .int .i64 0, .int .i64 0] 37)).heap.size (X.alloc (.cells #[.int .i64 0, .int .i64 0, .int .i64 0, .int .i64 0, .int .i64 0] 37)) w') :
    (w'.cell? ⟨g, 0, none⟩ = some (.int .i64 0) ∧ w'.cell? ⟨g, 1, none⟩ = some (.int .i64 0) ∧ w'.cell? ⟨g, 2, none⟩ = some (.int .i64 0) ∧ w'.cell? ⟨g, 3, none⟩ = some (.int .i64 0) ∧ w'.cell? ⟨g, 4, none⟩ = some (.int .i64 0)) ∧ ∀ o, w'.frozen? ⟨g, o, none⟩ = false := by
  subst hg
  obtain ⟨hc, hf⟩ := bcell hb
  refine ⟨⟨?_, ?_, ?_, ?_, ?_⟩, fun o => ?_⟩
  all_goals first
    | (rw [hc _ _ (by simp)]; simp [go_sem])
    | (rw [hf _ _ (by simp)]; simp [go_sem])
theorem zb_keep {g : Nat} {W w' : World} (y0 : W.cell? ⟨g, 0, none⟩ = some (.int .i64 0)) (y1 : W.cell? ⟨g, 1, none⟩ = some (.int .i64 0)) (y2 : W.cell? ⟨g, 2, none⟩ = some (.int .i64 0)) (y3 : W.cell? ⟨g, 3, none⟩ = some (.int .i64 0)) (y4 : W.cell? ⟨g, 4, none⟩ = some (.int .i64 0)) (yf : ∀ o, W.frozen? ⟨g, o, none⟩ = false) (hb : Below W.heap.size W w') :
    (w'.cell? ⟨g, 0, none⟩ = some (.int .i64 0) ∧ w'.cell? ⟨g, 1, none⟩ = some (.int .i64 0) ∧ w'.cell? ⟨g, 2, none⟩ = some (.int .i64 0) ∧ w'.cell? ⟨g, 3, none⟩ = some (.int .i64 0) ∧ w'.cell? ⟨g, 4, none⟩ = some (.int .i64 0)) ∧ ∀ o, w'.frozen? ⟨g, o, none⟩ = false := by
  obtain ⟨hc, hf⟩ := bcell hb
  have z := lt_of_cell y0
  exact ⟨⟨(hc _ _ z).trans y0, (hc _ _ z).trans y1, (hc _ _ z).trans y2, (hc _ _ z).trans y3, (hc _ _ z).trans y4⟩, fun o => (hf _ o z).trans (yf o)⟩

theorem keepS2 {w W w1 : World} {s p po m mo s' p' po' m' mo' : Int} (h : W.cell? ⟨w.heap.size, 0, none⟩ = some (.int .i64 s) ∧ W.cell? ⟨w.heap.size, 1, none⟩ = some (.int .i64 p) ∧ W.cell? ⟨w.heap.size, 2, none⟩ = some (.int .i64 po) ∧ W.cell? ⟨w.heap.size, 3, none⟩ = some (.int .i64 m) ∧ W.cell? ⟨w.heap.size, 4, none⟩ = some (.int .i64 mo) ∧ W.cell? ⟨w.heap.size + 1, 0, none⟩ = some (.int .i64 s') ∧ W.cell? ⟨w.heap.size + 1, 1, none⟩ = some (.int .i64 p') ∧ W.cell? ⟨w.heap.size + 1, 2, none⟩ = some (.int .i64 po') ∧ W.cell? ⟨w.heap.size + 1, 3, none⟩ = some (.int .i64 m') ∧ W.cell? ⟨w.heap.size + 1, 4, none⟩ = some (.int .i64 mo')) (hb : Below (w.heap.size + 2) W w1) :
    w1.cell? ⟨w.heap.size, 0, none⟩ = some (.int .i64 s) ∧ w1.cell? ⟨w.heap.size, 1, none⟩ = some (.int .i64 p) ∧ w1.cell? ⟨w.heap.size, 2, none⟩ = some (.int .i64 po) ∧ w1.cell? ⟨w.heap.size, 3, none⟩ = some (.int .i64 m) ∧ w1.cell? ⟨w.heap.size, 4, none⟩ = some (.int .i64 mo) ∧ w1.cell? ⟨w.heap.size + 1, 0, none⟩ = some (.int .i64 s') ∧ w1.cell? ⟨w.heap.size + 1, 1, none⟩ = some (.int .i64 p') ∧ w1.cell? ⟨w.heap.size + 1, 2, none⟩ = some (.int .i64 po') ∧ w1.cell? ⟨w.heap.size + 1, 3, none⟩ = some (.int .i64 m') ∧ w1.cell? ⟨w.heap.size + 1, 4, none⟩ = some (.int .i64 mo') := by
  obtain ⟨h0, h1, h2, h3, h4, h5, h6, h7, h8, h9⟩ := h
  have hc : ∀ b o, b < w.heap.size + 2 → w1.cell? ⟨b, o, none⟩ = W.cell? ⟨b, o, none⟩ := fun b o h => hb.cell (p := ⟨b, o, none⟩) h
  have z0 : w.heap.size < w.heap.size + 2 := by omega
  have z1 : w.heap.size + 1 < w.heap.size + 2 := by omega
  exact ⟨(hc _ _ z0).trans h0, (hc _ _ z0).trans h1, (hc _ _ z0).trans h2, (hc _ _ z0).trans h3, (hc _ _ z0).trans h4, (hc _ _ z1).trans h5, (hc _ _ z1).trans h6, (hc _ _ z1).trans h7, (hc _ _ z1).trans h8, (hc _ _ z1).trans h9⟩

/-- Five stores into a block from B on. -/
theorem five_below {B : Nat} {T w' : World} {g : Nat} (h : Below B T w') (hg : B ≤ g) (v0 v1 v2 v3 v4 : Value) :
    Below B T (((((w'.setCell ⟨g, 0, none⟩ v0).setCell ⟨g, 1, none⟩ v1).setCell ⟨g, 2, none⟩ v2).setCell ⟨g, 3, none⟩ v3).setCell ⟨g, 4, none⟩ v4) :=
  ((((h.setCell hg v0).setCell hg v1).setCell hg v2).setCell hg v3).setCell hg v4

theorem two_cells (w : World) (s p po m mo s' p' po' m' mo' : Int) :
    ((two w s p po m mo s' p' po' m' mo').cell? ⟨w.heap.size, 0, none⟩ = some (.int .i64 s) ∧ (two w s p po m mo s' p' po' m' mo').cell? ⟨w.heap.size, 1, none⟩ = some (.int .i64 p) ∧ (two w s p po m mo s' p' po' m' mo').cell? ⟨w.heap.size, 2, none⟩ = some (.int .i64 po) ∧ (two w s p po m mo s' p' po' m' mo').cell? ⟨w.heap.size, 3, none⟩ = some (.int .i64 m) ∧ (two w s p po m mo s' p' po' m' mo').cell? ⟨w.heap.size, 4, none⟩ = some (.int .i64 mo) ∧ (two w s p po m mo s' p' po' m' mo').cell? ⟨w.heap.size + 1, 0, none⟩ = some (.int .i64 s') ∧ (two w s p po m mo s' p' po' m' mo').cell? ⟨w.heap.size + 1, 1, none⟩ = some (.int .i64 p') ∧ (two w s p po m mo s' p' po' m' mo').cell? ⟨w.heap.size + 1, 2, none⟩ = some (.int .i64 po') ∧ (two w s p po m mo s' p' po' m' mo').cell? ⟨w.heap.size + 1, 3, none⟩ = some (.int .i64 m') ∧ (two w s p po m mo s' p' po' m' mo').cell? ⟨w.heap.size + 1, 4, none⟩ = some (.int .i64 mo')) ∧ w.heap.size < (two w s p po m mo s' p' po' m' mo').heap.size ∧ w.heap.size + 1 < (two w s p po m mo s' p' po' m' mo').heap.size ∧ Below w.heap.size w (two w s p po m mo s' p' po' m' mo') := by
  refine ⟨?_, by simp [two]; omega, by simp [two], ?_⟩
  · refine ⟨?_, ?_, ?_, ?_, ?_, ?_, ?_, ?_, ?_, ?_⟩
    all_goals
      unfold two
      simp [go_sem, World.cell?_alloc_past]
  · unfold two
    repeat (first | exact Below.refl _ _ | apply bal)

end Go.Proofs.Ytobghlaoflfflaa
