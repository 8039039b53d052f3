/-
  The walks of AddGlue, the specification's and the program's.
-/
import Derived.Test.YtminpoenfjnmiaaDoorAdd
import Derived.Deep.DeepCutAuto
import Derived.Deep.RegionHeld3
namespace Go.Proofs.YtminpoenfjnmiaaDoor
open Go.RowKit
set_option linter.unusedVariables false
set_option linter.unusedSimpArgs false

theorem okB_parts {s p po m mo : Int} (h : okB s p po m mo = true) : Amt s ∧ Amt p ∧ Ord po ∧ Amt m ∧ Ord mo := by
  simp [okB, fitsB, orderB] at h
  unfold Amt Ord
  omega

theorem hide {p : Prop} (h : p) : Hid p := h

/-- A new block, whatever was made before. -/
theorem bal {w w' : World} (h : Below w.heap.size w w') (o : Obj) : Below w.heap.size w (w'.alloc o) := h.alloc h.size o

/-- The sum of two glues, as a value: five numbers and whether it can be. -/
def addV (s p po m mo s' p' po' m' mo' : Int) : Value :=
  if okB s p po m mo && okB s' p' po' m' mo' && okB (s + s') (gSum p po p' po').1 (gSum p po p' po').2 (gSum m mo m' mo').1 (gSum m mo m' mo').2
  then .tuple #[glueV (s + s') (gSum p po p' po').1 (gSum p po p' po').2 (gSum m mo m' mo').1 (gSum m mo m' mo').2, .bool true]
  else .tuple #[glueV 0 0 0 0 0, .bool false]

theorem addV_1 {s p po m mo s' p' po' m' mo' : Int} (h : okB s p po m mo = false) : addV s p po m mo s' p' po' m' mo' = .tuple #[glueV 0 0 0 0 0, .bool false] := by simp [addV, h]
theorem addV_2 {s p po m mo s' p' po' m' mo' : Int} (h : okB s' p' po' m' mo' = false) : addV s p po m mo s' p' po' m' mo' = .tuple #[glueV 0 0 0 0 0, .bool false] := by simp [addV, h]
theorem addV_3 {s p po m mo s' p' po' m' mo' P PO M MO : Int} (h1 : okB s p po m mo = true) (h2 : okB s' p' po' m' mo' = true) (e1 : gSum p po p' po' = (P, PO)) (e2 : gSum m mo m' mo' = (M, MO))
    (h : okB (s + s') P PO M MO = false) : addV s p po m mo s' p' po' m' mo' = .tuple #[glueV 0 0 0 0 0, .bool false] := by simp [addV, h1, h2, e1, e2, h]
theorem addV_4 {s p po m mo s' p' po' m' mo' P PO M MO : Int} (h1 : okB s p po m mo = true) (h2 : okB s' p' po' m' mo' = true) (e1 : gSum p po p' po' = (P, PO)) (e2 : gSum m mo m' mo' = (M, MO))
    (h : okB (s + s') P PO M MO = true) : addV s p po m mo s' p' po' m' mo' = .tuple #[glueV (s + s') P PO M MO, .bool true] := by simp [addV, h1, h2, e1, e2, h]

end Go.Proofs.YtminpoenfjnmiaaDoor
