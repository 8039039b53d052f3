/-
  The walks of AddGlue, the specification's and the program's.
-/
import Derived.Test.YtobghlaoflfflaaAdd
import Derived.Deep.DeepCutAuto
import Derived.Deep.RegionHeld3
namespace Go.Proofs.Ytobghlaoflfflaa
open Go.RowKit
set_option linter.unusedVariables false
set_option linter.unusedSimpArgs false

theorem okB_parts {s p po m mo : Int} (h : okB s p po m mo = true) : Amt s ∧ Amt p ∧ Ord po ∧ Amt m ∧ Ord mo := by
  simp [okB, fitsB, orderB] at h
  unfold Amt Ord
  omega

theorem hide {p : Prop} (h : p) : Hid p := h

/-- A new block, whatever was made before. -/
theorem bal {w w' : World} (h : Below w.heap.size w w') (o : Obj) : Below w.heap.size w (w'.alloc o) := h.alloc h.size o

/-- The sum of two glues, as a value: five numbers and whether it can be. -/
def addV (s p po m mo s' p' po' m' mo' : Int) : Value :=
  if okB s p po m mo && okB s' p' po' m' mo' && okB (s + s') (gSum p po p' po').1 (gSum p po p' po').2 (gSum m mo m' mo').1 (gSum m mo m' mo').2
  then .tuple #[glueV (s + s') (gSum p po p' po').1 (gSum p po p' po').2 (gSum m mo m' mo').1 (gSum m mo m' mo').2, .bool true]
  else .tuple #[glueV 0 0 0 0 0, .bool false]

theorem addV_1 {s p po m mo s' p' po' m' mo' : Int} (h : okB s p po m mo = false) : addV s p po m mo s' p' po' m' mo' = .tuple #[glueV 0 0 0 0 0, .bool false] := by simp [addV, h]
theorem addV_2 {s p po m mo s' p' po' m' mo' : Int} (h : okB s' p' po' m' mo' = false) : addV s p po m mo s' p' po' m' mo' = .tuple #[glueV 0 0 0 0 0, .bool false] := by simp [addV, h]
theorem addV_3 {s p po m mo s' p' po' m' mo' P PO M MO : Int} (h1 : okB s p po m mo = true) (h2 : okB s' p' po' m' mo' = true) (e1 : gSum p po p' po' = (P, PO)) (e2 : gSum m mo m' mo' = (M, MO))
    (h : okB (s + s') P PO M MO = false) : addV s p po m mo s' p' po' m' mo' = .tuple #[glueV 0 0 0 0 0, .bool false] := by simp [addV, h1, h2, e1, e2, h]
theorem addV_4 {s p po m mo s' p' po' m' mo' P PO M MO : Int} (h1 : okB s p po m mo = true) (h2 : okB s' p' po' m' mo' = true) (e1 : gSum p po p' po' = (P, PO)) (e2 : gSum m mo m' mo' = (M, MO))
    (h : okB (s + s') P PO M MO = true) : addV s p po m mo s' p' po' m' mo' = .tuple #[glueV (s + s') P PO M MO, .bool true] := by simp [addV, h1, h2, e1, e2, h]

set_option maxHeartbeats 2000000 in
theorem specAdd_any (s p po m mo s' p' po' m' mo' : Int) (w : World) :
    Calls Try.prog 20 #[glueV s p po m mo, glueV s' p' po' m' mo'] w fun e w' => e = .returned (addV s p po m mo s' p' po' m' mo') ∧ Below w.heap.size w w' := by
  cases h1 : okB s p po m mo
  · rw [addV_1 h1]
    go_enter Try.func20, Try.ntmps20
    go_wp2_with (go_at_call 17; refine (specGlueOk_ex _ _ _ _ _ _).mono ?_; rintro e w' ⟨rfl, c, rfl⟩)
    exact bodyPost_ret (v := .tuple #[glueV 0 0 0 0 0, .bool false]) (by simp [results, Try.results20, go_sem]) rfl ⟨rfl, by repeat (first | exact Below.refl _ _ | apply bal)⟩
  cases h2 : okB s' p' po' m' mo'
  · rw [addV_2 h2]
    go_enter Try.func20, Try.ntmps20
    go_wp2_with (go_at_call 17; refine (specGlueOk_ex _ _ _ _ _ _).mono ?_; rintro e w' ⟨rfl, c, rfl⟩)
    exact bodyPost_ret (v := .tuple #[glueV 0 0 0 0 0, .bool false]) (by simp [results, Try.results20, go_sem]) rfl ⟨rfl, by repeat (first | exact Below.refl _ _ | apply bal)⟩
  obtain ⟨⟨s1, s2⟩, k2, k3, k4, k5⟩ := okB_parts h1
  obtain ⟨⟨s3, s4⟩, j2, j3, j4, j5⟩ := okB_parts h2
  have c1 : ∀ w, _ := fun w => addOrder_any p po p' po' w k2 k3 j2 j3
  have c2 : ∀ w, _ := fun w => addOrder_any m mo m' mo' w k4 k5 j4 j5
  generalize e1 : gSum p po p' po' = g1 at c1
  generalize e2 : gSum m mo m' mo' = g2 at c2
  obtain ⟨P, PO⟩ := g1
  obtain ⟨M, MO⟩ := g2
  simp only at c1 c2
  have C1 := hide c1
  have C2 := hide c2
  clear c1 c2
  cases h3 : okB (s + s') P PO M MO
  · rw [addV_3 h1 h2 e1 e2 h3]
    clear e1 e2 k2 k3 k4 k5 j2 j3 j4 j5
    go_enter Try.func20, Try.ntmps20
    go_wp2_with (first
      | (go_at_call 17; refine (specGlueOk_ex _ _ _ _ _ _).mono ?_; rintro e w' ⟨rfl, c, rfl⟩)
      | (go_at_call_of 39 (Value.int .i64 p); refine (C1.out _).mono ?_; rintro e w' ⟨rfl, rfl⟩)
      | (go_at_call_of 39 (Value.int .i64 m); refine (C2.out _).mono ?_; rintro e w' ⟨rfl, rfl⟩))
    exact bodyPost_ret (v := .tuple #[glueV 0 0 0 0 0, .bool false]) (by simp [results, Try.results20, go_sem]) rfl ⟨rfl, by repeat (first | exact Below.refl _ _ | apply bal)⟩
  · rw [addV_4 h1 h2 e1 e2 h3]
    clear e1 e2 k2 k3 k4 k5 j2 j3 j4 j5
    go_enter Try.func20, Try.ntmps20
    go_wp2_with (first
      | (go_at_call 17; refine (specGlueOk_ex _ _ _ _ _ _).mono ?_; rintro e w' ⟨rfl, c, rfl⟩)
      | (go_at_call_of 39 (Value.int .i64 p); refine (C1.out _).mono ?_; rintro e w' ⟨rfl, rfl⟩)
      | (go_at_call_of 39 (Value.int .i64 m); refine (C2.out _).mono ?_; rintro e w' ⟨rfl, rfl⟩))
    exact bodyPost_ret (v := .tuple #[glueV (s + s') P PO M MO, .bool true]) (by simp [results, Try.results20, go_sem]) rfl ⟨rfl, by repeat (first | exact Below.refl _ _ | apply bal)⟩
end Go.Proofs.Ytobghlaoflfflaa
