/-
  Proved: laws.FnExactPlainCats, which takes nothing, returns true; no condition.
-/
import Derived.Test.YthecefbejopigaaTokLaw
import Derived.Test.YthecefbejopigaaPlainB
namespace Go.Proofs.Ythecefbejopigaa
open Go.ChangeShapes Go.WideShapes Go.ChangeAt Go.RowKit
set_option linter.unusedVariables false
set_option linter.unusedSimpArgs false

theorem Blk.owns {w : World} {g : Nat} {xs : List Int} (h : Blk w g xs) (hx : xs.length = 256) : w.ownsRow g 53 1 (.slice (some ⟨g, 0, none⟩) 256 256) 256 (xs.map (Value.int .i64)) :=
  ⟨by simp [hx], .inr ⟨g, 256, cellsI xs, rfl, Nat.le_refl _, h, Nat.le_refl _, by unfold maxLen; omega, by rw [cellsI_size, hx], by
    rw [List.take_of_length_le (by rw [Array.length_toList, cellsI_size]; omega)]; simp [cellsI]⟩⟩

theorem Blk.row {w : World} {g : Nat} {xs : List Int} (h : Blk w g xs) (hx : xs.length = 256) : Row w (.slice (some ⟨g, 0, none⟩) 256 256) xs :=
  ⟨_, 256, 256, rfl, hx, fun _ => ⟨g, 0, rfl, h.lt, fun i hi => by rw [Nat.zero_add]; exact h.cell i (by omega)⟩⟩

theorem owns_row {w : World} {base e g n cap : Nat} {xs : List Int} (h : w.ownsRow base e 1 (.slice (some ⟨g, 0, none⟩) n cap) n (xs.map (Value.int .i64))) : Row w (.slice (some ⟨g, 0, none⟩) n cap) xs := by
  have hn : xs.length = n := by simpa using h.1
  refine ⟨_, n, cap, rfl, hn, fun hp => ⟨g, 0, rfl, ownsRow_block h, fun i hi => ?_⟩⟩
  have := World.ownsRow.cellAt h i (by omega)
  simp only [Nat.zero_add]
  rw [this]
  simp [List.getElem?_map, List.getD, List.getElem?_eq_getElem (show i < xs.length by omega)]

set_option maxRecDepth 20000 in
set_option maxHeartbeats 1000000 in
theorem lawPlainCats_any (w : World) : Calls Try.prog 4 #[] w fun e w' => e = .returned (.bool true) ∧ Below w.heap.size w w' := by
  go_enter Try.func4, Try.ntmps4
  go_wp2_with fail
  refine (specPlainCats_any _).mono ?_
  rintro e w1 ⟨g, cap, rfl, ho1, hb1⟩
  have R1 : Hid (Row w1 (.slice (some ⟨g, 0, none⟩) 256 cap) PL) := owns_row ho1
  clear ho1
  go_wp2_with fail
  refine (implPlainCats_any _).mono ?_
  rintro e w2 ⟨rfl, hk2, hb2⟩
  go_wp2_with fail
  refine (eqInts_any (hk2.row PL_length) (Row.below R1 hb2) (by rw [PL_length]; omega)).mono ?_
  rintro e w3 ⟨rfl, hb3⟩
  rw [decide_eq_true rfl]
  have hk3 : Blk w3 w1.heap.size PL := (hb3.block _ hk2.lt).trans hk2
  have B13 : Hid (Below w1.heap.size w1 w3) := hb2.trans (hb3.mono hb2.size)
  have B3 : Hid (Below w.heap.size w w3) := hb1.trans (Below.mono B13 hb1.size)
  clear hb2 hb3 hk2
  go_wp2_with fail
  refine (markInts_any (hk3.owns PL_length) (by omega) (by omega) (by omega)).mono ?_
  rintro e w4 ⟨rfl, ho4, hb4, hs4, _⟩
  have B14 : Hid (Below w1.heap.size w1 w4) := Below.trans B13 hb4
  have B4 : Hid (Below w.heap.size w w4) := Below.trans B3 (hb4.mono hb1.size)
  have R4 : Hid (Row w4 (.slice (some ⟨w1.heap.size, 0, none⟩) 256 256) (ups 1 256)) := owns_row ho4
  clear hb4 ho4 hs4
  go_wp2_with fail
  refine (heldInts_any R4 (by omega) (by omega) (by omega)).mono ?_
  rintro e w5 ⟨rfl, hw5⟩
  have hw6 := hw5.symm
  clear hw5
  subst hw6
  go_wp2_with fail
  refine (implPlainCats_any _).mono ?_
  rintro e w6 ⟨rfl, hk6, hb6⟩
  go_wp2_with fail
  refine (eqInts_any (hk6.row PL_length) (Row.below (Row.below R1 B14) (hb6.mono (Nat.le_refl _))) (by rw [PL_length]; omega)).mono ?_
  rintro e w7 ⟨rfl, hb7⟩
  rw [decide_eq_true rfl]
  have B7 : Hid (Below w.heap.size w w7) := Below.trans B4 ((hb6.mono (Below.size B4)).trans (hb7.mono (Nat.le_trans (Below.size B4) hb6.size)))
  have R7 : Hid (Row w7 (.slice (some ⟨w1.heap.size, 0, none⟩) 256 256) (ups 1 256)) := Row.below (Row.below R4 hb6) hb7
  clear hb6 hb7 hk6
  go_wp2_with fail
  refine (heldInts_any R7 (by omega) (by omega) (by omega)).mono ?_
  rintro e w8 ⟨rfl, hw8⟩
  have hw9 := hw8.symm
  clear hw8
  subst hw9
  go_wp2
  go_ret
  exact ⟨rfl, B7⟩

set_option maxRecDepth 100000 in
theorem plainCats_lifted (os : Os) (started : os.Started) (H : Type) (enc : TypeId × Value → H) :
    ReturnsInHanded {} Try.checked os 4 .any (Rows.fnExactPlainCatsSpec.pre6 enc Try.prog Try.f4 Rows.fnExactPlainCatsRow.domain false) (Rows.fnExactPlainCatsSpec.post enc Try.prog Try.f4 false true false false) := by
  refine returnsInHanded_of_change (C := Try.checked) ownT started (by kernel_rfl) Try.func4
    (ChangeSpec.witness6 (enc := enc) (C := Try.checked) false ⟨#[], #[], []⟩ 8 (by kernel_rfl) (by kernel_rfl) (by kernel_rfl) (by kernel_rfl)) ?_
  intro W base args ds gs before hval0 hW hcnd _
  have hW' := hW
  obtain ⟨p, q, hA0, hV, rfl, hfz, hnd⟩ := hW
  have hA : DataW.TrodAll enc Try.prog W 0 (fun _ => true) true Try.f4.params.toList args.toList ds p := hA0
  rw [Try.params4] at hA
  obtain ⟨hargs, rfl, rfl⟩ := trodAll_nil hA
  obtain rfl : args = #[] := by cases args; simp_all
  obtain ⟨rfl, rfl⟩ := trodVars_none hV
  clear hA0 hval0
  refine (lawPlainCats_any W).mono fun e W' ⟨he, bel⟩ => ?_
  subst he
  exact ⟨_, rfl, _, _, _, [], _, [], hW', trodAll_mk1 (shut_bool Try.underlying4 _), trodAll_mk0, rfl, bel.frame _, fun h => by cases h⟩

theorem plainCats_holds : Rows.FnExactPlainCatsSaid :=
  OpenClaim.holds_of_wide 4 Try.f4 rfl rfl rfl rfl rfl rfl rfl ⟨rfl, rfl, rfl, rfl, rfl⟩ rfl rfl rfl rfl rfl (by kernel_rfl) Try.func4 (by kernel_rfl)
    (of_decide_eq_true (by kernel_rfl)) (by unfold Func.isWrapper; first | (rw [if_pos (by decide +kernel)]; kernel_rfl) | (rw [if_neg (by decide +kernel)]; exact ⟨rfl, rfl⟩))
    (fun os started H enc _ => plainCats_lifted os started H enc)
#print axioms plainCats_holds
end Go.Proofs.Ythecefbejopigaa
