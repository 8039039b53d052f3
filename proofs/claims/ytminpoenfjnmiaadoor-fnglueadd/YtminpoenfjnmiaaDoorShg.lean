/-
  ShowGlue: what it answers hangs on the glue alone, and on an order only where there is an amount.
-/
import Derived.Test.YtminpoenfjnmiaaDoorSho
import Derived.Test.YtminpoenfjnmiaaDoorAddC
namespace Go.Proofs.YtminpoenfjnmiaaDoor
open Go.RowKit
set_option linter.unusedVariables false
set_option linter.unusedSimpArgs false

theorem showGive_zero (word : ByteArray) (o : Int) (w : World) :
    Calls Tryd.prog 18 #[.string word, giveV 0 o] w fun e w' => e = .returned (.string ⟨#[]⟩) ∧ Below w.heap.size w w' := by
  go_enter Tryd.func18, Tryd.ntmps18
  go_wp2
  go_ret
  exact ⟨rfl, (Below.refl _ _).alloc (Nat.le_refl _) _⟩

def nameOf (o : Nat) : ByteArray := if o = 0 then ⟨#[112, 116]⟩ else if o = 1 then ⟨#[102, 105, 108]⟩ else if o = 2 then ⟨#[102, 105, 108, 108]⟩ else ⟨#[102, 105, 108, 108, 108]⟩

theorem nameOf_size (o : Nat) : (nameOf o).size ≤ 5 := by
  unfold nameOf
  repeat' split <;> try decide

set_option maxRecDepth 100000 in
set_option maxHeartbeats 8000000 in
theorem showGive_some (word s : ByteArray) (a : Int) (o : Nat) (w : World) (ha : a ≠ 0) (ho : o ≤ 3) (hw : word.size ≤ 10) (hs : s.size ≤ 100) (hP : Pows w) (hO : Names w)
    (SD : ∀ w, Pows w → Calls Tryd.prog 21 #[.int .i64 a] w fun e w' => e = .returned (.string s) ∧ Below w.heap.size w w') :
    Calls Tryd.prog 18 #[.string word, giveV a (o : Int)] w fun e w' => e = .returned (.string (word ++ s ++ nameOf o)) ∧ Below w.heap.size w w' := by
  have a0 : (a == 0) = false := by simp [ha]
  have HD := hideP SD
  have HP := hideP hP
  have HO := hideP hO
  clear SD hP hO ha
  obtain rfl | rfl | rfl | rfl : o = 0 ∨ o = 1 ∨ o = 2 ∨ o = 3 := by omega
  · show Calls Tryd.prog 18 #[.string word, giveV a 0] w fun e w' => e = .returned (.string (word ++ s ++ ⟨#[112, 116]⟩)) ∧ Below w.heap.size w w'
    go_enter Tryd.func18, Tryd.ntmps18
    go_wp2_with fail
    obtain ⟨G, hG⟩ : ∃ G, G = w.heap.size := ⟨_, rfl⟩
    obtain ⟨T, hT⟩ : ∃ T, T = w.alloc (.cells #[.int .i64 a, .int .i64 0] 37) := ⟨_, rfl⟩
    have HBT : Hid (Below w.heap.size w T) := by rw [hT]; exact (Below.refl _ _).alloc (Nat.le_refl _) _
    have hbl : T.heap[G]? = some (.cells #[.int .i64 a, .int .i64 0] 37 (0, 0)) := by rw [hT, hG]; exact heap_alloc_new w _
    have t0 : T.cell? ⟨G, 0, none⟩ = some (.int .i64 a) := by simp [World.cell?, hbl]
    have t1 : T.cell? ⟨G, 1, none⟩ = some (.int .i64 0) := by simp [World.cell?, hbl]
    have tz : G < T.heap.size := (Array.getElem?_eq_some_iff.1 hbl).1
    have n0 : T.cell? ⟨0, 0, none⟩ = some (.string ⟨#[112, 116]⟩) := (HO.out.kept HBT.out).2.1
    have nz : 0 < T.heap.size := (HO.out.kept HBT.out).1
    have HPT := hideP (HP.out.kept HBT.out)
    rw [← hT, ← hG]
    clear hT hG hbl HP HO
    go_region_with (go_at_call 21; refine (HD.out _ (HPT.out.kept (Below.drew (Below.refl _ _)))).mono ?_; rintro e w2 ⟨rfl, hb2⟩; have c1 := (hb2.cell (p := ⟨G, 1, none⟩) (by exact tz)).trans (show T.drew.cell? ⟨G, 1, none⟩ = _ from t1); have c2 := (hb2.cell (p := ⟨0, 0, none⟩) (by exact nz)).trans (show T.drew.cell? ⟨0, 0, none⟩ = _ from n0); have HW2 := hideP (HBT.out.trans (((Below.drew (Below.refl T.heap.size T)).trans hb2).mono HBT.out.size)); clear hb2)
    all_goals
      go_wp2
      go_ret
      exact ⟨rfl, HW2.out⟩
  · show Calls Tryd.prog 18 #[.string word, giveV a 1] w fun e w' => e = .returned (.string (word ++ s ++ ⟨#[102, 105, 108]⟩)) ∧ Below w.heap.size w w'
    go_enter Tryd.func18, Tryd.ntmps18
    go_wp2_with fail
    obtain ⟨G, hG⟩ : ∃ G, G = w.heap.size := ⟨_, rfl⟩
    obtain ⟨T, hT⟩ : ∃ T, T = w.alloc (.cells #[.int .i64 a, .int .i64 1] 37) := ⟨_, rfl⟩
    have HBT : Hid (Below w.heap.size w T) := by rw [hT]; exact (Below.refl _ _).alloc (Nat.le_refl _) _
    have hbl : T.heap[G]? = some (.cells #[.int .i64 a, .int .i64 1] 37 (0, 0)) := by rw [hT, hG]; exact heap_alloc_new w _
    have t0 : T.cell? ⟨G, 0, none⟩ = some (.int .i64 a) := by simp [World.cell?, hbl]
    have t1 : T.cell? ⟨G, 1, none⟩ = some (.int .i64 1) := by simp [World.cell?, hbl]
    have tz : G < T.heap.size := (Array.getElem?_eq_some_iff.1 hbl).1
    have n0 : T.cell? ⟨0, 1, none⟩ = some (.string ⟨#[102, 105, 108]⟩) := (HO.out.kept HBT.out).2.2.1
    have nz : 0 < T.heap.size := (HO.out.kept HBT.out).1
    have HPT := hideP (HP.out.kept HBT.out)
    rw [← hT, ← hG]
    clear hT hG hbl HP HO
    go_region_with (go_at_call 21; refine (HD.out _ (HPT.out.kept (Below.drew (Below.refl _ _)))).mono ?_; rintro e w2 ⟨rfl, hb2⟩; have c1 := (hb2.cell (p := ⟨G, 1, none⟩) (by exact tz)).trans (show T.drew.cell? ⟨G, 1, none⟩ = _ from t1); have c2 := (hb2.cell (p := ⟨0, 1, none⟩) (by exact nz)).trans (show T.drew.cell? ⟨0, 1, none⟩ = _ from n0); have HW2 := hideP (HBT.out.trans (((Below.drew (Below.refl T.heap.size T)).trans hb2).mono HBT.out.size)); clear hb2)
    all_goals
      go_wp2
      go_ret
      exact ⟨rfl, HW2.out⟩
  · show Calls Tryd.prog 18 #[.string word, giveV a 2] w fun e w' => e = .returned (.string (word ++ s ++ ⟨#[102, 105, 108, 108]⟩)) ∧ Below w.heap.size w w'
    go_enter Tryd.func18, Tryd.ntmps18
    go_wp2_with fail
    obtain ⟨G, hG⟩ : ∃ G, G = w.heap.size := ⟨_, rfl⟩
    obtain ⟨T, hT⟩ : ∃ T, T = w.alloc (.cells #[.int .i64 a, .int .i64 2] 37) := ⟨_, rfl⟩
    have HBT : Hid (Below w.heap.size w T) := by rw [hT]; exact (Below.refl _ _).alloc (Nat.le_refl _) _
    have hbl : T.heap[G]? = some (.cells #[.int .i64 a, .int .i64 2] 37 (0, 0)) := by rw [hT, hG]; exact heap_alloc_new w _
    have t0 : T.cell? ⟨G, 0, none⟩ = some (.int .i64 a) := by simp [World.cell?, hbl]
    have t1 : T.cell? ⟨G, 1, none⟩ = some (.int .i64 2) := by simp [World.cell?, hbl]
    have tz : G < T.heap.size := (Array.getElem?_eq_some_iff.1 hbl).1
    have n0 : T.cell? ⟨0, 2, none⟩ = some (.string ⟨#[102, 105, 108, 108]⟩) := (HO.out.kept HBT.out).2.2.2.1
    have nz : 0 < T.heap.size := (HO.out.kept HBT.out).1
    have HPT := hideP (HP.out.kept HBT.out)
    rw [← hT, ← hG]
    clear hT hG hbl HP HO
    go_region_with (go_at_call 21; refine (HD.out _ (HPT.out.kept (Below.drew (Below.refl _ _)))).mono ?_; rintro e w2 ⟨rfl, hb2⟩; have c1 := (hb2.cell (p := ⟨G, 1, none⟩) (by exact tz)).trans (show T.drew.cell? ⟨G, 1, none⟩ = _ from t1); have c2 := (hb2.cell (p := ⟨0, 2, none⟩) (by exact nz)).trans (show T.drew.cell? ⟨0, 2, none⟩ = _ from n0); have HW2 := hideP (HBT.out.trans (((Below.drew (Below.refl T.heap.size T)).trans hb2).mono HBT.out.size)); clear hb2)
    all_goals
      go_wp2
      go_ret
      exact ⟨rfl, HW2.out⟩
  · show Calls Tryd.prog 18 #[.string word, giveV a 3] w fun e w' => e = .returned (.string (word ++ s ++ ⟨#[102, 105, 108, 108, 108]⟩)) ∧ Below w.heap.size w w'
    go_enter Tryd.func18, Tryd.ntmps18
    go_wp2_with fail
    obtain ⟨G, hG⟩ : ∃ G, G = w.heap.size := ⟨_, rfl⟩
    obtain ⟨T, hT⟩ : ∃ T, T = w.alloc (.cells #[.int .i64 a, .int .i64 3] 37) := ⟨_, rfl⟩
    have HBT : Hid (Below w.heap.size w T) := by rw [hT]; exact (Below.refl _ _).alloc (Nat.le_refl _) _
    have hbl : T.heap[G]? = some (.cells #[.int .i64 a, .int .i64 3] 37 (0, 0)) := by rw [hT, hG]; exact heap_alloc_new w _
    have t0 : T.cell? ⟨G, 0, none⟩ = some (.int .i64 a) := by simp [World.cell?, hbl]
    have t1 : T.cell? ⟨G, 1, none⟩ = some (.int .i64 3) := by simp [World.cell?, hbl]
    have tz : G < T.heap.size := (Array.getElem?_eq_some_iff.1 hbl).1
    have n0 : T.cell? ⟨0, 3, none⟩ = some (.string ⟨#[102, 105, 108, 108, 108]⟩) := (HO.out.kept HBT.out).2.2.2.2
    have nz : 0 < T.heap.size := (HO.out.kept HBT.out).1
    have HPT := hideP (HP.out.kept HBT.out)
    rw [← hT, ← hG]
    clear hT hG hbl HP HO
    go_region_with (go_at_call 21; refine (HD.out _ (HPT.out.kept (Below.drew (Below.refl _ _)))).mono ?_; rintro e w2 ⟨rfl, hb2⟩; have c1 := (hb2.cell (p := ⟨G, 1, none⟩) (by exact tz)).trans (show T.drew.cell? ⟨G, 1, none⟩ = _ from t1); have c2 := (hb2.cell (p := ⟨0, 3, none⟩) (by exact nz)).trans (show T.drew.cell? ⟨0, 3, none⟩ = _ from n0); have HW2 := hideP (HBT.out.trans (((Below.drew (Below.refl T.heap.size T)).trans hb2).mono HBT.out.size)); clear hb2)
    all_goals
      go_wp2
      go_ret
      exact ⟨rfl, HW2.out⟩
end Go.Proofs.YtminpoenfjnmiaaDoor
