import Derived.Test.YtbpidcfoldkhgaaGreatProg
import Derived.WalkKit
import Derived.WalkSpells
import Derived.RowKit3
import Derived.Below
import Derived.Outline
import Derived.Deep.Light
namespace Go.Proofs.YtbpidcfoldkhgaaGreat
open Go.RowKit
set_option linter.unusedVariables false
set_option linter.unusedSimpArgs false
def tokB (c h : Int) (s : ByteArray) : Bool :=
 if c = 0 then decide (h = 0 ∧ s.size ≤ 40)
 else if s.toList ≠ [] then false
 else if c = 16 then decide (1 ≤ h ∧ h ≤ 9)
 else if c = 6 ∨ c = 8 ∨ c = 9 ∨ c = 15 then false
 else decide (1 ≤ c ∧ c < 15 ∧ 0 ≤ h ∧ h ≤ 255)
abbrev tokV (c h : Int) (s : ByteArray) : Value := .agg #[.int .i64 c, .int .i64 h, .string s]
theorem isE {s : ByteArray} : (s.toList ≠ []) ↔ (s.toList.isEmpty = false) := by cases s.toList <;> simp
theorem tokB_name {c h : Int} {s : ByteArray} (hc : c = 0) : tokB c h s = decide (h = 0 ∧ s.size ≤ 40) := by simp [tokB, hc]
theorem tokB_full {c h : Int} {s : ByteArray} (hc : c ≠ 0) (hs : s.toList.isEmpty = false) : tokB c h s = false := by
 unfold tokB; rw [if_neg hc, if_pos (isE.2 hs)]
theorem tokB_slot {h : Int} {s : ByteArray} (hs : s.toList.isEmpty = true) : tokB 16 h s = decide (1 ≤ h ∧ h ≤ 9) := by
 unfold tokB; rw [if_neg (by omega), if_neg (by rw [isE, hs]; simp), if_pos rfl]
theorem tokB_none {c h : Int} {s : ByteArray} (hc : c = 6 ∨ c = 8 ∨ c = 9 ∨ c = 15) : tokB c h s = false := by
 unfold tokB; rw [if_neg (by omega)]
 split
 ·rfl
 ·split <;> first | rfl | omega
theorem tokB_else {c h : Int} {s : ByteArray} (hs : s.toList.isEmpty = true) (hc : c ≠ 0) (hc' : c ≠ 16) (hn : ¬ (c = 6 ∨ c = 8 ∨ c = 9 ∨ c = 15)) : tokB c h s = decide (1 ≤ c ∧ c < 15 ∧ 0 ≤ h ∧ h ≤ 255) := by
 unfold tokB; rw [if_neg hc, if_neg (by rw [isE, hs]; simp), if_neg hc', if_neg hn]
set_option maxHeartbeats 2000000 in
theorem specTokenOk_ex (c h : Int) (s : ByteArray) (w : World) : Calls Tryz.prog 88 #[tokV c h s] w fun e w' => e = .returned (.bool (tokB c h s)) ∧ ∃ cs : Array Value, w' = w.alloc (.cells cs 51) := by
 by_cases h0 : c = 0
 ·go_enter Tryz.func88, Tryz.ntmps88
  go_wp2
  all_goals (go_ret; go_light; refine ⟨congrArg (fun b => Ending.returned (Value.bool b)) (Eq.trans ?_ (tokB_name (by first | rfl | assumption)).symm), _, rfl⟩; first | exact decide_eq_decide.2 (by omega) | exact (decide_eq_false (by omega)).symm | exact (decide_eq_true (by omega)).symm)
 ·cases hs : s.toList.isEmpty
  ·go_enter Tryz.func88, Tryz.ntmps88
   go_wp2
   all_goals (go_ret; exact ⟨congrArg (fun b => Ending.returned (Value.bool b)) (tokB_full h0 hs).symm, _, rfl⟩)
  ·by_cases h16 : c = 16
   ·subst h16
    go_enter Tryz.func88, Tryz.ntmps88
    go_wp2
    all_goals (go_ret; go_light; refine ⟨congrArg (fun b => Ending.returned (Value.bool b)) (Eq.trans ?_ (tokB_slot hs).symm), _, rfl⟩; first | exact decide_eq_decide.2 (by omega) | exact (decide_eq_false (by omega)).symm | exact (decide_eq_true (by omega)).symm)
   ·by_cases hn : c = 6 ∨ c = 8 ∨ c = 9 ∨ c = 15
    ·have hb := tokB_none (h := h) (s := s) hn
     rcases hn with rfl | rfl | rfl | rfl
     all_goals
      go_enter Tryz.func88, Tryz.ntmps88
      go_wp2
      go_ret
      exact ⟨congrArg (fun b => Ending.returned (Value.bool b)) hb.symm, _, rfl⟩
    ·have hb := tokB_else (h := h) hs h0 h16 hn
     have n6 : (c == 6) = false := by simp; omega
     have n8 : (c == 8) = false := by simp; omega
     have n9 : (c == 9) = false := by simp; omega
     have n15 : (c == 15) = false := by simp; omega
     have m6 : c ≠ 6 := by omega
     have m8 : c ≠ 8 := by omega
     have m9 : c ≠ 9 := by omega
     have m15 : c ≠ 15 := by omega
     have HB : Hid (tokB c h s = decide (1 ≤ c ∧ c < 15 ∧ 0 ≤ h ∧ h ≤ 255)) := hb
     clear hn hb
     go_enter Tryz.func88, Tryz.ntmps88
     go_wp2
     all_goals (go_ret; go_light; refine ⟨congrArg (fun b => Ending.returned (Value.bool b)) (Eq.trans ?_ (show tokB c h s = decide (1 ≤ c ∧ c < 15 ∧ 0 ≤ h ∧ h ≤ 255) from HB).symm), _, rfl⟩; first | exact decide_eq_decide.2 (by omega) | exact (decide_eq_false (by omega)).symm | exact (decide_eq_true (by omega)).symm)
set_option maxHeartbeats 2000000 in
theorem implTokenOk_ex (c h : Int) (s : ByteArray) (w : World) : Calls Tryz.prog 140 #[tokV c h s] w fun e w' => e = .returned (.bool (tokB c h s)) ∧ ∃ cs : Array Value, w' = w.alloc (.cells cs 51) := by
 by_cases h0 : c = 0
 ·go_enter Tryz.func140, Tryz.ntmps140
  go_wp2
  all_goals (go_ret; go_light; refine ⟨congrArg (fun b => Ending.returned (Value.bool b)) (Eq.trans ?_ (tokB_name (by first | rfl | assumption)).symm), _, rfl⟩; first | exact decide_eq_decide.2 (by omega) | exact (decide_eq_false (by omega)).symm | exact (decide_eq_true (by omega)).symm)
 ·cases hs : s.toList.isEmpty
  ·go_enter Tryz.func140, Tryz.ntmps140
   go_wp2
   all_goals (go_ret; exact ⟨congrArg (fun b => Ending.returned (Value.bool b)) (tokB_full h0 hs).symm, _, rfl⟩)
  ·by_cases h16 : c = 16
   ·subst h16
    go_enter Tryz.func140, Tryz.ntmps140
    go_wp2
    all_goals (go_ret; go_light; refine ⟨congrArg (fun b => Ending.returned (Value.bool b)) (Eq.trans ?_ (tokB_slot hs).symm), _, rfl⟩; first | exact decide_eq_decide.2 (by omega) | exact (decide_eq_false (by omega)).symm | exact (decide_eq_true (by omega)).symm)
   ·by_cases hn : c = 6 ∨ c = 8 ∨ c = 9 ∨ c = 15
    ·have hb := tokB_none (h := h) (s := s) hn
     rcases hn with rfl | rfl | rfl | rfl
     all_goals
      go_enter Tryz.func140, Tryz.ntmps140
      go_wp2
      go_ret
      exact ⟨congrArg (fun b => Ending.returned (Value.bool b)) hb.symm, _, rfl⟩
    ·have hb := tokB_else (h := h) hs h0 h16 hn
     have n6 : (c == 6) = false := by simp; omega
     have n8 : (c == 8) = false := by simp; omega
     have n9 : (c == 9) = false := by simp; omega
     have n15 : (c == 15) = false := by simp; omega
     have m6 : c ≠ 6 := by omega
     have m8 : c ≠ 8 := by omega
     have m9 : c ≠ 9 := by omega
     have m15 : c ≠ 15 := by omega
     have HB : Hid (tokB c h s = decide (1 ≤ c ∧ c < 15 ∧ 0 ≤ h ∧ h ≤ 255)) := hb
     clear hn hb
     go_enter Tryz.func140, Tryz.ntmps140
     go_wp2
     all_goals (go_ret; go_light; refine ⟨congrArg (fun b => Ending.returned (Value.bool b)) (Eq.trans ?_ (show tokB c h s = decide (1 ≤ c ∧ c < 15 ∧ 0 ≤ h ∧ h ≤ 255) from HB).symm), _, rfl⟩; first | exact decide_eq_decide.2 (by omega) | exact (decide_eq_false (by omega)).symm | exact (decide_eq_true (by omega)).symm)
theorem toToken_ex (c h : Int) (s : ByteArray) (w : World) : Calls Tryz.prog 118 #[tokV c h s] w fun e w' => e = .returned (tokV c h s) ∧ ∃ c1 c2 c3 : Array Value, w' = ((w.alloc (.cells c1 132)).alloc (.cells c2 51)).alloc (.cells c3 51) := by
 go_enter Tryz.func118, Tryz.ntmps118
 go_wp2
 exact bodyPost_ret (v := tokV c h s) (by simp [results, Tryz.results118, go_sem]) rfl ⟨rfl, _, _, _, rfl⟩
theorem specTokenOk_any (c h : Int) (s : ByteArray) (w : World) : Calls Tryz.prog 88 #[tokV c h s] w fun e w' => e = .returned (.bool (tokB c h s)) ∧ Below w.heap.size w w' := by
 refine (specTokenOk_ex c h s w).mono ?_
 rintro e w' ⟨rfl, cs, rfl⟩
 exact ⟨rfl, (Below.refl _ _).alloc (Nat.le_refl _) _⟩
theorem implTokenOk_any (c h : Int) (s : ByteArray) (w : World) : Calls Tryz.prog 140 #[tokV c h s] w fun e w' => e = .returned (.bool (tokB c h s)) ∧ Below w.heap.size w w' := by
 refine (implTokenOk_ex c h s w).mono ?_
 rintro e w' ⟨rfl, cs, rfl⟩
 exact ⟨rfl, (Below.refl _ _).alloc (Nat.le_refl _) _⟩
theorem toToken_any (c h : Int) (s : ByteArray) (w : World) : Calls Tryz.prog 118 #[tokV c h s] w fun e w' => e = .returned (tokV c h s) ∧ Below w.heap.size w w' := by
 refine (toToken_ex c h s w).mono ?_
 rintro e w' ⟨rfl, c1, c2, c3, rfl⟩
 exact ⟨rfl, (((Below.refl _ _).alloc (Nat.le_refl _) _).alloc (by simp) _).alloc (by simp; omega) _⟩
theorem bcell {W w1 : World} (hb : Below W.heap.size W w1) : (∀ b o, b < W.heap.size → w1.cell? ⟨b, o, none⟩ = W.cell? ⟨b, o, none⟩) ∧ (∀ b o, b < W.heap.size → w1.frozen? ⟨b, o, none⟩ = W.frozen? ⟨b, o, none⟩) :=
 ⟨fun b o h => hb.cell (p := ⟨b, o, none⟩) h, fun b o h => hb.frozen (p := ⟨b, o, none⟩) h⟩
end Go.Proofs.YtbpidcfoldkhgaaGreat
