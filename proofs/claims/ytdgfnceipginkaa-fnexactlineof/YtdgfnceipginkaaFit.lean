/-
  Lengths that fit, orders, glues that can be: the walks on both sides.
-/
import Derived.Test.YtdgfnceipginkaaRowg
import Derived.Deep.RegionWith
namespace Go.Proofs.Ytdgfnceipginkaa
open Go.RowKit
set_option linter.unusedVariables false
set_option linter.unusedSimpArgs false

theorem below3 (w : World) (o o2 o3 : Obj) : Below w.heap.size w (((w.alloc o).alloc o2).alloc o3) := (below2 w o o2).alloc (by simp; omega) _

/-- A node. -/
structure Nd where
  k : Int
  wd : Int
  ht : Int
  dp : Int
  sh : Int
  fo : Int
  ch : Int
  nn : Int
  gs : Int
  gp : Int
  gpo : Int
  gm : Int
  gmo : Int
  tx : ByteArray
  kids : Int

def Nd.cells (x : Nd) : List Value := [.int .i64 x.k, .int .i64 x.wd, .int .i64 x.ht, .int .i64 x.dp, .int .i64 x.sh, .int .i64 x.fo, .int .i64 x.ch, .int .i64 x.nn, .int .i64 x.gs, .int .i64 x.gp, .int .i64 x.gpo, .int .i64 x.gm, .int .i64 x.gmo, .string x.tx, .int .i64 x.kids]
abbrev glueV (s p po m mo : Int) : Value := .agg #[.int .i64 s, .int .i64 p, .int .i64 po, .int .i64 m, .int .i64 mo]
abbrev ndV (x : Nd) : Value := .agg #[.int .i64 x.k, .int .i64 x.wd, .int .i64 x.ht, .int .i64 x.dp, .int .i64 x.sh, .int .i64 x.fo, .int .i64 x.ch, .int .i64 x.nn, .int .i64 x.gs, .int .i64 x.gp, .int .i64 x.gpo, .int .i64 x.gm, .int .i64 x.gmo, .string x.tx, .int .i64 x.kids]

theorem szNode_any (x : Nd) (l : Int) (w : World) (hl0 : 0 ≤ l) (hl1 : l ≤ 1048576) (hs : x.tx.size ≤ 9223372036854775807) : Calls Try.prog 12 #[ndV x, .int .i64 l] w fun r w' => (∃ m : Int, r = .returned (.int .i64 m) ∧ m ≤ l ∧ (0 ≤ m → x.tx.size ≤ 1048576)) ∧ Below w.heap.size w w' := by
  obtain ⟨k, wd, ht, dp, sh, fo, ch, nn, gs, gp, gpo, gm, gmo, tx, kids⟩ := x
  dsimp only at hs
  simp only [ndV]
  by_cases hbig : l - (tx.size : Int) < 0
  · go_enter Try.func12, Try.ntmps12
    go_wp2
    go_ret
    exact ⟨⟨-1, rfl, by omega, fun h => by omega⟩, below1 _ _⟩
  · go_enter Try.func12, Try.ntmps12
    go_wp2
    go_ret
    exact ⟨⟨_, rfl, by omega, fun h => by omega⟩, below1 _ _⟩

theorem toGlue_any (a b c d e : Int) (w : World) : Calls Try.prog 17 #[glueV a b c d e] w fun r w' => r = .returned (glueV a b c d e) ∧ Below w.heap.size w w' := by
  go_enter Try.func17, Try.ntmps17
  go_wp2
  refine bodyPost_ret (v := glueV a b c d e) (by simp [results, Try.results17, go_sem]) rfl ⟨rfl, ?_⟩
  repeat (first | exact below3 _ _ _ _ | refine Below.setCell ?_ (by first | (simp; done) | (simp; omega)) _)

theorem eqGlue_same (a b c d e : Int) (w : World) : Calls Try.prog 43 #[glueV a b c d e, glueV a b c d e] w fun r w' => r = .returned (.bool true) ∧ Below w.heap.size w w' := by
  go_enter Try.func43, Try.ntmps43
  go_wp2
  go_ret
  exact ⟨rfl, below2 _ _ _⟩

set_option maxHeartbeats 2000000 in
theorem toNode_any (x : Nd) (w : World) : Calls Try.prog 16 #[ndV x] w fun r w' => r = .returned (ndV x) ∧ Below w.heap.size w w' := by
  obtain ⟨k, wd, ht, dp, sh, fo, ch, nn, gs, gp, gpo, gm, gmo, tx, kids⟩ := x
  simp only [ndV]
  go_enter Try.func16, Try.ntmps16
  go_wp2_with fail
  refine (toGlue_any _ _ _ _ _ _).mono ?_
  rintro e w1 ⟨rfl, hb1⟩
  have hz1 : w.heap.size + 1 + 1 < w1.heap.size := by have := hb1.size; simp at this; omega
  have hy1 : w.heap.size + 1 < w1.heap.size := by omega
  have hx1 : w.heap.size < w1.heap.size := by omega
  have BW : Below w.heap.size w w1 := by
    refine below_more ?_ hb1 (by simp; omega)
    repeat (first | exact below3 _ _ _ _ | refine Below.setCell ?_ (by first | (simp; done) | (simp; omega)) _)
  obtain ⟨hc1, hf1⟩ := bcell hb1
  have B1 := hideP BW
  simp only [World.size_alloc, World.size_setCell] at hc1 hf1
  clear hb1 BW
  go_wp2
  refine bodyPost_ret (v := ndV ⟨k, wd, ht, dp, sh, fo, ch, nn, gs, gp, gpo, gm, gmo, tx, kids⟩) (by simp [results, Try.results16, go_sem, hc1, hx1, hy1, hz1]) rfl ⟨rfl, ?_⟩
  have B2 := B1.out
  clear hc1 hf1 B1
  repeat (first | with_reducible exact B2 | (with_reducible refine Below.setCell ?_ ?_ _; rotate_left; focus (first | (simp; done) | (simp; omega))))

set_option maxHeartbeats 2000000 in
theorem eqNode_same (x : Nd) (w : World) : Calls Try.prog 21 #[ndV x, ndV x] w fun r w' => r = .returned (.bool true) ∧ Below w.heap.size w w' := by
  obtain ⟨k, wd, ht, dp, sh, fo, ch, nn, gs, gp, gpo, gm, gmo, tx, kids⟩ := x
  simp only [ndV]
  have hne : (tx.toList != tx.toList) = false := by simp
  go_enter Try.func21, Try.ntmps21
  go_wp2_with fail
  refine (eqGlue_same _ _ _ _ _ _).mono ?_
  rintro e w1 ⟨rfl, hb1⟩
  have hy1 : w.heap.size + 1 < w1.heap.size := by have := hb1.size; simp at this; omega
  have hx1 : w.heap.size < w1.heap.size := by omega
  obtain ⟨hc1, hf1⟩ := bcell hb1
  have B1 : Hid (Below w.heap.size w w1) := below_more (below2 _ _ _) hb1 (by simp; omega)
  simp only [World.size_alloc, World.size_setCell] at hc1 hf1
  clear hb1
  go_wp2
  go_ret
  exact ⟨rfl, B1⟩

def fitsB (x : Int) : Bool := decide (-1073741823 ≤ x ∧ x ≤ 1073741823)
def uptoB (x m : Int) : Bool := decide (0 ≤ x ∧ x ≤ m)
def glB (s p po m mo : Int) : Bool := fitsB s && fitsB p && fitsB m && uptoB po 3 && uptoB mo 3
theorem fits_yes {x : Int} (h1 : -1073741823 ≤ x) (h2 : x ≤ 1073741823) : fitsB x = true := by simp [fitsB, h1, h2]
theorem fits_no {x : Int} (h : ¬ (-1073741823 ≤ x ∧ x ≤ 1073741823)) : fitsB x = false := by simp [fitsB]; omega
theorem upto_yes {x m : Int} (h1 : 0 ≤ x) (h2 : x ≤ m) : uptoB x m = true := by simp [uptoB, h1, h2]
theorem upto_no {x m : Int} (h : ¬ (0 ≤ x ∧ x ≤ m)) : uptoB x m = false := by simp [uptoB]; omega

theorem specFits_any (x : Int) (w : World) : Calls Try.prog 59 #[.int .i64 x] w fun e w' => e = .returned (.bool (fitsB x)) ∧ w' = w := by
  by_cases h1 : -1073741823 ≤ x
  · by_cases h2 : x ≤ 1073741823
    · rw [fits_yes h1 h2]
      go_enter Try.func59, Try.ntmps59
      go_wp2
      go_ret
      exact ⟨rfl, rfl⟩
    · rw [fits_no (by omega)]
      go_enter Try.func59, Try.ntmps59
      go_wp2
      go_ret
      exact ⟨rfl, rfl⟩
  · rw [fits_no (by omega)]
    go_enter Try.func59, Try.ntmps59
    go_wp2
    go_ret
    exact ⟨rfl, rfl⟩

theorem implFits_any (x : Int) (w : World) : Calls Try.prog 63 #[.int .i64 x] w fun e w' => e = .returned (.bool (fitsB x)) ∧ w' = w := by
  by_cases h1 : -1073741823 ≤ x
  · by_cases h2 : x ≤ 1073741823
    · rw [fits_yes h1 h2]
      go_enter Try.func63, Try.ntmps63
      go_wp2
      go_ret
      exact ⟨rfl, rfl⟩
    · rw [fits_no (by omega)]
      go_enter Try.func63, Try.ntmps63
      go_wp2
      go_ret
      exact ⟨rfl, rfl⟩
  · rw [fits_no (by omega)]
    go_enter Try.func63, Try.ntmps63
    go_wp2
    go_ret
    exact ⟨rfl, rfl⟩

theorem specOrder_any (x : Int) (w : World) : Calls Try.prog 60 #[.int .i64 x] w fun e w' => e = .returned (.bool (uptoB x 3)) ∧ w' = w := by
  by_cases h1 : 0 ≤ x
  · by_cases h2 : x ≤ 3
    · rw [upto_yes h1 h2]
      go_enter Try.func60, Try.ntmps60
      go_wp2
      go_ret
      exact ⟨rfl, rfl⟩
    · rw [upto_no (by omega)]
      go_enter Try.func60, Try.ntmps60
      go_wp2
      go_ret
      exact ⟨rfl, rfl⟩
  · rw [upto_no (by omega)]
    go_enter Try.func60, Try.ntmps60
    go_wp2
    go_ret
    exact ⟨rfl, rfl⟩

theorem implOrder_any (x : Int) (w : World) : Calls Try.prog 64 #[.int .i64 x] w fun e w' => e = .returned (.bool (uptoB x 3)) ∧ w' = w := by
  by_cases h1 : 0 ≤ x
  · by_cases h2 : x ≤ 3
    · rw [upto_yes h1 h2]
      go_enter Try.func64, Try.ntmps64
      go_wp2
      go_ret
      exact ⟨rfl, rfl⟩
    · rw [upto_no (by omega)]
      go_enter Try.func64, Try.ntmps64
      go_wp2
      go_ret
      exact ⟨rfl, rfl⟩
  · rw [upto_no (by omega)]
    go_enter Try.func64, Try.ntmps64
    go_wp2
    go_ret
    exact ⟨rfl, rfl⟩

theorem upTo_any (x m : Int) (w : World) : Calls Try.prog 48 #[.int .i64 x, .int .i64 m] w fun e w' => e = .returned (.bool (uptoB x m)) ∧ w' = w := by
  by_cases h1 : 0 ≤ x
  · by_cases h2 : x ≤ m
    · rw [upto_yes h1 h2]
      go_enter Try.func48, Try.ntmps48
      go_wp2
      go_ret
      exact ⟨rfl, rfl⟩
    · rw [upto_no (by omega)]
      go_enter Try.func48, Try.ntmps48
      go_wp2
      go_ret
      exact ⟨rfl, rfl⟩
  · rw [upto_no (by omega)]
    go_enter Try.func48, Try.ntmps48
    go_wp2
    go_ret
    exact ⟨rfl, rfl⟩

theorem specGlueOk_any (s p po m mo : Int) (w : World) : Calls Try.prog 45 #[glueV s p po m mo] w fun e w' => e = .returned (.bool (glB s p po m mo)) ∧ Below w.heap.size w w' := by
  unfold glB
  cases h1 : fitsB s <;> cases h2 : fitsB p <;> cases h3 : fitsB m <;> cases h4 : uptoB po 3 <;> cases h5 : uptoB mo 3
  all_goals
    go_enter Try.func45, Try.ntmps45
    go_wp2_with (first
      | (go_at_call 59; refine (specFits_any _ _).mono ?_; rintro e w' ⟨rfl, rfl⟩)
      | (go_at_call 60; refine (specOrder_any _ _).mono ?_; rintro e w' ⟨rfl, rfl⟩))
    go_ret
    exact ⟨rfl, below1 _ _⟩

theorem implGlueOk_any (s p po m mo : Int) (w : World) : Calls Try.prog 49 #[glueV s p po m mo] w fun e w' => e = .returned (.bool (glB s p po m mo)) ∧ Below w.heap.size w w' := by
  unfold glB
  cases h1 : fitsB s <;> cases h2 : fitsB p <;> cases h3 : fitsB m <;> cases h4 : uptoB po 3 <;> cases h5 : uptoB mo 3
  all_goals
    go_enter Try.func49, Try.ntmps49
    go_wp2_with (first
      | (go_at_call 63; refine (implFits_any _ _).mono ?_; rintro e w' ⟨rfl, rfl⟩)
      | (go_at_call 64; refine (implOrder_any _ _).mono ?_; rintro e w' ⟨rfl, rfl⟩))
    go_ret
    exact ⟨rfl, below1 _ _⟩

abbrev sizeV (a b c : Int) : Value := .agg #[.int .i64 a, .int .i64 b, .int .i64 c]
theorem sizeFits_any (a b c : Int) (w : World) : Calls Try.prog 91 #[sizeV a b c] w fun e w' => e = .returned (.bool (fitsB a && fitsB b && fitsB c)) ∧ Below w.heap.size w w' := by
  cases h1 : fitsB a <;> cases h2 : fitsB b <;> cases h3 : fitsB c
  all_goals
    go_enter Try.func91, Try.ntmps91
    go_wp2_with (go_at_call 63; refine (implFits_any _ _).mono ?_; rintro e w' ⟨rfl, rfl⟩)
    go_ret
    exact ⟨rfl, below1 _ _⟩

theorem sizeOf_any (x : Nd) (w : World) : Calls Try.prog 65 #[ndV x] w fun e w' => e = .returned (sizeV x.wd x.ht x.dp) ∧ Below w.heap.size w w' := by
  obtain ⟨k, wd, ht, dp, sh, fo, ch, nn, gs, gp, gpo, gm, gmo, tx, kids⟩ := x
  simp only [ndV]
  go_enter Try.func65, Try.ntmps65
  go_wp2
  refine bodyPost_ret (v := sizeV wd ht dp) (by simp [results, Try.results65, go_sem]) rfl ⟨rfl, ?_⟩
  trace_state
  repeat (first | with_reducible exact below2 _ _ _ | with_reducible exact below3 _ _ _ _ | (with_reducible refine Below.setCell ?_ ?_ _; rotate_left; focus (first | (simp; done) | (simp; omega))))
end Go.Proofs.Ytdgfnceipginkaa
