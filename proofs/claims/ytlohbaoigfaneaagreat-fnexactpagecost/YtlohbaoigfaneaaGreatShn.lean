import Derived.Shelf.Small.Bits
import Derived.Shelf.Strconv.Itoa0
import Derived.Test.YtlohbaoigfaneaaGreatProg
import Derived.Test.YtlohbaoigfaneaaGreatBadS
import Derived.Test.YtlohbaoigfaneaaGreatBigC
import Derived.Deep.QuietTactic
import Derived.BigQuiet
import Derived.WalkSmall
import Derived.Laws.BitsLemmas
import Derived.Deep.DeepCutAuto
import Derived.Deep.CutBlock
namespace Go.Proofs.YtlohbaoigfaneaaGreat.Shr
open Go.Shelf
set_option linter.unusedVariables false
end Go.Proofs.YtlohbaoigfaneaaGreat.Shr
namespace Go.Proofs.YtlohbaoigfaneaaGreat.DivN
set_option linter.unusedVariables false
def digit (u d y : Nat) : Nat := (u * 4294967296 + d) / y
end Go.Proofs.YtlohbaoigfaneaaGreat.DivN
namespace Go.Proofs.YtlohbaoigfaneaaGreat.Shr
open Go.RowKit
set_option linter.unusedVariables false
set_option linter.unusedSimpArgs false
def top (xs : List Int) : Nat := if xs.getD 3 0 ≠ 0 then 3 else if xs.getD 2 0 ≠ 0 then 2 else if xs.getD 1 0 ≠ 0 then 1 else 0
set_option maxHeartbeats 2000000 in
theorem highest_any (a0 a1 a2 a3 : Int) (w : World) : Calls Tryz.prog 128 #[.agg #[.int .i64 a0, .int .i64 a1, .int .i64 a2, .int .i64 a3]] w fun e w' =>
 e = .returned (.tuple #[.int .i64 (top [a0, a1, a2, a3] : Int), .int .i64 (([a0, a1, a2, a3] : List Int).getD (top [a0, a1, a2, a3]) 0)]) ∧ Below w.heap.size w w' := by
 obtain ⟨xs, hxs⟩ : ∃ xs : List Int, xs = [a0, a1, a2, a3] := ⟨_, rfl⟩
 have hc : ∀ i, i < 4 → (w.alloc (.cells #[.int .i64 a0, .int .i64 a1, .int .i64 a2, .int .i64 a3] 114)).cell? ⟨w.heap.size, i, none⟩ = some (.int .i64 (xs.getD i 0)) := by
  intro i hi
  rw [hxs, cell_of_row _ w.heap.size i _ 114 (0, 0) (heap_alloc_new w _)]
  rcases (show i = 0 ∨ i = 1 ∨ i = 2 ∨ i = 3 by omega) with rfl | rfl | rfl | rfl <;> rfl
 rw [← hxs]
 have HC : Hid (∀ i, i < 4 → (w.alloc (.cells #[.int .i64 a0, .int .i64 a1, .int .i64 a2, .int .i64 a3] 114)).cell? ⟨w.heap.size, i, none⟩ = some (.int .i64 (xs.getD i 0))) := hc
 clear hc hxs
 have HB : Hid (Below w.heap.size w (w.alloc (.cells #[.int .i64 a0, .int .i64 a1, .int .i64 a2, .int .i64 a3] 114)).drew) := ((Below.refl _ _).alloc (Nat.le_refl _) _).drew
 go_enter Tryz.func128, Tryz.ntmps128
 go_wp2
 obtain ⟨W, hW⟩ : ∃ W, W = w.alloc (.cells #[.int .i64 a0, .int .i64 a1, .int .i64 a2, .int .i64 a3] 114) := ⟨_, rfl⟩
 rw [← hW]
 have HC2 : Hid (∀ i, i < 4 → W.cell? ⟨w.heap.size, i, none⟩ = some (.int .i64 (xs.getD i 0))) := by rw [hW]; exact HC
 have HB2 : Hid (Below w.heap.size w W.drew) := by rw [hW]; exact HB
 clear HC HB hW
 go_loop [2] (fun i => ∃ k : Nat, k ≤ 3 ∧ i = .int .i64 k ∧ ∀ j, k < j → j ≤ 3 → xs.getD j 0 = 0) (fun i => (intOf i).toNat)
 case atStart => exact ⟨3, by omega, rfl, fun j h1 h2 => by omega⟩
 case round =>
  obtain ⟨k, hk, rfl, hz⟩ := hrel
  have HZ : Hid (∀ j, k < j → j ≤ 3 → xs.getD j 0 = 0) := hz
  clear hz
  have hk4 : (k : Int) < 4 := by omega
  obtain ⟨z, hz⟩ : ∃ z, z = xs.getD k 0 := ⟨_, rfl⟩
  have hcell : W.cell? ⟨w.heap.size, k, none⟩ = some (.int .i64 z) := by rw [hz]; exact HC2 k (by omega)
  have HZZ : Hid (z = xs.getD k 0) := hz
  clear hz
  have fin : (k = 0 ∨ z ≠ 0) → Hid (top xs = k) := by
   intro hor
   have hne : k ≠ 0 → xs.getD k 0 ≠ 0 := fun h0 => by rw [← show z = xs.getD k 0 from HZZ]; exact hor.resolve_left h0
   show top xs = k
   unfold top
   rcases (show k = 0 ∨ k = 1 ∨ k = 2 ∨ k = 3 by omega) with rfl | rfl | rfl | rfl
   ·rw [if_neg (by rw [HZ 3 (by omega) (by omega)]; simp), if_neg (by rw [HZ 2 (by omega) (by omega)]; simp), if_neg (by rw [HZ 1 (by omega) (by omega)]; simp)]
   ·rw [if_neg (by rw [HZ 3 (by omega) (by omega)]; simp), if_neg (by rw [HZ 2 (by omega) (by omega)]; simp), if_pos (hne (by omega))]
   ·rw [if_neg (by rw [HZ 3 (by omega) (by omega)]; simp), if_pos (hne (by omega))]
   ·rw [if_pos (hne (by omega))]
  by_cases hk0 : 0 < k
  ·have hki : (0 : Int) < (k : Int) := by omega
   by_cases hz0 : z = 0
   ·clear fin
    go_wp2
    go_round
    case rel =>
     refine ⟨k - 1, by omega, ?_, fun j h1 h2 => ?_⟩
     ·rw [show (((k - 1 : Nat)) : Int) = (k : Int) - 1 by omega]
     ·by_cases hjk : j = k
      ·subst hjk; rw [← show z = xs.getD j 0 from HZZ]; exact hz0
      ·exact HZ j (by omega) h2
    case measure => simp [intOf]; omega
   ·have FIN := fin (Or.inr hz0)
    clear fin
    go_wp2
    go_region
    all_goals (try go_wp2)
    all_goals go_ret2
    all_goals
     refine ⟨?_, HB2⟩
     rw [show top xs = k from FIN, ← show z = xs.getD k 0 from HZZ]
     rfl
  ·have FIN := fin (Or.inl (by omega))
   clear fin
   have hki : ¬ (0 : Int) < (k : Int) := by omega
   go_wp2
   go_region
   all_goals (try go_wp2)
   all_goals go_ret2
   all_goals
    refine ⟨?_, HB2⟩
    rw [show top xs = k from FIN, ← show z = xs.getD k 0 from HZZ]
    rfl
structure Sett where
 sign : Int
 order : Int
 want : Int
 have_ : Int
 bad : Int
 over : Int
abbrev setV (a b c d e f : Int) : Value := .agg #[.int .i64 a, .int .i64 b, .int .i64 c, .int .i64 d, .int .i64 e, .int .i64 f]
set_option maxHeartbeats 1000000 in
theorem boundBad_any (a b c d e f : Int) (w : World) (hc : c ≤ 9223372036854775807) (hd : d ≤ 9223372036854775807) :
 Calls Tryz.prog 129 #[setV a b c d e f] w fun e' w' => e' = .returned (.int .i64 (if 0 < b then 0 else badV c d)) ∧ Below w.heap.size w w' := by
 by_cases h : 0 < b
 ·rw [if_pos h]
  go_enter Tryz.func129, Tryz.ntmps129
  go_wp2
  go_ret
  exact ⟨rfl, (Below.refl _ _).alloc (Nat.le_refl _) _⟩
 ·rw [if_neg h]
  go_enter Tryz.func129, Tryz.ntmps129
  go_wp2_with fail
  refine (implBad_any c d _ hc hd).mono ?_
  rintro e' w2 ⟨rfl, hb2⟩
  have HB : Hid (Below w.heap.size w w2) := ((Below.refl _ _).alloc (Nat.le_refl _) _).trans (hb2.mono (by simp))
  clear hb2
  go_wp2
  go_ret
  exact ⟨rfl, HB⟩
theorem block_keep {w w' : World} {g : Nat} {o : Obj} (h : w.heap[g]? = some o) (hb : Below w.heap.size w w') : w'.heap[g]? = some o := (hb.block g (Array.getElem?_eq_some_iff.1 h).1).trans h
theorem set_cells {w : World} {g : Nat} {a b c d e f : Int} (h : w.heap[g]? = some (.cells #[.int .i64 a, .int .i64 b, .int .i64 c, .int .i64 d, .int .i64 e, .int .i64 f] 174 (0, 0))) :
 w.cell? ⟨g, 0, none⟩ = some (.int .i64 a) ∧ w.cell? ⟨g, 1, none⟩ = some (.int .i64 b) ∧ w.cell? ⟨g, 2, none⟩ = some (.int .i64 c) ∧ w.cell? ⟨g, 3, none⟩ = some (.int .i64 d) ∧ w.cell? ⟨g, 4, none⟩ = some (.int .i64 e) ∧ w.cell? ⟨g, 5, none⟩ = some (.int .i64 f) :=
 ⟨by rw [cell_of_row w g 0 _ _ _ h]; rfl, by rw [cell_of_row w g 1 _ _ _ h]; rfl, by rw [cell_of_row w g 2 _ _ _ h]; rfl, by rw [cell_of_row w g 3 _ _ _ h]; rfl, by rw [cell_of_row w g 4 _ _ _ h]; rfl, by rw [cell_of_row w g 5 _ _ _ h]; rfl⟩
theorem hidW {p : Prop} (h : p) : Hid p := h
def Fr (L : Nat) (w w' : World) : Prop := w'.os = w.os ∧ w'.tape = w.tape ∧ w'.output = w.output ∧ w.heap.size ≤ w'.heap.size ∧ ∀ b, b < w.heap.size → b ≠ L → w'.heap[b]? = w.heap[b]?
theorem Fr.refl (L : Nat) (w : World) : Fr L w w := ⟨rfl, rfl, rfl, Nat.le_refl _, fun _ _ _ => rfl⟩
theorem Fr.below {L : Nat} {w a b : World} (h : Fr L w a) (hb : Below a.heap.size a b) : Fr L w b :=
 ⟨hb.os.trans h.1, hb.tape.trans h.2.1, hb.output.trans h.2.2.1, Nat.le_trans h.2.2.2.1 hb.size, fun k hk hne => (hb.block k (Nat.lt_of_lt_of_le hk h.2.2.2.1)).trans (h.2.2.2.2 k hk hne)⟩
theorem Fr.alloc {L : Nat} {w a : World} (h : Fr L w a) (o : Obj) : Fr L w (a.alloc o) := h.below ((Below.refl _ _).alloc (Nat.le_refl _) _)
theorem Fr.set {L : Nat} {w a : World} (h : Fr L w a) {p : Addr} (hp : p.block = L ∨ w.heap.size ≤ p.block) (v : Value) : Fr L w (a.setCell p v) :=
 ⟨h.1, h.2.1, h.2.2.1, by simpa [World.setCell] using h.2.2.2.1, fun k hk hne => (Below.heap_setCell _ _ _ _ (by rcases hp with hp | hp <;> omega)).trans (h.2.2.2.2 k hk hne)⟩
theorem Fr.drew {L : Nat} {w a : World} (h : Fr L w a) : Fr L w a.drew := h
theorem Fr.toBelow {L B : Nat} {w a : World} (h : Fr L w a) (hL : B ≤ L) (hB : B ≤ w.heap.size) : Below B w a := ⟨h.1, h.2.1, h.2.2.1, h.2.2.2.1, fun k hk => h.2.2.2.2 k (by omega) (by omega)⟩
abbrev setO (a b c d e f : Int) : Obj := .cells #[.int .i64 a, .int .i64 b, .int .i64 c, .int .i64 d, .int .i64 e, .int .i64 f] 174 (0, 0)
abbrev six (w : World) (R : Nat) (a b c d e f : Int) : World := (((((w.setCell ⟨R, 0, none⟩ (.int .i64 a)).setCell ⟨R, 1, none⟩ (.int .i64 b)).setCell ⟨R, 2, none⟩ (.int .i64 c)).setCell ⟨R, 3, none⟩ (.int .i64 d)).setCell ⟨R, 4, none⟩ (.int .i64 e)).setCell ⟨R, 5, none⟩ (.int .i64 f)
theorem six_heap {w : World} {R : Nat} {a0 b0 c0 d0 e0 f0 : Int} (h : w.heap[R]? = some (setO a0 b0 c0 d0 e0 f0)) (a b c d e f : Int) : (six w R a b c d e f).heap[R]? = some (setO a b c d e f) :=
 heap_setCell_same _ R 5 _ 174 _ (heap_setCell_same _ R 4 _ 174 _ (heap_setCell_same _ R 3 _ 174 _ (heap_setCell_same _ R 2 _ 174 _ (heap_setCell_same _ R 1 _ 174 _ (heap_setCell_same _ R 0 _ 174 _ h)))))
theorem six_fr {L : Nat} {w a : World} (h : Fr L w a) {R : Nat} (hR : w.heap.size ≤ R) (x0 x1 x2 x3 x4 x5 : Int) : Fr L w (six a R x0 x1 x2 x3 x4 x5) :=
 (((((h.set (p := ⟨R, 0, none⟩) (.inr hR) _).set (p := ⟨R, 1, none⟩) (.inr hR) _).set (p := ⟨R, 2, none⟩) (.inr hR) _).set (p := ⟨R, 3, none⟩) (.inr hR) _).set (p := ⟨R, 4, none⟩) (.inr hR) _).set (p := ⟨R, 5, none⟩) (.inr hR) _
set_option maxRecDepth 20000 in
set_option maxHeartbeats 4000000 in
theorem stretchT_any (want a0 a1 a2 a3 o hv : Int) (w : World) (ho : o = (top [a0, a1, a2, a3] : Int)) (hhv : hv = ([a0, a1, a2, a3] : List Int).getD (top [a0, a1, a2, a3]) 0) (hw1 : want ≤ 9223372036854775807) (hd : hv ≤ 9223372036854775807) :
 Calls Tryz.prog 112 #[.int .i64 want, .agg #[.int .i64 a0, .int .i64 a1, .int .i64 a2, .int .i64 a3]] w fun e w' =>
  e = .returned (setV 1 o want hv (if hv ≤ 0 then 10000 else if 0 < o then 0 else badV want hv) 0) ∧ Below w.heap.size w w' := by
 obtain ⟨bb, hbb⟩ : ∃ bb : Int, bb = (if hv ≤ 0 then 10000 else if 0 < o then 0 else badV want hv) := ⟨_, rfl⟩
 rw [← hbb]
 have HBB := hidW hbb
 clear hbb
 have HW : Hid (want ≤ 9223372036854775807 ∧ hv ≤ 9223372036854775807) := ⟨hw1, hd⟩
 clear hw1 hd
 go_enter Tryz.func112, Tryz.ntmps112
 go_wp2_with fail
 refine (highest_any _ _ _ _ _).mono ?_
 rintro e w2 ⟨rfl, hb2⟩
 rw [← ho, ← hhv]
 clear ho hhv
 have R2 : w2.heap[w.heap.size + 1]? = some (setO 0 0 0 0 0 0) := block_keep (by have := heap_alloc_new (w.alloc (.cells #[.int .i64 a0, .int .i64 a1, .int .i64 a2, .int .i64 a3] 114)) (setO 0 0 0 0 0 0); simpa using this) hb2
 have B2 : Below w.heap.size w w2 := (((Below.refl _ _).alloc (Nat.le_refl _) _).alloc (by simp) _).trans (hb2.mono (by simp; omega))
 obtain ⟨R, hR⟩ : ∃ R, R = w.heap.size + 1 := ⟨_, rfl⟩
 rw [← hR] at R2 ⊢
 have HRR : Hid (w.heap.size ≤ R) := (by omega : w.heap.size ≤ R)
 have hRl : R < w2.heap.size := (Array.getElem?_eq_some_iff.1 R2).1
 have HB : Hid (w2.heap[R]? = some (setO 0 0 0 0 0 0) ∧ Below w.heap.size w w2) := ⟨R2, B2⟩
 obtain ⟨q0, q1, q2, q3, q4, q5⟩ := set_cells R2
 have fr : ∀ j, w2.frozen? ⟨R, j, none⟩ = false := fun j => frozen_of_row w2 R j _ _ R2
 clear hb2 R2 B2 hR
 go_wp2_with fail
 refine (boundBad_any _ _ _ _ _ _ _ HW.1 HW.2).mono ?_
 rintro e w3 ⟨rfl, hb3⟩
 obtain ⟨bd, hbd⟩ : ∃ bd : Int, bd = (if 0 < o then 0 else badV want hv) := ⟨_, rfl⟩
 rw [← hbd]
 obtain ⟨S, hS⟩ : ∃ S, S = w2.heap.size := ⟨_, rfl⟩
 have S3 : w3.heap[w2.heap.size]? = some (setO 1 o want hv 0 0) := block_keep (heap_alloc_new w2 _) hb3
 have R3 : w3.heap[R]? = some (setO 0 0 0 0 0 0) := block_keep ((Below.heap_alloc _ _ _ hRl).trans HB.1) hb3
 have B3 : Hid (Below w.heap.size w w3) := hidW ((HB.2.alloc HB.2.size _).trans (hb3.mono (by have := HB.2.size; simp; omega)))
 rw [← hS] at S3 ⊢
 have hSR : S ≠ R := by omega
 have HSB : Hid (w.heap.size ≤ S) := hidW (by have := HB.2.size; omega)
 have hRl3 : R < w3.heap.size := (Array.getElem?_eq_some_iff.1 R3).1
 have hSl3 : S < w3.heap.size := (Array.getElem?_eq_some_iff.1 S3).1
 have HR3 := hidW R3
 have HS3 := hidW S3
 clear q0 q1 q2 q3 q4 q5 fr hRl
 obtain ⟨q0, q1, q2, q3, q4, q5⟩ := set_cells R3
 obtain ⟨s0, s1, s2, s3, s4, s5⟩ := set_cells S3
 have fr : ∀ j, w3.frozen? ⟨R, j, none⟩ = false := fun j => frozen_of_row w3 R j _ _ R3
 have fs : ∀ j, w3.frozen? ⟨S, j, none⟩ = false := fun j => frozen_of_row w3 S j _ _ S3
 have hRS : R ≠ S := Ne.symm hSR
 clear hb3 R3 S3 HB hS
 by_cases hno : hv ≤ 0
 ·have HN := hidW hno
  clear hbd
  go_wp2
  refine bodyPost_ret (v := setV 1 o want hv 10000 0) (results_cell_row rfl _ _ R 174 _ (0, 0) _ rfl (six_heap (a0 := 0) (b0 := 0) (c0 := 0) (d0 := 0) (e0 := 0) (f0 := 0) ?hh 1 o want hv 10000 0) Tryz.underlying174 rfl (by kernel_rfl)) rfl ⟨by rw [show bb = _ from HBB.out, if_pos (by have := HN.out; omega)], ?_⟩
  case hh =>
   repeat (first | with_reducible exact HR3.out | (refine (Below.heap_setCell _ _ _ _ ?_).trans ?_; · first | exact hRS | exact hSR))
  ·have hr := HRR.out
   have hs := HSB.out
   repeat (first | with_reducible exact B3.out | (with_reducible refine Below.setCell ?_ ?_ _; rotate_left; focus (first | exact hr | exact hs)))
 ·have HN := hidW hno
  have HBD := hidW hbd
  clear hbd
  go_wp2
  refine bodyPost_ret (v := setV 1 o want hv bd 0) (results_cell_row rfl _ _ R 174 _ (0, 0) _ rfl (six_heap (a0 := 0) (b0 := 0) (c0 := 0) (d0 := 0) (e0 := 0) (f0 := 0) ?hh 1 o want hv bd 0) Tryz.underlying174 rfl (by kernel_rfl)) rfl ⟨by rw [show bb = _ from HBB.out, if_neg (by have := HN.out; omega), show bd = _ from HBD.out], ?_⟩
  case hh =>
   repeat (first | with_reducible exact HR3.out | (refine (Below.heap_setCell _ _ _ _ ?_).trans ?_; · first | exact hRS | exact hSR))
  ·have hr := HRR.out
   have hs := HSB.out
   repeat (first | with_reducible exact B3.out | (with_reducible refine Below.setCell ?_ ?_ _; rotate_left; focus (first | exact hr | exact hs)))
set_option maxRecDepth 20000 in
set_option maxHeartbeats 4000000 in
theorem shrinkT_none (want a0 a1 a2 a3 o hv : Int) (w : World) (ho : o = (top [a0, a1, a2, a3] : Int)) (hhv : hv = ([a0, a1, a2, a3] : List Int).getD (top [a0, a1, a2, a3]) 0) (hw0 : 0 < want) (hw1 : want ≤ 4611686018427387904) (hd0 : -60000000000000 ≤ hv) (hd : hv ≤ 60000000000000) (hno : hv ≤ 0) :
 Calls Tryz.prog 113 #[.int .i64 want, .agg #[.int .i64 a0, .int .i64 a1, .int .i64 a2, .int .i64 a3]] w fun e w' =>
  e = .returned (setV (-1) o want hv 1000000 want) ∧ Below w.heap.size w w' := by
 have hmx : max hv 0 = 0 := by omega
 have hn1 : decide (hv ≤ 0) = true := by simpa using hno
 have hwr : IntKind.i64.wrap want = want := by rw [IntKind.wrap_i64]; omega
 go_enter Tryz.func113, Tryz.ntmps113
 go_wp2_with fail
 refine (highest_any _ _ _ _ _).mono ?_
 rintro e w2 ⟨rfl, hb2⟩
 rw [← ho, ← hhv]
 clear ho hhv
 have R2 : w2.heap[w.heap.size + 1]? = some (setO 0 0 0 0 0 0) := block_keep (by have := heap_alloc_new (w.alloc (.cells #[.int .i64 a0, .int .i64 a1, .int .i64 a2, .int .i64 a3] 114)) (setO 0 0 0 0 0 0); simpa using this) hb2
 have B2 : Below w.heap.size w w2 := (((Below.refl _ _).alloc (Nat.le_refl _) _).alloc (by simp) _).trans (hb2.mono (by simp; omega))
 obtain ⟨R, hR⟩ : ∃ R, R = w.heap.size + 1 := ⟨_, rfl⟩
 rw [← hR] at R2 ⊢
 have HRR : Hid (w.heap.size ≤ R) := (by omega : w.heap.size ≤ R)
 have hRl : R < w2.heap.size := (Array.getElem?_eq_some_iff.1 R2).1
 have HB : Hid (w2.heap[R]? = some (setO 0 0 0 0 0 0) ∧ Below w.heap.size w w2) := ⟨R2, B2⟩
 obtain ⟨q0, q1, q2, q3, q4, q5⟩ := set_cells R2
 have fr : ∀ j, w2.frozen? ⟨R, j, none⟩ = false := fun j => frozen_of_row w2 R j _ _ R2
 clear hb2 R2 B2 hR
 have HF : Hid (((six w2 R (-1) o want hv 1000000 want).alloc (.cells #[.int .i64 (-1), .int .i64 o, .int .i64 want, .int .i64 hv, .int .i64 1000000, .int .i64 want] 174)).heap[R]? = some (setO (-1) o want hv 1000000 want) ∧ Below w.heap.size w ((six w2 R (-1) o want hv 1000000 want).alloc (.cells #[.int .i64 (-1), .int .i64 o, .int .i64 want, .int .i64 hv, .int .i64 1000000, .int .i64 want] 174))) := by
  have hs := six_heap HB.out.1 (-1) o want hv 1000000 want
  refine ⟨(Below.heap_alloc _ _ _ (Array.getElem?_eq_some_iff.1 hs).1).trans hs, ?_⟩
  have B2 := HB.out.2
  have hf : Fr w2.heap.size w w2 := ⟨B2.os, B2.tape, B2.output, B2.size, fun b hb _ => B2.block b hb⟩
  exact ((six_fr hf HRR.out (-1) o want hv 1000000 want).alloc _).toBelow B2.size (Nat.le_refl _)
 clear HB HRR
 clear hw0 hw1 hd0 hd
 go_wp2
 exact bodyPost_ret (v := setV (-1) o want hv 1000000 want) (results_cell_row rfl _ _ R 174 _ (0, 0) _ rfl HF.1 Tryz.underlying174 rfl (by kernel_rfl)) rfl ⟨rfl, HF.2⟩
set_option maxRecDepth 20000 in
set_option maxHeartbeats 4000000 in
theorem shrinkT_over (want a0 a1 a2 a3 o hv : Int) (w : World) (ho : o = (top [a0, a1, a2, a3] : Int)) (hhv : hv = ([a0, a1, a2, a3] : List Int).getD (top [a0, a1, a2, a3]) 0) (hw0 : 0 < want) (hw1 : want ≤ 4611686018427387904) (hd0 : -60000000000000 ≤ hv) (hd : hv ≤ 60000000000000) (ho0 : o = 0) (hpos : 0 < hv) (hov : hv < want) :
 Calls Tryz.prog 113 #[.int .i64 want, .agg #[.int .i64 a0, .int .i64 a1, .int .i64 a2, .int .i64 a3]] w fun e w' =>
  e = .returned (setV (-1) o want hv 1000000 (want - hv)) ∧ Below w.heap.size w w' := by
 have hmx : max hv 0 = hv := by omega
 have hn1 : decide (hv ≤ 0) = false := by simpa using hpos
 have hn0 : ¬ hv ≤ 0 := by omega
 have hwr : IntKind.i64.wrap (want - hv) = want - hv := by rw [IntKind.wrap_i64]; omega
 go_enter Tryz.func113, Tryz.ntmps113
 go_wp2_with fail
 refine (highest_any _ _ _ _ _).mono ?_
 rintro e w2 ⟨rfl, hb2⟩
 rw [← ho, ← hhv]
 clear ho hhv
 have R2 : w2.heap[w.heap.size + 1]? = some (setO 0 0 0 0 0 0) := block_keep (by have := heap_alloc_new (w.alloc (.cells #[.int .i64 a0, .int .i64 a1, .int .i64 a2, .int .i64 a3] 114)) (setO 0 0 0 0 0 0); simpa using this) hb2
 have B2 : Below w.heap.size w w2 := (((Below.refl _ _).alloc (Nat.le_refl _) _).alloc (by simp) _).trans (hb2.mono (by simp; omega))
 obtain ⟨R, hR⟩ : ∃ R, R = w.heap.size + 1 := ⟨_, rfl⟩
 rw [← hR] at R2 ⊢
 have HRR : Hid (w.heap.size ≤ R) := (by omega : w.heap.size ≤ R)
 have hRl : R < w2.heap.size := (Array.getElem?_eq_some_iff.1 R2).1
 have HB : Hid (w2.heap[R]? = some (setO 0 0 0 0 0 0) ∧ Below w.heap.size w w2) := ⟨R2, B2⟩
 obtain ⟨q0, q1, q2, q3, q4, q5⟩ := set_cells R2
 have fr : ∀ j, w2.frozen? ⟨R, j, none⟩ = false := fun j => frozen_of_row w2 R j _ _ R2
 clear hb2 R2 B2 hR
 subst ho0
 have HF : Hid (((six w2 R (-1) 0 want hv 1000000 (want - hv)).alloc (.cells #[.int .i64 (-1), .int .i64 0, .int .i64 want, .int .i64 hv, .int .i64 1000000, .int .i64 (want - hv)] 174)).heap[R]? = some (setO (-1) 0 want hv 1000000 (want - hv)) ∧ Below w.heap.size w ((six w2 R (-1) 0 want hv 1000000 (want - hv)).alloc (.cells #[.int .i64 (-1), .int .i64 0, .int .i64 want, .int .i64 hv, .int .i64 1000000, .int .i64 (want - hv)] 174))) := by
  have hs := six_heap HB.out.1 (-1) 0 want hv 1000000 (want - hv)
  refine ⟨(Below.heap_alloc _ _ _ (Array.getElem?_eq_some_iff.1 hs).1).trans hs, ?_⟩
  have B2 := HB.out.2
  have hf : Fr w2.heap.size w w2 := ⟨B2.os, B2.tape, B2.output, B2.size, fun b hb _ => B2.block b hb⟩
  exact ((six_fr hf HRR.out (-1) 0 want hv 1000000 (want - hv)).alloc _).toBelow B2.size (Nat.le_refl _)
 clear HB HRR hw0 hw1 hd0 hd
 go_wp2
 exact bodyPost_ret (v := setV (-1) 0 want hv 1000000 (want - hv)) (results_cell_row rfl _ _ R 174 _ (0, 0) _ rfl HF.1 Tryz.underlying174 rfl (by kernel_rfl)) rfl ⟨rfl, HF.2⟩
set_option maxRecDepth 20000 in
set_option maxHeartbeats 4000000 in
theorem shrinkT_high (want a0 a1 a2 a3 o hv : Int) (w : World) (ho : o = (top [a0, a1, a2, a3] : Int)) (hhv : hv = ([a0, a1, a2, a3] : List Int).getD (top [a0, a1, a2, a3]) 0) (hw0 : 0 < want) (hw1 : want ≤ 4611686018427387904) (hd0 : -60000000000000 ≤ hv) (hd : hv ≤ 60000000000000) (hpos : 0 < hv) (hoh : 0 < o) (bd : Int) (hbd : bd = (if 0 < o then 0 else badV want hv)) :
 Calls Tryz.prog 113 #[.int .i64 want, .agg #[.int .i64 a0, .int .i64 a1, .int .i64 a2, .int .i64 a3]] w fun e w' =>
  e = .returned (setV (-1) o want hv bd 0) ∧ Below w.heap.size w w' := by
 have hn0 : ¬ hv ≤ 0 := by omega
 have hn1 : decide (hv ≤ 0) = false := by simpa using hpos
 have hn2 : (o == 0) = false := by simp; omega
 have hn3 : ¬ o = 0 := by omega
 have HBD := hidW hbd
 clear hbd
 go_enter Tryz.func113, Tryz.ntmps113
 go_wp2_with fail
 refine (highest_any _ _ _ _ _).mono ?_
 rintro e w2 ⟨rfl, hb2⟩
 rw [← ho, ← hhv]
 clear ho hhv
 have R2 : w2.heap[w.heap.size + 1]? = some (setO 0 0 0 0 0 0) := block_keep (by have := heap_alloc_new (w.alloc (.cells #[.int .i64 a0, .int .i64 a1, .int .i64 a2, .int .i64 a3] 114)) (setO 0 0 0 0 0 0); simpa using this) hb2
 have B2 : Below w.heap.size w w2 := (((Below.refl _ _).alloc (Nat.le_refl _) _).alloc (by simp) _).trans (hb2.mono (by simp; omega))
 obtain ⟨R, hR⟩ : ∃ R, R = w.heap.size + 1 := ⟨_, rfl⟩
 rw [← hR] at R2 ⊢
 have HRR : Hid (w.heap.size ≤ R) := (by omega : w.heap.size ≤ R)
 have hRl : R < w2.heap.size := (Array.getElem?_eq_some_iff.1 R2).1
 have HB : Hid (w2.heap[R]? = some (setO 0 0 0 0 0 0) ∧ Below w.heap.size w w2) := ⟨R2, B2⟩
 obtain ⟨q0, q1, q2, q3, q4, q5⟩ := set_cells R2
 have fr : ∀ j, w2.frozen? ⟨R, j, none⟩ = false := fun j => frozen_of_row w2 R j _ _ R2
 clear hb2 R2 B2 hR
 have HW : Hid (want ≤ 9223372036854775807 ∧ hv ≤ 9223372036854775807) := ⟨by omega, by omega⟩
 clear hw0 hw1 hd0 hd
 go_wp2_with fail
 refine (boundBad_any _ _ _ _ _ _ _ HW.1 HW.2).mono ?_
 rintro e w3 ⟨rfl, hb3⟩
 rw [← show bd = _ from HBD.out]
 obtain ⟨S, hS⟩ : ∃ S, S = w2.heap.size := ⟨_, rfl⟩
 have S3 : w3.heap[w2.heap.size]? = some (setO (-1) o want hv 0 0) := block_keep (heap_alloc_new w2 _) hb3
 have R3 : w3.heap[R]? = some (setO 0 0 0 0 0 0) := block_keep ((Below.heap_alloc _ _ _ hRl).trans HB.1) hb3
 have B3 : Hid (Below w.heap.size w w3) := hidW ((HB.2.alloc HB.2.size _).trans (hb3.mono (by have := HB.2.size; simp; omega)))
 rw [← hS] at S3 ⊢
 have hSR : S ≠ R := by omega
 have HSB : Hid (w.heap.size ≤ S) := hidW (by have := HB.2.size; omega)
 have hRl3 : R < w3.heap.size := (Array.getElem?_eq_some_iff.1 R3).1
 have hSl3 : S < w3.heap.size := (Array.getElem?_eq_some_iff.1 S3).1
 have HR3 := hidW R3
 have HS3 := hidW S3
 clear q0 q1 q2 q3 q4 q5 fr hRl
 obtain ⟨q0, q1, q2, q3, q4, q5⟩ := set_cells R3
 obtain ⟨s0, s1, s2, s3, s4, s5⟩ := set_cells S3
 have fr : ∀ j, w3.frozen? ⟨R, j, none⟩ = false := fun j => frozen_of_row w3 R j _ _ R3
 have fs : ∀ j, w3.frozen? ⟨S, j, none⟩ = false := fun j => frozen_of_row w3 S j _ _ S3
 have hRS : R ≠ S := Ne.symm hSR
 clear hb3 R3 S3 HB hS
 go_wp2
 refine bodyPost_ret (v := setV (-1) o want hv bd 0) (results_cell_row rfl _ _ R 174 _ (0, 0) _ rfl (six_heap (a0 := 0) (b0 := 0) (c0 := 0) (d0 := 0) (e0 := 0) (f0 := 0) ?hh (-1) o want hv bd 0) Tryz.underlying174 rfl (by kernel_rfl)) rfl ⟨rfl, ?_⟩
 case hh =>
  repeat (first | with_reducible exact HR3.out | (refine (Below.heap_setCell _ _ _ _ ?_).trans ?_; · first | exact hRS | exact hSR))
 ·have hr := HRR.out
  have hs := HSB.out
  repeat (first | with_reducible exact B3.out | (with_reducible refine Below.setCell ?_ ?_ _; rotate_left; focus (first | exact hr | exact hs)))
set_option maxRecDepth 20000 in
set_option maxHeartbeats 4000000 in
theorem shrinkT_zero (want a0 a1 a2 a3 o hv : Int) (w : World) (ho : o = (top [a0, a1, a2, a3] : Int)) (hhv : hv = ([a0, a1, a2, a3] : List Int).getD (top [a0, a1, a2, a3]) 0) (hw0 : 0 < want) (hw1 : want ≤ 4611686018427387904) (hd0 : -60000000000000 ≤ hv) (hd : hv ≤ 60000000000000) (hpos : 0 < hv) (ho0 : o = 0) (hge : want ≤ hv) (bd : Int) (hbd : bd = (if 0 < o then 0 else badV want hv)) :
 Calls Tryz.prog 113 #[.int .i64 want, .agg #[.int .i64 a0, .int .i64 a1, .int .i64 a2, .int .i64 a3]] w fun e w' =>
  e = .returned (setV (-1) o want hv bd 0) ∧ Below w.heap.size w w' := by
 have hn0 : ¬ hv ≤ 0 := by omega
 have hn1 : decide (hv ≤ 0) = false := by simpa using hpos
 have hn4 : ¬ hv < want := by omega
 have hn5 : decide (hv < want) = false := by simpa using hge
 have HBD := hidW hbd
 clear hbd
 go_enter Tryz.func113, Tryz.ntmps113
 go_wp2_with fail
 refine (highest_any _ _ _ _ _).mono ?_
 rintro e w2 ⟨rfl, hb2⟩
 rw [← ho, ← hhv]
 clear ho hhv
 have R2 : w2.heap[w.heap.size + 1]? = some (setO 0 0 0 0 0 0) := block_keep (by have := heap_alloc_new (w.alloc (.cells #[.int .i64 a0, .int .i64 a1, .int .i64 a2, .int .i64 a3] 114)) (setO 0 0 0 0 0 0); simpa using this) hb2
 have B2 : Below w.heap.size w w2 := (((Below.refl _ _).alloc (Nat.le_refl _) _).alloc (by simp) _).trans (hb2.mono (by simp; omega))
 obtain ⟨R, hR⟩ : ∃ R, R = w.heap.size + 1 := ⟨_, rfl⟩
 rw [← hR] at R2 ⊢
 have HRR : Hid (w.heap.size ≤ R) := (by omega : w.heap.size ≤ R)
 have hRl : R < w2.heap.size := (Array.getElem?_eq_some_iff.1 R2).1
 have HB : Hid (w2.heap[R]? = some (setO 0 0 0 0 0 0) ∧ Below w.heap.size w w2) := ⟨R2, B2⟩
 obtain ⟨q0, q1, q2, q3, q4, q5⟩ := set_cells R2
 have fr : ∀ j, w2.frozen? ⟨R, j, none⟩ = false := fun j => frozen_of_row w2 R j _ _ R2
 clear hb2 R2 B2 hR
 subst ho0
 have HW : Hid (want ≤ 9223372036854775807 ∧ hv ≤ 9223372036854775807) := ⟨by omega, by omega⟩
 clear hw0 hw1 hd0 hd
 go_wp2_with fail
 refine (boundBad_any _ _ _ _ _ _ _ HW.1 HW.2).mono ?_
 rintro e w3 ⟨rfl, hb3⟩
 rw [← show bd = _ from HBD.out]
 obtain ⟨S, hS⟩ : ∃ S, S = w2.heap.size := ⟨_, rfl⟩
 have S3 : w3.heap[w2.heap.size]? = some (setO (-1) 0 want hv 0 0) := block_keep (heap_alloc_new w2 _) hb3
 have R3 : w3.heap[R]? = some (setO 0 0 0 0 0 0) := block_keep ((Below.heap_alloc _ _ _ hRl).trans HB.1) hb3
 have B3 : Hid (Below w.heap.size w w3) := hidW ((HB.2.alloc HB.2.size _).trans (hb3.mono (by have := HB.2.size; simp; omega)))
 rw [← hS] at S3 ⊢
 have hSR : S ≠ R := by omega
 have HSB : Hid (w.heap.size ≤ S) := hidW (by have := HB.2.size; omega)
 have hRl3 : R < w3.heap.size := (Array.getElem?_eq_some_iff.1 R3).1
 have hSl3 : S < w3.heap.size := (Array.getElem?_eq_some_iff.1 S3).1
 have HR3 := hidW R3
 have HS3 := hidW S3
 clear q0 q1 q2 q3 q4 q5 fr hRl
 obtain ⟨q0, q1, q2, q3, q4, q5⟩ := set_cells R3
 obtain ⟨s0, s1, s2, s3, s4, s5⟩ := set_cells S3
 have fr : ∀ j, w3.frozen? ⟨R, j, none⟩ = false := fun j => frozen_of_row w3 R j _ _ R3
 have fs : ∀ j, w3.frozen? ⟨S, j, none⟩ = false := fun j => frozen_of_row w3 S j _ _ S3
 have hRS : R ≠ S := Ne.symm hSR
 clear hb3 R3 S3 HB hS
 go_wp2
 refine bodyPost_ret (v := setV (-1) 0 want hv bd 0) (results_cell_row rfl _ _ R 174 _ (0, 0) _ rfl (six_heap (a0 := 0) (b0 := 0) (c0 := 0) (d0 := 0) (e0 := 0) (f0 := 0) ?hh (-1) 0 want hv bd 0) Tryz.underlying174 rfl (by kernel_rfl)) rfl ⟨rfl, ?_⟩
 case hh =>
  repeat (first | with_reducible exact HR3.out | (refine (Below.heap_setCell _ _ _ _ ?_).trans ?_; · first | exact hRS | exact hSR))
 ·have hr := HRR.out
  have hs := HSB.out
  repeat (first | with_reducible exact B3.out | (with_reducible refine Below.setCell ?_ ?_ _; rotate_left; focus (first | exact hr | exact hs)))
end Go.Proofs.YtlohbaoigfaneaaGreat.Shr
