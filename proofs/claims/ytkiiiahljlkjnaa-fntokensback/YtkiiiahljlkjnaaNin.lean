/-
  The program's Next.
-/
import Derived.Test.YtkiiiahljlkjnaaNxi
namespace Go.Proofs.Ytkiiiahljlkjnaa
open Go.RowKit
set_option linter.unusedVariables false
set_option linter.unusedSimpArgs false

set_option maxRecDepth 100000 in
set_option maxHeartbeats 4000000 in
theorem implNext_any {v : Value} {zs : List Int} {s : ByteArray} {a st : Int} {w : World} (h : Row w v zs) :
    Calls Try.prog 13 #[v, .string s, .int .i64 a, .int .i64 st] w fun e w' => e = .returned (scV (nextS zs s a st)) ∧ Below w.heap.size w w' := by
  obtain ⟨x, hx⟩ : ∃ x, nextS zs s a st = x := ⟨_, rfl⟩
  rw [hx]
  have HX := hideP hx
  clear hx
  have hm : Try.prog.follows .mixedOrders = true := by kernel_rfl
  by_cases hok : catsB zs = true ∧ s.size ≤ 65536 ∧ 0 ≤ a ∧ a ≤ s.size ∧ 0 ≤ st ∧ st ≤ 2
  · obtain ⟨k1, k2, k3, k4, k5, k6⟩ := hok
    obtain ⟨p, rfl⟩ : ∃ p : Nat, a = (p : Int) := ⟨a.toNat, by omega⟩
    have hzl := catsB_256 k1
    have CN : Hid (∀ W, Below w.heap.size w W → Calls Try.prog 28 #[v, .string s, .int .i64 (p : Int), .int .i64 st] W fun e w' => ∃ g t, e = .returned (.tuple #[.pointer (some ⟨g, 0, none⟩), .bool true]) ∧ Rdr w' g t W.heap.size zs s (p : Int) st ∧ Below W.heap.size W w') := hideP (fun W hW => newReader_yes (h.below hW) k1 k2 k3 k4 k5 k6)
    have HX2 : Hid (x = nxt zs s p st) := hideP (by
      rw [← HX.out]
      unfold nextS
      rw [if_pos ⟨k1, k2, k3, k4, k5, k6⟩]
      rfl)
    obtain ⟨ao, n, cap, rfl, _, _⟩ := h
    have HP := hideP (show p ≤ s.size by omega)
    have HK2 := hideP k2
    have HZ := hideP hzl
    clear k1 k2 k3 k4 k5 k6 HX hzl
    go_enter Try.func13, Try.ntmps13
    go_wp2_with fail
    refine (CN.out _ (below1 _ _)).mono ?_
    rintro e w1 ⟨g, t, rfl, hR, hb1⟩
    have hlg := hR.lg
    have hgi := hR.inn
    have B1 := hideP ((below1 w (.cells #[.int .i64 0, .int .i64 0, .int .i64 0, .string ByteArray.empty, .int .i64 0, .int .i64 0] 36)).trans (hb1.mono (by simp)))
    have NX := hideP (callsIn_wide.1 (next_in hR HP.out HZ.out HK2.out))
    rw [← HX2.out] at NX
    have q36 : w1.heap[w.heap.size]? = some (.cells #[.int .i64 0, .int .i64 0, .int .i64 0, .string ByteArray.empty, .int .i64 0, .int .i64 0] 36 (0, 0)) := (hb1.block _ (by simp)).trans (World.alloc_heap_new w _)
    have hw1 : w.heap.size < w1.heap.size := (Array.getElem?_eq_some_iff.1 q36).1
    have hlg2 : w.heap.size < g := by simp at hlg; omega
    clear hR hb1 hlg
    obtain ⟨xk, xc, xh, xn, xa, xs⟩ := x
    simp only [scV, tkV] at NX ⊢
    have HXX := hideP HX2.out
    clear HX2
    go_wp2_with fail
    refine NX.out.mono ?_
    rintro e w2 ⟨rfl, hR2, hg2⟩
    have Q36 := (hg2.block _ hw1 (by omega)).trans q36
    have c2 := hR2.c2
    have c3 := hR2.c3
    have hgi2 := hR2.inn
    have hw2 : w.heap.size < w2.heap.size := Nat.lt_of_lt_of_le hw1 hg2.size
    have r0 : w2.cell? ⟨w.heap.size, 0, none⟩ = some (.int .i64 0) := by simp [World.cell?, Q36]
    have r1 : w2.cell? ⟨w.heap.size, 1, none⟩ = some (.int .i64 0) := by simp [World.cell?, Q36]
    have r2 : w2.cell? ⟨w.heap.size, 2, none⟩ = some (.int .i64 0) := by simp [World.cell?, Q36]
    have r3 : w2.cell? ⟨w.heap.size, 3, none⟩ = some (.string ByteArray.empty) := by simp [World.cell?, Q36]
    have r4 : w2.cell? ⟨w.heap.size, 4, none⟩ = some (.int .i64 0) := by simp [World.cell?, Q36]
    have r5 : w2.cell? ⟨w.heap.size, 5, none⟩ = some (.int .i64 0) := by simp [World.cell?, Q36]
    have g0 : w2.frozen? ⟨w.heap.size, 0, none⟩ = false := frozen_of_row w2 _ 0 _ _ Q36
    have g1 : w2.frozen? ⟨w.heap.size, 1, none⟩ = false := frozen_of_row w2 _ 1 _ _ Q36
    have g2 : w2.frozen? ⟨w.heap.size, 2, none⟩ = false := frozen_of_row w2 _ 2 _ _ Q36
    have g3 : w2.frozen? ⟨w.heap.size, 3, none⟩ = false := frozen_of_row w2 _ 3 _ _ Q36
    have g4 : w2.frozen? ⟨w.heap.size, 4, none⟩ = false := frozen_of_row w2 _ 4 _ _ Q36
    have g5 : w2.frozen? ⟨w.heap.size, 5, none⟩ = false := frozen_of_row w2 _ 5 _ _ Q36
    have B2 : Hid (Below w.heap.size w w2) := hideP (B1.out.trans (hg2.to_below (B' := w.heap.size) (by omega) (by omega)))
    have i1 : ¬ g = w2.heap.size := by omega
    have i2 : ¬ w.heap.size = w2.heap.size := by omega
    clear hR2 hg2 q36 Q36 NX CN
    go_wp2
    go_region
    go_wp2
    refine bodyPost_ret (v := .agg #[.int .i64 xk, .int .i64 xc, .int .i64 xh, .string xn, .int .i64 xa, .int .i64 xs]) (by simp [results, Try.results13, go_sem, r0, r1, r2, r3, r4, r5, i2, hw2]) rfl ⟨rfl, ?_⟩
    have hB2 := B2.out
    repeat (first | with_reducible exact hB2 | with_reducible refine Below.drew ?_ | (with_reducible refine Below.setCell ?_ ?_ _; rotate_left; focus (first | (simp; done) | (simp; omega))) | (with_reducible refine Below.alloc ?_ ?_ _; rotate_left; focus (first | (simp; done) | (simp; omega))))
  · have HX2 : Hid (x = ⟨3, 0, 0, ByteArray.empty, 0, 0⟩) := hideP (by
      rw [← HX.out]
      unfold nextS
      rw [if_neg hok])
    have CN : Hid (∀ W, Below w.heap.size w W → Calls Try.prog 28 #[v, .string s, .int .i64 a, .int .i64 st] W fun e w' => e = .returned (.tuple #[.pointer none, .bool false]) ∧ Below W.heap.size W w') := hideP (fun W hW => newReader_no (h.below hW) hok)
    obtain ⟨ao, n, cap, rfl, _, _⟩ := h
    rw [HX2.out]
    clear HX HX2 hok
    go_enter Try.func13, Try.ntmps13
    go_wp2_with fail
    refine (CN.out _ (below1 _ _)).mono ?_
    rintro e w1 ⟨rfl, hb1⟩
    have q36 : w1.heap[w.heap.size]? = some (.cells #[.int .i64 0, .int .i64 0, .int .i64 0, .string ByteArray.empty, .int .i64 0, .int .i64 0] 36 (0, 0)) := (hb1.block _ (by simp)).trans (World.alloc_heap_new w _)
    have B1 := hideP ((below1 w (.cells #[.int .i64 0, .int .i64 0, .int .i64 0, .string ByteArray.empty, .int .i64 0, .int .i64 0] 36)).trans (hb1.mono (by simp)))
    have r0 : w1.cell? ⟨w.heap.size, 0, none⟩ = some (.int .i64 0) := by simp [World.cell?, q36]
    have r1 : w1.cell? ⟨w.heap.size, 1, none⟩ = some (.int .i64 0) := by simp [World.cell?, q36]
    have r2 : w1.cell? ⟨w.heap.size, 2, none⟩ = some (.int .i64 0) := by simp [World.cell?, q36]
    have r3 : w1.cell? ⟨w.heap.size, 3, none⟩ = some (.string ByteArray.empty) := by simp [World.cell?, q36]
    have r4 : w1.cell? ⟨w.heap.size, 4, none⟩ = some (.int .i64 0) := by simp [World.cell?, q36]
    have r5 : w1.cell? ⟨w.heap.size, 5, none⟩ = some (.int .i64 0) := by simp [World.cell?, q36]
    have g0 : w1.frozen? ⟨w.heap.size, 0, none⟩ = false := frozen_of_row w1 _ 0 _ _ q36
    have g1 : w1.frozen? ⟨w.heap.size, 1, none⟩ = false := frozen_of_row w1 _ 1 _ _ q36
    have g2 : w1.frozen? ⟨w.heap.size, 2, none⟩ = false := frozen_of_row w1 _ 2 _ _ q36
    have g3 : w1.frozen? ⟨w.heap.size, 3, none⟩ = false := frozen_of_row w1 _ 3 _ _ q36
    have g4 : w1.frozen? ⟨w.heap.size, 4, none⟩ = false := frozen_of_row w1 _ 4 _ _ q36
    have g5 : w1.frozen? ⟨w.heap.size, 5, none⟩ = false := frozen_of_row w1 _ 5 _ _ q36
    clear q36 hb1 CN
    go_wp2
    refine bodyPost_ret (v := scV ⟨3, 0, 0, ByteArray.empty, 0, 0⟩) (by simp [results, Try.results13, go_sem, scV, r0, r1, r2, r3, r4, r5]; try rfl) rfl ⟨rfl, ?_⟩
    have hB2 := B1.out
    repeat (first | with_reducible exact hB2 | with_reducible refine Below.drew ?_ | (with_reducible refine Below.setCell ?_ ?_ _; rotate_left; focus (first | (simp; done) | (simp; omega))) | (with_reducible refine Below.alloc ?_ ?_ _; rotate_left; focus (first | (simp; done) | (simp; omega))))
end Go.Proofs.Ytkiiiahljlkjnaa
