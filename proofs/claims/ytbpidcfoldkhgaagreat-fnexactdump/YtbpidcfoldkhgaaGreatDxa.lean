import Derived.Test.YtbpidcfoldkhgaaGreatDwd
import Derived.Test.YtbpidcfoldkhgaaGreatEok
namespace Go.Proofs.YtbpidcfoldkhgaaGreat
open Go.RowKit
set_option linter.unusedVariables false
set_option linter.unusedSimpArgs false
theorem alt_below {B D : Nat} {W X : World} (h : Alt D W X) (hB : B ≤ D) : Below B W X := ⟨h.os, h.tape, h.output, Nat.le_of_eq h.size.symm, fun k hk => h.block k (by omega)⟩
set_option maxRecDepth 20000 in
set_option maxHeartbeats 4000000 in
theorem hasBytes_any {v : Value} {xs : List Lv} {w : World} (h : LRow 0 w v xs) (hs : SmE xs) :
 Calls Tryz.prog 25 #[.agg #[v]] w fun e W' => e = .returned (.bool (decide (xs.length = 1) && envB xs)) ∧ Below w.heap.size w W' := by
 have EC : Hid (∀ W, Below w.heap.size w W → Calls Tryz.prog 36 #[.agg #[v]] W fun e w' => e = .returned (.bool (envB xs)) ∧ Below W.heap.size W w') := hideP (fun W hW => implEnvOk_any (SRow.below lvStable h hW) hs)
 obtain ⟨ao, n, cap, rfl, hn, hr⟩ := h
 have HN := hideP hn
 obtain ⟨eb, heb⟩ : ∃ b, b = envB xs := ⟨_, rfl⟩
 rw [← heb] at EC ⊢
 rw [hn]
 clear hr hn heb hs
 by_cases h1 : n = 1
 ·subst h1
  go_enter Tryz.func25, Tryz.ntmps25
  go_wp2_with fail
  refine (EC.out _ (below1 _ _)).mono ?_
  rintro e w1 ⟨rfl, hb1⟩
  have B1 : Hid (Below w.heap.size w w1) := hideP ((below1 _ _).trans (hb1.mono (by simp)))
  clear hb1
  go_wp2
  go_ret
  exact ⟨by simp, B1.out⟩
 ·have h2 : ¬ (n : Int) = 1 := by omega
  have h3 : ((n : Int) == 1) = false := by simp [h2]
  go_enter Tryz.func25, Tryz.ntmps25
  go_wp2
  go_ret
  exact ⟨by simp [h1], below1 _ _⟩
set_option maxRecDepth 20000 in
set_option maxHeartbeats 4000000 in
theorem seal_any {W : World} {D : Nat} {N : Nat} {S a : Int} {pv : Value} (hf : Fiv W D a N S pv) (hs : 0 ≤ S ∧ S < 65521) (hn : N ≤ 70368744177664) :
 Calls Tryz.prog 49 #[.pointer (some ⟨D, 2, none⟩)] W fun e W' => e = .returned (.agg #[.int .u8 (((N : Int) + S) % 65521 % 256), .int .u8 (((N : Int) + S) % 65521 / 256)]) ∧ Below W.heap.size W W' := by
 have hD : D < W.heap.size := (Array.getElem?_eq_some_iff.1 hf).1
 obtain ⟨c0, c2, c3, c4⟩ := hf.cells
 obtain ⟨s0, s1⟩ := hs
 have hn2 : (N : Int) ≤ 70368744177664 := by omega
 have k2 : (W.alloc (.cells #[.int .u8 0, .int .u8 0] 100)).cell? ⟨D, 2, none⟩ = some (.int .i64 N) := (World.cell?_of_block (w := W) (a := ⟨D, 2, none⟩) (heap_alloc_old W _ hD)).trans c2
 have k3 : (W.alloc (.cells #[.int .u8 0, .int .u8 0] 100)).cell? ⟨D, 3, none⟩ = some (.int .i64 S) := (World.cell?_of_block (w := W) (a := ⟨D, 3, none⟩) (heap_alloc_old W _ hD)).trans c3
 obtain ⟨t, ht⟩ : ∃ t, ((N : Int) + S) % 65521 = t := ⟨_, rfl⟩
 have t0 : 0 ≤ t := by omega
 have t1 : t < 65521 := by omega
 have hsh : t >>> 8 = t / 256 := by rw [Int.shiftRight_eq_div_pow]; norm_cast
 have hw1 : IntKind.u8.wrap t = t % 256 := by rw [IntKind.wrap_u8]
 have hw2 : IntKind.u8.wrap (t / 256) = t / 256 := by rw [IntKind.wrap_u8]; omega
 have HT := hideP ht
 rw [ht]
 clear hf c0 c4
 go_enter Tryz.func49, Tryz.ntmps49
 go_wp2
 go_region
 go_wp2
 refine bodyPost_ret (v := .agg #[.int .u8 (t % 256), .int .u8 (t / 256)]) (by simp [results, Tryz.results49, go_sem]) rfl ⟨rfl, Below.drew (below1 _ _)⟩
end Go.Proofs.YtbpidcfoldkhgaaGreat
