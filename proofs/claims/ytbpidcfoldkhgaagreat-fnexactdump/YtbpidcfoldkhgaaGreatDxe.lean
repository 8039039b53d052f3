import Derived.Test.YtbpidcfoldkhgaaGreatDxc
namespace Go.Proofs.YtbpidcfoldkhgaaGreat
open Go.RowKit
set_option linter.unusedVariables false
set_option linter.unusedSimpArgs false
set_option maxRecDepth 20000 in
set_option maxHeartbeats 4000000 in
theorem eqBytes_same {W : World} {b1 b2 : Nat} {u v : Value} {zs : List Int} (h : BO b1 W u zs) (g : BO b2 W v zs) (hl : zs.length ≤ 70368744177664) :
 Calls Tryz.prog 9 #[u, v] W fun e W' => e = .returned (.bool true) ∧ Below W.heap.size W W' := by
 have HU := hideP h
 have HV := hideP g
 obtain ⟨ua, uc, rfl⟩ := h.shape
 obtain ⟨va, vc, rfl⟩ := g.shape
 obtain ⟨n, hn⟩ : ∃ n, n = zs.length := ⟨_, rfl⟩
 have HN := hideP hn
 have hn2 : (n : Int) ≤ 70368744177664 := by omega
 have CX : Hid (∀ k, k < n → ∃ p q, ua = some ⟨p, 0, none⟩ ∧ va = some ⟨q, 0, none⟩ ∧ ∀ X, Below W.heap.size W X → X.cell? ⟨p, k, none⟩ = some (.int .u8 (zs.getD k 0)) ∧ X.cell? ⟨q, k, none⟩ = some (.int .u8 (zs.getD k 0))) := hideP (fun k hk => by
  obtain ⟨p, c, e, hp1, hp2⟩ := BO.at HU.out (k := k) (by omega)
  obtain ⟨q, d, e', hq1, hq2⟩ := BO.at HV.out (k := k) (by omega)
  simp only [Value.slice.injEq] at e e'
  exact ⟨p, q, e.1, e'.1, fun X hX => ⟨(hX.cell (p := ⟨p, k, none⟩) hp1).trans hp2, (hX.cell (p := ⟨q, k, none⟩) hq1).trans hq2⟩⟩)
 rw [← hn]
 clear h g hl hn
 go_enter Tryz.func9, Tryz.ntmps9
 go_wp2
 go_loopw [5] (fun s5 wr => ∃ k : Nat, s5 = .int .i64 (k : Int) ∧ k ≤ n ∧ Below W.heap.size W wr) (fun s _ => n - (intOf s).toNat)
 case atStart => exact ⟨0, rfl, by omega, Below.refl _ _⟩
 case round =>
  obtain ⟨k, rfl, hkn, hB⟩ := hrel
  by_cases hk : k < n
  ·have hki : (k : Int) < (n : Int) := by omega
   obtain ⟨p, q, rfl, rfl, hcc⟩ := CX.out k hk
   obtain ⟨c0, c1⟩ := hcc wr hB
   obtain ⟨z, hz⟩ : ∃ z, z = zs.getD k 0 := ⟨_, rfl⟩
   rw [← hz] at c0 c1
   have HB := hideP hB
   clear hz hB hcc
   go_wp2
   go_region
   go_wp2
   go_roundw
   case rel => exact ⟨k + 1, by simp, by omega, Below.drew HB.out⟩
   case measure => simp [intOf]; omega
  ·obtain rfl : k = n := by omega
   have hki : ¬ (k : Int) < (k : Int) := by omega
   go_wp2
   go_ret
   exact ⟨rfl, hB⟩
def bmk (k n : Nat) : List Int := (List.range n).map (fun i : Nat => ((k : Int) + (i : Int)) % 256)
theorem bmk_len (k n : Nat) : (bmk k n).length = n := by simp [bmk]
theorem bmk_get {k n i : Nat} (h : i < n) : (bmk k n).getD i 0 = ((k : Int) + i) % 256 := by
 unfold bmk
 rw [List.getD_eq_getElem?_getD, List.getElem?_map, List.getElem?_range h]
 rfl
theorem bo_set {base g n c k : Nat} {w : World} {ys : List Int} {x : Int} (h : BO base w (.slice (some ⟨g, 0, none⟩) n c) ys) (hn : ys.length = n) (hk : k < n) : BO base (w.setCell ⟨g, k, none⟩ (.int .u8 x)) (.slice (some ⟨g, 0, none⟩) n c) (ys.set k x) := by
 rcases h with ⟨hl, h0 | ⟨g', cap, cur, e, hg0, hb, hnc, hcm, hcs, ht⟩⟩
 ·cases h0.1
 ·simp only [Value.slice.injEq, Option.some.injEq, Addr.mk.injEq, and_true] at e
  obtain ⟨rfl, rfl, rfl⟩ := e
  unfold BO
  rw [List.length_set]
  refine ⟨by simp, .inr ⟨g, c, cur.setIfInBounds k (.int .u8 x), by rw [hn], hg0, ?_, by omega, hcm, by simpa using hcs, ?_⟩⟩
  ·simp [World.setCell, Array.getElem?_modify, hb]
  ·rw [Array.toList_setIfInBounds, List.map_set, ← ht, List.take_set]
theorem bo_frozen {base g n c k : Nat} {w : World} {ys : List Int} (h : BO base w (.slice (some ⟨g, 0, none⟩) n c) ys) : w.frozen? ⟨g, k, none⟩ = false := by
 rcases h with ⟨hl, h0 | ⟨g', cap, cur, e, hg0, hb, _⟩⟩
 ·cases h0.1
 ·simp only [Value.slice.injEq, Option.some.injEq, Addr.mk.injEq, and_true] at e
  obtain ⟨rfl, _⟩ := e
  simp [World.frozen?, hb]
set_option maxRecDepth 20000 in
set_option maxHeartbeats 4000000 in
theorem markBytes_any {W : World} {base : Nat} {v : Value} {zs : List Int} (h : BO base W v zs) (hl : zs.length ≤ 70368744177664) :
 Calls Tryz.prog 12 #[v, .int .i64 1] W fun e W' => e = .returned (.int .i64 ((zs.length : Int) + 1)) ∧ BO base W' v (bmk 1 zs.length) ∧ W.grownBy W' v.ownBlock := by
 obtain ⟨ao, cap, rfl⟩ := h.shape
 obtain ⟨n, hn⟩ : ∃ n, n = zs.length := ⟨_, rfl⟩
 have hn2 : (n : Int) ≤ 70368744177664 := by omega
 rw [← hn]
 have HZ : Hid (BO base W (.slice ao n cap) zs ∧ zs.length = n) := hideP ⟨by rw [hn]; exact h, hn.symm⟩
 have SH : Hid (0 < n → ∃ g, ao = some ⟨g, 0, none⟩) := hideP (fun h0 => by
  obtain ⟨g, c, e, _⟩ := BO.at h (k := 0) (by omega)
  simp only [Value.slice.injEq] at e
  exact ⟨g, e.1⟩)
 clear h hl hn
 go_enter Tryz.func12, Tryz.ntmps12
 go_wp2
 go_loopw [1, 5] (fun s1 s5 wr => ∃ (k : Nat) (ys : List Int), s5 = .int .i64 (k : Int) ∧ s1 = .int .i64 ((k : Int) + 1) ∧ k ≤ n ∧ (BO base wr (.slice ao n cap) ys ∧ ys.length = n ∧ ∀ j, j < k → ys.getD j 0 = (((1 : Nat) : Int) + j) % 256) ∧ W.grownBy wr (Value.slice ao n cap).ownBlock) (fun _ s _ => n - (intOf s).toNat)
 case atStart => exact ⟨0, zs, rfl, rfl, by omega, ⟨HZ.out.1, HZ.out.2, fun j hj => by omega⟩, World.grownBy.refl _ _⟩
 case round =>
  obtain ⟨k, ys, rfl, rfl, hkn, ⟨hb, hy, hm⟩, hg⟩ := hrel
  by_cases hk : k < n
  ·have hki : (k : Int) < (n : Int) := by omega
   obtain ⟨g, rfl⟩ := SH.out (by omega)
   obtain ⟨g', c, e, hp1, hp2⟩ := BO.at hb (k := k) (by omega)
   simp only [Value.slice.injEq, Option.some.injEq, Addr.mk.injEq, and_true] at e
   obtain ⟨rfl, _⟩ := e
   have hfz := bo_frozen (k := k) hb
   have hw : IntKind.u8.wrap ((k : Int) + 1) = ((k : Int) + 1) % 256 := by rw [IntKind.wrap_u8]
   have N1 := hideP (bo_set (x := ((k : Int) + 1) % 256) hb hy hk)
   have HY := hideP hy
   have HM := hideP hm
   have HG := hideP hg
   obtain ⟨old, hold⟩ : ∃ z, z = ys.getD k 0 := ⟨_, rfl⟩
   rw [← hold] at hp2
   clear hb hy hm hg hold
   go_wp2
   go_roundw
   case rel =>
    refine ⟨k + 1, _, by simp, by simp, by omega, ⟨N1.out, by rw [List.length_set]; exact HY.out, fun j hj => ?_⟩, ?_⟩
    ·by_cases hjk : j = k
     ·subst hjk
      rw [List.getD_eq_getElem?_getD, List.getElem?_set_self (by rw [HY.out]; exact hk)]
      show ((j : Int) + 1) % 256 = _
      rw [Int.add_comm]
      rfl
     ·rw [List.getD_eq_getElem?_getD, List.getElem?_set_ne (fun e => hjk e.symm), ← List.getD_eq_getElem?_getD]
      exact HM.out j (by omega)
    ·refine ⟨HG.out.os, HG.out.tape, HG.out.output, by simpa [World.setCell] using HG.out.size, fun q hq hqn => ?_⟩
     rw [← HG.out.block q hq hqn]
     simp only [World.setCell, Array.getElem?_modify]
     rw [if_neg (fun e => hqn (by rw [← e]; rfl))]
   case measure => simp [intOf]; omega
  ·obtain rfl : k = n := by omega
   have hki : ¬ (k : Int) < (k : Int) := by omega
   have hye : ys = bmk 1 k := by
    refine List.ext_getElem (by rw [hy, bmk_len]) fun j hj1 hj2 => ?_
    have h1 := hm j (by omega)
    have h2 := bmk_get (k := 1) (n := k) (i := j) (by omega)
    rw [List.getD_eq_getElem?_getD, List.getElem?_eq_getElem hj1, Option.getD_some] at h1
    rw [List.getD_eq_getElem?_getD, List.getElem?_eq_getElem hj2, Option.getD_some] at h2
    rw [h1, h2]
   rw [hye] at hb
   clear hm hye
   go_wp2
   go_ret
   exact ⟨rfl, hb, hg⟩
set_option maxRecDepth 20000 in
set_option maxHeartbeats 4000000 in
theorem heldBytes_any {W : World} {base n : Nat} {v : Value} (h : BO base W v (bmk 1 n)) (hl : n ≤ 70368744177664) :
 Calls Tryz.prog 13 #[v, .int .i64 1] W fun e W' => e = .returned (.int .i64 ((n : Int) + 1)) ∧ Below W.heap.size W W' := by
 have HU := hideP h
 obtain ⟨ua, uc, hv⟩ := h.shape
 rw [bmk_len] at hv
 subst hv
 have hn2 : (n : Int) ≤ 70368744177664 := by omega
 have CX : Hid (∀ k, k < n → ∃ p, ua = some ⟨p, 0, none⟩ ∧ ∀ X, Below W.heap.size W X → X.cell? ⟨p, k, none⟩ = some (.int .u8 (((k : Int) + 1) % 256))) := hideP (fun k hk => by
  obtain ⟨p, c, e, hp1, hp2⟩ := BO.at HU.out (k := k) (by rw [bmk_len]; exact hk)
  simp only [Value.slice.injEq] at e
  rw [bmk_get hk, Int.add_comm] at hp2
  exact ⟨p, e.1, fun X hX => (hX.cell (p := ⟨p, k, none⟩) hp1).trans hp2⟩)
 clear h hl
 go_enter Tryz.func13, Tryz.ntmps13
 go_wp2
 go_loopw [1, 5] (fun s1 s5 wr => ∃ k : Nat, s5 = .int .i64 (k : Int) ∧ s1 = .int .i64 ((k : Int) + 1) ∧ k ≤ n ∧ Below W.heap.size W wr) (fun _ s _ => n - (intOf s).toNat)
 case atStart => exact ⟨0, rfl, rfl, by omega, Below.refl _ _⟩
 case round =>
  obtain ⟨k, rfl, rfl, hkn, hB⟩ := hrel
  by_cases hk : k < n
  ·have hki : (k : Int) < (n : Int) := by omega
   obtain ⟨p, rfl, hcc⟩ := CX.out k hk
   have c0 := hcc wr hB
   have hw : IntKind.u8.wrap ((k : Int) + 1) = ((k : Int) + 1) % 256 := by rw [IntKind.wrap_u8]
   obtain ⟨z, hz⟩ : ∃ z, z = ((k : Int) + 1) % 256 := ⟨_, rfl⟩
   rw [← hz] at c0 hw
   have HB := hideP hB
   clear hz hB hcc
   go_wp2
   go_roundw
   case rel => exact ⟨k + 1, by simp, by simp, by omega, HB.out⟩
   case measure => simp [intOf]; omega
  ·obtain rfl : k = n := by omega
   have hki : ¬ (k : Int) < (k : Int) := by omega
   go_wp2
   go_ret
   exact ⟨rfl, hB⟩
end Go.Proofs.YtbpidcfoldkhgaaGreat
