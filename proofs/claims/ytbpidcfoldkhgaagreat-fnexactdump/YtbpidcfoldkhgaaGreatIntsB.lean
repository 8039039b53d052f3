import Derived.Test.YtbpidcfoldkhgaaGreatToks
namespace Go.Proofs.YtbpidcfoldkhgaaGreat
open Go.RowKit
set_option linter.unusedVariables false
set_option linter.unusedSimpArgs false
theorem getD_ext {xs ys : List Int} (hl : xs.length = ys.length) (h : ∀ j, j < xs.length → xs.getD j 0 = ys.getD j 0) : xs = ys := by
 refine List.ext_getElem hl fun i h1 h2 => ?_
 have := h i h1
 simpa [List.getD, List.getElem?_eq_getElem h1, List.getElem?_eq_getElem h2] using this
set_option maxHeartbeats 1000000 in
theorem eqInts_any {v1 v2 : Value} {xs ys : List Int} {w : World} (h1 : Row w v1 xs) (h2 : Row w v2 ys) (hx : xs.length ≤ 1048576) :
 Calls Tryz.prog 79 #[v1, v2] w fun e w' => e = .returned (.bool (decide (xs = ys))) ∧ Below w.heap.size w w' := by
 obtain ⟨ao1, n1, cap1, rfl, hn1, hr1⟩ := h1
 obtain ⟨ao2, n2, cap2, rfl, hn2, hr2⟩ := h2
 rw [hn1] at hx
 have HN1 : Hid (xs.length = n1) := hn1
 have HN2 : Hid (ys.length = n2) := hn2
 have HR1 : Hid (0 < n1 → ∃ b off, ao1 = some ⟨b, off, none⟩ ∧ b < w.heap.size ∧ ∀ i, i < n1 → w.cell? ⟨b, off + i, none⟩ = some (.int .i64 (xs.getD i 0))) := hr1
 have HR2 : Hid (0 < n2 → ∃ b off, ao2 = some ⟨b, off, none⟩ ∧ b < w.heap.size ∧ ∀ i, i < n2 → w.cell? ⟨b, off + i, none⟩ = some (.int .i64 (ys.getD i 0))) := hr2
 clear hn1 hn2 hr1 hr2
 by_cases hne : n1 = n2
 ·subst hne
  go_enter Tryz.func79, Tryz.ntmps79
  go_wp2
  go_loopw [5] (fun i wr => ∃ k : Nat, k ≤ n1 ∧ i = .int .i64 k ∧ (∀ j, j < k → xs.getD j 0 = ys.getD j 0) ∧ Below w.heap.size w wr) (fun i _ => n1 - (intOf i).toNat)
  case atStart => exact ⟨0, by omega, rfl, fun j hj => by omega, Below.refl _ _⟩
  case round =>
   obtain ⟨k, hk, rfl, hj, hbel⟩ := hrel
   have HJ : Hid (∀ j, j < k → xs.getD j 0 = ys.getD j 0) := hj
   clear hj
   by_cases hkn : k < n1
   ·have hki : (k : Int) < (n1 : Int) := by omega
    obtain ⟨b, off, rfl, hb, hc⟩ := HR1 (by omega)
    obtain ⟨b', off', rfl, hb', hc'⟩ := HR2 (by omega)
    obtain ⟨x, hxk⟩ : ∃ x, x = xs.getD k 0 := ⟨_, rfl⟩
    obtain ⟨y, hyk⟩ : ∃ y, y = ys.getD k 0 := ⟨_, rfl⟩
    have hc1 : wr.cell? ⟨b, off + k, none⟩ = some (.int .i64 x) := by rw [hxk]; exact (hbel.cell (p := ⟨b, off + k, none⟩) hb).trans (hc k hkn)
    have hc2 : wr.cell? ⟨b', off' + k, none⟩ = some (.int .i64 y) := by rw [hyk]; exact (hbel.cell (p := ⟨b', off' + k, none⟩) hb').trans (hc' k hkn)
    have HX : Hid (x = xs.getD k 0 ∧ y = ys.getD k 0) := ⟨hxk, hyk⟩
    have HB : Hid (Below w.heap.size w wr) := hbel
    clear hxk hyk hbel hc hc'
    by_cases hxy : x = y
    ·go_wp2
     go_quiet (fail)
     go_wp2
     go_roundw
     case rel =>
      refine ⟨k + 1, by omega, by go_num, fun j hj => ?_, below_drewN HB _⟩
      by_cases hjk : j = k
      ·subst hjk; rw [← HX.1, ← HX.2]; exact hxy
      ·exact HJ j (by omega)
     case measure => simp [intOf]; omega
    ·go_wp2
     go_quiet (fail)
     go_wp2
     go_ret
     refine ⟨retB (decide_eq_false fun he => hxy ?_).symm, below_drewN HB _⟩
     rw [HX.1, HX.2, he]
   ·have hki : ¬ (k : Int) < (n1 : Int) := by omega
    have HB : Hid (Below w.heap.size w wr) := hbel
    clear hbel
    go_wp2
    go_ret
    exact ⟨retB (decide_eq_true (getD_ext ((show xs.length = n1 from HN1).trans (show ys.length = n1 from HN2).symm) fun j hj => HJ j (by have := (show xs.length = n1 from HN1); omega))).symm, HB⟩
 ·have hni : ((n1 : Int) == (n2 : Int)) = false := by simp; omega
  go_enter Tryz.func79, Tryz.ntmps79
  go_wp2
  go_ret
  refine ⟨retB (decide_eq_false fun he => hne ?_).symm, Below.refl _ _⟩
  rw [← (show xs.length = n1 from HN1), ← (show ys.length = n2 from HN2), he]
end Go.Proofs.YtbpidcfoldkhgaaGreat
