/-
  The walks of the functions that tell whether glues can be.
-/
import Derived.Test.YtgfphgbemfmkfaaSum
namespace Go.Proofs.Ytgfphgbemfmkfaa
open Go.RowKit
set_option linter.unusedVariables false
set_option linter.unusedSimpArgs false

set_option maxHeartbeats 1000000 in
theorem specGlues_any {v : Value} {gs : List Gl} {w : World} (h : GRow w v gs) (hn : gs.length ≤ 1048576) :
    Calls Try.prog 31 #[v] w fun e w' => e = .returned (.bool (glsOk gs)) ∧ Below w.heap.size w w' := by
  obtain ⟨ao, n, cap, rfl, hl, hr⟩ := h
  rw [hl] at hn
  by_cases hbig : 10000 < n
  · have hbi : (10000 : Int) < (n : Int) := by omega
    go_enter Try.func31, Try.ntmps31
    go_wp2
    go_ret
    exact ⟨retB (glsOk_long (by omega)).symm, Below.refl _ _⟩
  · have hbi : ¬ (10000 : Int) < (n : Int) := by omega
    have HR : Hid (0 < n → ∃ b off, ao = some ⟨b, off, none⟩ ∧ b < w.heap.size ∧ ∀ i, i < n → w.cell? ⟨b, off + i * 5, none⟩ = some (.int .i64 (gs.getD i Gl.none).s) ∧ w.cell? ⟨b, off + i * 5 + 1, none⟩ = some (.int .i64 (gs.getD i Gl.none).p) ∧ w.cell? ⟨b, off + i * 5 + 2, none⟩ = some (.int .i64 (gs.getD i Gl.none).po) ∧ w.cell? ⟨b, off + i * 5 + 3, none⟩ = some (.int .i64 (gs.getD i Gl.none).m) ∧ w.cell? ⟨b, off + i * 5 + 4, none⟩ = some (.int .i64 (gs.getD i Gl.none).mo)) := hr
    have HL : Hid (gs.length = n) := hl
    clear hr hl
    go_enter Try.func31, Try.ntmps31
    go_wp2
    go_loopw [3] (fun s wr => ∃ k : Nat, k ≤ n ∧ s = .int .i64 k ∧ (∀ j, j < k → (gs.getD j Gl.none).ok = true) ∧ Below w.heap.size w wr) (fun s _ => n - (intOf s).toNat)
    case atStart => exact ⟨0, by omega, rfl, fun j hj => by omega, Below.refl _ _⟩
    case round =>
      obtain ⟨k, hk, rfl, hok, hbel⟩ := hrel
      have HK : Hid (∀ j, j < k → (gs.getD j Gl.none).ok = true) := hok
      have HB : Hid (Below w.heap.size w wr) := hbel
      clear hok hbel
      by_cases hkn : k < n
      · have hki : (k : Int) < (n : Int) := by omega
        obtain ⟨b, off, rfl, hb, hc⟩ := HR (by omega)
        obtain ⟨t, ht⟩ : ∃ t, t = gs.getD k Gl.none := ⟨_, rfl⟩
        obtain ⟨hc0, hc1, hc2, hc3, hc4⟩ := hc k hkn
        rw [← ht] at hc0 hc1 hc2 hc3 hc4
        have g0 := (HB.cell (p := ⟨b, off + k * 5, none⟩) hb).trans hc0
        have g1 := (HB.cell (p := ⟨b, off + k * 5 + 1, none⟩) hb).trans hc1
        have g2 := (HB.cell (p := ⟨b, off + k * 5 + 2, none⟩) hb).trans hc2
        have g3 := (HB.cell (p := ⟨b, off + k * 5 + 3, none⟩) hb).trans hc3
        have g4 := (HB.cell (p := ⟨b, off + k * 5 + 4, none⟩) hb).trans hc4
        have HT : Hid (t = gs.getD k Gl.none) := ht
        clear hc hc0 hc1 hc2 hc3 hc4 ht
        go_wp2_with fail
        refine (specGlueOk_any _ _ _ _ _ _).mono ?_
        rintro e w2 ⟨rfl, hb2⟩
        have HB2 : Hid (Below w.heap.size w w2) := Below.trans HB (hb2.mono (Below.size HB))
        clear hb2 g0 g1 g2 g3 g4 HB
        obtain ⟨ok, hok⟩ : ∃ ok, ok = okB t.s t.p t.po t.m t.mo := ⟨_, rfl⟩
        rw [← hok]
        have HOK : Hid (ok = okB t.s t.p t.po t.m t.mo) := hok
        clear hok
        cases ok
        · go_wp2
          go_ret
          refine ⟨retB (glsOk_no (k := k) (by rw [show gs.length = n from HL]; exact hkn) ?_).symm, HB2⟩
          rw [← show t = gs.getD k Gl.none from HT]
          exact Eq.symm (show false = okB t.s t.p t.po t.m t.mo from HOK)
        · go_wp2
          go_roundw
          case rel =>
            refine ⟨k + 1, by omega, by go_num, fun j hj => ?_, HB2⟩
            by_cases hjk : j = k
            · subst hjk; rw [← show t = gs.getD j Gl.none from HT]; exact Eq.symm (show true = okB t.s t.p t.po t.m t.mo from HOK)
            · exact HK j (by omega)
          case measure => simp [intOf]; omega
      · have hki : ¬ (k : Int) < (n : Int) := by omega
        go_wp2
        go_ret
        exact ⟨retB (glsOk_yes (by rw [show gs.length = n from HL]; omega) (fun j hj => HK j (by have := (show gs.length = n from HL); omega))).symm, HB⟩

set_option maxHeartbeats 1000000 in
theorem implGlues_any {v : Value} {gs : List Gl} {w : World} (h : GRow w v gs) (hn : gs.length ≤ 1048576) :
    Calls Try.prog 25 #[v] w fun e w' => e = .returned (.bool (glsOk gs)) ∧ Below w.heap.size w w' := by
  obtain ⟨ao, n, cap, rfl, hl, hr⟩ := h
  rw [hl] at hn
  by_cases hbig : 10000 < n
  · have hbi : (10000 : Int) < (n : Int) := by omega
    go_enter Try.func25, Try.ntmps25
    go_wp2
    go_ret
    exact ⟨retB (glsOk_long (by omega)).symm, Below.refl _ _⟩
  · have hbi : ¬ (10000 : Int) < (n : Int) := by omega
    have HR : Hid (0 < n → ∃ b off, ao = some ⟨b, off, none⟩ ∧ b < w.heap.size ∧ ∀ i, i < n → w.cell? ⟨b, off + i * 5, none⟩ = some (.int .i64 (gs.getD i Gl.none).s) ∧ w.cell? ⟨b, off + i * 5 + 1, none⟩ = some (.int .i64 (gs.getD i Gl.none).p) ∧ w.cell? ⟨b, off + i * 5 + 2, none⟩ = some (.int .i64 (gs.getD i Gl.none).po) ∧ w.cell? ⟨b, off + i * 5 + 3, none⟩ = some (.int .i64 (gs.getD i Gl.none).m) ∧ w.cell? ⟨b, off + i * 5 + 4, none⟩ = some (.int .i64 (gs.getD i Gl.none).mo)) := hr
    have HL : Hid (gs.length = n) := hl
    clear hr hl
    go_enter Try.func25, Try.ntmps25
    go_wp2
    go_loopw [10] (fun s wr => ∃ k : Nat, k ≤ n ∧ s = .int .i64 k ∧ (∀ j, j < k → (gs.getD j Gl.none).ok = true) ∧ Below w.heap.size w wr) (fun s _ => n - (intOf s).toNat)
    case atStart => exact ⟨0, by omega, rfl, fun j hj => by omega, Below.refl _ _⟩
    case round =>
      obtain ⟨k, hk, rfl, hok, hbel⟩ := hrel
      have HK : Hid (∀ j, j < k → (gs.getD j Gl.none).ok = true) := hok
      have HB : Hid (Below w.heap.size w wr) := hbel
      clear hok hbel
      by_cases hkn : k < n
      · have hki : (k : Int) < (n : Int) := by omega
        obtain ⟨b, off, rfl, hb, hc⟩ := HR (by omega)
        obtain ⟨t, ht⟩ : ∃ t, t = gs.getD k Gl.none := ⟨_, rfl⟩
        obtain ⟨hc0, hc1, hc2, hc3, hc4⟩ := hc k hkn
        rw [← ht] at hc0 hc1 hc2 hc3 hc4
        have g0 := (HB.cell (p := ⟨b, off + k * 5, none⟩) hb).trans hc0
        have g1 := (HB.cell (p := ⟨b, off + k * 5 + 1, none⟩) hb).trans hc1
        have g2 := (HB.cell (p := ⟨b, off + k * 5 + 2, none⟩) hb).trans hc2
        have g3 := (HB.cell (p := ⟨b, off + k * 5 + 3, none⟩) hb).trans hc3
        have g4 := (HB.cell (p := ⟨b, off + k * 5 + 4, none⟩) hb).trans hc4
        have HT : Hid (t = gs.getD k Gl.none) := ht
        clear hc hc0 hc1 hc2 hc3 hc4 ht
        go_wp2_with fail
        refine (implGlueOk_any _ _ _ _ _ _).mono ?_
        rintro e w2 ⟨rfl, hb2⟩
        have HB2 : Hid (Below w.heap.size w w2) := Below.trans (Below.alloc HB (Below.size HB) _) (hb2.mono (by have := Below.size HB; simp; omega))
        clear hb2 g0 g1 g2 g3 g4 HB
        obtain ⟨ok, hok⟩ : ∃ ok, ok = okB t.s t.p t.po t.m t.mo := ⟨_, rfl⟩
        rw [← hok]
        have HOK : Hid (ok = okB t.s t.p t.po t.m t.mo) := hok
        clear hok
        cases ok
        · go_wp2
          go_ret
          refine ⟨retB (glsOk_no (k := k) (by rw [show gs.length = n from HL]; exact hkn) ?_).symm, HB2⟩
          rw [← show t = gs.getD k Gl.none from HT]
          exact Eq.symm (show false = okB t.s t.p t.po t.m t.mo from HOK)
        · go_wp2
          go_roundw
          case rel =>
            refine ⟨k + 1, by omega, by go_num, fun j hj => ?_, HB2⟩
            by_cases hjk : j = k
            · subst hjk; rw [← show t = gs.getD j Gl.none from HT]; exact Eq.symm (show true = okB t.s t.p t.po t.m t.mo from HOK)
            · exact HK j (by omega)
          case measure => simp [intOf]; omega
      · have hki : ¬ (k : Int) < (n : Int) := by omega
        go_wp2
        go_ret
        exact ⟨retB (glsOk_yes (by rw [show gs.length = n from HL]; omega) (fun j hj => HK j (by have := (show gs.length = n from HL); omega))).symm, HB⟩
end Go.Proofs.Ytgfphgbemfmkfaa
