import Derived.Test.YtbpidcfoldkhgaaGreatToks
import Derived.Deep.RegionWith
namespace Go.Proofs.YtbpidcfoldkhgaaGreat
open Go.RowKit
set_option linter.unusedVariables false
set_option linter.unusedSimpArgs false
set_option maxHeartbeats 1000000 in
theorem eqToken_same (c h : Int) (s : ByteArray) (w : World) : Calls Tryz.prog 131 #[tokV c h s, tokV c h s] w fun e w' => e = .returned (.bool true) ∧ Below w.heap.size w w' := by
 go_enter Tryz.func131, Tryz.ntmps131
 go_wp2
 go_ret
 exact ⟨rfl, ((Below.refl _ _).alloc (Nat.le_refl _) _).alloc (by simp) _⟩
set_option maxHeartbeats 1000000 in
theorem eqTokens_same {v1 v2 : Value} {ts : List Tk} {w : World} (h1 : TRow w v1 ts) (h2 : TRow w v2 ts) (hx : ts.length ≤ 1048576) :
 Calls Tryz.prog 114 #[v1, v2] w fun e w' => e = .returned (.bool true) ∧ Below w.heap.size w w' := by
 obtain ⟨ao1, n1, cap1, rfl, hn1, hr1⟩ := h1
 obtain ⟨ao2, n2, cap2, rfl, hn2, hr2⟩ := h2
 obtain rfl : n1 = n2 := by omega
 rw [hn1] at hx
 have HR1 : Hid (0 < n1 → ∃ b off, ao1 = some ⟨b, off, none⟩ ∧ b < w.heap.size ∧ ∀ i, i < n1 →
  w.cell? ⟨b, off + i * 3, none⟩ = some (.int .i64 (ts.getD i Tk.none).c) ∧ w.cell? ⟨b, off + i * 3 + 1, none⟩ = some (.int .i64 (ts.getD i Tk.none).h) ∧ w.cell? ⟨b, off + i * 3 + 2, none⟩ = some (.string (ts.getD i Tk.none).s)) := hr1
 have HR2 : Hid (0 < n1 → ∃ b off, ao2 = some ⟨b, off, none⟩ ∧ b < w.heap.size ∧ ∀ i, i < n1 →
  w.cell? ⟨b, off + i * 3, none⟩ = some (.int .i64 (ts.getD i Tk.none).c) ∧ w.cell? ⟨b, off + i * 3 + 1, none⟩ = some (.int .i64 (ts.getD i Tk.none).h) ∧ w.cell? ⟨b, off + i * 3 + 2, none⟩ = some (.string (ts.getD i Tk.none).s)) := hr2
 clear hn1 hn2 hr1 hr2
 go_enter Tryz.func114, Tryz.ntmps114
 go_wp2
 go_loopw [5] (fun i wr => ∃ k : Nat, k ≤ n1 ∧ i = .int .i64 k ∧ Below w.heap.size w wr) (fun i _ => n1 - (intOf i).toNat)
 case atStart => exact ⟨0, by omega, rfl, Below.refl _ _⟩
 case round =>
  obtain ⟨k, hk, rfl, hbel⟩ := hrel
  by_cases hkn : k < n1
  ·have hki : (k : Int) < (n1 : Int) := by omega
   obtain ⟨b, off, rfl, hb, hc⟩ := HR1 (by omega)
   obtain ⟨b', off', rfl, hb', hc'⟩ := HR2 (by omega)
   obtain ⟨t, ht⟩ : ∃ t, t = ts.getD k Tk.none := ⟨_, rfl⟩
   obtain ⟨hc0, hc1, hc2⟩ := hc k hkn
   obtain ⟨hd0, hd1, hd2⟩ := hc' k hkn
   rw [← ht] at hc0 hc1 hc2 hd0 hd1 hd2
   have g0 := (hbel.cell (p := ⟨b, off + k * 3, none⟩) hb).trans hc0
   have g1 := (hbel.cell (p := ⟨b, off + k * 3 + 1, none⟩) hb).trans hc1
   have g2 := (hbel.cell (p := ⟨b, off + k * 3 + 2, none⟩) hb).trans hc2
   have f0 := (hbel.cell (p := ⟨b', off' + k * 3, none⟩) hb').trans hd0
   have f1 := (hbel.cell (p := ⟨b', off' + k * 3 + 1, none⟩) hb').trans hd1
   have f2 := (hbel.cell (p := ⟨b', off' + k * 3 + 2, none⟩) hb').trans hd2
   have HB : Hid (Below w.heap.size w wr) := hbel
   clear hc hc' hc0 hc1 hc2 hd0 hd1 hd2 hbel ht
   go_wp2
   go_region_with (go_at_call 131; refine (eqToken_same _ _ _ _).mono ?_; rintro e w2 ⟨rfl, hb1⟩)
   all_goals
    have hb2 : Below w.heap.size w w2 := Below.trans (Below.drew HB) (‹Below _ _ w2›.mono (Below.size HB))
    go_wp2
    go_roundw
    case rel => exact ⟨k + 1, by omega, by go_num, hb2⟩
    case measure => simp [intOf]; omega
  ·have hki : ¬ (k : Int) < (n1 : Int) := by omega
   have HB : Hid (Below w.heap.size w wr) := hbel
   clear hbel
   go_wp2
   go_ret
   exact ⟨rfl, HB⟩
end Go.Proofs.YtbpidcfoldkhgaaGreat
