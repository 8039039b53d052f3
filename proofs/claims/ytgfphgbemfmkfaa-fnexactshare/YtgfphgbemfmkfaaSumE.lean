/-
  The walk of impl.SumGlue.
-/
import Derived.Test.YtgfphgbemfmkfaaSumD
namespace Go.Proofs.Ytgfphgbemfmkfaa
open Go.RowKit
set_option linter.unusedVariables false
set_option linter.unusedSimpArgs false

set_option maxHeartbeats 1000000 in
theorem implSum_no {v : Value} {gs : List Gl} {w : World} (h : GRow w v gs) (hn : gs.length ≤ 1048576) (hok : glsOk gs = false) :
    Calls Try.prog 8 #[v] w fun e w' => e = .returned (.tuple #[.int .i64 0, .slice none 0 0, .slice none 0 0]) ∧ Below w.heap.size w w' := by
  go_enter Try.func8, Try.ntmps8
  go_wp2_with fail
  refine (implGlues_any h hn).mono ?_
  rintro e w1 ⟨rfl, hb1⟩
  rw [hok]
  have HB : Hid (Below w.heap.size w w1) := hb1
  clear hb1 hok
  go_wp2
  go_ret3
  exact ⟨rfl, HB⟩

set_option maxRecDepth 20000 in
set_option maxHeartbeats 4000000 in
theorem implSum_ok {v : Value} {gs : List Gl} {w : World} (h : GRow w v gs) (hok : glsOk gs = true) :
    Calls Try.prog 8 #[v] w fun e w' => ∃ P Q : Nat, e = .returned (.tuple #[.int .i64 (siz gs), .slice (some ⟨P, 0, none⟩) 4 4, .slice (some ⟨Q, 0, none⟩) 4 4]) ∧
      Four w' 53 P (tot Gl.p Gl.po gs) ∧ Four w' 53 Q (tot Gl.m Gl.mo gs) ∧ P ≠ Q ∧ w.heap.size ≤ P ∧ w.heap.size ≤ Q ∧ Below w.heap.size w w' := by
  have HG : Hid (GRow w v gs) := h
  have HOK : Hid (glsOk gs = true) := hok
  obtain ⟨ao, n, cap, rfl, hl, hr⟩ := h
  have heach := glsOk_each hok
  have hn2 : n ≤ 10000 := by have := heach.1; omega
  have HE : Hid (∀ k, k < gs.length → (gs.getD k Gl.none).ok = true) := heach.2
  have HBS : Hid (∀ k, k ≤ gs.length → -(1073741823 * (k : Int)) ≤ siz (gs.take k) ∧ siz (gs.take k) ≤ 1073741823 * (k : Int)) := siz_bound gs (fun k hk => (ok_bounds (HE k hk)).1)
  have HR : Hid (0 < n → ∃ b off, ao = some ⟨b, off, none⟩ ∧ b < w.heap.size ∧ ∀ i, i < n → w.cell? ⟨b, off + i * 5, none⟩ = some (.int .i64 (gs.getD i Gl.none).s) ∧ w.cell? ⟨b, off + i * 5 + 1, none⟩ = some (.int .i64 (gs.getD i Gl.none).p) ∧ w.cell? ⟨b, off + i * 5 + 2, none⟩ = some (.int .i64 (gs.getD i Gl.none).po) ∧ w.cell? ⟨b, off + i * 5 + 3, none⟩ = some (.int .i64 (gs.getD i Gl.none).m) ∧ w.cell? ⟨b, off + i * 5 + 4, none⟩ = some (.int .i64 (gs.getD i Gl.none).mo)) := hr
  have HL : Hid (gs.length = n) := hl
  clear hr hl hok heach
  go_enter Try.func8, Try.ntmps8
  go_wp2_with fail
  refine (implGlues_any HG (by rw [show gs.length = n from HL]; omega)).mono ?_
  rintro e w1 ⟨rfl, hb1⟩
  rw [show glsOk gs = true from HOK]
  have HB1 : Hid (Below w.heap.size w w1) := hb1
  clear hb1
  go_wp2
  go_loopw [5, 15] (fun s5 s15 wr => ∃ k : Nat, k ≤ n ∧ s15 = .int .i64 k ∧ s5 = .int .i64 (siz (gs.take k)) ∧ Below w.heap.size w wr) (fun _ s _ => n - (intOf s).toNat)
  case atStart => exact ⟨0, by omega, rfl, rfl, HB1⟩
  case round =>
    obtain ⟨k, hk, rfl, rfl, hbel⟩ := hrel
    have hlen : gs.length = n := HL
    by_cases hkn : k < n
    · have hki : (k : Int) < (n : Int) := by omega
      obtain ⟨b, off, rfl, hb, hc⟩ := HR (by omega)
      obtain ⟨t, ht⟩ : ∃ t, t = gs.getD k Gl.none := ⟨_, rfl⟩
      obtain ⟨hc0, hc1, hc2, hc3, hc4⟩ := hc k hkn
      rw [← ht] at hc0 hc1 hc2 hc3 hc4
      have hob := ok_bounds (HE k (by omega))
      rw [← ht] at hob
      obtain ⟨b1, b2⟩ := hob.1
      have es : siz (gs.take (k + 1)) = siz (gs.take k) + t.s := by rw [take_snoc (by omega), siz_snoc, ← ht]
      have bs := HBS k (by omega)
      have g0 := (hbel.cell (p := ⟨b, off + k * 5, none⟩) hb).trans hc0
      have g1 := (hbel.cell (p := ⟨b, off + k * 5 + 1, none⟩) hb).trans hc1
      have g2 := (hbel.cell (p := ⟨b, off + k * 5 + 2, none⟩) hb).trans hc2
      have g3 := (hbel.cell (p := ⟨b, off + k * 5 + 3, none⟩) hb).trans hc3
      have g4 := (hbel.cell (p := ⟨b, off + k * 5 + 4, none⟩) hb).trans hc4
      obtain ⟨S, hS⟩ : ∃ S, S = siz (gs.take k) := ⟨_, rfl⟩
      rw [← hS] at bs es ⊢
      have hw1 : IntKind.i64.wrap (S + t.s) = S + t.s := by rw [IntKind.wrap_i64]; omega
      have H1 : Hid (siz (gs.take (k + 1)) = S + t.s ∧ Below w.heap.size w wr) := ⟨es, hbel⟩
      clear hc hc0 hc1 hc2 hc3 hc4 ht hbel es hS bs hob b1 b2
      go_wp2
      go_roundw
      case rel => exact ⟨k + 1, by omega, by go_num, by rw [H1.1], H1.2.alloc H1.2.size _⟩
      case measure => simp [intOf]; omega
    · have hki : ¬ (k : Int) < (n : Int) := by omega
      obtain rfl : k = n := by omega
      have et : gs.take k = gs := by rw [← hlen, List.take_length]
      rw [et]
      have HB2 : Hid (Below w.heap.size w wr) := hbel
      have G2 : Hid (GRow wr (.slice ao k cap) gs) := GRow.below HG hbel
      clear hbel et hlen
      go_wp2_with fail
      refine (totalsP_any G2 HOK).mono ?_
      rintro e w2 ⟨rfl, hb2⟩
      have HB3 : Hid (Below w.heap.size w w2) := Below.trans HB2 (hb2.mono (Below.size HB2))
      have G3 : Hid (GRow w2 (.slice ao k cap) gs) := GRow.below G2 hb2
      clear hb2 G2
      go_wp2_with fail
      refine (totalsM_any G3 HOK).mono ?_
      rintro e w3 ⟨rfl, hb3⟩
      have HB4 : Hid (Below w.heap.size w w3) := Below.trans HB3 (hb3.mono (Below.size HB3))
      have hz3 : w.heap.size ≤ w3.heap.size := Below.size HB4
      clear hb3 G3
      obtain ⟨x0, x1, x2, x3, hx⟩ := four_parts (tot_length Gl.p Gl.po gs)
      obtain ⟨y0, y1, y2, y3, hy⟩ := four_parts (tot_length Gl.m Gl.mo gs)
      have HX : Hid (tot Gl.p Gl.po gs = [x0, x1, x2, x3] ∧ tot Gl.m Gl.mo gs = [y0, y1, y2, y3]) := ⟨hx, hy⟩
      rw [hx, hy]
      clear hx hy
      simp only [List.map_cons, List.map_nil]
      go_wp2
      go_region
      all_goals (try go_wp2)
      all_goals go_ret3
      all_goals
        refine ⟨w3.heap.size, w3.heap.size + 1, rfl, ?_, ?_, by omega, hz3, by omega, ?_⟩
        · rw [HX.1]; exact Four.drew (Four.alloc (show Four (w3.alloc (.cells #[.int .i64 x0, .int .i64 x1, .int .i64 x2, .int .i64 x3] 53)) 53 w3.heap.size [x0, x1, x2, x3] from ⟨heap_alloc_new w3 _, rfl⟩) _)
        · rw [HX.2]; exact Four.drew ⟨by simpa using heap_alloc_new (w3.alloc (.cells #[.int .i64 x0, .int .i64 x1, .int .i64 x2, .int .i64 x3] 53)) (.cells #[.int .i64 y0, .int .i64 y1, .int .i64 y2, .int .i64 y3] 53), rfl⟩
        · exact Below.drew (Below.alloc (Below.alloc HB4 hz3 _) (by simp; omega) _)
end Go.Proofs.Ytgfphgbemfmkfaa
