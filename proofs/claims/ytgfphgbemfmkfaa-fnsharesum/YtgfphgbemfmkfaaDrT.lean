/-
  The draw of a row that is shared.
-/
import Derived.Test.YtgfphgbemfmkfaaDrS
import Derived.Test.YtgfphgbemfmkfaaSumC
import Derived.Test.YtgfphgbemfmkfaaStr
import Derived.Deep.RegionWith
namespace Go.Proofs.Ytgfphgbemfmkfaa
open Go.RowKit
set_option linter.unusedVariables false
set_option linter.unusedSimpArgs false

theorem own5_row {base n : Nat} {w : World} {v : Value} {gs : List Gl} (h : w.ownsRow base 33 5 v n (flatG gs)) : GRow w v gs := by
  have hlen : gs.length = n := by have := h.1; rw [flatG_len] at this; omega
  obtain ⟨hl, ⟨rfl, h0⟩ | ⟨g, cap, cur, rfl, hg, hb, hn, hm, hs, hx⟩⟩ := h
  · have : gs = [] := List.eq_nil_of_length_eq_zero (by rw [hlen]; rw [flatG_len] at hl; omega)
    subst this
    exact ⟨none, 0, 0, rfl, rfl, fun h => absurd h (Nat.lt_irrefl 0)⟩
  · refine ⟨_, _, _, rfl, hlen, fun _ => ⟨g, 0, rfl, (Array.getElem?_eq_some_iff.1 hb).1, fun i hi => ?_⟩⟩
    have key : ∀ j u, (flatG gs)[j]? = some u → w.cell? ⟨g, 0 + j, none⟩ = some u := by
      intro j u hj
      rw [Nat.zero_add, cell_of_row w g _ cur 33 _ hb, ← Array.getElem?_toList]
      rw [← hx, List.getElem?_take] at hj
      split at hj
      · exact hj
      · simp at hj
    obtain ⟨f0, f1, f2, f3, f4⟩ := flatG_get gs i (by omega)
    exact ⟨key _ _ f0, by have := key _ _ f1; rw [← Nat.add_assoc] at this; exact this, by have := key _ _ f2; rw [← Nat.add_assoc] at this; exact this, by have := key _ _ f3; rw [← Nat.add_assoc] at this; exact this, by have := key _ _ f4; rw [← Nat.add_assoc] at this; exact this⟩

theorem cur_far {w wr : World} {ao : Option Addr} {len cap b o : Nat} {x : Int} (h : Cur w wr ao len cap) (hc : wr.cell? ⟨b, o + 3, none⟩ = some (.int .i64 x)) : b ≠ w.heap.size := by
  rintro rfl
  obtain ⟨i, h', _, _, h3, _⟩ := h
  rw [cell_of_row wr _ _ _ 62 (0, 0) h3] at hc
  simp at hc

set_option maxRecDepth 20000 in
set_option maxHeartbeats 2000000 in
theorem below_all (n : Int) (ao : Option Addr) (len cap : Nat) (w wr : World) (hB : Bytes w ao len cap) (hC : Cur w wr ao len cap) (h2 : n ≤ 9223372036854775807) :
    Calls Try.prog 22 #[curP w, .int .i64 n] wr fun e w' => ∃ x : Int, e = .returned (.int .i64 x) ∧ I64 x ∧ Cur w w' ao len cap ∧ Other w wr w' := by
  by_cases h1 : 1 ≤ n
  · refine (below_any n ao len cap w wr hB hC h1 h2).mono ?_
    rintro e w' ⟨x, rfl, h3, h4, h5, h6⟩
    exact ⟨x, rfl, i64_small h3 (by omega), h5, h6⟩
  · have hn : n ≤ 0 := by omega
    have HC := hideD hC
    clear hB hC h1
    go_enter Try.func22, Try.ntmps22
    go_wp2
    go_ret
    exact ⟨0, rfl, by unfold I64; omega, HC.out, fun _ _ => rfl⟩

set_option maxRecDepth 20000 in
set_option maxHeartbeats 4000000 in
theorem drawShare_any (ao : Option Addr) (len cap : Nat) (w : World) (hB : Bytes w ao len cap) :
    Calls Try.prog 6 #[.slice ao len cap] w fun e w' => ∃ (v : Value) (gs : List Gl) (x t : Int), e = .returned (.tuple #[v, .int .i64 x, .int .i64 t]) ∧ GRow w' v gs ∧ gs.length ≤ 8 ∧ I64 x ∧ I64 t ∧ Below w.heap.size w w' := by
  have HB := hideD hB
  clear hB
  go_enter Try.func6, Try.ntmps6
  go_wp2_with fail
  refine (new_any ao len cap w HB.out).mono ?_
  rintro e w1 ⟨rfl, hc1⟩
  have C1 : Hid (Cur w w1 ao len cap) := hc1
  clear hc1
  go_wp2_with fail
  refine (below_any 9 ao len cap w _ HB.out C1 (by omega) (by omega)).mono ?_
  rintro e w2 ⟨n, rfl, hn0, hn9, hc2, _⟩
  have C2 : Hid (Cur w w2 ao len cap) := hc2
  obtain ⟨k, rfl⟩ : ∃ k : Nat, n = (k : Int) := ⟨n.toNat, by omega⟩
  clear hc2 C1
  go_wp2_with fail
  refine (drawGlues_any ao len cap k w _ HB.out C2 (by omega)).mono ?_
  rintro e w3 ⟨v, gs, rfl, hown, hg8, hc3, _⟩
  obtain ⟨ga, gc, rfl⟩ := own5_shape hown
  have C3 : Hid (Cur w w3 ao len cap ∧ w3.ownsRow w2.heap.size 33 5 (.slice ga gs.length gc) gs.length (flatG gs)) := ⟨hc3, hown⟩
  have hw2 : w.heap.size < w2.heap.size := C2.lt
  clear hc3 hown C2
  go_wp2_with fail
  refine (drawLen_kept ao len cap w _ HB.out C3.1).mono ?_
  rintro e w4 ⟨x, rfl, hx64, hc4, hf4⟩
  have C4 : Hid (Cur w w4 ao len cap ∧ w4.ownsRow w2.heap.size 33 5 (.slice ga gs.length gc) gs.length (flatG gs)) := ⟨hc4, own5_fram C3.2 hf4 hw2⟩
  clear hc4 hf4 C3
  go_wp2_with fail
  refine (specSum_any (own5_row C4.2) (by omega)).mono ?_
  rintro e w5 ⟨⟨v1, v2, rfl, hr1, hr2⟩, hb5⟩
  have C5 : Hid (Cur w w5 ao len cap ∧ w5.ownsRow w2.heap.size 33 5 (.slice ga gs.length gc) gs.length (flatG gs)) := ⟨C4.1.below hb5, own5_fram C4.2 (Fram.below (Fram.refl _ _) hb5) hw2⟩
  clear hb5 C4
  have HSN : Hid (sumN gs = sumN gs) := rfl
  obtain ⟨N, hN⟩ : ∃ N, N = sumN gs := ⟨_, rfl⟩
  rw [← hN]
  have hNb : -10737418230000 ≤ N ∧ N ≤ 10737418230000 := by
    rw [hN]
    unfold sumN
    split
    · next hok =>
      have heach := glsOk_each hok
      have hsb := siz_bound gs (fun k hk => (ok_bounds (heach.2 k hk)).1) gs.length (Nat.le_refl _)
      rw [List.take_length] at hsb
      constructor <;> omega
    · omega
  have FIN : Hid (∀ (wz : World) (t : Int), Cur w wz ao len cap → Fram w w5 wz → GRow wz (.slice ga gs.length gc) gs ∧ gs.length ≤ 8 ∧ I64 x ∧ Below w.heap.size w wz) := by
    intro wz t hc hf
    obtain ⟨_, _, _, _, _, hbel⟩ := hc
    exact ⟨own5_row (own5_fram C5.2 hf hw2), hg8, hx64, hbel⟩
  have hxx := hx64
  unfold I64 at hxx
  clear hN HSN
  cases hok : glsOk gs with
  | false =>
    have e1 : sumP gs = [] := by unfold sumP; rw [hok]; rfl
    rw [e1] at hr1
    obtain ⟨a1, m1, c1, rfl, hm1, _⟩ := hr1
    obtain rfl : m1 = 0 := by simpa using hm1.symm
    obtain ⟨a2, m2, c2, rfl, _⟩ := hr2
    clear hm1 e1 hok
    go_wp2
    obtain ⟨f1, f2, f3, f4⟩ := FIN w5 0 C5.1 (Fram.refl _ _)
    exact bodyPost_ret (v := .tuple #[.slice ga gs.length gc, .int .i64 x, .int .i64 (wrap64 (x + N))]) (by simp [results, Try.results6, go_sem]) rfl ⟨_, gs, x, _, rfl, f1, f2, f3, wrapI64 _, f4⟩
  | true =>
    have e1 : sumP gs = tot Gl.p Gl.po gs := by unfold sumP; rw [hok]; rfl
    have e2 : sumM gs = tot Gl.m Gl.mo gs := by unfold sumM; rw [hok]; rfl
    have heach := glsOk_each hok
    have hb1 := tot_have Gl.p Gl.po gs heach.1 (fun k hk => (ok_bounds (heach.2 k hk)).2.1) 0
    have hb2 := tot_have Gl.m Gl.mo gs heach.1 (fun k hk => (ok_bounds (heach.2 k hk)).2.2.1) 0
    rw [e1] at hr1
    rw [e2] at hr2
    obtain ⟨a1, m1, c1, rfl, hm1, hr1⟩ := hr1
    obtain ⟨a2, m2, c2, rfl, hm2, hr2⟩ := hr2
    rw [tot_length] at hm1 hm2
    subst hm1 hm2
    obtain ⟨b1, o1, rfl, hb1z, hcc1⟩ := hr1 (by omega)
    obtain ⟨b2, o2, rfl, hb2z, hcc2⟩ := hr2 (by omega)
    obtain ⟨P0, hP0⟩ : ∃ P, P = (tot Gl.p Gl.po gs).getD 0 0 := ⟨_, rfl⟩
    obtain ⟨M0, hM0⟩ : ∃ P, P = (tot Gl.m Gl.mo gs).getD 0 0 := ⟨_, rfl⟩
    have hbw1 : b1 ≠ w.heap.size := cur_far C5.1 (hcc1 3 (by omega))
    have hbw2 : b2 ≠ w.heap.size := cur_far C5.1 (hcc2 3 (by omega))
    have k1 := hcc1 0 (by omega)
    have k2 := hcc2 0 (by omega)
    rw [← hP0] at k1 hb1
    rw [← hM0] at k2 hb2
    simp only [Nat.add_zero] at k1 k2
    clear hcc1 hcc2 hr1 hr2 hP0 hM0 e1 e2 heach hok
    go_wp2_with fail
    refine (below_any 5 ao len cap w _ HB.out C5.1 (by omega) (by omega)).mono ?_
    rintro e w6 ⟨j, rfl, hj0, hj5, hc6, ho6⟩
    have C6 : Hid (Cur w w6 ao len cap ∧ Fram w w5 w6) := ⟨hc6, Fram.other (Fram.refl _ _) ho6 hc6⟩
    have g1 : w6.cell? ⟨b1, o1, none⟩ = some (.int .i64 P0) := (ho6.cell hbw1).trans k1
    have g2 : w6.cell? ⟨b2, o2, none⟩ = some (.int .i64 M0) := (ho6.cell hbw2).trans k2
    clear hc6 ho6 k1 k2
    obtain ⟨T, hT⟩ : ∃ T, T = wrap64 (x + N) := ⟨_, rfl⟩
    have hj : j = 0 ∨ j = 1 ∨ j = 2 ∨ j = 3 ∨ j = 4 := by omega
    clear hj0 hj5
    rcases hj with rfl | rfl | rfl | rfl | rfl
    · go_wp2_with fail
      refine (below_all (2 * P0 + 10) ao len cap w _ HB.out C6.1 (by omega)).mono ?_
      rintro e w7 ⟨y, rfl, hy64, hc7, ho7⟩
      have C7 : Hid (Cur w w7 ao len cap ∧ Fram w w5 w7) := ⟨hc7, Fram.other C6.2 ho7 hc7⟩
      clear hc7 ho7
      go_wp2
      obtain ⟨f1, f2, f3, f4⟩ := FIN w7 0 C7.1 C7.2
      refine bodyPost_ret (v := .tuple #[.slice ga gs.length gc, .int .i64 x, .int .i64 (wrap64 (wrap64 (x + N) + y))]) (by simp [results, Try.results6, go_sem]) rfl ⟨_, gs, x, _, rfl, f1, f2, f3, wrapI64 _, f4⟩
    · go_wp2_with fail
      refine (below_all (M0 + 10) ao len cap w _ HB.out C6.1 (by omega)).mono ?_
      rintro e w7 ⟨y, rfl, hy64, hc7, ho7⟩
      have C7 : Hid (Cur w w7 ao len cap ∧ Fram w w5 w7) := ⟨hc7, Fram.other C6.2 ho7 hc7⟩
      clear hc7 ho7
      go_wp2
      obtain ⟨f1, f2, f3, f4⟩ := FIN w7 0 C7.1 C7.2
      refine bodyPost_ret (v := .tuple #[.slice ga gs.length gc, .int .i64 x, .int .i64 (wrap64 (wrap64 (x + N) - y))]) (by simp [results, Try.results6, go_sem]) rfl ⟨_, gs, x, _, rfl, f1, f2, f3, wrapI64 _, f4⟩
    · have HBL : Hid (∀ W, Below w6.heap.size w6 W → Calls Try.prog 22 #[curP w, .int .i64 100] W fun e w' => ∃ y : Int, e = .returned (.int .i64 y) ∧ Cur w w' ao len cap ∧ Fram w w5 w' ∧ w'.cell? ⟨b2, o2, none⟩ = some (.int .i64 M0) ∧ b2 < w'.heap.size) := by
        intro W hW
        refine (below_all 100 ao len cap w W HB.out (C6.1.below hW) (by omega)).mono ?_
        rintro e w' ⟨y, rfl, _, h3, h4⟩
        have hb6 : b2 < w6.heap.size := Nat.lt_of_lt_of_le hb2z C6.2.1
        refine ⟨y, rfl, h3, Fram.other (C6.2.below hW) h4 h3, (h4.cell hbw2).trans ((hW.cell (p := ⟨b2, o2, none⟩) hb6).trans g2), ?_⟩
        have := Other.size h4 h3.lt
        have := hW.size
        omega
      have hb6 : b2 < w6.heap.size := Nat.lt_of_lt_of_le hb2z C6.2.1
      go_wp2_with fail
      go_region_with (go_at_call 22; refine (HBL _ (by first | exact (Below.refl _ _).drew | exact Below.refl _ _)).mono ?_; rintro e w7 ⟨y, rfl, hc7, hf7, g7, hb7⟩; have C7 : Hid (Cur w w7 ao len cap ∧ Fram w w5 w7) := ⟨hc7, hf7⟩; clear hc7 hf7)
      all_goals
        go_wp2
        obtain ⟨f1, f2, f3, f4⟩ := FIN w7 0 C7.1 C7.2
        exact bodyPost_ret (v := .tuple #[.slice ga gs.length gc, .int .i64 x, .int .i64 (wrap64 (wrap64 (wrap64 (wrap64 (x + N) - M0) - y) + 50))]) (by simp [results, Try.results6, go_sem]) rfl ⟨_, gs, x, _, rfl, f1, f2, f3, wrapI64 _, f4⟩
    · go_wp2_with fail
      refine (drawLen_kept ao len cap w _ HB.out C6.1).mono ?_
      rintro e w7 ⟨y, rfl, hy64, hc7, hf7⟩
      have C7 : Hid (Cur w w7 ao len cap ∧ Fram w w5 w7 ∧ I64 y) := ⟨hc7, C6.2.trans hf7, hy64⟩
      clear hc7 hf7
      go_wp2
      obtain ⟨f1, f2, f3, f4⟩ := FIN w7 0 C7.1 C7.2.1
      exact bodyPost_ret (v := .tuple #[.slice ga gs.length gc, .int .i64 x, .int .i64 y]) (by simp [results, Try.results6, go_sem]) rfl ⟨_, gs, x, _, rfl, f1, f2, f3, C7.2.2, f4⟩
    · go_wp2
      obtain ⟨f1, f2, f3, f4⟩ := FIN w6 0 C6.1 C6.2
      exact bodyPost_ret (v := .tuple #[.slice ga gs.length gc, .int .i64 x, .int .i64 (wrap64 (x + N))]) (by simp [results, Try.results6, go_sem]) rfl ⟨_, gs, x, _, rfl, f1, f2, f3, wrapI64 _, f4⟩
end Go.Proofs.Ytgfphgbemfmkfaa
