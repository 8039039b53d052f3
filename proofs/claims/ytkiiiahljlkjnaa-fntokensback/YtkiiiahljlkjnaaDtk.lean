/-
  A drawn table and a drawn text.
-/
import Derived.Test.YtkiiiahljlkjnaaDtx
namespace Go.Proofs.Ytkiiiahljlkjnaa
open Go.RowKit Go.Maps
set_option linter.unusedVariables false
set_option linter.unusedSimpArgs false

theorem made_bytes (n : Nat) : (madeCells (Value.cells (.int .u8 0)) (n * 1)).toList = (List.replicate n (0 : Int)).map (Value.int .u8) := by
  rw [Nat.mul_one]
  show (madeCells #[Value.int .u8 0] n).toList = _
  rw [toList_madeCells_one]
  simp
theorem rowI {W : World} {base g n c : Nat} {ys : List Int} (h : W.ownsRow base 2 1 (.slice (some ⟨g, 0, none⟩) n c) n (ys.map (Value.int .i64))) : Row W (.slice (some ⟨g, 0, none⟩) n c) ys := by
  have hl : ys.length = n := by simpa using h.1
  exact Row.own h hl (h.lt g rfl).2

set_option maxRecDepth 20000 in
set_option maxHeartbeats 4000000 in
theorem drawTok_any (ao : Option Addr) (len cap : Nat) (w : World) (hB : Bytes w ao len cap) :
    Calls Try.prog 8 #[.slice ao len cap] w fun e w' => (∃ (g n c : Nat) (ys : List Int) (T : ByteArray), e = .returned (.tuple #[.slice (some ⟨g, 0, none⟩) n c, .string T]) ∧ Row w' (.slice (some ⟨g, 0, none⟩) n c) ys ∧ T.size ≤ 65537) ∧ Below w.heap.size w w' := by
  obtain ⟨i1, hi, hz0, hz1, hz2⟩ := info_parts Try.info5
  have HI : Hid (i1.bytes = 1) := hz2
  have HB := hideP hB
  clear hB hz2
  go_enter Try.func8, Try.ntmps8
  go_wp2_with fail
  refine (new_any ao len cap w HB.out).mono ?_
  rintro e w1 ⟨rfl, hc1⟩
  have C1 := hideP hc1
  clear hc1
  go_wp2_with fail
  refine (drawCats_any ao len cap w w1 HB.out C1.out).mono ?_
  rintro e w2 ⟨g, n, c, ys, rfl, hn, ho2, hc2, hf2⟩
  have C2 := hideP hc2
  have O2 := hideP ho2
  have hg2 : w.heap.size < g := by have := (ho2.lt g rfl).1; have := C1.out.lt; omega
  have RW : Hid (∀ W, Fram w w2 W → Row W (.slice (some ⟨g, 0, none⟩) n c) ys) := hideP (fun W hW => rowI (own_same O2.out (fun q hq => by
    have h1 : q = g := by simpa [Value.ownBlock] using hq.symm
    subst h1
    exact hW.2 q (O2.out.lt q hq).2 (by omega))))
  clear ho2 hc2 hf2
  go_wp2_with fail
  refine (below_any 60 ao len cap w _ HB.out C2.out (by omega) (by omega)).mono ?_
  rintro e w3 ⟨N, rfl, n1, n2, cc3, oo3⟩
  have C3 := hideP cc3
  have F3 := hideP ((Fram.refl w w2).other oo3 cc3)
  clear cc3 oo3
  go_wp2_with fail
  refine (drawText_any N n1 (by omega) ao len cap w w3 HB.out C3.out).mono ?_
  rintro e w4 ⟨T, rfl, hT, hc4, hf4⟩
  have C4 := hideP hc4
  have F4 := hideP (F3.out.trans hf4)
  clear hc4 hf4
  go_wp2_with fail
  refine (once_any 60 ao len cap w _ HB.out C4.out (by omega) (by omega)).mono ?_
  rintro e w5 ⟨b, rfl, cc5, oo5⟩
  have C5 := hideP cc5
  have F5 := hideP (F4.out.other oo5 cc5)
  clear cc5 oo5
  cases b with
  | false =>
    have B5 : Hid (Below w.heap.size w w5) := hideP (by obtain ⟨_, _, _, _, _, h⟩ := C5.out; exact h)
    go_wp2
    refine bodyPost_ret (results_tmp2 rfl _ _ _) rfl ?_
    exact ⟨⟨g, n, c, ys, T, rfl, RW.out _ F5.out, by omega⟩, B5.out⟩
  | true =>
    go_wp2_with fail
    refine (below_any 2 ao len cap w _ HB.out C5.out (by omega) (by omega)).mono ?_
    rintro e w6 ⟨y, rfl, y1, y2, cc6, oo6⟩
    have C6 := hideP cc6
    have F6 := hideP (F5.out.other oo6 cc6)
    have B6 : Hid (Below w.heap.size w w6) := hideP (by obtain ⟨_, _, _, _, _, h⟩ := C6.out; exact h)
    clear cc6 oo6
    obtain ⟨q, hq⟩ : ∃ q : Nat, (65536 : Int) + y = (q : Int) := ⟨(65536 + y).toNat, by omega⟩
    have hqn : q ≤ 65537 := by omega
    go_wp2_with (first
      | (refine wpList_make_full _ rfl _ _ 22 rfl w6.heap.size 5 i1 (.int .u8 0) 1 Try.underlying22 hi hz0 hz1 _ _ _ _ q rfl rfl (by simp only [hq]) (by simp only [hq]) (by rw [show i1.bytes = 1 from HI]; omega) (by unfold maxLen; omega) (Nat.le_refl _) ?_; intro w7 hown hgrow))
    have hown0 : w7.ownsRow w6.heap.size 5 1 (.slice (some ⟨w6.heap.size, 0, none⟩) q q) q ((List.replicate q (0 : Int)).map (Value.int .u8)) := by rw [← made_bytes]; exact hown
    have hb7 : Below w6.heap.size w6 w7 := Below.grown (Below.refl _ _) hgrow (Nat.le_refl _) (by simp)
    obtain ⟨S, hS, hcv⟩ := conv_own hown0
    have F7 := hideP (F6.out.below hb7)
    have B7 := hideP (below_more B6.out hb7 B6.out.size)
    clear hown hown0 hgrow hb7
    rw [hcv]
    go_wp2
    refine bodyPost_ret (results_tmp2 rfl _ _ _) rfl ?_
    exact ⟨⟨g, n, c, ys, S, rfl, RW.out _ F7.out, by omega⟩, B7.out⟩
end Go.Proofs.Ytkiiiahljlkjnaa
