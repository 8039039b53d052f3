/-
  Where pages may end: the whole of the program.
-/
import Derived.Test.YtjagagbelpihbaaPbr
import Derived.Test.YtjagagbelpihbaaScr
import Derived.OwnWalk
import Derived.Laws.AppendOwn
namespace Go.Proofs.Ytjagagbelpihbaa
open Go.RowKit
set_option linter.unusedVariables false
set_option linter.unusedSimpArgs false

/-- Where pages of a stack may end. -/
def pbL (xs : List Nd) : List Int := if listB xs = true ∧ (its xs).length ≤ 4000 then ((List.range ((its xs).length + 1)).filter (pbB (its xs))).map (fun a : Nat => (a : Int)) else []
def fl (ys : List It) (k : Nat) : List Int := ((List.range k).filter (pbB ys)).map (fun a : Nat => (a : Int))
theorem fl_succ (ys : List It) (k : Nat) : fl ys (k + 1) = if pbB ys k = true then fl ys k ++ [(k : Int)] else fl ys k := by
  unfold fl
  rw [List.range_succ, List.filter_append]
  by_cases h : pbB ys k = true
  · rw [if_pos h]; simp [h]
  · rw [if_neg h]; simp [h]
theorem fl_len (ys : List It) (k : Nat) : (fl ys k).length ≤ k := by
  unfold fl
  rw [List.length_map]
  exact Nat.le_trans (List.length_filter_le _ _) (by simp)
theorem own_ne {w : World} {base n C T : Nat} {v : Value} {xs : List Value} {cs : Array Value} (h : w.ownsRow base 2 1 v n xs) (hC : w.heap[C]? = some (.cells cs T (0, 0))) (hT : T ≠ 2) : v.ownBlock ≠ some C := by
  obtain ⟨_, ⟨rfl, _⟩ | ⟨g, cap, cur, rfl, _, hb, _⟩⟩ := h
  · simp [Value.ownBlock]
  · intro e
    have e2 : g = C := by simpa [Value.ownBlock] using e
    subst e2
    rw [hb] at hC
    simp only [Option.some.injEq, Obj.cells.injEq] at hC
    exact hT hC.2.1.symm
theorem Try.info2i : (Try.prog.info? 2).map (fun i => (i.zero, i.size, i.bytes)) = some (some (.int .i64 0), 1, 8) := by kernel_rfl

set_option maxRecDepth 20000 in
set_option maxHeartbeats 8000000 in
theorem implPB_any {v : Value} {xs : List Nd} {w : World} (h : NRow 0 w v xs) (hs : xs.length ≤ 1048576) (hcp : ∀ a n c, v = .slice a n c → n ≤ c ∧ c ≤ 9223372036854775807) :
    Calls Try.prog 26 #[v] w fun e W' => (∃ u, e = .returned u ∧ W'.ownsRow w.heap.size 2 1 u (pbL xs).length ((pbL xs).map (Value.int .i64))) ∧ Below w.heap.size w W' := by
  have SC : Hid (∀ W, Below w.heap.size w W → Calls Try.prog 45 #[v, .agg #[.int .i64 0, .int .i64 0, .int .i64 0, .int .i64 0, .int .i64 0, .int .i64 0, .int .i64 0, .int .i64 0]] W fun e W' => (listB xs = false → e = .returned (.tuple #[.pointer none, .bool false])) ∧ (listB xs = true → ∃ (C D : Nat) (ua : Option Addr) (uc : Nat) (cs : Array Value), e = .returned (.tuple #[.pointer (some ⟨C, 0, none⟩), .bool (decide (((its xs).length : Int) ≤ 4000))]) ∧ W'.heap[C]? = some (.cells cs 101 (0, 0)) ∧ cs[9]? = some (.slice ua (its xs).length uc) ∧ W'.ownsRow W.heap.size 141 3 (.slice ua (its xs).length uc) (its xs).length (flatI (its xs))) ∧ Below W.heap.size W W') := hideP (fun W hW => by
    refine (callsIn_wide.1 (scrollOf_in (⟨0, 0, 0, 0, 0, 0, 0, 0⟩ : Sh) (SRow.below ndStable h hW) hs hcp)).mono ?_
    rintro e W' ⟨h1, h2, h3⟩
    have hz : shB ⟨0, 0, 0, 0, 0, 0, 0, 0⟩ = true := by decide
    rw [hz, Bool.true_and] at h1 h2
    refine ⟨h1, fun ho => ?_, h3⟩
    obtain ⟨C, D, ua, uc, e1, e2, e3, _⟩ := h2 ho
    exact ⟨C, D, ua, uc, _, e1, e2, rfl, e3⟩)
  have hN20 : listB xs = true → (its xs).length ≤ 20001 := fun ho => its_le (allOk ho)
  obtain ⟨ao, n, cap, rfl, hl, hr⟩ := h
  obtain ⟨ob, hob⟩ : ∃ ob, ob = listB xs := ⟨_, rfl⟩
  rw [← hob] at SC hN20
  have HOB := hideP hob
  obtain ⟨L, hL⟩ : ∃ L, L = pbL xs := ⟨_, rfl⟩
  rw [← hL]
  have HLL := hideP hL
  clear hob hr hl hcp hL
  go_enter Try.func26, Try.ntmps26
  go_wp2_with fail
  have B1 : Below w.heap.size w (w.alloc (.cells #[] 2)) := below1 _ _
  refine (SC.out _ B1).mono ?_
  rintro e w2 ⟨hf, ht, hb2⟩
  have B2 : Below w.heap.size w w2 := below_more B1 hb2 (by simp)
  have q2 : w2.heap[w.heap.size]? = some (.cells #[] 2 (0, 0)) := (hb2.block _ (by simp)).trans (heap_alloc_new _ _)
  have O2 : w2.ownsRow w.heap.size 2 1 (.slice (some ⟨w.heap.size, 0, none⟩) 0 0) 0 [] := ⟨rfl, .inr ⟨_, _, _, rfl, by omega, q2, by omega, by unfold maxLen; omega, rfl, rfl⟩⟩
  have HB2 := hideP B2
  have HO2 := hideP O2
  clear hb2 q2 B1 B2 O2 SC
  cases ob with
  | false =>
    obtain rfl := hf rfl
    have HE : Hid (L = []) := hideP (by rw [HLL.out]; unfold pbL; rw [if_neg (by rw [← HOB.out]; simp)])
    clear ht hf
    go_wp2
    go_ret
    refine ⟨⟨_, rfl, ?_⟩, HB2.out⟩
    rw [HE.out]
    exact HO2.out
  | true =>
    obtain ⟨C, D, ua, uc, cs, rfl, hC, hc9, hu⟩ := ht rfl
    obtain ⟨N, hN⟩ : ∃ N, N = (its xs).length := ⟨_, rfl⟩
    rw [← hN] at hc9 hu hN20 ⊢
    have hN2 := hN20 rfl
    have HN := hideP hN
    by_cases h4 : (N : Int) ≤ 4000
    · have h4b : decide ((N : Int) ≤ 4000) = true := decide_eq_true h4
      rw [h4b]
      have HU := hideP hu
      have HC := hideP hC
      have k9 : w2.cell? ⟨C, 9, none⟩ = some (.slice ua N uc) := by rw [cell_of_row _ _ _ _ 101 _ hC]; exact hc9
      have HC9 := hideP hc9
      have hCl : C < w2.heap.size := (Array.getElem?_eq_some_iff.1 hC).1
      clear hf hN hC hu hc9 hN20
      have HF0 : Hid (w2.ownsRow w.heap.size 2 1 (.slice (some ⟨w.heap.size, 0, none⟩) 0 0) (fl (its xs) 0).length ((fl (its xs) 0).map (Value.int .i64))) := HO2
      go_wp2
      go_loopw [3, 25] (fun s3 s25 wr => ∃ (k : Nat) (u : Value), k ≤ N + 1 ∧ s25 = .int .i64 k ∧ s3 = u ∧ wr.ownsRow w.heap.size 2 1 u (fl (its xs) k).length ((fl (its xs) k).map (Value.int .i64)) ∧ wr.heap[C]? = some (.cells cs 101 (0, 0)) ∧ wr.ownsRow (w.alloc (.cells #[] 2)).heap.size 141 3 (.slice ua N uc) N (flatI (its xs)) ∧ Below w.heap.size w wr) (fun _ s _ => N + 1 - (intOf s).toNat)
      case atStart => exact ⟨0, _, by omega, rfl, rfl, HF0.out, HC.out, HU.out, HB2.out⟩
      case round =>
        obtain ⟨k, u, hk, rfl, rfl, ho, hCr, hur, hB⟩ := hrel
        by_cases hkN : k < N + 1
        · have hki : (k : Int) < (N : Int) + 1 := by omega
          have z9 : wr.cell? ⟨C, 9, none⟩ = some (.slice ua N uc) := by rw [cell_of_row _ _ _ _ 101 _ hCr]; exact HC9.out
          have hCl2 : C < wr.heap.size := (Array.getElem?_eq_some_iff.1 hCr).1
          have BC : Hid (Calls Try.prog 46 #[.pointer (some ⟨C, 0, none⟩), .int .i64 (k : Int)] wr fun e w' => (∃ c : Int, e = .returned (.tuple #[.int .i64 c, .bool (pbB (its xs) k)])) ∧ Below wr.heap.size wr w') := hideP (brk46 k z9 hur HN.out.symm (by omega) (by omega))
          obtain ⟨pb, hpb⟩ : ∃ b, b = pbB (its xs) k := ⟨_, rfl⟩
          rw [← hpb] at BC
          have hfl := fl_succ (its xs) k
          rw [← hpb] at hfl
          have HFL := hideP hfl
          have hfk := fl_len (its xs) k
          obtain ⟨m, hm⟩ : ∃ m, m = (fl (its xs) k).length := ⟨_, rfl⟩
          rw [← hm] at ho hfk
          have HM := hideP hm
          have HO := hideP ho
          have HCr := hideP hCr
          have HUr := hideP hur
          have HBr := hideP hB
          obtain ⟨ua2, uc2, rfl⟩ := ownG_shape ho
          clear hfl hpb hm ho hCr hur hB z9
          go_wp2_with fail
          refine BC.out.mono ?_
          rintro e w6 ⟨⟨c, rfl⟩, hb6⟩
          have O6 := ownG_below HO.out hb6
          have C6 : w6.heap[C]? = some (.cells cs 101 (0, 0)) := (hb6.block C hCl2).trans HCr.out
          have U6 := ownG_below HUr.out hb6
          have B6 : Below w.heap.size w w6 := below_more HBr.out hb6 HBr.out.size
          have HO6 := hideP O6
          have HC6 := hideP C6
          have HU6 := hideP U6
          have HB6 := hideP B6
          have hsz6 : w.heap.size ≤ w6.heap.size := B6.size
          clear hb6 O6 C6 U6 B6
          cases pb with
          | false =>
            go_wp2
            go_roundw
            case rel =>
              refine ⟨k + 1, _, by omega, by go_num, rfl, ?_, HC6.out, HU6.out, HB6.out⟩
              rw [HFL.out]
              simp only [if_neg (show ¬ (false = true) by decide), Bool.false_eq_true, if_false]
              rw [← HM.out]
              exact HO6.out
            case measure => simp [intOf]; omega
          | true =>
            obtain ⟨j0, hj, hy0, hy1, hy2⟩ := info_parts Try.info2i
            go_wp2_with (at_builtin; refine wpList_append_own _ rfl _ _ 38 rfl w.heap.size 2 j0 _ 1 8 Try.underlying38 hj hy0 hy1 hy2 rfl (by decide) _ _ _ rfl (World.ownsRow.alloc HO6.out _) ⟨w6.heap.size, 0, none⟩ 1 1 [.int .i64 (k : Int)] rfl rfl (cell_one_new _ _ _) (by simp [Value.oneCell']) (by unfold maxLen; omega) (by omega) (by simp; omega) ?_)
            intro v5 w5 ho5 hg5 hnil5
            have hsa : (w6.alloc (.cells #[.int .i64 (k : Int)] 2)).heap.size = w6.heap.size + 1 := by simp
            have hb5 : ∀ q : Nat, q < w6.heap.size → (Value.slice ua2 m uc2).ownBlock ≠ some q → w5.heap[q]? = w6.heap[q]? := fun q hq hn => (hg5.block q (by omega) (fun e => hn e.symm)).trans (Below.heap_alloc _ _ _ hq)
            have C5 : Hid (w5.heap[C]? = some (.cells cs 101 (0, 0))) := hideP ((hb5 C (Array.getElem?_eq_some_iff.1 HC6.out).1 (own_ne HO6.out HC6.out (by decide))).trans HC6.out)
            have U5 : Hid (w5.ownsRow (w.alloc (.cells #[] 2)).heap.size 141 3 (.slice ua N uc) N (flatI (its xs))) := hideP (by
              obtain ⟨h0, h | ⟨g, cap', cur, e, hg, hb, hr⟩⟩ := HU6.out
              · exact ⟨h0, .inl h⟩
              · exact ⟨h0, .inr ⟨g, cap', cur, e, hg, (hb5 g (Array.getElem?_eq_some_iff.1 hb).1 (own_ne HO6.out hb (by decide))).trans hb, hr⟩⟩)
            have B5 : Hid (Below w.heap.size w w5) := hideP (by
              have b := HB6.out
              refine ⟨hg5.os.trans b.os, hg5.tape.trans b.tape, hg5.output.trans b.output, Nat.le_trans b.size (Nat.le_trans (by omega) hg5.size), fun q hq => (hb5 q (Nat.lt_of_lt_of_le hq hsz6) (fun e => ?_)).trans (b.block q hq)⟩
              have := (World.ownsRow.lt HO6.out q e).1
              omega)
            have O5 : Hid (w5.ownsRow w.heap.size 2 1 v5 (m + 1) ((fl (its xs) k).map (Value.int .i64) ++ [.int .i64 (k : Int)])) := hideP ho5
            clear ho5 hg5 hnil5 hb5 hsa
            go_wp2
            go_roundw
            case rel =>
              refine ⟨k + 1, _, by omega, by go_num, rfl, ?_, C5.out, U5.out, B5.out⟩
              rw [HFL.out]
              simp only [if_true]
              rw [List.length_append, List.length_singleton, ← HM.out, List.map_append]
              exact O5.out
            case measure => simp [intOf]; omega
        · have hki : ¬ (k : Int) < (N : Int) + 1 := by omega
          obtain rfl : k = N + 1 := by omega
          have HE : Hid (L = fl (its xs) (N + 1)) := hideP (by rw [HLL.out]; unfold pbL fl; rw [if_pos ⟨HOB.out.symm, by rw [← HN.out]; omega⟩, HN.out])
          have HO := hideP ho
          have HBr := hideP hB
          clear ho hCr hur hB
          go_wp2
          go_ret
          refine ⟨⟨_, rfl, ?_⟩, HBr.out⟩
          rw [HE.out]
          exact HO.out
    · have h4b : decide ((N : Int) ≤ 4000) = false := decide_eq_false h4
      rw [h4b]
      have HE : Hid (L = []) := hideP (by rw [HLL.out]; unfold pbL; rw [if_neg (by rw [← HN.out]; omega)])
      clear hf hN hC hu hc9 hN20 h4
      go_wp2
      go_ret
      refine ⟨⟨_, rfl, ?_⟩, HB2.out⟩
      rw [HE.out]
      exact HO2.out
end Go.Proofs.Ytjagagbelpihbaa
