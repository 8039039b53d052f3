/-
  Where lines may end: the program.
-/
import Derived.Test.YtjagagbelpihbaaPar
namespace Go.Proofs.Ytjagagbelpihbaa
open Go.RowKit Go.Shelf
set_option linter.unusedVariables false
set_option linter.unusedSimpArgs false

set_option maxRecDepth 20000 in
set_option maxHeartbeats 8000000 in
theorem implBL_any {v : Value} {xs : List Nd} {w : World} (S : Sy) (h : NRow 0 w v xs) (hs : xs.length ≤ 1048576) (hcp : ∀ a n c, v = .slice a n c → n ≤ c ∧ c ≤ 9223372036854775807) (hNN : NN 0 w v xs) :
    Calls Try.prog 21 #[v, syV S] w fun e W' => (∃ u, e = .returned u ∧ W'.ownsRow w.heap.size 2 1 u (blL xs S).length ((blL xs S).map (Value.int .i64))) ∧ Below w.heap.size w W' := by
  have PC : Hid (∀ W, Below w.heap.size w W → Calls Try.prog 42 #[v, syV S] W (ParR xs S W)) := hideP (fun W hW => par_any S (SRow.below ndStable h hW) hs hcp (hNN.bel hW))
  have hsy : ∃ cs : Array Value, syV S = .agg cs ∧ cs.size = 23 := ⟨_, rfl, rfl⟩
  obtain ⟨cs, hcs, hsz⟩ := hsy
  rw [hcs] at PC ⊢
  obtain ⟨va, vn, vc, rfl, _⟩ := h
  obtain ⟨L, hL⟩ : ∃ L, L = blL xs S := ⟨_, rfl⟩
  rw [← hL]
  have HLL := hideP hL
  clear hL hcs hs hcp hNN
  obtain ⟨W0, hW0⟩ : ∃ W0, W0 = w.alloc (.cells cs 42) := ⟨_, rfl⟩
  have hG0 : W0.heap[w.heap.size]? = some (.cells cs 42 (0, 0)) := by rw [hW0]; exact heap_alloc_new w _
  have hZ0 : W0.heap.size = w.heap.size + 1 := by rw [hW0]; simp
  have B0 : Below w.heap.size w W0 := by rw [hW0]; exact below1 w _
  have HG1 : Hid ((W0.alloc (.cells #[] 2)).heap[w.heap.size]? = some (.cells cs 42 (0, 0))) := hideP ((Below.heap_alloc _ _ _ (by omega)).trans hG0)
  have B1 : Hid (Below w.heap.size w (W0.alloc (.cells #[] 2))) := hideP (B0.alloc B0.size _)
  have O1 : Hid ((W0.alloc (.cells #[] 2)).ownsRow w.heap.size 2 1 (.slice (some ⟨W0.heap.size, 0, none⟩) 0 0) 0 []) := hideP ⟨rfl, .inr ⟨_, _, _, rfl, by omega, heap_alloc_new W0 _, Nat.le_refl _, by unfold maxLen; omega, rfl, rfl⟩⟩
  clear hG0 B0
  go_enter Try.func21, Try.ntmps21
  go_upto_region 1 with fail
  rw [← hW0]
  clear hW0
  go_upto_region 2 with fail
  rw [hZ0] at O1
  obtain ⟨g0, hg0⟩ : ∃ g0, g0 = w.heap.size + 1 := ⟨_, rfl⟩
  rw [← hg0] at O1
  rw [← hg0]
  generalize World.alloc _ _ = W1 at B1 O1 HG1 ⊢
  clear hZ0 hg0
  go_wp2_with (refine wpList_load_row rfl 42 _ rfl w.heap.size rfl cs 42 (0, 0) HG1.out _ Try.underlying42 rfl (by rw [hsz]; kernel_rfl) ?_)
  refine (PC.out W1 B1.out).mono ?_
  rintro e w2 ⟨⟨p, ok, rfl, hno, hyes⟩, hb2⟩
  have B2 : Hid (Below w.heap.size w w2) := hideP (below_more B1.out hb2 B1.out.size)
  have O2 := hideP (own1_below O1.out hb2)
  have hg0l : g0 < W1.heap.size := (O1.out.lt g0 rfl).2
  clear hb2 HG1 PC
  cases ok with
  | false =>
    have HE : Hid (L = []) := hideP (by rw [HLL.out]; exact hno rfl)
    clear hno hyes
    go_wp2
    go_ret
    exact ⟨⟨_, rfl, by rw [HE.out]; exact O2.out⟩, B2.out⟩
  | true =>
    obtain ⟨PB, ts, g, m, c, rfl, htl, htf, hcell, hot⟩ := hyes rfl
    clear hno hyes
    rw [← HLL.out] at htf
    have hm : m = L.length + 1 := by
      have := congrArg List.length htf
      simp at this
      omega
    have hcap : m ≤ c ∧ c ≤ 9223372036854775807 := ownG_cap hot
    have hgl : g < w2.heap.size := (ownH_kind hot rfl).2.1
    have hgW : W1.heap.size ≤ g := (ownH_kind hot rfl).1
    have TCell : Hid (∀ X : World, (∀ b, W1.heap.size ≤ b → b < w2.heap.size → X.heap[b]? = w2.heap[b]?) → ∀ k, k < L.length → ∃ (t : Tn), t.1 = L.getD k 0 ∧ X.cell? ⟨g, 4 + k * 4, none⟩ = some (.int .i64 t.1) ∧ X.cell? ⟨g, 4 + k * 4 + 1, none⟩ = some (.int .i64 t.2.1) ∧ X.cell? ⟨g, 4 + k * 4 + 2, none⟩ = some (.pointer t.2.2.1) ∧ X.cell? ⟨g, 4 + k * 4 + 3, none⟩ = some (.int .i64 t.2.2.2)) := hideP (fun X hX k hk => by
      have hb := hX g hgW hgl
      have ht : ∀ j, j < 4 → X.cell? ⟨g, 4 + k * 4 + j, none⟩ = (ts.getD (k + 1) Tn.none).cells[j]? := fun j hj => by
        rw [World.cell?_of_block (w := w2) (a := ⟨g, 4 + k * 4 + j, none⟩) hb, hot.cellAt _ (by omega), show 4 + k * 4 + j = (k + 1) * 4 + j by omega]
        exact flatT_at ts (k + 1) j (by omega) hj
      refine ⟨ts.getD (k + 1) Tn.none, ?_, ht 0 (by omega), ht 1 (by omega), ht 2 (by omega), ht 3 (by omega)⟩
      have h1 := congrArg (fun l => l.getD (k + 1) 0) htf
      simp only [List.getD_cons_succ] at h1
      rw [← h1]
      simp [List.getD, List.getElem?_map, List.getElem?_eq_getElem (show k + 1 < ts.length by omega)])
    obtain ⟨n, hn⟩ : ∃ n, n = L.length := ⟨_, rfl⟩
    have HNn := hideP hn
    have hn3 : n ≤ 300 := by
      rw [hn, HLL.out]
      unfold blL
      split
      · rename_i hh; exact hh.2.2.2
      · simp
    have hmn : m = n + 1 := by omega
    clear htl htf hot hm hn
    subst hmn
    by_cases hc1 : c = 1
    · subst hc1
      have hn0 : n = 0 := by omega
      have O2' : Hid (w2.ownsRow w.heap.size 2 1 (.slice (some ⟨g0, 0, none⟩) 0 0) (L.take 0).length ((L.take 0).map (Value.int .i64))) := hideP (by simpa using O2.out)
      go_wp2_with fail
      go_loopw [5, 9, 26] (fun s5 _ s26 wi => ∃ (k : Nat) (u : Value), k ≤ n ∧ s26 = .int .i64 k ∧ s5 = u ∧ wi.ownsRow w.heap.size 2 1 u (L.take k).length ((L.take k).map (Value.int .i64)) ∧ (∀ gg, u.ownBlock = some gg → gg < W1.heap.size ∨ w2.heap.size ≤ gg) ∧ Abv W1.heap.size w2 wi ∧ Below w.heap.size w wi) (fun _ _ s _ => n - (intOf s).toNat)
      case atStart => exact ⟨0, _, by omega, rfl, rfl, O2'.out, fun gg e => .inl (by have e2 : g0 = gg := (by simpa [Value.ownBlock] using e); omega), Abv.refl _ _, B2.out⟩
      case round =>
        obtain ⟨k, u, hk, rfl, rfl, ho, hgg, hav, hB⟩ := hrel
        have hkl : (L.take k).length = k := by rw [List.length_take, ← HNn.out]; omega
        rw [hkl] at ho
        have HGG := hideP hgg
        have HAV := hideP hav
        have HO := hideP ho
        have HBr := hideP hB
        obtain ⟨ua2, uc2, hue⟩ := ownG_shape ho
        subst hue
        by_cases hkN : k < n
        · exact absurd hkN (by omega)
        · have hki : ¬ (k : Int) < (n : Int) := by omega
          obtain rfl : k = n := by omega
          have HE : Hid (L.take k = L) := hideP (List.take_of_length_le (by rw [← HNn.out]; exact Nat.le_refl _))
          clear ho hgg hav hB
          try clear hn0
          go_wp2
          go_ret
          refine ⟨⟨_, rfl, ?_⟩, HBr.out⟩
          have h1 := HO.out
          have hkL : k = L.length := HNn.out
          rw [HE.out] at h1
          rw [← hkL]
          exact h1
    · have hc1i : 1 < c := by omega
      have O2' : Hid (w2.ownsRow w.heap.size 2 1 (.slice (some ⟨g0, 0, none⟩) 0 0) (L.take 0).length ((L.take 0).map (Value.int .i64))) := hideP (by simpa using O2.out)
      go_wp2_with fail
      go_loopw [5, 9, 26] (fun s5 _ s26 wi => ∃ (k : Nat) (u : Value), k ≤ n ∧ s26 = .int .i64 k ∧ s5 = u ∧ wi.ownsRow w.heap.size 2 1 u (L.take k).length ((L.take k).map (Value.int .i64)) ∧ (∀ gg, u.ownBlock = some gg → gg < W1.heap.size ∨ w2.heap.size ≤ gg) ∧ Abv W1.heap.size w2 wi ∧ Below w.heap.size w wi) (fun _ _ s _ => n - (intOf s).toNat)
      case atStart => exact ⟨0, _, by omega, rfl, rfl, O2'.out, fun gg e => .inl (by have e2 : g0 = gg := (by simpa [Value.ownBlock] using e); omega), Abv.refl _ _, B2.out⟩
      case round =>
        obtain ⟨k, u, hk, rfl, rfl, ho, hgg, hav, hB⟩ := hrel
        have hkl : (L.take k).length = k := by rw [List.length_take, ← HNn.out]; omega
        rw [hkl] at ho
        have HGG := hideP hgg
        have HAV := hideP hav
        have HO := hideP ho
        have HBr := hideP hB
        obtain ⟨ua2, uc2, hue⟩ := ownG_shape ho
        subst hue
        by_cases hkN : k < n
        · have hki : (k : Int) < (n : Int) := by omega
          obtain ⟨t, ht1, t0, t1, t2, t3⟩ := TCell.out wr (fun b h1 h2 => hav.block b h1 h2) k (by rw [← HNn.out]; exact hkN)
          obtain ⟨i0, ic, ip, inx⟩ := t
          dsimp only at ht1 t0 t1 t2 t3
          have HT1 := hideP ht1
          have hgr : g < wr.heap.size := Nat.lt_of_lt_of_le hgl hav.size
          have hwz : w.heap.size ≤ wr.heap.size := hB.size
          have HO6 := hideP (ho.alloc (.cells #[.int .i64 i0, .int .i64 ic, .pointer ip, .int .i64 inx] 92))
          have hz0 : w2.heap.size ≤ wr.heap.size := hav.size
          clear hgg hav ho hB ht1 hkl
          obtain ⟨j0, hj, hy0, hy1, hy2⟩ := info_parts Try.info2i
          go_upto_region 8 with fail
          obtain ⟨w6, hw6⟩ : ∃ w6, w6 = wr.alloc (.cells #[.int .i64 i0, .int .i64 ic, .pointer ip, .int .i64 inx] 92) := ⟨_, rfl⟩
          have hq6 : w6.heap[wr.heap.size]? = some (.cells #[.int .i64 i0, .int .i64 ic, .pointer ip, .int .i64 inx] 92 (0, 0)) := by rw [hw6]; exact heap_alloc_new wr _
          have d0 := cell_of_row w6 wr.heap.size 0 _ 92 _ hq6
          have hbw6 : Below wr.heap.size wr w6 := by rw [hw6]; exact below1 _ _
          rw [← hw6] at HO6
          rw [← hw6]
          have HH6 : Hid (Abv W1.heap.size w2 w6) := hideP (HAV.out.trans (Abv.below hbw6))
          have HB6 : Hid (Below w.heap.size w w6) := hideP (below_more HBr.out hbw6 HBr.out.size)
          have hsz6 : w.heap.size ≤ w6.heap.size := HB6.out.size
          clear hw6 hq6 hbw6 t0 t1 t2 t3
          go_wp2_with (at_builtin; refine wpList_append_at rfl _ _ 38 rfl w.heap.size 2 j0 _ 1 8 Try.underlying38 hj hy0 hy1 hy2 rfl (by decide) _ _ _ rfl (World.ownsRow.alloc HO6.out _) ⟨w6.heap.size, 0, none⟩ 1 1 [.int .i64 i0] rfl rfl (cell_one_new _ _ _) (by simp [Value.oneCell']) (by unfold maxLen; omega) (by omega) (by simp; omega) ?_)
          intro v7 w7 ho7 hg7 hat7
          have hsa : (w6.alloc (.cells #[.int .i64 i0] 2)).heap.size = w6.heap.size + 1 := by simp
          have hb7 : ∀ q : Nat, q < w6.heap.size → (Value.slice ua2 k uc2).ownBlock ≠ some q → w7.heap[q]? = w6.heap[q]? := fun q hq hn => (hg7.block q (by omega) (fun e => hn e.symm)).trans (Below.heap_alloc _ _ _ hq)
          have hz2 : w2.heap.size ≤ w6.heap.size := HH6.out.size
          have G7 : Hid (∀ gg, v7.ownBlock = some gg → gg < W1.heap.size ∨ w2.heap.size ≤ gg) := hideP (fun gg e => by
            rcases hat7 with h | h
            · exact HGG.out gg (h.symm.trans e)
            · have := Option.some.inj (h.symm.trans e)
              omega)
          have A7 : Hid (Abv W1.heap.size w2 w7) := hideP ⟨Nat.le_trans hz2 (Nat.le_trans (by omega) hg7.size), fun q hq1 hq2 => (hb7 q (by omega) (fun e => by rcases HGG.out q e with h | h <;> omega)).trans (HH6.out.block q hq1 hq2)⟩
          have B7 : Hid (Below w.heap.size w w7) := hideP (by
            have b := HB6.out
            refine ⟨hg7.os.trans b.os, hg7.tape.trans b.tape, hg7.output.trans b.output, Nat.le_trans b.size (Nat.le_trans (by omega) hg7.size), fun q hq => (hb7 q (Nat.lt_of_lt_of_le hq hsz6) (fun e => ?_)).trans (b.block q hq)⟩
            have := (World.ownsRow.lt HO6.out q e).1
            omega)
          have O7 : Hid (w7.ownsRow w.heap.size 2 1 v7 (L.take (k + 1)).length ((L.take (k + 1)).map (Value.int .i64))) := hideP (by
            have hk2 : k < L.length := by rw [← HNn.out]; exact hkN
            rw [List.take_add_one, List.getElem?_eq_getElem hk2, List.length_append, List.length_take, Nat.min_eq_left (by omega)]
            have e1 : L[k] = i0 := by rw [HT1.out]; simp [List.getD, List.getElem?_eq_getElem hk2]
            simpa [e1] using ho7)
          clear ho7 hg7 hat7 hb7 hsa
          go_wp2
          go_roundw
          case rel => exact ⟨k + 1, _, by omega, by go_num, rfl, O7.out, G7.out, A7.out, B7.out⟩
          case measure => simp [intOf]; omega
        · have hki : ¬ (k : Int) < (n : Int) := by omega
          obtain rfl : k = n := by omega
          have HE : Hid (L.take k = L) := hideP (List.take_of_length_le (by rw [← HNn.out]; exact Nat.le_refl _))
          clear ho hgg hav hB
          try clear hn0
          go_wp2
          go_ret
          refine ⟨⟨_, rfl, ?_⟩, HBr.out⟩
          have h1 := HO.out
          have hkL : k = L.length := HNn.out
          rw [HE.out] at h1
          rw [← hkL]
          exact h1
end Go.Proofs.Ytjagagbelpihbaa
