/-
  The program's SetWord.
-/
import Derived.Test.YtggcfgbpameppaaSsw
import Derived.Test.YtggcfgbpameppaaPcs
namespace Go.Proofs.Ytggcfgbpameppaa
open Go.RowKit Go.Maps
set_option linter.unusedVariables false
set_option linter.unusedSimpArgs false

theorem own_ne {W : World} {b1 b2 e1 e2 s1 s2 n m : Nat} {t u : Value} {xs ys : List Value} (h1 : W.ownsRow b1 e1 s1 t n xs) (h2 : W.ownsRow b2 e2 s2 u m ys) (hne : e1 ≠ e2) (g : Nat) (hg : t.ownBlock = some g) : u.ownBlock ≠ some g := by
  intro hu
  rcases h1.2 with ⟨rfl, _⟩ | ⟨g1, cap1, cur1, rfl, _, k1, _⟩
  · cases hg
  · rcases h2.2 with ⟨rfl, _⟩ | ⟨g2, cap2, cur2, rfl, _, k2, _⟩
    · cases hu
    · simp only [Value.ownBlock, Option.some.injEq] at hg hu
      subst hg
      subst hu
      rw [k1] at k2
      simp only [Option.some.injEq, Obj.cells.injEq] at k2
      exact hne k2.2.1

/-- What stands while pieces are put together. -/
structure PInv (w wr : World) (u : Value) (acc : List (Int × Int)) : Prop where
  own : wr.ownsRow w.heap.size 81 2 u acc.length (f2 acc)
  bel : Below w.heap.size w wr
theorem PInv.put {w wr w' : World} {u u' : Value} {acc : List (Int × Int)} {a b : Int} (h : PInv w wr u acc) {W : World} (hW : Below wr.heap.size wr W) (ho : w'.ownsRow w.heap.size 81 2 u' (acc.length + 1) (f2 acc ++ [.int .i64 a, .int .i64 b])) (hg : W.grownBy w' u.ownBlock) : PInv w w' u' (acc ++ [(a, b)]) := by
  refine ⟨by rw [f2_snoc, List.length_append]; exact ho, Below.grown (below_more h.bel hW h.bel.size) hg (by have := h.bel.size; have := hW.size; omega) (fun j hj => (h.own.lt j hj).1)⟩

set_option maxRecDepth 20000 in
set_option maxHeartbeats 8000000 in
theorem implSetWord_any {f : Fo} {vg vp vb : Value} {gs ps : List Q4} {bs : List Int} {w : World} (h : TwoQ w vg vp gs ps) (hb : BRow 0 w vb bs) (hs : f.s.size ≤ 1048576) (hg : gs.length ≤ 1048576) (hp : ps.length ≤ 1048576) (hbl : bs.length ≤ 1048576) :
    Calls Try.prog 17 #[foV f vg vp, vb] w fun e w' => ∃ t, e = .returned t ∧ w'.ownsRow w.heap.size 81 2 t (swO f gs ps bs).length (f2 (swO f gs ps bs)) ∧ Below w.heap.size w w' := by
  have HC : Hid (∀ W, Below w.heap.size w W → Calls Try.prog 36 #[foV f vg vp] W fun e w' => ∃ o1 o2, e = .returned (.tuple #[.agg #[.map o1, .map o2], .bool (fontB f gs ps)]) ∧ (fontB f gs ps = true → Face w' (.agg #[.map o1, .map o2]) W.heap.size gs ps) ∧ Below W.heap.size W w') := hideP (fun W hW => checked_any (h.below hW) hs hg hp)
  have HX := hideP h
  have HBR := hideP hb
  obtain ⟨a1, n1, c1, rfl⟩ : ∃ a n c, vg = .slice a n c := by obtain ⟨a, c, rfl⟩ := h.g.shape; exact ⟨_, _, _, rfl⟩
  obtain ⟨a2, n2, c2, rfl⟩ : ∃ a n c, vp = .slice a n c := by obtain ⟨a, c, rfl⟩ := h.p.shape; exact ⟨_, _, _, rfl⟩
  obtain ⟨ab, nb, cb, rfl⟩ : ∃ a n c, vb = .slice a n c := by obtain ⟨a, c, rfl⟩ := hb.shape; exact ⟨_, _, _, rfl⟩
  have hnb := hb.len
  obtain ⟨R, hR⟩ : ∃ R, R = fontB f gs ps := ⟨_, rfl⟩
  obtain ⟨O, hO⟩ : ∃ o, o = swO f gs ps bs := ⟨_, rfl⟩
  have HO : Hid (O = if (R && decide (nb ≤ 1000)) then spL gs ps bs else []) := hideP (by rw [hO, hR, ← hnb]; rfl)
  have HNB := hideP hnb
  rw [← hO]
  rw [← hR] at HC
  have hnbl : nb ≤ 1048576 := by omega
  have HST : Hid (nb ≤ 1000 → ∀ W v lo, Below w.heap.size w W → Face W v lo gs ps → Calls Try.prog 42 #[v, .slice ab nb cb] W fun e w' => ∃ t, e = .returned t ∧ w'.ownsRow W.heap.size 83 3 t (stL gs ps bs).length (f3 (stL gs ps bs)) ∧ Below W.heap.size W w') := hideP (fun hn W v lo hW hf => set_any hf (SRow.below qStable HX.out.p hW) (SRow.below bStable HBR.out hW) (by rw [HNB.out]; exact hn))
  obtain ⟨T, hT⟩ : ∃ T, T = stL gs ps bs := ⟨_, rfl⟩
  have HSP : Hid (T.map pc = spL gs ps bs) := hideP (by rw [hT]; exact st_sp gs ps bs)
  have hTl : nb ≤ 1000 → T.length ≤ 2000 := fun hn => by rw [hT]; exact Nat.le_trans (st_len _ _ _) (by omega)
  rw [← hT] at HST
  clear hT h hb hs hg hp hR hO hbl hnb
  obtain ⟨s, g0, g1, g2, g3, g4, q, r⟩ := f
  simp only [foV] at HC ⊢
  go_enter Try.func17, Try.ntmps17
  go_wp2_with fail
  refine (HC.out _ (below2 _ _ _)).mono ?_
  rintro e w1 ⟨o1, o2, rfl, hf, hb⟩
  have B1 : Hid (Below w.heap.size w w1) := hideP (below_more (below2 _ _ _) hb (by simp; omega))
  have hz1 : w.heap.size + 1 < w1.heap.size := by have := hb.size; simp at this; omega
  have ON : Hid (w1.ownsRow w.heap.size 81 2 (.slice (some ⟨w.heap.size + 1, 0, none⟩) 0 0) 0 []) := hideP ⟨rfl, Or.inr ⟨w.heap.size + 1, 0, #[], rfl, Nat.le_succ _, (hb.block _ (by simp)).trans (by have h := heap_alloc_new (w.alloc (.cells #[Value.string s, Value.slice a1 n1 c1, Value.slice a2 n2 c2, Value.int IntKind.i64 g0, Value.int IntKind.i64 g1, Value.int IntKind.i64 g2, Value.int IntKind.i64 g3, Value.int IntKind.i64 g4, Value.int IntKind.i64 q, Value.int IntKind.i64 r] 34)) (.cells #[] 81); rw [World.size_alloc] at h; exact h), Nat.le_refl _, by unfold maxLen; omega, rfl, rfl⟩⟩
  clear hb
  by_cases hok : R = true ∧ nb ≤ 1000
  rotate_left
  · have HE : Hid (O = []) := hideP (by
      rw [HO.out, if_neg]
      intro h
      simp only [Bool.and_eq_true, decide_eq_true_eq] at h
      exact hok h)
    clear hf
    cases R with
    | false =>
      clear hok
      go_wp2
      go_ret
      exact ⟨_, rfl, by rw [HE.out]; exact own_below ON.out (below1 _ _), B1.out.alloc B1.out.size _⟩
    | true =>
      have hn : decide (1000 < (nb : Int)) = true := by have := Nat.lt_of_not_le (fun h => hok ⟨rfl, h⟩); simp; omega
      clear hok
      go_wp2
      go_ret
      exact ⟨_, rfl, by rw [HE.out]; exact own_below ON.out (below1 _ _), B1.out.alloc B1.out.size _⟩
  · obtain ⟨rfl, hnn⟩ := hok
    have hn : decide (1000 < (nb : Int)) = false := by simp; omega
    have HE : Hid (O = T.map pc) := hideP (by rw [HSP.out, HO.out]; simp [hnn])
    have hT2 := hTl hnn
    have hf' := hf rfl
    have HF := hideP hf'
    clear hf hTl
    obtain ⟨b1, b2, he, _, _, _, _⟩ := hf'.ex
    simp only [Value.agg.injEq, Array.mk.injEq, List.cons.injEq, Value.map.injEq, and_true] at he
    obtain ⟨rfl, rfl⟩ := he
    clear hf'
    have CST := hideP (fun W lo hW (hF : Face W (.agg #[.map (some b1), .map (some b2)]) lo gs ps) => HST.out hnn W (.agg #[.map (some b1), .map (some b2)]) lo hW hF)
    obtain ⟨W, hW⟩ : ∃ W, W = w1.alloc (.cells #[.map (some b1), .map (some b2)] 72) := ⟨_, rfl⟩
    have bW : Below w1.heap.size w1 W := by rw [hW]; exact below1 _ _
    have FC := hideP (HF.out.below bW)
    have BW := hideP (below_more B1.out bW B1.out.size)
    have OW := hideP (own_below ON.out bW)
    clear bW HF ON HST HC
    go_wp2_with fail
    rw [← hW]
    refine (CST.out W _ BW.out FC.out).mono ?_
    rintro e w2 ⟨t, rfl, ho2, hb2⟩
    obtain ⟨at0, ct, rfl⟩ := ownG_shape ho2
    have B2 := hideP (below_more BW.out hb2 BW.out.size)
    have O2 := hideP (own_below OW.out hb2)
    obtain ⟨n, hn0⟩ : ∃ n, n = T.length := ⟨_, rfl⟩
    have hnl : n ≤ 2000 := by omega
    have HN := hideP hn0
    rw [← hn0] at ho2 ⊢
    have H83 := hideP ho2
    have hml : n ≤ maxLen := by unfold maxLen; omega
    clear ho2 hb2 hn0 OW FC hW
    obtain ⟨i1, hi, hz0, hz1', hz2⟩ := info_parts Try.info81
    go_wp2
    go_loopw [5, 28] (fun u i wr => ∃ (k : Nat) (acc : List (Int × Int)), k ≤ n ∧ i = .int .i64 k ∧ Hid (acc = (T.take k).map pc) ∧ Hid (PInv w wr u acc) ∧ Hid (wr.ownsRow W.heap.size 83 3 (.slice at0 n ct) n (f3 T))) (fun _ i _ => n - (intOf i).toNat)
    case atStart => exact ⟨0, [], by omega, rfl, hideP rfl, hideP ⟨O2.out, B2.out⟩, H83⟩
    case round =>
      obtain ⟨k, acc, hk, rfl, HA, HP, HT⟩ := hrel
      clear H83 O2
      have hal : k = acc.length := by rw [HA.out, List.length_map, List.length_take, ← HN.out]; omega
      obtain ⟨au, cu, rfl⟩ := ownG_shape HP.out.own
      have HAL := hideP hal
      rw [← hal] at HP ⊢
      have HPO : Hid (wr.ownsRow w.heap.size 81 2 (.slice au k cu) k (f2 acc)) := hideP (by have h := HP.out.own; rw [← HAL.out] at h; exact h)
      clear hal
      by_cases hlt : k < n
      · have hki : (k : Int) < (n : Int) := by omega
        obtain ⟨g, rfl, hgl, e0, e1, e2⟩ : ∃ g, at0 = some ⟨g, 0, none⟩ ∧ g < wr.heap.size ∧ wr.cell? ⟨g, k * 3, none⟩ = some (.int .i64 (T.getD k (0, 0, 0)).1) ∧ wr.cell? ⟨g, k * 3 + 1, none⟩ = some (.int .i64 (T.getD k (0, 0, 0)).2.1) ∧ wr.cell? ⟨g, k * 3 + 2, none⟩ = some (.int .i64 (T.getD k (0, 0, 0)).2.2) := by
          rcases HT.out.2 with ⟨_, h0⟩ | ⟨g, cap, cur, he, _, hg, _⟩
          · omega
          · have ho2 := HT.out
            simp only [Value.slice.injEq] at he
            obtain ⟨rfl, _, rfl⟩ := he
            have hgl := (Array.getElem?_eq_some_iff.1 hg).1
            obtain ⟨e0, e1, e2⟩ := f3_get (ts := T) (k := k) (by rw [← HN.out]; omega)
            refine ⟨g, rfl, hgl, ?_, ?_, ?_⟩
            · rw [World.ownsRow.cellAt ho2 (k * 3) (by omega)]; exact e0
            · rw [World.ownsRow.cellAt ho2 (k * 3 + 1) (by omega)]; exact e1
            · rw [World.ownsRow.cellAt ho2 (k * 3 + 2) (by omega)]; exact e2
        obtain ⟨t, htt⟩ : ∃ t, t = T.getD k (0, 0, 0) := ⟨_, rfl⟩
        rw [← htt] at e0 e1 e2
        have HTK : Hid ((T.take (k + 1)).map pc = (T.take k).map pc ++ [pc t]) := hideP (by
          rw [htt, List.getD_eq_getElem?_getD, List.take_add_one, List.getElem?_eq_getElem (by rw [← HN.out]; exact hlt), List.map_append]
          rfl)
        clear htt
        obtain ⟨tc, tk, tn⟩ := t
        dsimp only at e0 e1 e2
        obtain ⟨W8, hW8⟩ : ∃ X, X = (wr.alloc (.cells #[.int .i64 tc, .int .i64 tk, .int .i64 tn] 83)).alloc (.cells #[.int .i64 tc, .int .i64 tk] 81) := ⟨_, rfl⟩
        have b8 : Below wr.heap.size wr W8 := by rw [hW8]; exact below2 _ _ _
        have N8 : Hid (∀ j u, [Value.int .i64 tc, .int .i64 tk][j]? = some u → W8.cell? ((⟨wr.heap.size + 1, 0, none⟩ : Addr).add j) = some u) := hideP (by rw [hW8]; have h := new2 (wr.alloc (.cells #[.int .i64 tc, .int .i64 tk, .int .i64 tn] 83)) (.int .i64 tc) (.int .i64 tk) 81; rw [World.size_alloc] at h; exact h)
        have O8 := hideP (own_below HPO.out b8)
        have T8 := hideP (own_below HT.out b8)
        have hz8 : w.heap.size ≤ W8.heap.size := Nat.le_trans HP.out.bel.size b8.size
        have B8 := hideP b8
        clear b8
        go_wp2_with (at_builtin; refine Hid.out ?_)
        refine hideP ?_
        rw [← hW8]
        refine wpList_append_own_at _ rfl (.tmp 32) (.tmp 35) 45 rfl w.heap.size 81 i1 (.agg #[.int .i64 0, .int .i64 0]) 2 16 Try.underlying45 hi hz0 hz1' hz2 rfl (by decide) (.slice au k cu) k (f2 acc) (by rfl) O8.out ⟨wr.heap.size + 1, 0, none⟩ 1 1 [.int .i64 tc, .int .i64 tk] (by rfl) rfl N8.out (one2 _ _) (by unfold maxLen; omega) (by omega) hz8 ?_
        intro v6 w6 ho6 hg6 hn6 hat6
        have J6 := hideP (HP.out.put B8.out (by rw [← HAL.out]; exact ho6) hg6)
        have T6 : Hid (w6.ownsRow W.heap.size 83 3 (.slice (some ⟨g, 0, none⟩) n ct) n (f3 T)) := hideP (own_same T8.out (fun b hb => hg6.block _ (T8.out.lt b hb).2 (fun e => own_ne T8.out O8.out (by decide) b hb e.symm)))
        obtain ⟨a6, c6, rfl⟩ := ownG_shape ho6
        clear ho6 hg6 hn6 hat6 T8 O8 N8 hW8
        go_wp2
        go_roundw
        case rel => exact ⟨k + 1, acc ++ [(tc, tk)], by omega, by go_num, hideP (by rw [HTK.out, ← HA.out]; rfl), J6, T6⟩
        case measure => simp [intOf]; omega
      · have hki : ¬ (k : Int) < (n : Int) := by omega
        have HQ : Hid (O = acc) := hideP (by rw [HE.out, HA.out, List.take_of_length_le (by rw [← HN.out]; omega)])
        go_wp2
        go_ret
        exact ⟨_, rfl, by rw [HQ.out, ← HAL.out]; exact HPO.out, HP.out.bel⟩
end Go.Proofs.Ytggcfgbpameppaa
