/-
  What is in a box: the specification.
-/
import Derived.Test.YtomemcfmnpginaaSst
namespace Go.Proofs.Ytomemcfmnpginaa
open Go.RowKit
set_option linter.unusedVariables false
set_option linter.unusedSimpArgs false

theorem starts_lt (xs : List Nd) : ∀ (f i p : Nat), p ∈ starts xs f i → p < xs.length
  | 0, _, _, h => by simp [starts] at h
  | f + 1, i, p, h => by
    simp only [starts] at h
    split at h
    · rcases List.mem_cons.1 h with rfl | h
      · assumption
      · exact starts_lt xs f _ p h
    · simp at h
theorem own_NRow {w : World} {base n : Nat} {v : Value} {xs : List Nd} (h : w.ownsRow base 57 15 v n (flatN xs)) (hn : xs.length = n) : NRow base w v xs := by
  obtain ⟨ao, cap, rfl, hg⟩ := own_shape h
  refine ⟨ao, n, cap, rfl, hn, fun hp => ?_⟩
  obtain ⟨g, rfl, hb, hlt⟩ := hg hp
  refine ⟨g, 0, rfl, hb, hlt, fun i hi => ⟨(xs.getD i Nd.none).cells, rfl, rfl, fun j hj => ?_⟩⟩
  have h1 := flatN_get xs i (by omega) j hj
  rw [List.getElem?_eq_getElem (show j < (xs.getD i Nd.none).cells.length from hj)] at h1 ⊢
  rw [show 0 + i * 15 + j = i * 15 + j by omega]
  exact (own_cell h h1).1
theorem own_cap {w : World} {base n : Nat} {v : Value} {xs : List Value} (h : w.ownsRow base 57 15 v n xs) : ∀ a n c, v = .slice a n c → n ≤ c ∧ c ≤ 9223372036854775807 := by
  intro a n' c e
  obtain ⟨hl, ⟨rfl, rfl⟩ | ⟨g, cap, cur, rfl, _, _, hn, hm, _⟩⟩ := h
  · simp at e
    omega
  · simp at e
    unfold maxLen at hm
    omega
theorem take_snoc {α : Type} (Z : List α) (j : Nat) (d : α) (h : j < Z.length) : Z.take (j + 1) = Z.take j ++ [Z.getD j d] := by
  rw [List.take_add_one, List.getElem?_eq_getElem h]
  simp [List.getD, List.getElem?_eq_getElem h]
theorem natI_at {w : World} {base g r c : Nat} {Z : List Nat} (h : IR w base (.slice (some ⟨g, 0, none⟩) r c) r (natI Z)) (hr : Z.length = r) {j : Nat} (hj : j < r) : w.cell? ⟨g, j, none⟩ = some (.int .i64 ((Z.getD j 0 : Nat) : Int)) := by
  rw [World.ownsRow.cellAt h j (by omega)]
  unfold natI
  simp [List.getElem?_map, List.getD, List.getElem?_eq_getElem (show j < Z.length by omega)]

set_option maxRecDepth 100000 in
set_option maxHeartbeats 4000000 in
theorem specInside_any {v : Value} {xs : List Nd} {w : World} (h : NRow 0 w v xs) (hs : xs.length ≤ 1048576) (hcp : ∀ a n c, v = .slice a n c → n ≤ c ∧ c ≤ 9223372036854775807) :
    Calls Try.prog 23 #[v] w fun e W' => (∃ u, e = .returned u ∧ W'.ownsRow w.heap.size 57 15 u (insideOf xs).length (flatN (insideOf xs))) ∧ Below w.heap.size w W' := by
  have OC := hideP (oneBox_any h hs)
  obtain ⟨ao, n, cap, rfl, hl, hr⟩ := h
  obtain ⟨hcap1, hcap2⟩ := hcp _ _ _ rfl
  have hnm : n ≤ 1048576 := by rw [← hl]; exact hs
  have HL := hideP hl
  have HR : Hid (0 < n → ∃ b off, ao = some ⟨b, off, none⟩ ∧ 0 ≤ b ∧ b < w.heap.size ∧ ∀ i, i < n → ∃ cs : List Value, cs.length = 15 ∧ NdR 0 w cs (xs.getD i Nd.none) ∧ ∀ j, j < 15 → w.cell? ⟨b, off + i * 15 + j, none⟩ = cs[j]?) := hideP hr
  obtain ⟨ob, hob⟩ : ∃ ob, ob = oneB xs := ⟨_, rfl⟩
  rw [← hob] at OC
  have HOB := hideP hob
  clear hob hr hl hcp
  go_enter Try.func23, Try.ntmps23
  go_wp2_with fail
  refine OC.out.mono ?_
  rintro e w1 ⟨rfl, hb1⟩
  have B1 := hideP hb1
  clear hb1
  cases ob with
  | false =>
    have HE : Hid (insideOf xs = []) := hideP (by unfold insideOf; rw [if_neg (by rw [← HOB.out]; simp)])
    go_wp2
    go_ret
    refine ⟨⟨.slice (some ⟨w1.heap.size, 0, none⟩) 0 0, rfl, ?_⟩, B1.out.alloc B1.out.size _⟩
    rw [HE.out]
    exact ⟨rfl, .inr ⟨w1.heap.size, 0, #[], rfl, B1.out.size, heap_alloc_new w1 _, Nat.le_refl _, by decide, rfl, rfl⟩⟩
  | true =>
    have hnp : 0 < n := by
      have h := HOB.out
      unfold oneB at h
      simp at h
      rw [← HL.out]
      exact List.length_pos_iff.2 (by intro e; simp [e] at h)
    obtain ⟨b, off, rfl, _, hb, hc⟩ := HR.out hnp
    have HFL : Hid (∀ W, Below w.heap.size w W → ∀ j u, (flatN (xs.drop 1))[j]? = some u → W.cell? ⟨b, off + 15 + j, none⟩ = some u) := hideP (fun W hW j u hj => by
      rw [Below.cell hW (p := ⟨b, off + 15 + j, none⟩) hb]
      exact tail_cells (by rw [HL.out]; exact hnp) (row_cells (fun i hi => hc i (by rw [← HL.out]; exact hi))) j u hj)
    have hl1 : (xs.drop 1).length = n - 1 := by rw [List.length_drop, HL.out]
    have h2 := one_tail HOB.out.symm
    have h1 := one_all HOB.out.symm
    obtain ⟨ys, hys⟩ : ∃ ys, ys = xs.drop 1 := ⟨_, rfl⟩
    rw [← hys] at HFL hl1 h2
    obtain ⟨m, hm⟩ : ∃ m, m = n - 1 := ⟨_, rfl⟩
    rw [← hm] at hl1
    have HLY := hideP hl1
    have HKI : Hid (ys.length ≤ 20000 ∧ ∀ i, i < ys.length → 0 ≤ (ys.getD i Nd.none).kids ∧ (ys.getD i Nd.none).kids ≤ 20000) := hideP ⟨by have := h1.1; rw [HL.out] at this; omega, fun i hi => ⟨good_kids (h2 i hi).1, Int.le_trans (h2 i hi).2 (by have := h1.1; omega)⟩⟩
    have HIN : Hid (insideOf xs = zeroAll ys (starts ys (ys.length + 1) 0)) := hideP (by unfold insideOf; rw [if_pos HOB.out.symm, ← hys])
    have hmm : m ≤ 1048576 := by omega
    obtain ⟨i0, hi, hz0, hz1, hz2⟩ := info_parts Try.info57c
    clear hc HR h1 h2 hys hl1
    by_cases hce : cap = 1
    · subst hce
      obtain rfl : n = 1 := by omega
      obtain rfl : m = 0 := by omega
      have HEM : Hid (flatN ys = []) := hideP (List.length_eq_zero_iff.1 (by rw [flatN_len, HLY.out]))
      go_wp2_with (at_builtin; refine wpList_append_own _ rfl _ _ 33 rfl w.heap.size 57 i0 _ 15 128 Try.underlying33 hi hz0 hz1 hz2 rfl (by decide) _ _ _ rfl (World.ownsRow_made w1 #[] 0 B1.out.size (Nat.zero_le _) (by simp)) ⟨b, off, none⟩ 0 0 (flatN ys) rfl ?d1 ?d2 ?d3 ?d4 ?d5 ?d6 ?_)
      case d1 => rw [HEM.out]; rfl
      case d2 =>
        intro j u hj
        rw [HEM.out] at hj
        simp at hj
      case d3 => exact flatN_one ys
      case d4 => unfold maxLen; omega
      case d5 => omega
      case d6 => have := B1.out.size; simp; omega
      intro v2 w2 hown hgrow hnil
      have hB2 : Below w.heap.size w w2 := (B1.out.alloc B1.out.size _).grown hgrow (by have := B1.out.size; simp; omega) (by intro k hk; simp [Value.ownBlock] at hk; have := B1.out.size; omega)
      have hown' : w2.ownsRow w.heap.size 57 15 v2 0 (flatN ys) := by simpa using hown
      obtain ⟨a2', c2, rfl, hg2⟩ := own_shape hown'
      have SC : Hid (Calls Try.prog 39 #[.slice a2' 0 c2] w2 fun e w' => (∃ u, e = .returned u ∧ IR w' w2.heap.size u (starts ys (ys.length + 1) 0).length (natI (starts ys (ys.length + 1) 0))) ∧ Below w2.heap.size w2 w') := hideP (starts_any (SRow.mono ndStable (own_NRow hown' HLY.out) (Nat.zero_le _)) HKI.out.1 HKI.out.2)
      have HO := hideP hown'
      have HB2 := hideP hB2
      have HG := hideP hg2
      obtain ⟨Z, hZ⟩ : ∃ Z, Z = starts ys (ys.length + 1) 0 := ⟨_, rfl⟩
      rw [← hZ] at SC HIN
      have HZL : Hid (∀ p ∈ Z, p < 0) := hideP (fun p hp => by rw [hZ] at hp; have := starts_lt _ _ _ _ hp; rw [HLY.out] at this; exact this)
      clear hown hown' hgrow hnil hB2 hg2 hZ hm
      go_wp2_with fail
      refine SC.out.mono ?_
      rintro e w3 ⟨⟨u, rfl, hIu⟩, hb3⟩
      obtain ⟨r, hr⟩ : ∃ r, r = Z.length := ⟨_, rfl⟩
      rw [← hr] at hIu
      have hrs : r ≤ 9223372036854775807 := by
        rcases hIu.2 with ⟨_, h⟩ | ⟨g', cap', cur, _, _, _, hle, hmx, _⟩
        · omega
        · unfold maxLen at hmx
          omega
      obtain ⟨au, cu, rfl, hau⟩ : ∃ au cu, u = .slice au r cu ∧ (0 < r → ∃ ga, au = some ⟨ga, 0, none⟩ ∧ w2.heap.size ≤ ga) := by
        rcases hIu.2 with ⟨h, h0⟩ | ⟨ga, cu, cur, h, hga, _⟩
        · subst h0
          exact ⟨none, 0, h, fun h => absurd h (by omega)⟩
        · exact ⟨_, _, h, fun _ => ⟨ga, rfl, hga⟩⟩
      have HIu := hideP hIu
      have HAU := hideP hau
      have HRZ := hideP hr
      have HO3 : Hid (w3.ownsRow w.heap.size 57 15 (.slice a2' 0 c2) 0 (flatN ys) ∧ Below w.heap.size w w3) := hideP ⟨own_below HO.out hb3, below_more HB2.out hb3 HB2.out.size⟩
      clear hIu hau hr hb3
      go_wp2
      go_loopw [5] (fun i wr => ∃ j : Nat, j ≤ r ∧ i = .int .i64 (j : Int) ∧ wr.ownsRow w.heap.size 57 15 (.slice a2' 0 c2) 0 (flatN (zeroAll ys (Z.take j))) ∧ IR wr w2.heap.size (.slice au r cu) r (natI Z) ∧ Below w.heap.size w wr) (fun i _ => r - (intOf i).toNat)
      case atStart => exact ⟨0, by omega, rfl, HO3.out.1, HIu.out, HO3.out.2⟩
      case round =>
        obtain ⟨j, hj, rfl, how, hIa, hbel⟩ := hrel
        by_cases hjr : j < r
        · have hjZ : j < Z.length := by rw [← HRZ.out]; exact hjr
          exact absurd (HZL.out (Z.getD j 0) (by simp [List.getD, List.getElem?_eq_getElem hjZ])) (by omega)
        · have hji : ¬ (j : Int) < (r : Int) := by omega
          obtain rfl : j = r := by omega
          have HOW := hideP how
          have HBE := hideP hbel
          have HTK : Hid (Z.take j = Z) := hideP (List.take_of_length_le (by rw [← HRZ.out]; omega))
          clear how hIa hbel
          go_wp2
          go_ret
          refine ⟨⟨.slice a2' 0 c2, rfl, ?_⟩, HBE.out⟩
          have h1 := HOW.out
          rw [HTK.out] at h1
          rw [HIN.out, zeroAll_len, HLY.out]
          exact h1
    · have hc1 : 1 < cap := by omega
      go_wp2_with (at_builtin; refine wpList_append_own _ rfl _ _ 33 rfl w.heap.size 57 i0 _ 15 128 Try.underlying33 hi hz0 hz1 hz2 rfl (by decide) _ _ _ rfl (World.ownsRow_made w1 #[] 0 B1.out.size (Nat.zero_le _) (by simp)) ⟨b, off + 15, none⟩ (n - 1) (cap - 1) (flatN ys) rfl ?c1 ?c2 ?c3 ?c4 ?c5 ?c6 ?_)
      case c1 => rw [flatN_len, HLY.out, ← hm]
      case c2 =>
        intro j u hj
        rw [Addr.add_lit]
        exact Lib.cell?_alloc_some _ (HFL.out w1 B1.out j u hj)
      case c3 => exact flatN_one ys
      case c4 => unfold maxLen; omega
      case c5 => omega
      case c6 => have := B1.out.size; simp; omega
      intro v2 w2 hown hgrow hnil
      have hB2 : Below w.heap.size w w2 := (B1.out.alloc B1.out.size _).grown hgrow (by have := B1.out.size; simp; omega) (by intro k hk; simp [Value.ownBlock] at hk; have := B1.out.size; omega)
      have hown' : w2.ownsRow w.heap.size 57 15 v2 m (flatN ys) := by rw [hm]; simpa using hown
      obtain ⟨a2', c2, rfl, hg2⟩ := own_shape hown'
      have SC : Hid (Calls Try.prog 39 #[.slice a2' m c2] w2 fun e w' => (∃ u, e = .returned u ∧ IR w' w2.heap.size u (starts ys (ys.length + 1) 0).length (natI (starts ys (ys.length + 1) 0))) ∧ Below w2.heap.size w2 w') := hideP (starts_any (SRow.mono ndStable (own_NRow hown' HLY.out) (Nat.zero_le _)) HKI.out.1 HKI.out.2)
      have HO := hideP hown'
      have HB2 := hideP hB2
      have HG := hideP hg2
      obtain ⟨Z, hZ⟩ : ∃ Z, Z = starts ys (ys.length + 1) 0 := ⟨_, rfl⟩
      rw [← hZ] at SC HIN
      have HZL : Hid (∀ p ∈ Z, p < m) := hideP (fun p hp => by rw [hZ] at hp; have := starts_lt _ _ _ _ hp; rw [HLY.out] at this; exact this)
      clear hown hown' hgrow hnil hB2 hg2 hZ hc1 hm
      go_wp2_with fail
      refine SC.out.mono ?_
      rintro e w3 ⟨⟨u, rfl, hIu⟩, hb3⟩
      obtain ⟨r, hr⟩ : ∃ r, r = Z.length := ⟨_, rfl⟩
      rw [← hr] at hIu
      have hrs : r ≤ 9223372036854775807 := by
        rcases hIu.2 with ⟨_, h⟩ | ⟨g', cap', cur, _, _, _, hle, hmx, _⟩
        · omega
        · unfold maxLen at hmx
          omega
      obtain ⟨au, cu, rfl, hau⟩ : ∃ au cu, u = .slice au r cu ∧ (0 < r → ∃ ga, au = some ⟨ga, 0, none⟩ ∧ w2.heap.size ≤ ga) := by
        rcases hIu.2 with ⟨h, h0⟩ | ⟨ga, cu, cur, h, hga, _⟩
        · subst h0
          exact ⟨none, 0, h, fun h => absurd h (by omega)⟩
        · exact ⟨_, _, h, fun _ => ⟨ga, rfl, hga⟩⟩
      have HIu := hideP hIu
      have HAU := hideP hau
      have HRZ := hideP hr
      have HO3 : Hid (w3.ownsRow w.heap.size 57 15 (.slice a2' m c2) m (flatN ys) ∧ Below w.heap.size w w3) := hideP ⟨own_below HO.out hb3, below_more HB2.out hb3 HB2.out.size⟩
      clear hIu hau hr hb3
      go_wp2
      go_loopw [5] (fun i wr => ∃ j : Nat, j ≤ r ∧ i = .int .i64 (j : Int) ∧ wr.ownsRow w.heap.size 57 15 (.slice a2' m c2) m (flatN (zeroAll ys (Z.take j))) ∧ IR wr w2.heap.size (.slice au r cu) r (natI Z) ∧ Below w.heap.size w wr) (fun i _ => r - (intOf i).toNat)
      case atStart => exact ⟨0, by omega, rfl, HO3.out.1, HIu.out, HO3.out.2⟩
      case round =>
        obtain ⟨j, hj, rfl, how, hIa, hbel⟩ := hrel
        by_cases hjr : j < r
        · have hji : (j : Int) < (r : Int) := by omega
          obtain ⟨ga, rfl, hga⟩ := HAU.out (by omega)
          obtain ⟨p, hp⟩ : ∃ p, p = Z.getD j 0 := ⟨_, rfl⟩
          have hjZ : j < Z.length := by rw [← HRZ.out]; exact hjr
          have hpm : p < m := HZL.out p (by rw [hp]; simp [List.getD, List.getElem?_eq_getElem hjZ])
          have hca := natI_at hIa HRZ.out.symm hjr
          rw [← hp] at hca
          obtain ⟨g, rfl, hgw, hg2⟩ := HG.out (by omega)
          obtain ⟨cur, hcur⟩ : ∃ cur, cur = zeroAll ys (Z.take j) := ⟨_, rfl⟩
          rw [← hcur] at how
          have hpl : p < cur.length := by rw [hcur, zeroAll_len, HLY.out]; exact hpm
          obtain ⟨hck, _⟩ := own_cell how (flatN_at cur p hpl 0 (by omega) (u := .int .i64 (cur.getD p Nd.none).k) rfl)
          obtain ⟨hcw, hfz⟩ := own_cell how (flatN_at cur p hpl 1 (by omega) (u := .int .i64 (cur.getD p Nd.none).wd) rfl)
          simp only [Nat.add_zero] at hck
          obtain ⟨kk, hkk⟩ : ∃ z, z = (cur.getD p Nd.none).k := ⟨_, rfl⟩
          obtain ⟨ww, hww⟩ : ∃ z, z = (cur.getD p Nd.none).wd := ⟨_, rfl⟩
          rw [← hkk] at hck
          rw [← hww] at hcw
          have HT : Hid (zeroAll ys (Z.take (j + 1)) = zeroAt cur p) := hideP (by rw [take_snoc Z j 0 hjZ, zeroAll_snoc, ← hcur, ← hp])
          have HK := hideP hkk
          have HOW := hideP how
          have HIA := hideP hIa
          have HBE := hideP hbel
          have HPL := hideP hpl
          have hpi : (p : Int) < (m : Int) := by omega
          clear how hIa hbel hkk hww hcur hp
          by_cases hgl : kk = 3
          · subst hgl
            have HF : Hid (flatN (zeroAt cur p) = (flatN cur).set (p * 15 + 1) (.int .i64 0)) := hideP (by rw [flatN_set _ _ HPL.out]; unfold zeroAt; rw [show glueB (cur.getD p Nd.none) = true by unfold glueB; rw [← HK.out]; rfl]; rfl)
            go_wp2
            go_roundw
            case rel =>
              refine ⟨j + 1, by omega, by go_num, ?_, ?_, HBE.out.setCell (p := ⟨g, p * 15 + 1, none⟩) hgw _⟩
              · rw [HT.out, HF.out]
                exact own_set HOW.out _ _
              · exact ownsRow_setCell_below HIA.out (a := ⟨g, p * 15 + 1, none⟩) hg2 _
            case measure => simp [intOf]; omega
          · have hkb : (kk == 3) = false := by simpa using hgl
            have HF : Hid (zeroAt cur p = cur) := hideP (by unfold zeroAt; rw [show glueB (cur.getD p Nd.none) = false by unfold glueB; rw [← HK.out]; exact hkb]; rfl)
            go_wp2
            go_roundw
            case rel => exact ⟨j + 1, by omega, by go_num, by rw [HT.out, HF.out]; exact HOW.out, HIA.out, HBE.out⟩
            case measure => simp [intOf]; omega
        · have hji : ¬ (j : Int) < (r : Int) := by omega
          obtain rfl : j = r := by omega
          have HOW := hideP how
          have HBE := hideP hbel
          have HTK : Hid (Z.take j = Z) := hideP (List.take_of_length_le (by rw [← HRZ.out]; omega))
          clear how hIa hbel
          go_wp2
          go_ret
          refine ⟨⟨.slice a2' m c2, rfl, ?_⟩, HBE.out⟩
          have h1 := HOW.out
          rw [HTK.out] at h1
          rw [HIN.out, zeroAll_len, HLY.out]
          exact h1
end Go.Proofs.Ytomemcfmnpginaa
