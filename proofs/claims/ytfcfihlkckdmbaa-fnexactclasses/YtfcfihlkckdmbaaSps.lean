/-
  The classes of a formula: the specification.
-/
import Derived.Test.YtfcfihlkckdmbaaImc
namespace Go.Proofs.Ytfcfihlkckdmbaa
open Go.RowKit
set_option linter.unusedVariables false
set_option linter.unusedSimpArgs false

theorem tops_c : ∀ (m : Nat) (ys : List At), ys.length ≤ m → (tops ys).map At.c = (hds ys).map Hd.c := by
  intro m
  induction m with
  | zero =>
    intro ys h
    obtain rfl : ys = [] := List.eq_nil_of_length_eq_zero (by omega)
    rw [tops_nil, hds_nil]
    rfl
  | succ m ih =>
    intro ys h
    cases ys with
    | nil => rw [tops_nil, hds_nil]; rfl
    | cons a r =>
      rw [tops_cons, hds_cons, List.map_cons, List.map_cons, ih _ (by simp at h ⊢; omega)]
      rfl

set_option maxRecDepth 20000 in
set_option maxHeartbeats 4000000 in
theorem specCounted_any {v : Value} {xs : List At} {w : World} {deep : Nat} (h : ARow 0 w v xs) (hlen : xs.length ≤ 2000) (hok : ok xs deep = true) :
    Calls Try.prog 24 #[v] w fun e w' => (∃ u, e = .returned u ∧ w'.ownsRow w.heap.size 2 1 u (count none ((hds xs).map Hd.c)).length ((count none ((hds xs).map Hd.c)).map (Value.int .i64))) ∧ Below w.heap.size w w' := by
  have HA := hideP h
  have HS : Hid (∀ p ∈ starts xs 0, p < xs.length ∧ atomB (xs.getD p At.none) = true) := hideP (by
    have := starts_lt xs (deep := deep) xs.length 0 (by omega) (by simpa using hok)
    simpa using this)
  have ht := starts_tops xs xs.length 0 (by omega)
  simp only [List.drop_zero] at ht
  have CS : Hid (∀ W, Below w.heap.size w W → Calls Try.prog 31 #[v] W fun e w' => (∃ u, e = .returned u ∧ IR w' W.heap.size u (starts xs 0).length (natI (starts xs 0))) ∧ Below W.heap.size W w') := hideP (fun W hW => starts_any (h.below atStable hW) hlen hok)
  obtain ⟨ao, n, cap, rfl, hl, hr⟩ := h
  have HL := hideP hl
  have hn : n ≤ 2000 := by rw [← hl]; exact hlen
  obtain ⟨S, hS⟩ : ∃ S, S = starts xs 0 := ⟨_, rfl⟩
  rw [← hS] at CS HS ht
  obtain ⟨cs, hcs⟩ : ∃ cs, cs = (hds xs).map Hd.c := ⟨_, rfl⟩
  rw [← hcs]
  have hcs2 : cs = S.map (fun p => (xs.getD p At.none).c) := by
    rw [hcs, ← tops_c xs.length xs (Nat.le_refl _), ← ht, List.map_map]
    rfl
  obtain ⟨l, hSl⟩ : ∃ l, l = S.length := ⟨_, rfl⟩
  have hcl : cs.length = l := by rw [hcs2, List.length_map, hSl]
  obtain ⟨Z, hZ⟩ : ∃ Z, Z = count none cs := ⟨_, rfl⟩
  rw [← hZ]
  have hzl : Z.length = l := by rw [hZ, count_len]; exact hcl
  have HD : Hid (∀ k, k < l → Z.getD k 0 = cntAt cs k (Z.getD (k - 1) 0)) := hideP (fun k hk => by rw [hZ]; exact count_at (by omega))
  rw [← hSl] at CS
  rw [hzl]
  have hl2 : l ≤ 2000 := by
    have h1 := tops_le _ xs (Nat.le_refl _)
    rw [← ht, List.length_map, ← hSl] at h1
    omega
  have HRG : Hid (∀ j, j < l → 0 ≤ Z.getD j 0 ∧ Z.getD j 0 ≤ 7) := hideP (fun j hj => by
    have hc : 0 ≤ cs.getD j 0 ∧ cs.getD j 0 ≤ 7 := by
      rw [hcs2, List.getD_eq_getElem?_getD, List.getElem?_map, List.getElem?_eq_getElem (by omega)]
      have h1 := (HS.out (S[j]'(by omega)) (List.getElem_mem _)).2
      simp only [atomB, Bool.and_eq_true, decide_eq_true_eq] at h1
      simp only [Option.map_some, Option.getD_some]
      exact h1.1.1.1.1
    rw [HD.out j hj]
    unfold cntAt
    split
    · omega
    · exact hc)
  have HP : Hid (∀ k, k < l → S.getD k 0 < n ∧ (xs.getD (S.getD k 0) At.none).c = cs.getD k 0) := hideP (fun k hk => by
    rw [hcs2, List.getD_eq_getElem?_getD, List.getD_eq_getElem?_getD (l := List.map _ _), List.getElem?_map, List.getElem?_eq_getElem (by omega)]
    exact ⟨by rw [← hl]; exact (HS.out (S[k]'(by omega)) (List.getElem_mem _)).1, rfl⟩)
  have HCS := hideP hcs2
  have HSL := hideP hSl
  have HCL := hideP hcl
  have HZL := hideP hzl
  clear hr hl hlen hok ht hS hcs hcs2 hSl hcl hZ hzl
  go_enter Try.func24, Try.ntmps24
  go_wp2_with fail
  refine (CS.out _ (below1 _ _)).mono ?_
  rintro e w1 ⟨⟨u, rfl, hI⟩, hb1⟩
  obtain ⟨ua, ca, rfl⟩ : ∃ ua ca, u = .slice ua l ca := by
    rcases hI.2 with ⟨h0, h1⟩ | ⟨g, cap, cur, h, _⟩
    · exact ⟨none, 0, by rw [h0, h1]⟩
    · exact ⟨_, _, h⟩
  obtain ⟨ga, HGW⟩ : ∃ ga, Hid (0 < l → ua = some ⟨ga, 0, none⟩ ∧ ga < w1.heap.size ∧ (∃ cur, w1.heap[ga]? = some (.cells cur 3 (0, 0))) ∧ w.heap.size < ga + 1 ∧ ∀ j, j < l → w1.cell? ⟨ga, j, none⟩ = some (.int .i64 ((S.getD j 0 : Nat) : Int))) := by
    rcases hI.2 with ⟨h0, h1⟩ | ⟨g, cap, cur, h, hg, hh, hrest⟩
    · exact ⟨0, hideP (fun h => by omega)⟩
    · refine ⟨g, hideP (fun _ => ?_)⟩
      simp only [Value.slice.injEq] at h
      obtain ⟨rfl, _, rfl⟩ := h
      refine ⟨rfl, (Array.getElem?_eq_some_iff.1 hh).1, ⟨_, hh⟩, by simp at hg; omega, fun j hj => ?_⟩
      have hI2 : w1.ownsRow (w.alloc (.cells #[] 2)).heap.size 3 1 (.slice (some ⟨g, 0, none⟩) l ca) l ((natI S).map (Value.int .i64)) := hI
      rw [World.ownsRow.cellAt hI2 j (by omega), List.getElem?_map, natI, List.getElem?_map, List.getD_eq_getElem?_getD, List.getElem?_eq_getElem (by rw [← HSL.out]; exact hj)]
      rfl
  have B1 : Hid (Below w.heap.size w w1) := hideP (Below.trans (below1 w _) (hb1.mono (by simp)))
  have O1 : Hid (w1.ownsRow w.heap.size 2 1 (.slice (some ⟨w.heap.size, 0, none⟩) 0 0) 0 []) := hideP (by
    have hh := hb1.block w.heap.size (by simp)
    rw [heap_alloc_new w _] at hh
    exact ⟨by simp, .inr ⟨_, _, _, rfl, Nat.le_refl _, hh, by omega, by decide, rfl, rfl⟩⟩)
  have H1L : Hid (w.heap.size < w1.heap.size) := hideP (by have := hb1.size; simp at this; omega)
  clear hI hb1
  obtain ⟨i0, hi0, hy0, hy1, hy2⟩ := info_parts Try.info2b
  go_wp2
  go_loopw [3, 5] (fun cv iv wr => ∃ (k g2 c2 : Nat), k ≤ l ∧ iv = .int .i64 (k : Int) ∧ cv = .slice (some ⟨g2, 0, none⟩) k c2 ∧ Hid (wr.ownsRow w.heap.size 2 1 (.slice (some ⟨g2, 0, none⟩) k c2) k ((Z.take k).map (Value.int .i64)) ∧ Below w.heap.size w wr ∧ wr.heap[ga]? = w1.heap[ga]?)) (fun cv iv _ => (l - intOf iv).toNat)
  case atStart =>
    exact ⟨0, w.heap.size, 0, by omega, rfl, rfl, hideP ⟨by simpa using O1.out, B1.out, rfl⟩⟩
  case round =>
    obtain ⟨k, g2, c2, hk, rfl, rfl, HR⟩ := hrel
    by_cases hkl : k < l
    · have hki : (k : Int) < (l : Int) := by omega
      obtain ⟨rfl, hga, ⟨cur3, hg3⟩, hgw, hcell⟩ := HGW.out (by omega)
      have gat : Hid (∀ j, j < l → wr.cell? ⟨ga, j, none⟩ = some (.int .i64 ((S.getD j 0 : Nat) : Int))) := hideP (fun j hj => by rw [World.cell?_of_block (a := ⟨ga, j, none⟩) HR.out.2.2]; exact hcell j hj)
      have hw5 : w.heap.size ≤ wr.heap.size := HR.out.2.1.size
      obtain ⟨hg2, hgne⟩ : w.heap.size ≤ g2 ∧ ga ≠ g2 := by
        rcases HR.out.1.2 with ⟨h0, _⟩ | ⟨g', cap', cur, hv, hg', hh, _⟩
        · simp at h0
        · simp only [Value.slice.injEq, Option.some.injEq, Addr.mk.injEq, and_true] at hv
          obtain ⟨rfl, _⟩ := hv
          refine ⟨hg', fun he => ?_⟩
          subst he
          rw [HR.out.2.2, hg3] at hh
          simp at hh
      have hgl : ga < wr.heap.size := by
        have h := HR.out.2.2
        rw [hg3] at h
        exact (Array.getElem?_eq_some_iff.1 h).1
      have HG2 := hideP hg2
      have HGA : Hid (ga ≠ g2 ∧ ga < wr.heap.size) := hideP ⟨hgne, hgl⟩
      obtain ⟨p, hp⟩ : ∃ p, p = S.getD k 0 := ⟨_, rfl⟩
      have gp := gat.out k hkl
      rw [← hp] at gp
      obtain ⟨hpn, hpc⟩ := HP.out k hkl
      rw [← hp] at hpn hpc
      obtain ⟨b, off, cap', hv, hb, c0', gc, _⟩ := ARow.cells (HA.out.below atStable HR.out.2.1) (k := p) (by rw [HL.out]; exact hpn)
      simp only [Value.slice.injEq] at hv
      obtain ⟨rfl, hv1, hv2⟩ := hv
      obtain ⟨c0, hc0⟩ : ∃ c0, c0 = cs.getD k 0 := ⟨_, rfl⟩
      rw [hpc, ← hc0] at gc
      have hpi : (p : Int) < (n : Int) := by omega
      have HC0 := hideP hc0
      have hdk := HD.out k hkl
      have HDK := hideP hdk
      obtain ⟨d, hd⟩ : ∃ d, d = Z.getD k 0 := ⟨_, rfl⟩
      have HDD := hideP hd
      clear hv1 hv2 hga cur3 hg3 hgw hcell hg2 hgne hgl hp hpc c0' hc0 hdk hd
      by_cases h2 : c0 = 2
      case neg =>
        have h2' : (c0 == 2) = false := by simp [h2]
        have HE : Hid (c0 = d) := hideP (by rw [HDD.out, HDK.out]; unfold cntAt; rw [← HC0.out, if_neg (fun hh => h2 hh.1)])
        clear h2
        as_aux_lemma =>
          go_wp2_with (at_builtin; refine Hid.out ?_)
          refine hideP ?_
          refine wpList_append_own_at _ rfl (.tmp 81) (.tmp 83) 31 rfl w.heap.size 2 i0 (.int .i64 0) 1 8 Try.underlying31 hi0 hy0 hy1 hy2 rfl (by decide) (.slice (some ⟨g2, 0, none⟩) k c2) k ((Z.take k).map (Value.int .i64)) (by rfl) (World.ownsRow.alloc HR.out.1 _) ⟨wr.heap.size, 0, none⟩ 1 1 [.int .i64 c0] (by rfl) rfl (cell_one_new _ _ _) (by intro u hu; simp at hu; subst hu; rfl) (by unfold maxLen; omega) (by omega) (by simp; omega) ?_
          intro v6 w6 hown6 hgrow6 hnil6 hlies6
          have HG6 : Hid ((wr.alloc (.cells #[.int .i64 c0] 2)).grownBy w6 (some g2)) := hideP hgrow6
          have B6 : Hid (Below w.heap.size w w6) := hideP (Below.grown (HR.out.2.1.alloc hw5 _) HG6.out (by simp; omega) (by intro j hj; simp at hj; subst hj; exact HG2.out))
          have A6 : Hid (w6.heap[ga]? = w1.heap[ga]?) := hideP (by rw [HG6.out.block ga (by simp; have := HGA.out.2; omega) (by simpa using HGA.out.1), (below1 wr _).block ga HGA.out.2]; exact HR.out.2.2)
          obtain ⟨g6, c6, hv6⟩ : ∃ g c, v6 = .slice (some ⟨g, 0, none⟩) (k + 1) c := by
            rcases hown6.2 with ⟨_, h0⟩ | ⟨g, c, cur, h, _⟩
            · omega
            · exact ⟨g, c, h⟩
          subst hv6
          have HO6 : Hid (w6.ownsRow w.heap.size 2 1 (.slice (some ⟨g6, 0, none⟩) (k + 1) c6) (k + 1) ((Z.take (k + 1)).map (Value.int .i64))) := hideP (by
            have e1 : Z.take (k + 1) = Z.take k ++ [c0] := by
              rw [List.take_add_one, List.getElem?_eq_getElem (by rw [HZL.out]; exact hkl)]
              have h1 := HDD.out
              rw [List.getD_eq_getElem?_getD, List.getElem?_eq_getElem (by rw [HZL.out]; exact hkl)] at h1
              have h2 := HE.out
              simp only [Option.getD_some] at h1
              rw [h2, h1]
              rfl
            rw [e1, List.map_append]
            exact hown6)
          clear hown6 hgrow6 hnil6 hlies6
          go_wp2
          go_roundw
          case rel => exact ⟨k + 1, g6, c6, by omega, by go_num, rfl, hideP ⟨HO6.out, B6.out, A6.out⟩⟩
          case measure => simp [intOf]; omega
      case pos =>
        subst h2
        by_cases hk0 : k = 0
        · subst hk0
          have HE : Hid ((0 : Int) = d) := hideP (by rw [HDD.out, HDK.out]; unfold cntAt; rw [← HC0.out, if_pos ⟨rfl, .inl rfl⟩])
          as_aux_lemma =>
            go_wp2_with (at_builtin; refine Hid.out ?_)
            refine hideP ?_
            refine wpList_append_own_at _ rfl (.tmp 81) (.tmp 83) 31 rfl w.heap.size 2 i0 (.int .i64 0) 1 8 Try.underlying31 hi0 hy0 hy1 hy2 rfl (by decide) (.slice (some ⟨g2, 0, none⟩) 0 c2) 0 ((Z.take 0).map (Value.int .i64)) (by rfl) (World.ownsRow.alloc HR.out.1 _) ⟨wr.heap.size, 0, none⟩ 1 1 [.int .i64 0] (by rfl) rfl (cell_one_new _ _ _) (by intro u hu; simp at hu; subst hu; rfl) (by unfold maxLen; omega) (by omega) (by simp; omega) ?_
            intro v6 w6 hown6 hgrow6 hnil6 hlies6
            have HG6 : Hid ((wr.alloc (.cells #[.int .i64 0] 2)).grownBy w6 (some g2)) := hideP hgrow6
            have B6 : Hid (Below w.heap.size w w6) := hideP (Below.grown (HR.out.2.1.alloc hw5 _) HG6.out (by simp; omega) (by intro j hj; simp at hj; subst hj; exact HG2.out))
            have A6 : Hid (w6.heap[ga]? = w1.heap[ga]?) := hideP (by rw [HG6.out.block ga (by simp; have := HGA.out.2; omega) (by simpa using HGA.out.1), (below1 wr _).block ga HGA.out.2]; exact HR.out.2.2)
            obtain ⟨g6, c6, hv6⟩ : ∃ g c, v6 = .slice (some ⟨g, 0, none⟩) (0 + 1) c := by
              rcases hown6.2 with ⟨_, h0⟩ | ⟨g, c, cur, h, _⟩
              · omega
              · exact ⟨g, c, h⟩
            subst hv6
            have HO6 : Hid (w6.ownsRow w.heap.size 2 1 (.slice (some ⟨g6, 0, none⟩) (0 + 1) c6) (0 + 1) ((Z.take (0 + 1)).map (Value.int .i64))) := hideP (by
              have e1 : Z.take (0 + 1) = Z.take 0 ++ [0] := by
                rw [List.take_add_one, List.getElem?_eq_getElem (by rw [HZL.out]; exact hkl)]
                have h1 := HDD.out
                rw [List.getD_eq_getElem?_getD, List.getElem?_eq_getElem (by rw [HZL.out]; exact hkl)] at h1
                have h2 := HE.out
                simp only [Option.getD_some] at h1
                rw [h2, h1]
                rfl
              rw [e1, List.map_append]
              exact hown6)
            clear hown6 hgrow6 hnil6 hlies6
            go_wp2
            go_roundw
            case rel => exact ⟨0 + 1, g6, c6, by omega, by go_num, rfl, hideP ⟨HO6.out, B6.out, A6.out⟩⟩
            case measure => simp [intOf]; omega
        · obtain ⟨q, hq⟩ : ∃ q, q = Z.getD (k - 1) 0 := ⟨_, rfl⟩
          have gd : wr.cell? ⟨g2, k - 1, none⟩ = some (.int .i64 q) := by
            rw [World.ownsRow.cellAt HR.out.1 (k - 1) (by omega), List.getElem?_map, List.getElem?_take, if_pos (by omega), List.getElem?_eq_getElem (by rw [HZL.out]; omega), hq, List.getD_eq_getElem?_getD, List.getElem?_eq_getElem (by rw [HZL.out]; omega)]
            rfl
          have hqr := HRG.out (k - 1) (by omega)
          rw [← hq] at hqr
          have HQ := hideP hq
          have hkz : ((k : Int) == 0) = false := by simp [hk0]
          have hkz2 : ¬ ((k : Int) = 0) := by omega
          have hkm : ((k : Int) - 1).toNat = k - 1 := by omega
          have hkm0 : 0 ≤ (k : Int) - 1 := by omega
          have hkm1 : (k : Int) - 1 < (k : Int) := by omega
          clear hq
          by_cases hlast : k + 1 = l
          · have hla : (k : Int) = (l : Int) - 1 := by omega
            have hlb : ((k : Int) == (l : Int) - 1) = true := by simp [hla]
            have HE : Hid ((0 : Int) = d) := hideP (by rw [HDD.out, HDK.out]; unfold cntAt; rw [← HC0.out, if_pos ⟨rfl, .inr (.inl (by rw [HCL.out]; exact hlast))⟩])
            clear hla hlast hqr
            as_aux_lemma =>
              go_wp2_with (at_builtin; refine Hid.out ?_)
              refine hideP ?_
              refine wpList_append_own_at _ rfl (.tmp 81) (.tmp 83) 31 rfl w.heap.size 2 i0 (.int .i64 0) 1 8 Try.underlying31 hi0 hy0 hy1 hy2 rfl (by decide) (.slice (some ⟨g2, 0, none⟩) k c2) k ((Z.take k).map (Value.int .i64)) (by rfl) (World.ownsRow.alloc HR.out.1 _) ⟨wr.heap.size, 0, none⟩ 1 1 [.int .i64 0] (by rfl) rfl (cell_one_new _ _ _) (by intro u hu; simp at hu; subst hu; rfl) (by unfold maxLen; omega) (by omega) (by simp; omega) ?_
              intro v6 w6 hown6 hgrow6 hnil6 hlies6
              have HG6 : Hid ((wr.alloc (.cells #[.int .i64 0] 2)).grownBy w6 (some g2)) := hideP hgrow6
              have B6 : Hid (Below w.heap.size w w6) := hideP (Below.grown (HR.out.2.1.alloc hw5 _) HG6.out (by simp; omega) (by intro j hj; simp at hj; subst hj; exact HG2.out))
              have A6 : Hid (w6.heap[ga]? = w1.heap[ga]?) := hideP (by rw [HG6.out.block ga (by simp; have := HGA.out.2; omega) (by simpa using HGA.out.1), (below1 wr _).block ga HGA.out.2]; exact HR.out.2.2)
              obtain ⟨g6, c6, hv6⟩ : ∃ g c, v6 = .slice (some ⟨g, 0, none⟩) (k + 1) c := by
                rcases hown6.2 with ⟨_, h0⟩ | ⟨g, c, cur, h, _⟩
                · omega
                · exact ⟨g, c, h⟩
              subst hv6
              have HO6 : Hid (w6.ownsRow w.heap.size 2 1 (.slice (some ⟨g6, 0, none⟩) (k + 1) c6) (k + 1) ((Z.take (k + 1)).map (Value.int .i64))) := hideP (by
                have e1 : Z.take (k + 1) = Z.take k ++ [0] := by
                  rw [List.take_add_one, List.getElem?_eq_getElem (by rw [HZL.out]; exact hkl)]
                  have h1 := HDD.out
                  rw [List.getD_eq_getElem?_getD, List.getElem?_eq_getElem (by rw [HZL.out]; exact hkl)] at h1
                  have h2 := HE.out
                  simp only [Option.getD_some] at h1
                  rw [h2, h1]
                  rfl
                rw [e1, List.map_append]
                exact hown6)
              clear hown6 hgrow6 hnil6 hlies6
              go_wp2
              go_roundw
              case rel => exact ⟨k + 1, g6, c6, by omega, by go_num, rfl, hideP ⟨HO6.out, B6.out, A6.out⟩⟩
              case measure => simp [intOf]; omega
          · have hla : ¬ ((k : Int) = (l : Int) - 1) := by omega
            have hlb : ((k : Int) == (l : Int) - 1) = false := by simp [hla]
            obtain ⟨p1, hp1⟩ : ∃ p1, p1 = S.getD (k + 1) 0 := ⟨_, rfl⟩
            have gp1 := gat.out (k + 1) (by omega)
            rw [← hp1] at gp1
            obtain ⟨hpn1, hpc1⟩ := HP.out (k + 1) (by omega)
            rw [← hp1] at hpn1 hpc1
            obtain ⟨b', off', cap'', hv, hb', c0', gc1, _⟩ := ARow.cells (HA.out.below atStable HR.out.2.1) (k := p1) (by rw [HL.out]; exact hpn1)
            simp only [Value.slice.injEq, Option.some.injEq, Addr.mk.injEq, and_true] at hv
            obtain ⟨⟨rfl, rfl⟩, hv1, hv2⟩ := hv
            obtain ⟨c1, hc1⟩ : ∃ c1, c1 = cs.getD (k + 1) 0 := ⟨_, rfl⟩
            rw [hpc1, ← hc1] at gc1
            have hpi1 : (p1 : Int) < (n : Int) := by omega
            have HC1 := hideP hc1
            have hk1 : (k : Int) + 1 < (l : Int) := by omega
            have HNL := hideP hlast
            clear hv1 hv2 hp1 hpc1 c0' hc1 hb' hla hlast
            by_cases hbq : q = 2 ∨ q = 1 ∨ q = 3 ∨ q = 4 ∨ q = 6
            · have HE : Hid ((0 : Int) = d) := hideP (by
                rw [HDD.out, HDK.out, ← HQ.out]
                unfold cntAt
                rw [← HC0.out, if_pos ⟨rfl, .inr (.inr (.inl (by unfold behB; rcases hbq with h | h | h | h | h <;> subst h <;> decide)))⟩])
              clear hqr
              rcases hbq with h | h | h | h | h
              · subst h
                as_aux_lemma =>
                  go_wp2_with (at_builtin; refine Hid.out ?_)
                  refine hideP ?_
                  refine wpList_append_own_at _ rfl (.tmp 81) (.tmp 83) 31 rfl w.heap.size 2 i0 (.int .i64 0) 1 8 Try.underlying31 hi0 hy0 hy1 hy2 rfl (by decide) (.slice (some ⟨g2, 0, none⟩) k c2) k ((Z.take k).map (Value.int .i64)) (by rfl) (World.ownsRow.alloc HR.out.1 _) ⟨wr.heap.size, 0, none⟩ 1 1 [.int .i64 0] (by rfl) rfl (cell_one_new _ _ _) (by intro u hu; simp at hu; subst hu; rfl) (by unfold maxLen; omega) (by omega) (by simp; omega) ?_
                  intro v6 w6 hown6 hgrow6 hnil6 hlies6
                  have HG6 : Hid ((wr.alloc (.cells #[.int .i64 0] 2)).grownBy w6 (some g2)) := hideP hgrow6
                  have B6 : Hid (Below w.heap.size w w6) := hideP (Below.grown (HR.out.2.1.alloc hw5 _) HG6.out (by simp; omega) (by intro j hj; simp at hj; subst hj; exact HG2.out))
                  have A6 : Hid (w6.heap[ga]? = w1.heap[ga]?) := hideP (by rw [HG6.out.block ga (by simp; have := HGA.out.2; omega) (by simpa using HGA.out.1), (below1 wr _).block ga HGA.out.2]; exact HR.out.2.2)
                  obtain ⟨g6, c6, hv6⟩ : ∃ g c, v6 = .slice (some ⟨g, 0, none⟩) (k + 1) c := by
                    rcases hown6.2 with ⟨_, h0⟩ | ⟨g, c, cur, h, _⟩
                    · omega
                    · exact ⟨g, c, h⟩
                  subst hv6
                  have HO6 : Hid (w6.ownsRow w.heap.size 2 1 (.slice (some ⟨g6, 0, none⟩) (k + 1) c6) (k + 1) ((Z.take (k + 1)).map (Value.int .i64))) := hideP (by
                    have e1 : Z.take (k + 1) = Z.take k ++ [0] := by
                      rw [List.take_add_one, List.getElem?_eq_getElem (by rw [HZL.out]; exact hkl)]
                      have h1 := HDD.out
                      rw [List.getD_eq_getElem?_getD, List.getElem?_eq_getElem (by rw [HZL.out]; exact hkl)] at h1
                      have h2 := HE.out
                      simp only [Option.getD_some] at h1
                      rw [h2, h1]
                      rfl
                    rw [e1, List.map_append]
                    exact hown6)
                  clear hown6 hgrow6 hnil6 hlies6
                  go_wp2
                  go_roundw
                  case rel => exact ⟨k + 1, g6, c6, by omega, by go_num, rfl, hideP ⟨HO6.out, B6.out, A6.out⟩⟩
                  case measure => simp [intOf]; omega
              · subst h
                as_aux_lemma =>
                  go_wp2_with (at_builtin; refine Hid.out ?_)
                  refine hideP ?_
                  refine wpList_append_own_at _ rfl (.tmp 81) (.tmp 83) 31 rfl w.heap.size 2 i0 (.int .i64 0) 1 8 Try.underlying31 hi0 hy0 hy1 hy2 rfl (by decide) (.slice (some ⟨g2, 0, none⟩) k c2) k ((Z.take k).map (Value.int .i64)) (by rfl) (World.ownsRow.alloc HR.out.1 _) ⟨wr.heap.size, 0, none⟩ 1 1 [.int .i64 0] (by rfl) rfl (cell_one_new _ _ _) (by intro u hu; simp at hu; subst hu; rfl) (by unfold maxLen; omega) (by omega) (by simp; omega) ?_
                  intro v6 w6 hown6 hgrow6 hnil6 hlies6
                  have HG6 : Hid ((wr.alloc (.cells #[.int .i64 0] 2)).grownBy w6 (some g2)) := hideP hgrow6
                  have B6 : Hid (Below w.heap.size w w6) := hideP (Below.grown (HR.out.2.1.alloc hw5 _) HG6.out (by simp; omega) (by intro j hj; simp at hj; subst hj; exact HG2.out))
                  have A6 : Hid (w6.heap[ga]? = w1.heap[ga]?) := hideP (by rw [HG6.out.block ga (by simp; have := HGA.out.2; omega) (by simpa using HGA.out.1), (below1 wr _).block ga HGA.out.2]; exact HR.out.2.2)
                  obtain ⟨g6, c6, hv6⟩ : ∃ g c, v6 = .slice (some ⟨g, 0, none⟩) (k + 1) c := by
                    rcases hown6.2 with ⟨_, h0⟩ | ⟨g, c, cur, h, _⟩
                    · omega
                    · exact ⟨g, c, h⟩
                  subst hv6
                  have HO6 : Hid (w6.ownsRow w.heap.size 2 1 (.slice (some ⟨g6, 0, none⟩) (k + 1) c6) (k + 1) ((Z.take (k + 1)).map (Value.int .i64))) := hideP (by
                    have e1 : Z.take (k + 1) = Z.take k ++ [0] := by
                      rw [List.take_add_one, List.getElem?_eq_getElem (by rw [HZL.out]; exact hkl)]
                      have h1 := HDD.out
                      rw [List.getD_eq_getElem?_getD, List.getElem?_eq_getElem (by rw [HZL.out]; exact hkl)] at h1
                      have h2 := HE.out
                      simp only [Option.getD_some] at h1
                      rw [h2, h1]
                      rfl
                    rw [e1, List.map_append]
                    exact hown6)
                  clear hown6 hgrow6 hnil6 hlies6
                  go_wp2
                  go_roundw
                  case rel => exact ⟨k + 1, g6, c6, by omega, by go_num, rfl, hideP ⟨HO6.out, B6.out, A6.out⟩⟩
                  case measure => simp [intOf]; omega
              · subst h
                as_aux_lemma =>
                  go_wp2_with (at_builtin; refine Hid.out ?_)
                  refine hideP ?_
                  refine wpList_append_own_at _ rfl (.tmp 81) (.tmp 83) 31 rfl w.heap.size 2 i0 (.int .i64 0) 1 8 Try.underlying31 hi0 hy0 hy1 hy2 rfl (by decide) (.slice (some ⟨g2, 0, none⟩) k c2) k ((Z.take k).map (Value.int .i64)) (by rfl) (World.ownsRow.alloc HR.out.1 _) ⟨wr.heap.size, 0, none⟩ 1 1 [.int .i64 0] (by rfl) rfl (cell_one_new _ _ _) (by intro u hu; simp at hu; subst hu; rfl) (by unfold maxLen; omega) (by omega) (by simp; omega) ?_
                  intro v6 w6 hown6 hgrow6 hnil6 hlies6
                  have HG6 : Hid ((wr.alloc (.cells #[.int .i64 0] 2)).grownBy w6 (some g2)) := hideP hgrow6
                  have B6 : Hid (Below w.heap.size w w6) := hideP (Below.grown (HR.out.2.1.alloc hw5 _) HG6.out (by simp; omega) (by intro j hj; simp at hj; subst hj; exact HG2.out))
                  have A6 : Hid (w6.heap[ga]? = w1.heap[ga]?) := hideP (by rw [HG6.out.block ga (by simp; have := HGA.out.2; omega) (by simpa using HGA.out.1), (below1 wr _).block ga HGA.out.2]; exact HR.out.2.2)
                  obtain ⟨g6, c6, hv6⟩ : ∃ g c, v6 = .slice (some ⟨g, 0, none⟩) (k + 1) c := by
                    rcases hown6.2 with ⟨_, h0⟩ | ⟨g, c, cur, h, _⟩
                    · omega
                    · exact ⟨g, c, h⟩
                  subst hv6
                  have HO6 : Hid (w6.ownsRow w.heap.size 2 1 (.slice (some ⟨g6, 0, none⟩) (k + 1) c6) (k + 1) ((Z.take (k + 1)).map (Value.int .i64))) := hideP (by
                    have e1 : Z.take (k + 1) = Z.take k ++ [0] := by
                      rw [List.take_add_one, List.getElem?_eq_getElem (by rw [HZL.out]; exact hkl)]
                      have h1 := HDD.out
                      rw [List.getD_eq_getElem?_getD, List.getElem?_eq_getElem (by rw [HZL.out]; exact hkl)] at h1
                      have h2 := HE.out
                      simp only [Option.getD_some] at h1
                      rw [h2, h1]
                      rfl
                    rw [e1, List.map_append]
                    exact hown6)
                  clear hown6 hgrow6 hnil6 hlies6
                  go_wp2
                  go_roundw
                  case rel => exact ⟨k + 1, g6, c6, by omega, by go_num, rfl, hideP ⟨HO6.out, B6.out, A6.out⟩⟩
                  case measure => simp [intOf]; omega
              · subst h
                as_aux_lemma =>
                  go_wp2_with (at_builtin; refine Hid.out ?_)
                  refine hideP ?_
                  refine wpList_append_own_at _ rfl (.tmp 81) (.tmp 83) 31 rfl w.heap.size 2 i0 (.int .i64 0) 1 8 Try.underlying31 hi0 hy0 hy1 hy2 rfl (by decide) (.slice (some ⟨g2, 0, none⟩) k c2) k ((Z.take k).map (Value.int .i64)) (by rfl) (World.ownsRow.alloc HR.out.1 _) ⟨wr.heap.size, 0, none⟩ 1 1 [.int .i64 0] (by rfl) rfl (cell_one_new _ _ _) (by intro u hu; simp at hu; subst hu; rfl) (by unfold maxLen; omega) (by omega) (by simp; omega) ?_
                  intro v6 w6 hown6 hgrow6 hnil6 hlies6
                  have HG6 : Hid ((wr.alloc (.cells #[.int .i64 0] 2)).grownBy w6 (some g2)) := hideP hgrow6
                  have B6 : Hid (Below w.heap.size w w6) := hideP (Below.grown (HR.out.2.1.alloc hw5 _) HG6.out (by simp; omega) (by intro j hj; simp at hj; subst hj; exact HG2.out))
                  have A6 : Hid (w6.heap[ga]? = w1.heap[ga]?) := hideP (by rw [HG6.out.block ga (by simp; have := HGA.out.2; omega) (by simpa using HGA.out.1), (below1 wr _).block ga HGA.out.2]; exact HR.out.2.2)
                  obtain ⟨g6, c6, hv6⟩ : ∃ g c, v6 = .slice (some ⟨g, 0, none⟩) (k + 1) c := by
                    rcases hown6.2 with ⟨_, h0⟩ | ⟨g, c, cur, h, _⟩
                    · omega
                    · exact ⟨g, c, h⟩
                  subst hv6
                  have HO6 : Hid (w6.ownsRow w.heap.size 2 1 (.slice (some ⟨g6, 0, none⟩) (k + 1) c6) (k + 1) ((Z.take (k + 1)).map (Value.int .i64))) := hideP (by
                    have e1 : Z.take (k + 1) = Z.take k ++ [0] := by
                      rw [List.take_add_one, List.getElem?_eq_getElem (by rw [HZL.out]; exact hkl)]
                      have h1 := HDD.out
                      rw [List.getD_eq_getElem?_getD, List.getElem?_eq_getElem (by rw [HZL.out]; exact hkl)] at h1
                      have h2 := HE.out
                      simp only [Option.getD_some] at h1
                      rw [h2, h1]
                      rfl
                    rw [e1, List.map_append]
                    exact hown6)
                  clear hown6 hgrow6 hnil6 hlies6
                  go_wp2
                  go_roundw
                  case rel => exact ⟨k + 1, g6, c6, by omega, by go_num, rfl, hideP ⟨HO6.out, B6.out, A6.out⟩⟩
                  case measure => simp [intOf]; omega
              · subst h
                as_aux_lemma =>
                  go_wp2_with (at_builtin; refine Hid.out ?_)
                  refine hideP ?_
                  refine wpList_append_own_at _ rfl (.tmp 81) (.tmp 83) 31 rfl w.heap.size 2 i0 (.int .i64 0) 1 8 Try.underlying31 hi0 hy0 hy1 hy2 rfl (by decide) (.slice (some ⟨g2, 0, none⟩) k c2) k ((Z.take k).map (Value.int .i64)) (by rfl) (World.ownsRow.alloc HR.out.1 _) ⟨wr.heap.size, 0, none⟩ 1 1 [.int .i64 0] (by rfl) rfl (cell_one_new _ _ _) (by intro u hu; simp at hu; subst hu; rfl) (by unfold maxLen; omega) (by omega) (by simp; omega) ?_
                  intro v6 w6 hown6 hgrow6 hnil6 hlies6
                  have HG6 : Hid ((wr.alloc (.cells #[.int .i64 0] 2)).grownBy w6 (some g2)) := hideP hgrow6
                  have B6 : Hid (Below w.heap.size w w6) := hideP (Below.grown (HR.out.2.1.alloc hw5 _) HG6.out (by simp; omega) (by intro j hj; simp at hj; subst hj; exact HG2.out))
                  have A6 : Hid (w6.heap[ga]? = w1.heap[ga]?) := hideP (by rw [HG6.out.block ga (by simp; have := HGA.out.2; omega) (by simpa using HGA.out.1), (below1 wr _).block ga HGA.out.2]; exact HR.out.2.2)
                  obtain ⟨g6, c6, hv6⟩ : ∃ g c, v6 = .slice (some ⟨g, 0, none⟩) (k + 1) c := by
                    rcases hown6.2 with ⟨_, h0⟩ | ⟨g, c, cur, h, _⟩
                    · omega
                    · exact ⟨g, c, h⟩
                  subst hv6
                  have HO6 : Hid (w6.ownsRow w.heap.size 2 1 (.slice (some ⟨g6, 0, none⟩) (k + 1) c6) (k + 1) ((Z.take (k + 1)).map (Value.int .i64))) := hideP (by
                    have e1 : Z.take (k + 1) = Z.take k ++ [0] := by
                      rw [List.take_add_one, List.getElem?_eq_getElem (by rw [HZL.out]; exact hkl)]
                      have h1 := HDD.out
                      rw [List.getD_eq_getElem?_getD, List.getElem?_eq_getElem (by rw [HZL.out]; exact hkl)] at h1
                      have h2 := HE.out
                      simp only [Option.getD_some] at h1
                      rw [h2, h1]
                      rfl
                    rw [e1, List.map_append]
                    exact hown6)
                  clear hown6 hgrow6 hnil6 hlies6
                  go_wp2
                  go_roundw
                  case rel => exact ⟨k + 1, g6, c6, by omega, by go_num, rfl, hideP ⟨HO6.out, B6.out, A6.out⟩⟩
                  case measure => simp [intOf]; omega
            · have hx : behB q = true := by
                unfold behB
                rw [decide_eq_true_eq]
                omega
              have q2 : (q == 2) = false := by simp; omega
              have q1 : (q == 1) = false := by simp; omega
              have q3 : (q == 3) = false := by simp; omega
              have q4 : (q == 4) = false := by simp; omega
              have q6 : (q == 6) = false := by simp; omega
              have HX := hideP hx
              clear hqr hbq hx
              by_cases hbc : c1 = 3 ∨ c1 = 5 ∨ c1 = 6
              · have HE : Hid ((0 : Int) = d) := hideP (by
                  rw [HDD.out, HDK.out]
                  unfold cntAt
                  rw [← HC0.out, ← HC1.out, if_pos ⟨rfl, .inr (.inr (.inr (by unfold ahdB; rcases hbc with h | h | h <;> subst h <;> decide)))⟩])
                rcases hbc with h | h | h
                · subst h
                  as_aux_lemma =>
                    go_wp2_with (at_builtin; refine Hid.out ?_)
                    refine hideP ?_
                    refine wpList_append_own_at _ rfl (.tmp 81) (.tmp 83) 31 rfl w.heap.size 2 i0 (.int .i64 0) 1 8 Try.underlying31 hi0 hy0 hy1 hy2 rfl (by decide) (.slice (some ⟨g2, 0, none⟩) k c2) k ((Z.take k).map (Value.int .i64)) (by rfl) (World.ownsRow.alloc HR.out.1 _) ⟨wr.heap.size, 0, none⟩ 1 1 [.int .i64 0] (by rfl) rfl (cell_one_new _ _ _) (by intro u hu; simp at hu; subst hu; rfl) (by unfold maxLen; omega) (by omega) (by simp; omega) ?_
                    intro v6 w6 hown6 hgrow6 hnil6 hlies6
                    have HG6 : Hid ((wr.alloc (.cells #[.int .i64 0] 2)).grownBy w6 (some g2)) := hideP hgrow6
                    have B6 : Hid (Below w.heap.size w w6) := hideP (Below.grown (HR.out.2.1.alloc hw5 _) HG6.out (by simp; omega) (by intro j hj; simp at hj; subst hj; exact HG2.out))
                    have A6 : Hid (w6.heap[ga]? = w1.heap[ga]?) := hideP (by rw [HG6.out.block ga (by simp; have := HGA.out.2; omega) (by simpa using HGA.out.1), (below1 wr _).block ga HGA.out.2]; exact HR.out.2.2)
                    obtain ⟨g6, c6, hv6⟩ : ∃ g c, v6 = .slice (some ⟨g, 0, none⟩) (k + 1) c := by
                      rcases hown6.2 with ⟨_, h0⟩ | ⟨g, c, cur, h, _⟩
                      · omega
                      · exact ⟨g, c, h⟩
                    subst hv6
                    have HO6 : Hid (w6.ownsRow w.heap.size 2 1 (.slice (some ⟨g6, 0, none⟩) (k + 1) c6) (k + 1) ((Z.take (k + 1)).map (Value.int .i64))) := hideP (by
                      have e1 : Z.take (k + 1) = Z.take k ++ [0] := by
                        rw [List.take_add_one, List.getElem?_eq_getElem (by rw [HZL.out]; exact hkl)]
                        have h1 := HDD.out
                        rw [List.getD_eq_getElem?_getD, List.getElem?_eq_getElem (by rw [HZL.out]; exact hkl)] at h1
                        have h2 := HE.out
                        simp only [Option.getD_some] at h1
                        rw [h2, h1]
                        rfl
                      rw [e1, List.map_append]
                      exact hown6)
                    clear hown6 hgrow6 hnil6 hlies6
                    go_wp2
                    go_roundw
                    case rel => exact ⟨k + 1, g6, c6, by omega, by go_num, rfl, hideP ⟨HO6.out, B6.out, A6.out⟩⟩
                    case measure => simp [intOf]; omega
                · subst h
                  as_aux_lemma =>
                    go_wp2_with (at_builtin; refine Hid.out ?_)
                    refine hideP ?_
                    refine wpList_append_own_at _ rfl (.tmp 81) (.tmp 83) 31 rfl w.heap.size 2 i0 (.int .i64 0) 1 8 Try.underlying31 hi0 hy0 hy1 hy2 rfl (by decide) (.slice (some ⟨g2, 0, none⟩) k c2) k ((Z.take k).map (Value.int .i64)) (by rfl) (World.ownsRow.alloc HR.out.1 _) ⟨wr.heap.size, 0, none⟩ 1 1 [.int .i64 0] (by rfl) rfl (cell_one_new _ _ _) (by intro u hu; simp at hu; subst hu; rfl) (by unfold maxLen; omega) (by omega) (by simp; omega) ?_
                    intro v6 w6 hown6 hgrow6 hnil6 hlies6
                    have HG6 : Hid ((wr.alloc (.cells #[.int .i64 0] 2)).grownBy w6 (some g2)) := hideP hgrow6
                    have B6 : Hid (Below w.heap.size w w6) := hideP (Below.grown (HR.out.2.1.alloc hw5 _) HG6.out (by simp; omega) (by intro j hj; simp at hj; subst hj; exact HG2.out))
                    have A6 : Hid (w6.heap[ga]? = w1.heap[ga]?) := hideP (by rw [HG6.out.block ga (by simp; have := HGA.out.2; omega) (by simpa using HGA.out.1), (below1 wr _).block ga HGA.out.2]; exact HR.out.2.2)
                    obtain ⟨g6, c6, hv6⟩ : ∃ g c, v6 = .slice (some ⟨g, 0, none⟩) (k + 1) c := by
                      rcases hown6.2 with ⟨_, h0⟩ | ⟨g, c, cur, h, _⟩
                      · omega
                      · exact ⟨g, c, h⟩
                    subst hv6
                    have HO6 : Hid (w6.ownsRow w.heap.size 2 1 (.slice (some ⟨g6, 0, none⟩) (k + 1) c6) (k + 1) ((Z.take (k + 1)).map (Value.int .i64))) := hideP (by
                      have e1 : Z.take (k + 1) = Z.take k ++ [0] := by
                        rw [List.take_add_one, List.getElem?_eq_getElem (by rw [HZL.out]; exact hkl)]
                        have h1 := HDD.out
                        rw [List.getD_eq_getElem?_getD, List.getElem?_eq_getElem (by rw [HZL.out]; exact hkl)] at h1
                        have h2 := HE.out
                        simp only [Option.getD_some] at h1
                        rw [h2, h1]
                        rfl
                      rw [e1, List.map_append]
                      exact hown6)
                    clear hown6 hgrow6 hnil6 hlies6
                    go_wp2
                    go_roundw
                    case rel => exact ⟨k + 1, g6, c6, by omega, by go_num, rfl, hideP ⟨HO6.out, B6.out, A6.out⟩⟩
                    case measure => simp [intOf]; omega
                · subst h
                  as_aux_lemma =>
                    go_wp2_with (at_builtin; refine Hid.out ?_)
                    refine hideP ?_
                    refine wpList_append_own_at _ rfl (.tmp 81) (.tmp 83) 31 rfl w.heap.size 2 i0 (.int .i64 0) 1 8 Try.underlying31 hi0 hy0 hy1 hy2 rfl (by decide) (.slice (some ⟨g2, 0, none⟩) k c2) k ((Z.take k).map (Value.int .i64)) (by rfl) (World.ownsRow.alloc HR.out.1 _) ⟨wr.heap.size, 0, none⟩ 1 1 [.int .i64 0] (by rfl) rfl (cell_one_new _ _ _) (by intro u hu; simp at hu; subst hu; rfl) (by unfold maxLen; omega) (by omega) (by simp; omega) ?_
                    intro v6 w6 hown6 hgrow6 hnil6 hlies6
                    have HG6 : Hid ((wr.alloc (.cells #[.int .i64 0] 2)).grownBy w6 (some g2)) := hideP hgrow6
                    have B6 : Hid (Below w.heap.size w w6) := hideP (Below.grown (HR.out.2.1.alloc hw5 _) HG6.out (by simp; omega) (by intro j hj; simp at hj; subst hj; exact HG2.out))
                    have A6 : Hid (w6.heap[ga]? = w1.heap[ga]?) := hideP (by rw [HG6.out.block ga (by simp; have := HGA.out.2; omega) (by simpa using HGA.out.1), (below1 wr _).block ga HGA.out.2]; exact HR.out.2.2)
                    obtain ⟨g6, c6, hv6⟩ : ∃ g c, v6 = .slice (some ⟨g, 0, none⟩) (k + 1) c := by
                      rcases hown6.2 with ⟨_, h0⟩ | ⟨g, c, cur, h, _⟩
                      · omega
                      · exact ⟨g, c, h⟩
                    subst hv6
                    have HO6 : Hid (w6.ownsRow w.heap.size 2 1 (.slice (some ⟨g6, 0, none⟩) (k + 1) c6) (k + 1) ((Z.take (k + 1)).map (Value.int .i64))) := hideP (by
                      have e1 : Z.take (k + 1) = Z.take k ++ [0] := by
                        rw [List.take_add_one, List.getElem?_eq_getElem (by rw [HZL.out]; exact hkl)]
                        have h1 := HDD.out
                        rw [List.getD_eq_getElem?_getD, List.getElem?_eq_getElem (by rw [HZL.out]; exact hkl)] at h1
                        have h2 := HE.out
                        simp only [Option.getD_some] at h1
                        rw [h2, h1]
                        rfl
                      rw [e1, List.map_append]
                      exact hown6)
                    clear hown6 hgrow6 hnil6 hlies6
                    go_wp2
                    go_roundw
                    case rel => exact ⟨k + 1, g6, c6, by omega, by go_num, rfl, hideP ⟨HO6.out, B6.out, A6.out⟩⟩
                    case measure => simp [intOf]; omega
              · have HE : Hid ((2 : Int) = d) := hideP (by
                  rw [HDD.out, HDK.out, ← HQ.out]
                  unfold cntAt
                  rw [← HC0.out, ← HC1.out, HX.out, if_neg]
                  rintro ⟨_, h | h | h | h⟩
                  · exact hk0 h
                  · exact HNL.out (by rw [← HCL.out]; exact h)
                  · cases h
                  · unfold ahdB at h
                    rw [decide_eq_false_iff_not] at h
                    omega)
                have r3 : (c1 == 3) = false := by simp; omega
                have r5 : (c1 == 5) = false := by simp; omega
                have r6 : (c1 == 6) = false := by simp; omega
                clear hbc
                as_aux_lemma =>
                  go_wp2_with (at_builtin; refine Hid.out ?_)
                  refine hideP ?_
                  refine wpList_append_own_at _ rfl (.tmp 81) (.tmp 83) 31 rfl w.heap.size 2 i0 (.int .i64 0) 1 8 Try.underlying31 hi0 hy0 hy1 hy2 rfl (by decide) (.slice (some ⟨g2, 0, none⟩) k c2) k ((Z.take k).map (Value.int .i64)) (by rfl) (World.ownsRow.alloc HR.out.1 _) ⟨wr.heap.size, 0, none⟩ 1 1 [.int .i64 2] (by rfl) rfl (cell_one_new _ _ _) (by intro u hu; simp at hu; subst hu; rfl) (by unfold maxLen; omega) (by omega) (by simp; omega) ?_
                  intro v6 w6 hown6 hgrow6 hnil6 hlies6
                  have HG6 : Hid ((wr.alloc (.cells #[.int .i64 2] 2)).grownBy w6 (some g2)) := hideP hgrow6
                  have B6 : Hid (Below w.heap.size w w6) := hideP (Below.grown (HR.out.2.1.alloc hw5 _) HG6.out (by simp; omega) (by intro j hj; simp at hj; subst hj; exact HG2.out))
                  have A6 : Hid (w6.heap[ga]? = w1.heap[ga]?) := hideP (by rw [HG6.out.block ga (by simp; have := HGA.out.2; omega) (by simpa using HGA.out.1), (below1 wr _).block ga HGA.out.2]; exact HR.out.2.2)
                  obtain ⟨g6, c6, hv6⟩ : ∃ g c, v6 = .slice (some ⟨g, 0, none⟩) (k + 1) c := by
                    rcases hown6.2 with ⟨_, h0⟩ | ⟨g, c, cur, h, _⟩
                    · omega
                    · exact ⟨g, c, h⟩
                  subst hv6
                  have HO6 : Hid (w6.ownsRow w.heap.size 2 1 (.slice (some ⟨g6, 0, none⟩) (k + 1) c6) (k + 1) ((Z.take (k + 1)).map (Value.int .i64))) := hideP (by
                    have e1 : Z.take (k + 1) = Z.take k ++ [2] := by
                      rw [List.take_add_one, List.getElem?_eq_getElem (by rw [HZL.out]; exact hkl)]
                      have h1 := HDD.out
                      rw [List.getD_eq_getElem?_getD, List.getElem?_eq_getElem (by rw [HZL.out]; exact hkl)] at h1
                      have h2 := HE.out
                      simp only [Option.getD_some] at h1
                      rw [h2, h1]
                      rfl
                    rw [e1, List.map_append]
                    exact hown6)
                  clear hown6 hgrow6 hnil6 hlies6
                  go_wp2
                  go_roundw
                  case rel => exact ⟨k + 1, g6, c6, by omega, by go_num, rfl, hideP ⟨HO6.out, B6.out, A6.out⟩⟩
                  case measure => simp [intOf]; omega
    · have hki : ¬ (k : Int) < (l : Int) := by omega
      obtain rfl : k = l := by omega
      have HE : Hid (Z.take k = Z) := hideP (List.take_of_length_le (by rw [HZL.out]; exact Nat.le_refl _))
      go_wp2
      go_ret
      refine ⟨⟨_, rfl, ?_⟩, HR.out.2.1⟩
      have h := HR.out.1
      rw [HE.out] at h
      exact h
end Go.Proofs.Ytfcfihlkckdmbaa

