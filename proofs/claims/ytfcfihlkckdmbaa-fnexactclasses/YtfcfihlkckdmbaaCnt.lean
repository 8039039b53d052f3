/-
  The classes that the atoms of a row count as: the program.
-/
import Derived.Test.YtfcfihlkckdmbaaTol
import Derived.Maps.AppendAt
import Derived.OwnWalk
namespace Go.Proofs.Ytfcfihlkckdmbaa
open Go.RowKit
set_option linter.unusedVariables false
set_option linter.unusedSimpArgs false

theorem count_len : ∀ (cs : List Int) (p : Option Int), (count p cs).length = cs.length
  | [], p => rfl
  | c :: r, p => by simp only [count, List.length_cons, count_len r]
/-- What the atom at place k counts as. -/
def cntAt (cs : List Int) (k : Nat) (prev : Int) : Int := if cs.getD k 0 = 2 ∧ (k = 0 ∨ k + 1 = cs.length ∨ behB prev = false ∨ ahdB (cs.getD (k + 1) 0) = false) then 0 else cs.getD k 0
theorem count_some : ∀ (cs : List Int) (q : Int) (k : Nat), k < cs.length → (count (some q) cs).getD k 0 = if cs.getD k 0 = 2 ∧ (k + 1 = cs.length ∨ behB (if k = 0 then q else (count (some q) cs).getD (k - 1) 0) = false ∨ ahdB (cs.getD (k + 1) 0) = false) then 0 else cs.getD k 0 := by
  intro cs
  induction cs with
  | nil => intro q k h; simp at h
  | cons c r ih =>
    intro q k h
    cases k with
    | zero =>
      simp only [count]
      cases r with
      | nil => simp
      | cons b r2 => simp
    | succ k =>
      simp only [List.length_cons] at h
      obtain ⟨d, hd⟩ : ∃ d, count (some q) (c :: r) = d :: count (some d) r := ⟨_, rfl⟩
      have hi := ih d k (by omega)
      rw [hd]
      simp only [List.getD_cons_succ]
      rw [hi]
      cases k with
      | zero => simp [eq_comm (a := 1)]
      | succ k => simp
theorem count_at {cs : List Int} {k : Nat} (h : k < cs.length) : (count none cs).getD k 0 = cntAt cs k ((count none cs).getD (k - 1) 0) := by
  unfold cntAt
  cases cs with
  | nil => simp at h
  | cons c r =>
    cases k with
    | zero => simp [count]
    | succ k =>
      simp only [List.length_cons] at h
      obtain ⟨d, hd⟩ : ∃ d, count none (c :: r) = d :: count (some d) r := ⟨_, rfl⟩
      have hi := count_some r d k (by omega)
      rw [hd]
      simp only [List.getD_cons_succ]
      rw [hi]
      cases k with
      | zero => simp [eq_comm (a := 1)]
      | succ k => simp

theorem Try.info2b : (Try.prog.info? 2).map (fun i => (i.zero, i.size, i.bytes)) = some (some (.int .i64 0), 1, 8) := by kernel_rfl

set_option maxRecDepth 20000 in
set_option maxHeartbeats 4000000 in
theorem counted_any {lo : Nat} {a : Option Addr} {l c : Nat} {hs : List Hd} {w : World} (H : HRow lo w (.slice a l c) hs) (hl : hs.length = l) (hl2 : l ≤ 2000) :
    Calls Try.prog 25 #[.slice a l c, .func (.func 26) #[] #[]] w fun e w' => (∃ u, e = .returned u ∧ w'.ownsRow w.heap.size 2 1 u l ((count none (hs.map Hd.c)).map (Value.int .i64))) ∧ Below w.heap.size w w' := by
  obtain ⟨cs, hcs⟩ : ∃ cs, cs = hs.map Hd.c := ⟨_, rfl⟩
  obtain ⟨Z, hZ⟩ : ∃ Z, Z = count none cs := ⟨_, rfl⟩
  rw [← hcs, ← hZ]
  have hcl : cs.length = l := by rw [hcs, List.length_map]; exact hl
  have hzl : Z.length = l := by rw [hZ, count_len]; exact hcl
  have HD : Hid (∀ k, k < l → Z.getD k 0 = cntAt cs k (Z.getD (k - 1) 0)) := hideP (fun k hk => by rw [hZ]; exact count_at (by omega))
  have HP : Hid (∀ k, k < l → ∃ g p, a = some ⟨g, 0, none⟩ ∧ (∀ W, Below w.heap.size w W → W.cell? ⟨g, k, none⟩ = some (.pointer (some ⟨p, 0, none⟩)) ∧ Calls Try.prog 26 #[.pointer (some ⟨p, 0, none⟩)] W fun e w' => e = .returned (.int .i64 (cs.getD k 0)) ∧ w' = W)) := hideP (fun k hk => by
    obtain ⟨ps, hown, hpl, hpc⟩ := H
    have hown' := hown
    rcases hown.2 with ⟨h0, h1⟩ | ⟨g, cap, cur, hv, hg, hh, hrest⟩
    · omega
    · simp only [Value.slice.injEq] at hv
      obtain ⟨rfl, hv1, rfl⟩ := hv
      refine ⟨g, ps.getD k 0, rfl, fun W hW => ⟨?_, ?_⟩⟩
      · rw [hW.cell (p := ⟨g, k, none⟩) (Array.getElem?_eq_some_iff.1 hh).1]
        have hown2 : w.ownsRow lo 49 1 (.slice (some ⟨g, 0, none⟩) l c) l (ps.map fun p => Value.pointer (some ⟨p, 0, none⟩)) := by rw [hl] at hown'; exact hown'
        have hq := World.ownsRow.cellAt hown2 k (by omega)
        rw [hq, List.getElem?_map, List.getD_eq_getElem?_getD, List.getElem?_eq_getElem (by omega)]
        rfl
      · obtain ⟨_, ab, cb, hk2⟩ := hpc k (by omega)
        have ht := told_any (hk2.below hW)
        have he : (hs.getD k Hd.none).c = cs.getD k 0 := by
          rw [hcs, List.getD_eq_getElem?_getD, List.getD_eq_getElem?_getD, List.getElem?_map, List.getElem?_eq_getElem (by omega)]
          rfl
        rw [he] at ht
        exact ht)
  have HCL := hideP hcl
  have HZL := hideP hzl
  clear H hl hcs hZ hcl hzl
  obtain ⟨i0, hi0, hy0, hy1, hy2⟩ := info_parts Try.info2b
  go_enter Try.func25, Try.ntmps25
  go_wp2
  go_loopw [5, 16] (fun cv iv wr => ∃ (k g2 c2 : Nat), k ≤ l ∧ iv = .int .i64 (k : Int) ∧ cv = .slice (some ⟨g2, 0, none⟩) k c2 ∧ Hid (wr.ownsRow w.heap.size 2 1 (.slice (some ⟨g2, 0, none⟩) k c2) k ((Z.take k).map (Value.int .i64)) ∧ Below w.heap.size w wr)) (fun _ iv _ => l - (intOf iv).toNat)
  case atStart =>
    exact ⟨0, w.heap.size, 0, by omega, rfl, rfl, hideP ⟨⟨by simp, .inr ⟨_, _, _, rfl, Nat.le_refl _, heap_alloc_new w _, by omega, by decide, rfl, rfl⟩⟩, below1 _ _⟩⟩
  case round =>
    obtain ⟨k, g2, c2, hk, rfl, rfl, HR⟩ := hrel
    by_cases hkl : k < l
    · have hki : (k : Int) < (l : Int) := by omega
      obtain ⟨g, p, rfl, hpp⟩ := HP.out k hkl
      obtain ⟨gc, ct⟩ := hpp wr HR.out.2
      obtain ⟨c0, hc0⟩ : ∃ c0, c0 = cs.getD k 0 := ⟨_, rfl⟩
      rw [← hc0] at ct
      have CT := hideP ct
      have HC0 := hideP hc0
      have hdk := HD.out k hkl
      have HDK := hideP hdk
      obtain ⟨d, hd⟩ : ∃ d, d = Z.getD k 0 := ⟨_, rfl⟩
      have HDD := hideP hd
      have hw5 : w.heap.size ≤ wr.heap.size := HR.out.2.size
      have hg2 : w.heap.size ≤ g2 := by
        rcases HR.out.1.2 with ⟨h0, _⟩ | ⟨g', cap, cur, hv, hg', hh, _⟩
        · simp at h0
        · simp only [Value.slice.injEq, Option.some.injEq, Addr.mk.injEq, and_true] at hv
          obtain ⟨rfl, _⟩ := hv
          exact hg'
      have HG2 := hideP hg2
      clear hpp ct hc0 hdk hd hg2
      by_cases h2 : c0 = 2
      case neg =>
        have h2' : (c0 == 2) = false := by simp [h2]
        have HE : Hid (c0 = d) := hideP (by rw [HDD.out, HDK.out]; unfold cntAt; rw [← HC0.out, if_neg (fun hh => h2 hh.1)])
        clear h2
        as_aux_lemma =>
          go_wp2_with (first | (go_at_call 26; refine CT.out.mono ?_; rintro e w' ⟨rfl, hw⟩; have hw2 := hw.symm; subst hw2) | (at_builtin; refine Hid.out ?_))
          refine hideP ?_
          refine wpList_append_own_at _ rfl (.tmp 55) (.tmp 57) 31 rfl w.heap.size 2 i0 (.int .i64 0) 1 8 Try.underlying31 hi0 hy0 hy1 hy2 rfl (by decide) (.slice (some ⟨g2, 0, none⟩) k c2) k ((Z.take k).map (Value.int .i64)) (by rfl) (World.ownsRow.alloc HR.out.1 _) ⟨wr.heap.size, 0, none⟩ 1 1 [.int .i64 c0] (by rfl) rfl (cell_one_new _ _ _) (by intro u hu; simp at hu; subst hu; rfl) (by unfold maxLen; omega) (by omega) (by simp; omega) ?_
          intro v6 w6 hown6 hgrow6 hnil6 hlies6
          have HG6 : Hid ((wr.alloc (.cells #[.int .i64 c0] 2)).grownBy w6 (some g2)) := hideP hgrow6
          have B6 : Hid (Below w.heap.size w w6) := hideP (Below.grown (HR.out.2.alloc hw5 _) HG6.out (by simp; omega) (by intro j hj; simp at hj; subst hj; exact HG2.out))
          obtain ⟨g6, c6, hv6⟩ : ∃ g c, v6 = .slice (some ⟨g, 0, none⟩) (k + 1) c := by
            rcases hown6.2 with ⟨_, h0⟩ | ⟨g, c, cur, h, _⟩
            · omega
            · exact ⟨g, c, h⟩
          subst hv6
          have HO6 : Hid (w6.ownsRow w.heap.size 2 1 (.slice (some ⟨g6, 0, none⟩) (k + 1) c6) (k + 1) ((Z.take (k + 1)).map (Value.int .i64))) := hideP (by
            have e1 : Z.take (k + 1) = Z.take k ++ [c0] := by
              rw [List.take_add_one, List.getElem?_eq_getElem (by rw [HZL.out]; exact hkl)]
              have h1 := HDD.out
              rw [List.getD_eq_getElem?_getD, List.getElem?_eq_getElem (by rw [HZL.out]; exact hkl)] at h1
              have h2 := HE.out
              simp only [Option.getD_some] at h1
              rw [h2, h1]
              rfl
            rw [e1, List.map_append]
            exact hown6)
          clear hown6 hgrow6 hnil6 hlies6 gc
          go_wp2
          go_roundw
          case rel => exact ⟨k + 1, g6, c6, by omega, by go_num, rfl, hideP ⟨HO6.out, B6.out⟩⟩
          case measure => simp [intOf]; omega
      case pos =>
        subst h2
        by_cases hk0 : k = 0
        · subst hk0
          have HE : Hid ((0 : Int) = d) := hideP (by rw [HDD.out, HDK.out]; unfold cntAt; rw [← HC0.out, if_pos ⟨rfl, .inl rfl⟩])
          as_aux_lemma =>
            go_wp2_with (first | (go_at_call 26; refine CT.out.mono ?_; rintro e w' ⟨rfl, hw⟩; have hw2 := hw.symm; subst hw2) | (at_builtin; refine Hid.out ?_))
            refine hideP ?_
            refine wpList_append_own_at _ rfl (.tmp 55) (.tmp 57) 31 rfl w.heap.size 2 i0 (.int .i64 0) 1 8 Try.underlying31 hi0 hy0 hy1 hy2 rfl (by decide) (.slice (some ⟨g2, 0, none⟩) 0 c2) 0 ((Z.take 0).map (Value.int .i64)) (by rfl) (World.ownsRow.alloc HR.out.1 _) ⟨wr.heap.size, 0, none⟩ 1 1 [.int .i64 0] (by rfl) rfl (cell_one_new _ _ _) (by intro u hu; simp at hu; subst hu; rfl) (by unfold maxLen; omega) (by omega) (by simp; omega) ?_
            intro v6 w6 hown6 hgrow6 hnil6 hlies6
            have HG6 : Hid ((wr.alloc (.cells #[.int .i64 0] 2)).grownBy w6 (some g2)) := hideP hgrow6
            have B6 : Hid (Below w.heap.size w w6) := hideP (Below.grown (HR.out.2.alloc hw5 _) HG6.out (by simp; omega) (by intro j hj; simp at hj; subst hj; exact HG2.out))
            obtain ⟨g6, c6, hv6⟩ : ∃ g c, v6 = .slice (some ⟨g, 0, none⟩) (0 + 1) c := by
              rcases hown6.2 with ⟨_, h0⟩ | ⟨g, c, cur, h, _⟩
              · omega
              · exact ⟨g, c, h⟩
            subst hv6
            have HO6 : Hid (w6.ownsRow w.heap.size 2 1 (.slice (some ⟨g6, 0, none⟩) (0 + 1) c6) (0 + 1) ((Z.take (0 + 1)).map (Value.int .i64))) := hideP (by
              have e1 : Z.take (0 + 1) = Z.take 0 ++ [0] := by
                rw [List.take_add_one, List.getElem?_eq_getElem (by rw [HZL.out]; exact hkl)]
                have h1 := HDD.out
                rw [List.getD_eq_getElem?_getD, List.getElem?_eq_getElem (by rw [HZL.out]; exact hkl)] at h1
                have h2 := HE.out
                simp only [Option.getD_some] at h1
                rw [h2, h1]
                rfl
              rw [e1, List.map_append]
              exact hown6)
            clear hown6 hgrow6 hnil6 hlies6 gc
            go_wp2
            go_roundw
            case rel => exact ⟨0 + 1, g6, c6, by omega, by go_num, rfl, hideP ⟨HO6.out, B6.out⟩⟩
            case measure => simp [intOf]; omega
        · obtain ⟨q, hq⟩ : ∃ q, q = Z.getD (k - 1) 0 := ⟨_, rfl⟩
          have gd : wr.cell? ⟨g2, k - 1, none⟩ = some (.int .i64 q) := by
            rw [World.ownsRow.cellAt HR.out.1 (k - 1) (by omega), List.getElem?_map, List.getElem?_take, if_pos (by omega), List.getElem?_eq_getElem (by rw [HZL.out]; omega), hq, List.getD_eq_getElem?_getD, List.getElem?_eq_getElem (by rw [HZL.out]; omega)]
            rfl
          have HQ := hideP hq
          have hkz : ((k : Int) == 0) = false := by simp [hk0]
          have hkz2 : ¬ ((k : Int) = 0) := by omega
          have hkm : ((k : Int) - 1).toNat = k - 1 := by omega
          have hkm0 : 0 ≤ (k : Int) - 1 := by omega
          have hkm1 : (k : Int) - 1 < (k : Int) := by omega
          clear hq
          by_cases hlast : k + 1 = l
          · have hla : (k : Int) = (l : Int) - 1 := by omega
            have hlb : ((k : Int) == (l : Int) - 1) = true := by simp [hla]
            have HE : Hid ((0 : Int) = d) := hideP (by rw [HDD.out, HDK.out]; unfold cntAt; rw [← HC0.out, if_pos ⟨rfl, .inr (.inl (by rw [HCL.out]; exact hlast))⟩])
            clear hla hlast
            as_aux_lemma =>
              go_wp2_with (first | (go_at_call 26; refine CT.out.mono ?_; rintro e w' ⟨rfl, hw⟩; have hw2 := hw.symm; subst hw2) | (at_builtin; refine Hid.out ?_))
              refine hideP ?_
              refine wpList_append_own_at _ rfl (.tmp 55) (.tmp 57) 31 rfl w.heap.size 2 i0 (.int .i64 0) 1 8 Try.underlying31 hi0 hy0 hy1 hy2 rfl (by decide) (.slice (some ⟨g2, 0, none⟩) k c2) k ((Z.take k).map (Value.int .i64)) (by rfl) (World.ownsRow.alloc HR.out.1 _) ⟨wr.heap.size, 0, none⟩ 1 1 [.int .i64 0] (by rfl) rfl (cell_one_new _ _ _) (by intro u hu; simp at hu; subst hu; rfl) (by unfold maxLen; omega) (by omega) (by simp; omega) ?_
              intro v6 w6 hown6 hgrow6 hnil6 hlies6
              have HG6 : Hid ((wr.alloc (.cells #[.int .i64 0] 2)).grownBy w6 (some g2)) := hideP hgrow6
              have B6 : Hid (Below w.heap.size w w6) := hideP (Below.grown (HR.out.2.alloc hw5 _) HG6.out (by simp; omega) (by intro j hj; simp at hj; subst hj; exact HG2.out))
              obtain ⟨g6, c6, hv6⟩ : ∃ g c, v6 = .slice (some ⟨g, 0, none⟩) (k + 1) c := by
                rcases hown6.2 with ⟨_, h0⟩ | ⟨g, c, cur, h, _⟩
                · omega
                · exact ⟨g, c, h⟩
              subst hv6
              have HO6 : Hid (w6.ownsRow w.heap.size 2 1 (.slice (some ⟨g6, 0, none⟩) (k + 1) c6) (k + 1) ((Z.take (k + 1)).map (Value.int .i64))) := hideP (by
                have e1 : Z.take (k + 1) = Z.take k ++ [0] := by
                  rw [List.take_add_one, List.getElem?_eq_getElem (by rw [HZL.out]; exact hkl)]
                  have h1 := HDD.out
                  rw [List.getD_eq_getElem?_getD, List.getElem?_eq_getElem (by rw [HZL.out]; exact hkl)] at h1
                  have h2 := HE.out
                  simp only [Option.getD_some] at h1
                  rw [h2, h1]
                  rfl
                rw [e1, List.map_append]
                exact hown6)
              clear hown6 hgrow6 hnil6 hlies6 gc
              go_wp2
              go_roundw
              case rel => exact ⟨k + 1, g6, c6, by omega, by go_num, rfl, hideP ⟨HO6.out, B6.out⟩⟩
              case measure => simp [intOf]; omega
          · have hla : ¬ ((k : Int) = (l : Int) - 1) := by omega
            have hlb : ((k : Int) == (l : Int) - 1) = false := by simp [hla]
            obtain ⟨x, hx⟩ : ∃ x, x = behB q := ⟨_, rfl⟩
            have BH : Hid (∀ W, Calls Try.prog 32 #[.int .i64 q] W fun e w' => e = .returned (.bool x) ∧ w' = W) := hideP (fun W => by rw [hx]; exact beh_any q W)
            have HX := hideP hx
            clear hx
            cases x
            · have HE : Hid ((0 : Int) = d) := hideP (by rw [HDD.out, HDK.out, ← HQ.out]; unfold cntAt; rw [← HC0.out, if_pos ⟨rfl, .inr (.inr (.inl HX.out.symm))⟩])
              as_aux_lemma =>
                go_wp2_with (first | (go_at_call 26; refine CT.out.mono ?_; rintro e w' ⟨rfl, hw⟩; have hw2 := hw.symm; subst hw2) | (go_at_call 32; refine (BH.out _).mono ?_; rintro e w' ⟨rfl, hw⟩; have hw2 := hw.symm; subst hw2) | (at_builtin; refine Hid.out ?_))
                refine hideP ?_
                refine wpList_append_own_at _ rfl (.tmp 55) (.tmp 57) 31 rfl w.heap.size 2 i0 (.int .i64 0) 1 8 Try.underlying31 hi0 hy0 hy1 hy2 rfl (by decide) (.slice (some ⟨g2, 0, none⟩) k c2) k ((Z.take k).map (Value.int .i64)) (by rfl) (World.ownsRow.alloc HR.out.1 _) ⟨wr.heap.size, 0, none⟩ 1 1 [.int .i64 0] (by rfl) rfl (cell_one_new _ _ _) (by intro u hu; simp at hu; subst hu; rfl) (by unfold maxLen; omega) (by omega) (by simp; omega) ?_
                intro v6 w6 hown6 hgrow6 hnil6 hlies6
                have HG6 : Hid ((wr.alloc (.cells #[.int .i64 0] 2)).grownBy w6 (some g2)) := hideP hgrow6
                have B6 : Hid (Below w.heap.size w w6) := hideP (Below.grown (HR.out.2.alloc hw5 _) HG6.out (by simp; omega) (by intro j hj; simp at hj; subst hj; exact HG2.out))
                obtain ⟨g6, c6, hv6⟩ : ∃ g c, v6 = .slice (some ⟨g, 0, none⟩) (k + 1) c := by
                  rcases hown6.2 with ⟨_, h0⟩ | ⟨g, c, cur, h, _⟩
                  · omega
                  · exact ⟨g, c, h⟩
                subst hv6
                have HO6 : Hid (w6.ownsRow w.heap.size 2 1 (.slice (some ⟨g6, 0, none⟩) (k + 1) c6) (k + 1) ((Z.take (k + 1)).map (Value.int .i64))) := hideP (by
                  have e1 : Z.take (k + 1) = Z.take k ++ [0] := by
                    rw [List.take_add_one, List.getElem?_eq_getElem (by rw [HZL.out]; exact hkl)]
                    have h1 := HDD.out
                    rw [List.getD_eq_getElem?_getD, List.getElem?_eq_getElem (by rw [HZL.out]; exact hkl)] at h1
                    have h2 := HE.out
                    simp only [Option.getD_some] at h1
                    rw [h2, h1]
                    rfl
                  rw [e1, List.map_append]
                  exact hown6)
                clear hown6 hgrow6 hnil6 hlies6 gc
                go_wp2
                go_roundw
                case rel => exact ⟨k + 1, g6, c6, by omega, by go_num, rfl, hideP ⟨HO6.out, B6.out⟩⟩
                case measure => simp [intOf]; omega
            · obtain ⟨g', p1, hgg, hpp1⟩ := HP.out (k + 1) (by omega)
              simp only [Option.some.injEq, Addr.mk.injEq, and_true] at hgg
              subst hgg
              obtain ⟨gc1, ct1⟩ := hpp1 wr HR.out.2
              obtain ⟨c1, hc1⟩ : ∃ c1, c1 = cs.getD (k + 1) 0 := ⟨_, rfl⟩
              rw [← hc1] at ct1
              have CT1 := hideP ct1
              have HC1 := hideP hc1
              obtain ⟨y, hy⟩ : ∃ y, y = ahdB c1 := ⟨_, rfl⟩
              have AH : Hid (∀ W, Calls Try.prog 33 #[.int .i64 c1] W fun e w' => e = .returned (.bool y) ∧ w' = W) := hideP (fun W => by rw [hy]; exact ahd_any c1 W)
              have HY := hideP hy
              have hk1 : (k : Int) + 1 < (l : Int) := by omega
              have HNL := hideP hlast
              clear hpp1 ct1 hc1 hy hla hlast
              cases y
              · have HE : Hid ((0 : Int) = d) := hideP (by rw [HDD.out, HDK.out]; unfold cntAt; rw [← HC0.out, ← HC1.out, if_pos ⟨rfl, .inr (.inr (.inr HY.out.symm))⟩])
                as_aux_lemma =>
                  go_wp2_with (first | (go_at_call 26; first | (refine CT.out.mono ?_; rintro e w' ⟨rfl, hw⟩; have hw2 := hw.symm; subst hw2) | (refine CT1.out.mono ?_; rintro e w' ⟨rfl, hw⟩; have hw2 := hw.symm; subst hw2)) | (go_at_call 32; refine (BH.out _).mono ?_; rintro e w' ⟨rfl, hw⟩; have hw2 := hw.symm; subst hw2) | (go_at_call 33; refine (AH.out _).mono ?_; rintro e w' ⟨rfl, hw⟩; have hw2 := hw.symm; subst hw2) | (at_builtin; refine Hid.out ?_))
                  refine hideP ?_
                  refine wpList_append_own_at _ rfl (.tmp 55) (.tmp 57) 31 rfl w.heap.size 2 i0 (.int .i64 0) 1 8 Try.underlying31 hi0 hy0 hy1 hy2 rfl (by decide) (.slice (some ⟨g2, 0, none⟩) k c2) k ((Z.take k).map (Value.int .i64)) (by rfl) (World.ownsRow.alloc HR.out.1 _) ⟨wr.heap.size, 0, none⟩ 1 1 [.int .i64 0] (by rfl) rfl (cell_one_new _ _ _) (by intro u hu; simp at hu; subst hu; rfl) (by unfold maxLen; omega) (by omega) (by simp; omega) ?_
                  intro v6 w6 hown6 hgrow6 hnil6 hlies6
                  have HG6 : Hid ((wr.alloc (.cells #[.int .i64 0] 2)).grownBy w6 (some g2)) := hideP hgrow6
                  have B6 : Hid (Below w.heap.size w w6) := hideP (Below.grown (HR.out.2.alloc hw5 _) HG6.out (by simp; omega) (by intro j hj; simp at hj; subst hj; exact HG2.out))
                  obtain ⟨g6, c6, hv6⟩ : ∃ g c, v6 = .slice (some ⟨g, 0, none⟩) (k + 1) c := by
                    rcases hown6.2 with ⟨_, h0⟩ | ⟨g, c, cur, h, _⟩
                    · omega
                    · exact ⟨g, c, h⟩
                  subst hv6
                  have HO6 : Hid (w6.ownsRow w.heap.size 2 1 (.slice (some ⟨g6, 0, none⟩) (k + 1) c6) (k + 1) ((Z.take (k + 1)).map (Value.int .i64))) := hideP (by
                    have e1 : Z.take (k + 1) = Z.take k ++ [0] := by
                      rw [List.take_add_one, List.getElem?_eq_getElem (by rw [HZL.out]; exact hkl)]
                      have h1 := HDD.out
                      rw [List.getD_eq_getElem?_getD, List.getElem?_eq_getElem (by rw [HZL.out]; exact hkl)] at h1
                      have h2 := HE.out
                      simp only [Option.getD_some] at h1
                      rw [h2, h1]
                      rfl
                    rw [e1, List.map_append]
                    exact hown6)
                  clear hown6 hgrow6 hnil6 hlies6 gc
                  go_wp2
                  go_roundw
                  case rel => exact ⟨k + 1, g6, c6, by omega, by go_num, rfl, hideP ⟨HO6.out, B6.out⟩⟩
                  case measure => simp [intOf]; omega
              · have HE : Hid ((2 : Int) = d) := hideP (by
                  rw [HDD.out, HDK.out, ← HQ.out]
                  unfold cntAt
                  rw [← HC0.out, ← HC1.out, ← HX.out, ← HY.out, if_neg]
                  rintro ⟨_, h | h | h | h⟩
                  · exact hk0 h
                  · exact HNL.out (by rw [← HCL.out]; exact h)
                  · cases h
                  · cases h)
                as_aux_lemma =>
                  go_wp2_with (first | (go_at_call 26; first | (refine CT.out.mono ?_; rintro e w' ⟨rfl, hw⟩; have hw2 := hw.symm; subst hw2) | (refine CT1.out.mono ?_; rintro e w' ⟨rfl, hw⟩; have hw2 := hw.symm; subst hw2)) | (go_at_call 32; refine (BH.out _).mono ?_; rintro e w' ⟨rfl, hw⟩; have hw2 := hw.symm; subst hw2) | (go_at_call 33; refine (AH.out _).mono ?_; rintro e w' ⟨rfl, hw⟩; have hw2 := hw.symm; subst hw2) | (at_builtin; refine Hid.out ?_))
                  refine hideP ?_
                  refine wpList_append_own_at _ rfl (.tmp 55) (.tmp 57) 31 rfl w.heap.size 2 i0 (.int .i64 0) 1 8 Try.underlying31 hi0 hy0 hy1 hy2 rfl (by decide) (.slice (some ⟨g2, 0, none⟩) k c2) k ((Z.take k).map (Value.int .i64)) (by rfl) (World.ownsRow.alloc HR.out.1 _) ⟨wr.heap.size, 0, none⟩ 1 1 [.int .i64 2] (by rfl) rfl (cell_one_new _ _ _) (by intro u hu; simp at hu; subst hu; rfl) (by unfold maxLen; omega) (by omega) (by simp; omega) ?_
                  intro v6 w6 hown6 hgrow6 hnil6 hlies6
                  have HG6 : Hid ((wr.alloc (.cells #[.int .i64 2] 2)).grownBy w6 (some g2)) := hideP hgrow6
                  have B6 : Hid (Below w.heap.size w w6) := hideP (Below.grown (HR.out.2.alloc hw5 _) HG6.out (by simp; omega) (by intro j hj; simp at hj; subst hj; exact HG2.out))
                  obtain ⟨g6, c6, hv6⟩ : ∃ g c, v6 = .slice (some ⟨g, 0, none⟩) (k + 1) c := by
                    rcases hown6.2 with ⟨_, h0⟩ | ⟨g, c, cur, h, _⟩
                    · omega
                    · exact ⟨g, c, h⟩
                  subst hv6
                  have HO6 : Hid (w6.ownsRow w.heap.size 2 1 (.slice (some ⟨g6, 0, none⟩) (k + 1) c6) (k + 1) ((Z.take (k + 1)).map (Value.int .i64))) := hideP (by
                    have e1 : Z.take (k + 1) = Z.take k ++ [2] := by
                      rw [List.take_add_one, List.getElem?_eq_getElem (by rw [HZL.out]; exact hkl)]
                      have h1 := HDD.out
                      rw [List.getD_eq_getElem?_getD, List.getElem?_eq_getElem (by rw [HZL.out]; exact hkl)] at h1
                      have h2 := HE.out
                      simp only [Option.getD_some] at h1
                      rw [h2, h1]
                      rfl
                    rw [e1, List.map_append]
                    exact hown6)
                  clear hown6 hgrow6 hnil6 hlies6 gc
                  go_wp2
                  go_roundw
                  case rel => exact ⟨k + 1, g6, c6, by omega, by go_num, rfl, hideP ⟨HO6.out, B6.out⟩⟩
                  case measure => simp [intOf]; omega
    · have hki : ¬ (k : Int) < (l : Int) := by omega
      obtain rfl : k = l := by omega
      have HE : Hid (Z.take k = Z) := hideP (List.take_of_length_le (by rw [HZL.out]; exact Nat.le_refl _))
      go_wp2
      go_ret
      refine ⟨⟨_, rfl, ?_⟩, HR.out.2⟩
      have h := HR.out.1
      rw [HE.out] at h
      exact h

end Go.Proofs.Ytfcfihlkckdmbaa
