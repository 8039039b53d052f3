/-
  What is shared, in sums: data.
-/
import Derived.Test.YtgfphgbemfmkfaaShq
namespace Go.Proofs.Ytgfphgbemfmkfaa
open Go.RowKit
set_option linter.unusedVariables false
set_option linter.unusedSimpArgs false

theorem sum_range_add (f g : Nat → Int) : ∀ n : Nat, ((List.range n).map (fun j => f j + g j)).sum = ((List.range n).map f).sum + ((List.range n).map g).sum
  | 0 => rfl
  | n + 1 => by
    rw [List.range_succ, List.map_append, List.map_append, List.map_append, List.sum_append, List.sum_append, List.sum_append, sum_range_add f g n]
    simp
    omega
theorem sum_range_sub (f g : Nat → Int) : ∀ n : Nat, ((List.range n).map (fun j => f j - g j)).sum = ((List.range n).map f).sum - ((List.range n).map g).sum
  | 0 => rfl
  | n + 1 => by
    rw [List.range_succ, List.map_append, List.map_append, List.map_append, List.sum_append, List.sum_append, List.sum_append, sum_range_sub f g n]
    simp
    omega
theorem range_getD (xs : List Int) : (List.range xs.length).map (fun j => xs.getD j 0) = xs := by
  apply List.ext_getElem
  · simp
  · intro i h1 h2
    simp at h1
    simp [List.getD, h1]
theorem plusL_sum {zs ps : List Int} (h : ps.length = zs.length) : (plusL zs ps).sum = zs.sum + ps.sum := by
  unfold plusL
  rw [sum_range_add, range_getD]
  rw [← h, range_getD]
theorem minusL_sum {zs ps : List Int} (h : ps.length = zs.length) : (minusL zs ps).sum = zs.sum - ps.sum := by
  unfold minusL
  rw [sum_range_sub, range_getD]
  rw [← h, range_getD]
theorem stp_len_aux (f o : Gl → Int) (ord want hv : Int) : ∀ (gs : List Gl) (st : Int × Int × List Int),
    (gs.foldl (fun st g => if o g = ord then (st.1 + f g, cut want (st.1 + f g) hv, st.2.2 ++ [cut want (st.1 + f g) hv - st.2.1]) else (st.1, st.2.1, st.2.2 ++ [0])) st).2.2.length = st.2.2.length + gs.length
  | [], st => by simp
  | g :: gs, st => by
    rw [List.foldl_cons]
    by_cases h : o g = ord
    · rw [if_pos h, stp_len_aux f o ord want hv gs]; simp; omega
    · rw [if_neg h, stp_len_aux f o ord want hv gs]; simp; omega
theorem stp_len (f o : Gl → Int) (ord want hv : Int) (gs : List Gl) : (stp f o ord want hv gs).2.2.length = gs.length := by
  have := stp_len_aux f o ord want hv gs (0, 0, [])
  simpa [stp] using this
theorem stp_keep_aux (f o : Gl → Int) (ord want hv : Int) : ∀ (gs : List Gl) (st : Int × Int × List Int) (i : Nat), i < st.2.2.length →
    (gs.foldl (fun st g => if o g = ord then (st.1 + f g, cut want (st.1 + f g) hv, st.2.2 ++ [cut want (st.1 + f g) hv - st.2.1]) else (st.1, st.2.1, st.2.2 ++ [0])) st).2.2.getD i 0 = st.2.2.getD i 0
  | [], st, i, _ => rfl
  | g :: gs, st, i, hi => by
    rw [List.foldl_cons]
    by_cases h : o g = ord
    · rw [if_pos h, stp_keep_aux f o ord want hv gs _ i (by simp; omega)]; simp [List.getD, List.getElem?_append_left hi]
    · rw [if_neg h, stp_keep_aux f o ord want hv gs _ i (by simp; omega)]; simp [List.getD, List.getElem?_append_left hi]
theorem stp_zero_aux (f o : Gl → Int) (ord want hv : Int) : ∀ (gs : List Gl) (st : Int × Int × List Int) (i : Nat), i < gs.length → o (gs.getD i Gl.none) ≠ ord →
    (gs.foldl (fun st g => if o g = ord then (st.1 + f g, cut want (st.1 + f g) hv, st.2.2 ++ [cut want (st.1 + f g) hv - st.2.1]) else (st.1, st.2.1, st.2.2 ++ [0])) st).2.2.getD (st.2.2.length + i) 0 = 0
  | [], st, i, hi, _ => by simp at hi
  | g :: gs, st, 0, _, ho => by
    rw [List.foldl_cons]
    have ho' : o g ≠ ord := by simpa using ho
    rw [if_neg ho', stp_keep_aux f o ord want hv gs _ _ (by simp)]
    simp [List.getD]
  | g :: gs, st, i + 1, hi, ho => by
    rw [List.foldl_cons]
    have hi' : i < gs.length := by simpa using hi
    have ho' : o (gs.getD i Gl.none) ≠ ord := by simpa using ho
    by_cases h : o g = ord
    · rw [if_pos h]
      have := stp_zero_aux f o ord want hv gs (st.1 + f g, cut want (st.1 + f g) hv, st.2.2 ++ [cut want (st.1 + f g) hv - st.2.1]) i hi' ho'
      rw [List.length_append] at this
      rw [show st.2.2.length + (i + 1) = st.2.2.length + [cut want (st.1 + f g) hv - st.2.1].length + i by simp; omega]
      exact this
    · rw [if_neg h]
      have := stp_zero_aux f o ord want hv gs (st.1, st.2.1, st.2.2 ++ [0]) i hi' ho'
      rw [List.length_append] at this
      rw [show st.2.2.length + (i + 1) = st.2.2.length + [(0 : Int)].length + i by simp; omega]
      exact this
theorem stp_zero (f o : Gl → Int) (ord want hv : Int) (gs : List Gl) {i : Nat} (hi : i < gs.length) (ho : o (gs.getD i Gl.none) ≠ ord) : (stp f o ord want hv gs).2.2.getD i 0 = 0 := by
  have := stp_zero_aux f o ord want hv gs (0, 0, []) i hi ho
  simpa [stp] using this
theorem sizes_sum (gs : List Gl) : (sizes gs).sum = siz gs := rfl
theorem sizes_len (gs : List Gl) : (sizes gs).length = gs.length := by simp [sizes]

/-- What is said of a row that is set. -/
structure ShareFacts (gs : List Gl) (q : Int) : Prop where
  len : (shareL gs q).length = gs.length
  zero : q = 0 → (shareS gs q).sign = 0 ∧ (shareL gs q).sum = siz gs
  up : 0 < q → (shareS gs q).sign = 1 ∧ (shareS gs q).want = q ∧ (shareS gs q).order = ordOf Gl.p Gl.po gs ∧ (shareS gs q).have_ = hvOf Gl.p Gl.po gs ∧ (0 < hvOf Gl.p Gl.po gs → (shareL gs q).sum = siz gs + q) ∧ (¬ 0 < hvOf Gl.p Gl.po gs → (shareL gs q).sum = siz gs)
  down : q < 0 → (shareS gs q).sign = -1 ∧ (shareS gs q).want = -q ∧ (shareS gs q).order = ordOf Gl.m Gl.mo gs ∧ (shareS gs q).have_ = hvOf Gl.m Gl.mo gs ∧ (shareL gs q).sum = siz gs + q + (shareS gs q).over ∧ 0 ≤ (shareS gs q).over ∧ (shareS gs q).over ≤ -q
  keep : ∀ i, i < gs.length → ((shareS gs q).sign = 0 ∨ (0 ≤ (shareS gs q).sign ∧ (gs.getD i Gl.none).po ≠ (shareS gs q).order) ∨ ((shareS gs q).sign < 0 ∧ (gs.getD i Gl.none).mo ≠ (shareS gs q).order)) → (shareL gs q).getD i 0 = (gs.getD i Gl.none).s

theorem share_facts {gs : List Gl} {q : Int} (hok : glsOk gs = true) (hq1 : -1152921504606846976 ≤ q) (hq2 : q ≤ 1152921504606846976) : ShareFacts gs q := by
  have heach := glsOk_each hok
  have hmem : ∀ g ∈ gs, g.ok = true := by
    intro g hg
    obtain ⟨i, hi, rfl⟩ := List.getElem_of_mem hg
    have := heach.2 i hi
    simpa [List.getD, List.getElem?_eq_getElem hi] using this
  have hpo : ∀ g ∈ gs, 0 ≤ Gl.po g ∧ Gl.po g ≤ 3 := fun g hg => (ok_bounds (hmem g hg)).2.2.2.1
  have hmo : ∀ g ∈ gs, 0 ≤ Gl.mo g ∧ Gl.mo g ≤ 3 := fun g hg => (ok_bounds (hmem g hg)).2.2.2.2
  have hmb : ∀ j, -10737418230000 ≤ (tot Gl.m Gl.mo gs).getD j 0 ∧ (tot Gl.m Gl.mo gs).getD j 0 ≤ 10737418230000 := fun j => tot_have Gl.m Gl.mo gs heach.1 (fun k hk => (ok_bounds (heach.2 k hk)).2.2.1) j
  rcases Int.lt_trichotomy q 0 with hn | rfl | hp
  · have e1 : shareS gs q = downS gs (-q) := by unfold shareS; rw [if_neg (by omega), if_pos hn]
    have e2 : shareL gs q = downL gs (-q) := by unfold shareL; rw [if_neg (by omega), if_pos hn]
    have hdn : (downS gs (-q)).sign = -1 ∧ (downS gs (-q)).want = -q ∧ (downS gs (-q)).order = ordOf Gl.m Gl.mo gs ∧ (downS gs (-q)).have_ = hvOf Gl.m Gl.mo gs ∧ ((downL gs (-q)).sum = siz gs + q + (downS gs (-q)).over ∧ 0 ≤ (downS gs (-q)).over ∧ (downS gs (-q)).over ≤ -q) ∧ (downL gs (-q)).length = gs.length ∧ ∀ i, i < gs.length → (gs.getD i Gl.none).mo ≠ ordOf Gl.m Gl.mo gs → (downL gs (-q)).getD i 0 = (gs.getD i Gl.none).s := by
      unfold downS downL
      by_cases h1 : hvOf Gl.m Gl.mo gs ≤ 0
      · rw [if_pos h1, if_pos h1]
        refine ⟨rfl, rfl, rfl, rfl, ⟨?_, by simp only; omega, by simp only; omega⟩, sizes_len gs, fun i hi _ => sizes_at hi⟩
        rw [sizes_sum]; simp only; omega
      · rw [if_neg h1, if_neg h1]
        by_cases h2 : ordOf Gl.m Gl.mo gs = 0 ∧ hvOf Gl.m Gl.mo gs < -q
        · rw [if_pos h2, if_pos h2]
          have hb : hvOf Gl.m Gl.mo gs ≤ 10737418230000 := (hmb _).2
          have ht := stp_total Gl.m Gl.mo (hvOf Gl.m Gl.mo gs) gs hmo (hvOf Gl.m Gl.mo gs) rfl (by omega) (by omega) (by omega)
          rw [h2.1] at ht
          refine ⟨rfl, rfl, h2.1.symm, rfl, ⟨?_, by simp only; omega, by simp only; omega⟩, by rw [minusL_length, sizes_len], fun i hi ho => ?_⟩
          · rw [minusL_sum (by rw [stp_len, sizes_len]), ht, sizes_sum]; simp only; omega
          · rw [minusL_at (by rw [sizes_len]; exact hi), sizes_at hi, stp_zero _ _ _ _ _ _ hi (by rw [h2.1] at ho; exact ho)]; omega
        · rw [if_neg h2, if_neg h2]
          have ht := stp_total Gl.m Gl.mo (-q) gs hmo (hvOf Gl.m Gl.mo gs) rfl (by omega) (by omega) (by omega)
          refine ⟨rfl, rfl, rfl, rfl, ⟨?_, by simp only; omega, by simp only; omega⟩, by rw [minusL_length, sizes_len], fun i hi ho => ?_⟩
          · rw [minusL_sum (by rw [stp_len, sizes_len]), ht, sizes_sum]; simp only; omega
          · rw [minusL_at (by rw [sizes_len]; exact hi), sizes_at hi, stp_zero _ _ _ _ _ _ hi ho]; omega
    obtain ⟨d1, d2, d3, d4, d5, d6, d7⟩ := hdn
    refine ⟨by rw [e2]; exact d6, fun h => by omega, fun h => by omega, fun _ => by rw [e1, e2]; exact ⟨d1, d2, d3, d4, d5⟩, fun i hi h => ?_⟩
    rw [e1] at h
    rw [e2]
    refine d7 i hi ?_
    rcases h with h | ⟨h, _⟩ | ⟨_, h⟩
    · omega
    · omega
    · rw [d3] at h; exact h
  · have e1 : shareS gs 0 = ⟨0, 0, 0, 0, 0, 0⟩ := by unfold shareS; rw [if_neg (by omega), if_neg (by omega)]
    have e2 : shareL gs 0 = sizes gs := by unfold shareL; rw [if_neg (by omega), if_neg (by omega)]
    exact ⟨by rw [e2]; exact sizes_len gs, fun _ => by rw [e1, e2]; exact ⟨rfl, rfl⟩, fun h => by omega, fun h => by omega, fun i hi _ => by rw [e2]; exact sizes_at hi⟩
  · have e1 : shareS gs q = upS gs q := by unfold shareS; rw [if_pos hp]
    have e2 : shareL gs q = upL gs q := by unfold shareL; rw [if_pos hp]
    have hup : (upS gs q).sign = 1 ∧ (upS gs q).want = q ∧ (upS gs q).order = ordOf Gl.p Gl.po gs ∧ (upS gs q).have_ = hvOf Gl.p Gl.po gs ∧ (0 < hvOf Gl.p Gl.po gs → (upL gs q).sum = siz gs + q) ∧ (¬ 0 < hvOf Gl.p Gl.po gs → (upL gs q).sum = siz gs) ∧ (upL gs q).length = gs.length ∧ ∀ i, i < gs.length → (gs.getD i Gl.none).po ≠ ordOf Gl.p Gl.po gs → (upL gs q).getD i 0 = (gs.getD i Gl.none).s := by
      unfold upS upL
      by_cases h1 : hvOf Gl.p Gl.po gs ≤ 0
      · rw [if_pos h1, if_pos h1]
        exact ⟨rfl, rfl, rfl, rfl, fun h => by omega, fun _ => rfl, sizes_len gs, fun i hi _ => sizes_at hi⟩
      · rw [if_neg h1, if_neg h1]
        have ht := stp_total Gl.p Gl.po q gs hpo (hvOf Gl.p Gl.po gs) rfl (by omega) (by omega) (by omega)
        refine ⟨rfl, rfl, rfl, rfl, fun _ => ?_, fun h => by omega, by rw [plusL_length, sizes_len], fun i hi ho => ?_⟩
        · rw [plusL_sum (by rw [stp_len, sizes_len]), ht, sizes_sum]
        · rw [plusL_at (by rw [sizes_len]; exact hi), sizes_at hi, stp_zero _ _ _ _ _ _ hi ho]; omega
    obtain ⟨d1, d2, d3, d4, d5, d6, d7, d8⟩ := hup
    refine ⟨by rw [e2]; exact d7, fun h => by omega, fun _ => by rw [e1, e2]; exact ⟨d1, d2, d3, d4, d5, d6⟩, fun h => by omega, fun i hi h => ?_⟩
    rw [e1] at h
    rw [e2]
    refine d8 i hi ?_
    rcases h with h | ⟨_, h⟩ | ⟨h, _⟩
    · omega
    · rw [d3] at h; exact h
    · omega
end Go.Proofs.Ytgfphgbemfmkfaa
