/-
  The portions together are what is wanted.
-/
import Derived.Test.YtgfphgbemfmkfaaOutD
namespace Go.Proofs.Ytgfphgbemfmkfaa
open Go.RowKit
set_option linter.unusedVariables false
set_option linter.unusedSimpArgs false

theorem stp_sum_aux (f o : Gl → Int) (ord want hv : Int) : ∀ (gs : List Gl) (s d : Int) (ps : List Int),
    (gs.foldl (fun st g => if o g = ord then (st.1 + f g, cut want (st.1 + f g) hv, st.2.2 ++ [cut want (st.1 + f g) hv - st.2.1]) else (st.1, st.2.1, st.2.2 ++ [0])) ((s, d, ps) : Int × Int × List Int)).2.2.sum - (gs.foldl (fun st g => if o g = ord then (st.1 + f g, cut want (st.1 + f g) hv, st.2.2 ++ [cut want (st.1 + f g) hv - st.2.1]) else (st.1, st.2.1, st.2.2 ++ [0])) ((s, d, ps) : Int × Int × List Int)).2.1 = ps.sum - d
  | [], s, d, ps => rfl
  | g :: gs, s, d, ps => by
    rw [List.foldl_cons]
    by_cases h : o g = ord
    · rw [if_pos h, stp_sum_aux f o ord want hv gs]
      simp
      omega
    · rw [if_neg h, stp_sum_aux f o ord want hv gs]
      simp
theorem stp_sum (f o : Gl → Int) (ord want hv : Int) (gs : List Gl) : (stp f o ord want hv gs).2.2.sum = (stp f o ord want hv gs).2.1 := by
  have := stp_sum_aux f o ord want hv gs 0 0 []
  have e : ([] : List Int).sum - 0 = 0 := rfl
  rw [e] at this
  unfold stp
  omega

theorem stp_fst_aux (f o : Gl → Int) (k : Nat) (want hv : Int) (hk : k < 4) : ∀ (gs : List Gl), (∀ g ∈ gs, 0 ≤ o g ∧ o g ≤ 3) → ∀ (s d : Int) (ps ys : List Int), ys.length = 4 →
    (gs.foldl (fun st g => if o g = (k : Int) then (st.1 + f g, cut want (st.1 + f g) hv, st.2.2 ++ [cut want (st.1 + f g) hv - st.2.1]) else (st.1, st.2.1, st.2.2 ++ [0])) ((s, d, ps) : Int × Int × List Int)).1 - s = (gs.foldl (fun ys g => ys.set (o g).toNat (ys.getD (o g).toNat 0 + f g)) ys).getD k 0 - ys.getD k 0
  | [], _, s, d, ps, ys, _ => by simp
  | g :: gs, hg, s, d, ps, ys, hl => by
    rw [List.foldl_cons, List.foldl_cons]
    have hb := hg g (by simp)
    have ih := stp_fst_aux f o k want hv hk gs (fun x hx => hg x (by simp [hx]))
    by_cases h : o g = (k : Int)
    · rw [if_pos h]
      have e : (o g).toNat = k := by omega
      have := ih (s + f g) (cut want (s + f g) hv) (ps ++ [cut want (s + f g) hv - d]) (ys.set (o g).toNat (ys.getD (o g).toNat 0 + f g)) (by simp [hl])
      have e2 : (ys.set (o g).toNat (ys.getD (o g).toNat 0 + f g)).getD k 0 = ys.getD k 0 + f g := by
        rw [e]; simp [List.getD, hl, hk]
      rw [e2] at this
      show _ - s = _
      simp only at this ⊢
      omega
    · rw [if_neg h]
      have e : (o g).toNat ≠ k := by omega
      have := ih s d (ps ++ [0]) (ys.set (o g).toNat (ys.getD (o g).toNat 0 + f g)) (by simp [hl])
      have e2 : (ys.set (o g).toNat (ys.getD (o g).toNat 0 + f g)).getD k 0 = ys.getD k 0 := by simp [List.getD, List.getElem?_set, e]
      rw [e2] at this
      exact this
theorem stp_fst (f o : Gl → Int) (k : Nat) (want hv : Int) (hk : k < 4) (gs : List Gl) (h : ∀ g ∈ gs, 0 ≤ o g ∧ o g ≤ 3) : (stp f o (k : Int) want hv gs).1 = (tot f o gs).getD k 0 := by
  have := stp_fst_aux f o k want hv hk gs h 0 0 [] [0, 0, 0, 0] rfl
  have e : ([0, 0, 0, 0] : List Int).getD k 0 = 0 := by
    rcases (show k = 0 ∨ k = 1 ∨ k = 2 ∨ k = 3 by omega) with rfl | rfl | rfl | rfl <;> rfl
  rw [e] at this
  unfold stp tot
  omega

theorem cut_all {want hv : Int} (h1 : 0 < want) (h2 : want ≤ 1152921504606846976) (h3 : 0 < hv) : cut want hv hv = want := by
  unfold cut cutN
  rw [if_neg (by omega), BigN.near_eq _ _ _ _ (by omega), Nat.mul_div_cancel _ (by omega), Nat.mul_mod_left, if_neg (by omega)]
  omega
/-- What was given at the end: the cut of the whole sum. -/
theorem stp_snd (f o : Gl → Int) (ord want hv : Int) (gs : List Gl) (h0 : cut want 0 hv = 0) : (stp f o ord want hv gs).2.1 = cut want (stp f o ord want hv gs).1 hv := by
  have key : ∀ (gs : List Gl) (st : Int × Int × List Int), st.2.1 = cut want st.1 hv →
      (gs.foldl (fun st g => if o g = ord then (st.1 + f g, cut want (st.1 + f g) hv, st.2.2 ++ [cut want (st.1 + f g) hv - st.2.1]) else (st.1, st.2.1, st.2.2 ++ [0])) st).2.1 = cut want (gs.foldl (fun st g => if o g = ord then (st.1 + f g, cut want (st.1 + f g) hv, st.2.2 ++ [cut want (st.1 + f g) hv - st.2.1]) else (st.1, st.2.1, st.2.2 ++ [0])) st).1 hv := by
    intro gs
    induction gs with
    | nil => intro st h; exact h
    | cons g gs ih =>
      intro st h
      rw [List.foldl_cons]
      by_cases hh : o g = ord
      · rw [if_pos hh]; exact ih _ rfl
      · rw [if_neg hh]; exact ih _ h
  exact key gs (0, 0, []) h0.symm
theorem cut_none {want hv : Int} (h3 : 0 < hv) : cut want 0 hv = 0 := by
  unfold cut cutN
  rw [if_neg (by omega), BigN.near_eq _ _ _ _ (by omega)]
  simp
  omega

/-- The portions of the highest order together are what is wanted. -/
theorem stp_total (f o : Gl → Int) (want : Int) (gs : List Gl) (h : ∀ g ∈ gs, 0 ≤ o g ∧ o g ≤ 3) (hv : Int) (hhv : hv = hvOf f o gs) (h1 : 0 < want) (h2 : want ≤ 1152921504606846976) (h3 : 0 < hv) : (stp f o (ordOf f o gs) want hv gs).2.2.sum = want := by
  rw [stp_sum, stp_snd _ _ _ _ _ _ (cut_none h3)]
  unfold ordOf
  rw [stp_fst f o _ want hv (by have := top_le (tot f o gs); omega) gs h]
  have : (tot f o gs).getD (top (tot f o gs)) 0 = hv := hhv.symm
  rw [this, cut_all h1 h2 h3]
end Go.Proofs.Ytgfphgbemfmkfaa
