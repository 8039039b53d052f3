import Derived.Test.YtbbehmcekbnkiaaGreatSdp
import Derived.Test.YtbbehmcekbnkiaaGreatSet
import Derived.Test.YtbbehmcekbnkiaaGreatDlp
import Derived.Test.YtbbehmcekbnkiaaGreatDvp
namespace Go.Proofs.YtbbehmcekbnkiaaGreat
open Go.RowKit
set_option linter.unusedVariables false
set_option linter.unusedSimpArgs false
theorem itemAt_drop {xs : List Nd} {p : Nat} (hp : p < xs.length) : itemAt xs p = xs.getD p Nd.none :: (xs.drop (p + 1)).take (xs.getD p Nd.none).kids.toNat := by
 unfold itemAt
 rw [List.drop_eq_getElem_cons hp, Nat.add_comm 1, List.take_succ_cons]
 simp [List.getD, List.getElem?_eq_getElem hp]
theorem listB_iff {xs : List Nd} : listB xs = true ↔ xs.length ≤ 20000 ∧ okFrom xs.length 0 [] xs = true := by
 unfold listB; simp
end Go.Proofs.YtbbehmcekbnkiaaGreat
namespace Go.Proofs.YtbbehmcekbnkiaaGreat.Shr
open Go.RowKit
set_option linter.unusedVariables false
set_option linter.unusedSimpArgs false
theorem stp_sum_aux (f o : Gl → Int) (ord want hv : Int) : ∀ (gs : List Gl) (s d : Int) (ps : List Int),
 (gs.foldl (fun st g => if o g = ord then (st.1 + f g, cut want (st.1 + f g) hv, st.2.2 ++ [cut want (st.1 + f g) hv - st.2.1]) else (st.1, st.2.1, st.2.2 ++ [0])) ((s, d, ps) : Int × Int × List Int)).2.2.sum - (gs.foldl (fun st g => if o g = ord then (st.1 + f g, cut want (st.1 + f g) hv, st.2.2 ++ [cut want (st.1 + f g) hv - st.2.1]) else (st.1, st.2.1, st.2.2 ++ [0])) ((s, d, ps) : Int × Int × List Int)).2.1 = ps.sum - d
 | [], s, d, ps => rfl
 | g :: gs, s, d, ps => by
  rw [List.foldl_cons]
  by_cases h : o g = ord
  ·rw [if_pos h, stp_sum_aux f o ord want hv gs]
   simp
   omega
  ·rw [if_neg h, stp_sum_aux f o ord want hv gs]
   simp
theorem stp_sum (f o : Gl → Int) (ord want hv : Int) (gs : List Gl) : (stp f o ord want hv gs).2.2.sum = (stp f o ord want hv gs).2.1 := by
 have := stp_sum_aux f o ord want hv gs 0 0 []
 have e : ([] : List Int).sum - 0 = 0 := rfl
 rw [e] at this
 unfold stp
 omega
theorem stp_fst_aux (f o : Gl → Int) (k : Nat) (want hv : Int) (hk : k < 4) : ∀ (gs : List Gl), (∀ g ∈ gs, 0 ≤ o g ∧ o g ≤ 3) → ∀ (s d : Int) (ps ys : List Int), ys.length = 4 →
 (gs.foldl (fun st g => if o g = (k : Int) then (st.1 + f g, cut want (st.1 + f g) hv, st.2.2 ++ [cut want (st.1 + f g) hv - st.2.1]) else (st.1, st.2.1, st.2.2 ++ [0])) ((s, d, ps) : Int × Int × List Int)).1 - s = (gs.foldl (fun ys g => ys.set (o g).toNat (ys.getD (o g).toNat 0 + f g)) ys).getD k 0 - ys.getD k 0
 | [], _, s, d, ps, ys, _ => by simp
 | g :: gs, hg, s, d, ps, ys, hl => by
  rw [List.foldl_cons, List.foldl_cons]
  have hb := hg g (by simp)
  have ih := stp_fst_aux f o k want hv hk gs (fun x hx => hg x (by simp [hx]))
  by_cases h : o g = (k : Int)
  ·rw [if_pos h]
   have e : (o g).toNat = k := by omega
   have := ih (s + f g) (cut want (s + f g) hv) (ps ++ [cut want (s + f g) hv - d]) (ys.set (o g).toNat (ys.getD (o g).toNat 0 + f g)) (by simp [hl])
   have e2 : (ys.set (o g).toNat (ys.getD (o g).toNat 0 + f g)).getD k 0 = ys.getD k 0 + f g := by
    rw [e]; simp [List.getD, hl, hk]
   rw [e2] at this
   show _ - s = _
   simp only at this ⊢
   omega
  ·rw [if_neg h]
   have e : (o g).toNat ≠ k := by omega
   have := ih s d (ps ++ [0]) (ys.set (o g).toNat (ys.getD (o g).toNat 0 + f g)) (by simp [hl])
   have e2 : (ys.set (o g).toNat (ys.getD (o g).toNat 0 + f g)).getD k 0 = ys.getD k 0 := by simp [List.getD, List.getElem?_set, e]
   rw [e2] at this
   exact this
theorem stp_fst (f o : Gl → Int) (k : Nat) (want hv : Int) (hk : k < 4) (gs : List Gl) (h : ∀ g ∈ gs, 0 ≤ o g ∧ o g ≤ 3) : (stp f o (k : Int) want hv gs).1 = (tot f o gs).getD k 0 := by
 have := stp_fst_aux f o k want hv hk gs h 0 0 [] [0, 0, 0, 0] rfl
 have e : ([0, 0, 0, 0] : List Int).getD k 0 = 0 := by
  rcases (show k = 0 ∨ k = 1 ∨ k = 2 ∨ k = 3 by omega) with rfl | rfl | rfl | rfl <;> rfl
 rw [e] at this
 unfold stp tot
 omega
theorem cut_all {want hv : Int} (h1 : 0 < want) (h2 : want ≤ 1152921504606846976) (h3 : 0 < hv) : cut want hv hv = want := by
 unfold cut cutN
 rw [if_neg (by omega), BigN.near_eq _ _ _ _ (by omega), Nat.mul_div_cancel _ (by omega), Nat.mul_mod_left, if_neg (by omega)]
 omega
theorem stp_snd (f o : Gl → Int) (ord want hv : Int) (gs : List Gl) (h0 : cut want 0 hv = 0) : (stp f o ord want hv gs).2.1 = cut want (stp f o ord want hv gs).1 hv := by
 have key : ∀ (gs : List Gl) (st : Int × Int × List Int), st.2.1 = cut want st.1 hv →
  (gs.foldl (fun st g => if o g = ord then (st.1 + f g, cut want (st.1 + f g) hv, st.2.2 ++ [cut want (st.1 + f g) hv - st.2.1]) else (st.1, st.2.1, st.2.2 ++ [0])) st).2.1 = cut want (gs.foldl (fun st g => if o g = ord then (st.1 + f g, cut want (st.1 + f g) hv, st.2.2 ++ [cut want (st.1 + f g) hv - st.2.1]) else (st.1, st.2.1, st.2.2 ++ [0])) st).1 hv := by
  intro gs
  induction gs with
  | nil => intro st h; exact h
  | cons g gs ih =>
   intro st h
   rw [List.foldl_cons]
   by_cases hh : o g = ord
   ·rw [if_pos hh]; exact ih _ rfl
   ·rw [if_neg hh]; exact ih _ h
 exact key gs (0, 0, []) h0.symm
theorem cut_none {want hv : Int} (h3 : 0 < hv) : cut want 0 hv = 0 := by
 unfold cut cutN
 rw [if_neg (by omega), BigN.near_eq _ _ _ _ (by omega)]
 simp
 omega
theorem stp_total (f o : Gl → Int) (want : Int) (gs : List Gl) (h : ∀ g ∈ gs, 0 ≤ o g ∧ o g ≤ 3) (hv : Int) (hhv : hv = hvOf f o gs) (h1 : 0 < want) (h2 : want ≤ 1152921504606846976) (h3 : 0 < hv) : (stp f o (ordOf f o gs) want hv gs).2.2.sum = want := by
 rw [stp_sum, stp_snd _ _ _ _ _ _ (cut_none h3)]
 unfold ordOf
 rw [stp_fst f o _ want hv (by have := top_le (tot f o gs); omega) gs h]
 have : (tot f o gs).getD (top (tot f o gs)) 0 = hv := hhv.symm
 rw [this, cut_all h1 h2 h3]
theorem sum_range_add (f g : Nat → Int) : ∀ n : Nat, ((List.range n).map (fun j => f j + g j)).sum = ((List.range n).map f).sum + ((List.range n).map g).sum
 | 0 => rfl
 | n + 1 => by
  rw [List.range_succ, List.map_append, List.map_append, List.map_append, List.sum_append, List.sum_append, List.sum_append, sum_range_add f g n]
  simp
  omega
theorem sum_range_sub (f g : Nat → Int) : ∀ n : Nat, ((List.range n).map (fun j => f j - g j)).sum = ((List.range n).map f).sum - ((List.range n).map g).sum
 | 0 => rfl
 | n + 1 => by
  rw [List.range_succ, List.map_append, List.map_append, List.map_append, List.sum_append, List.sum_append, List.sum_append, sum_range_sub f g n]
  simp
  omega
theorem range_getD (xs : List Int) : (List.range xs.length).map (fun j => xs.getD j 0) = xs := by
 apply List.ext_getElem
 ·simp
 ·intro i h1 h2
  simp at h1
  simp [List.getD, h1]
theorem plusL_sum {zs ps : List Int} (h : ps.length = zs.length) : (plusL zs ps).sum = zs.sum + ps.sum := by
 unfold plusL
 rw [sum_range_add, range_getD]
 rw [← h, range_getD]
theorem minusL_sum {zs ps : List Int} (h : ps.length = zs.length) : (minusL zs ps).sum = zs.sum - ps.sum := by
 unfold minusL
 rw [sum_range_sub, range_getD]
 rw [← h, range_getD]
theorem stp_len_aux (f o : Gl → Int) (ord want hv : Int) : ∀ (gs : List Gl) (st : Int × Int × List Int),
 (gs.foldl (fun st g => if o g = ord then (st.1 + f g, cut want (st.1 + f g) hv, st.2.2 ++ [cut want (st.1 + f g) hv - st.2.1]) else (st.1, st.2.1, st.2.2 ++ [0])) st).2.2.length = st.2.2.length + gs.length
 | [], st => by simp
 | g :: gs, st => by
  rw [List.foldl_cons]
  by_cases h : o g = ord
  ·rw [if_pos h, stp_len_aux f o ord want hv gs]; simp; omega
  ·rw [if_neg h, stp_len_aux f o ord want hv gs]; simp; omega
theorem stp_len (f o : Gl → Int) (ord want hv : Int) (gs : List Gl) : (stp f o ord want hv gs).2.2.length = gs.length := by
 have := stp_len_aux f o ord want hv gs (0, 0, [])
 simpa [stp] using this
theorem stp_keep_aux (f o : Gl → Int) (ord want hv : Int) : ∀ (gs : List Gl) (st : Int × Int × List Int) (i : Nat), i < st.2.2.length →
 (gs.foldl (fun st g => if o g = ord then (st.1 + f g, cut want (st.1 + f g) hv, st.2.2 ++ [cut want (st.1 + f g) hv - st.2.1]) else (st.1, st.2.1, st.2.2 ++ [0])) st).2.2.getD i 0 = st.2.2.getD i 0
 | [], st, i, _ => rfl
 | g :: gs, st, i, hi => by
  rw [List.foldl_cons]
  by_cases h : o g = ord
  ·rw [if_pos h, stp_keep_aux f o ord want hv gs _ i (by simp; omega)]; simp [List.getD, List.getElem?_append_left hi]
  ·rw [if_neg h, stp_keep_aux f o ord want hv gs _ i (by simp; omega)]; simp [List.getD, List.getElem?_append_left hi]
theorem stp_zero_aux (f o : Gl → Int) (ord want hv : Int) : ∀ (gs : List Gl) (st : Int × Int × List Int) (i : Nat), i < gs.length → o (gs.getD i Gl.none) ≠ ord →
 (gs.foldl (fun st g => if o g = ord then (st.1 + f g, cut want (st.1 + f g) hv, st.2.2 ++ [cut want (st.1 + f g) hv - st.2.1]) else (st.1, st.2.1, st.2.2 ++ [0])) st).2.2.getD (st.2.2.length + i) 0 = 0
 | [], st, i, hi, _ => by simp at hi
 | g :: gs, st, 0, _, ho => by
  rw [List.foldl_cons]
  have ho' : o g ≠ ord := by simpa using ho
  rw [if_neg ho', stp_keep_aux f o ord want hv gs _ _ (by simp)]
  simp [List.getD]
 | g :: gs, st, i + 1, hi, ho => by
  rw [List.foldl_cons]
  have hi' : i < gs.length := by simpa using hi
  have ho' : o (gs.getD i Gl.none) ≠ ord := by simpa using ho
  by_cases h : o g = ord
  ·rw [if_pos h]
   have := stp_zero_aux f o ord want hv gs (st.1 + f g, cut want (st.1 + f g) hv, st.2.2 ++ [cut want (st.1 + f g) hv - st.2.1]) i hi' ho'
   rw [List.length_append] at this
   rw [show st.2.2.length + (i + 1) = st.2.2.length + [cut want (st.1 + f g) hv - st.2.1].length + i by simp; omega]
   exact this
  ·rw [if_neg h]
   have := stp_zero_aux f o ord want hv gs (st.1, st.2.1, st.2.2 ++ [0]) i hi' ho'
   rw [List.length_append] at this
   rw [show st.2.2.length + (i + 1) = st.2.2.length + [(0 : Int)].length + i by simp; omega]
   exact this
theorem stp_zero (f o : Gl → Int) (ord want hv : Int) (gs : List Gl) {i : Nat} (hi : i < gs.length) (ho : o (gs.getD i Gl.none) ≠ ord) : (stp f o ord want hv gs).2.2.getD i 0 = 0 := by
 have := stp_zero_aux f o ord want hv gs (0, 0, []) i hi ho
 simpa [stp] using this
theorem sizes_sum (gs : List Gl) : (sizes gs).sum = siz gs := rfl
theorem sizes_ln (gs : List Gl) : (sizes gs).length = gs.length := by simp [sizes]
structure ShareFacts (gs : List Gl) (q : Int) : Prop where
 len : (shareL gs q).length = gs.length
 zero : q = 0 → (shareS gs q).sign = 0 ∧ (shareL gs q).sum = siz gs
 up : 0 < q → (shareS gs q).sign = 1 ∧ (shareS gs q).want = q ∧ (shareS gs q).order = ordOf Gl.p Gl.po gs ∧ (shareS gs q).have_ = hvOf Gl.p Gl.po gs ∧ (0 < hvOf Gl.p Gl.po gs → (shareL gs q).sum = siz gs + q) ∧ (¬ 0 < hvOf Gl.p Gl.po gs → (shareL gs q).sum = siz gs)
 down : q < 0 → (shareS gs q).sign = -1 ∧ (shareS gs q).want = -q ∧ (shareS gs q).order = ordOf Gl.m Gl.mo gs ∧ (shareS gs q).have_ = hvOf Gl.m Gl.mo gs ∧ (shareL gs q).sum = siz gs + q + (shareS gs q).over ∧ 0 ≤ (shareS gs q).over ∧ (shareS gs q).over ≤ -q
 keep : ∀ i, i < gs.length → ((shareS gs q).sign = 0 ∨ (0 ≤ (shareS gs q).sign ∧ (gs.getD i Gl.none).po ≠ (shareS gs q).order) ∨ ((shareS gs q).sign < 0 ∧ (gs.getD i Gl.none).mo ≠ (shareS gs q).order)) → (shareL gs q).getD i 0 = (gs.getD i Gl.none).s
theorem share_facts {gs : List Gl} {q : Int} (hok : glsOk gs = true) (hq1 : -1152921504606846976 ≤ q) (hq2 : q ≤ 1152921504606846976) : ShareFacts gs q := by
 have heach := glsOk_each hok
 have hmem : ∀ g ∈ gs, g.ok = true := by
  intro g hg
  obtain ⟨i, hi, rfl⟩ := List.getElem_of_mem hg
  have := heach.2 i hi
  simpa [List.getD, List.getElem?_eq_getElem hi] using this
 have hpo : ∀ g ∈ gs, 0 ≤ Gl.po g ∧ Gl.po g ≤ 3 := fun g hg => (ok_bounds (hmem g hg)).2.2.2.1
 have hmo : ∀ g ∈ gs, 0 ≤ Gl.mo g ∧ Gl.mo g ≤ 3 := fun g hg => (ok_bounds (hmem g hg)).2.2.2.2
 have hmb : ∀ j, -10737418230000 ≤ (tot Gl.m Gl.mo gs).getD j 0 ∧ (tot Gl.m Gl.mo gs).getD j 0 ≤ 10737418230000 := fun j => tot_have Gl.m Gl.mo gs heach.1 (fun k hk => (ok_bounds (heach.2 k hk)).2.2.1) j
 rcases Int.lt_trichotomy q 0 with hn | rfl | hp
 ·have e1 : shareS gs q = downS gs (-q) := by unfold shareS; rw [if_neg (by omega), if_pos hn]
  have e2 : shareL gs q = downL gs (-q) := by unfold shareL; rw [if_neg (by omega), if_pos hn]
  have hdn : (downS gs (-q)).sign = -1 ∧ (downS gs (-q)).want = -q ∧ (downS gs (-q)).order = ordOf Gl.m Gl.mo gs ∧ (downS gs (-q)).have_ = hvOf Gl.m Gl.mo gs ∧ ((downL gs (-q)).sum = siz gs + q + (downS gs (-q)).over ∧ 0 ≤ (downS gs (-q)).over ∧ (downS gs (-q)).over ≤ -q) ∧ (downL gs (-q)).length = gs.length ∧ ∀ i, i < gs.length → (gs.getD i Gl.none).mo ≠ ordOf Gl.m Gl.mo gs → (downL gs (-q)).getD i 0 = (gs.getD i Gl.none).s := by
   unfold downS downL
   by_cases h1 : hvOf Gl.m Gl.mo gs ≤ 0
   ·rw [if_pos h1, if_pos h1]
    refine ⟨rfl, rfl, rfl, rfl, ⟨?_, by simp only; omega, by simp only; omega⟩, sizes_ln gs, fun i hi _ => sizes_at hi⟩
    rw [sizes_sum]; simp only; omega
   ·rw [if_neg h1, if_neg h1]
    by_cases h2 : ordOf Gl.m Gl.mo gs = 0 ∧ hvOf Gl.m Gl.mo gs < -q
    ·rw [if_pos h2, if_pos h2]
     have hb : hvOf Gl.m Gl.mo gs ≤ 10737418230000 := (hmb _).2
     have ht := stp_total Gl.m Gl.mo (hvOf Gl.m Gl.mo gs) gs hmo (hvOf Gl.m Gl.mo gs) rfl (by omega) (by omega) (by omega)
     rw [h2.1] at ht
     refine ⟨rfl, rfl, h2.1.symm, rfl, ⟨?_, by simp only; omega, by simp only; omega⟩, by rw [minusL_length, sizes_ln], fun i hi ho => ?_⟩
     ·rw [minusL_sum (by rw [stp_len, sizes_ln]), ht, sizes_sum]; simp only; omega
     ·rw [minusL_at (by rw [sizes_ln]; exact hi), sizes_at hi, stp_zero _ _ _ _ _ _ hi (by rw [h2.1] at ho; exact ho)]; omega
    ·rw [if_neg h2, if_neg h2]
     have ht := stp_total Gl.m Gl.mo (-q) gs hmo (hvOf Gl.m Gl.mo gs) rfl (by omega) (by omega) (by omega)
     refine ⟨rfl, rfl, rfl, rfl, ⟨?_, by simp only; omega, by simp only; omega⟩, by rw [minusL_length, sizes_ln], fun i hi ho => ?_⟩
     ·rw [minusL_sum (by rw [stp_len, sizes_ln]), ht, sizes_sum]; simp only; omega
     ·rw [minusL_at (by rw [sizes_ln]; exact hi), sizes_at hi, stp_zero _ _ _ _ _ _ hi ho]; omega
  obtain ⟨d1, d2, d3, d4, d5, d6, d7⟩ := hdn
  refine ⟨by rw [e2]; exact d6, fun h => by omega, fun h => by omega, fun _ => by rw [e1, e2]; exact ⟨d1, d2, d3, d4, d5⟩, fun i hi h => ?_⟩
  rw [e1] at h
  rw [e2]
  refine d7 i hi ?_
  rcases h with h | ⟨h, _⟩ | ⟨_, h⟩
  ·omega
  ·omega
  ·rw [d3] at h; exact h
 ·have e1 : shareS gs 0 = ⟨0, 0, 0, 0, 0, 0⟩ := by unfold shareS; rw [if_neg (by omega), if_neg (by omega)]
  have e2 : shareL gs 0 = sizes gs := by unfold shareL; rw [if_neg (by omega), if_neg (by omega)]
  exact ⟨by rw [e2]; exact sizes_ln gs, fun _ => by rw [e1, e2]; exact ⟨rfl, rfl⟩, fun h => by omega, fun h => by omega, fun i hi _ => by rw [e2]; exact sizes_at hi⟩
 ·have e1 : shareS gs q = upS gs q := by unfold shareS; rw [if_pos hp]
  have e2 : shareL gs q = upL gs q := by unfold shareL; rw [if_pos hp]
  have hup : (upS gs q).sign = 1 ∧ (upS gs q).want = q ∧ (upS gs q).order = ordOf Gl.p Gl.po gs ∧ (upS gs q).have_ = hvOf Gl.p Gl.po gs ∧ (0 < hvOf Gl.p Gl.po gs → (upL gs q).sum = siz gs + q) ∧ (¬ 0 < hvOf Gl.p Gl.po gs → (upL gs q).sum = siz gs) ∧ (upL gs q).length = gs.length ∧ ∀ i, i < gs.length → (gs.getD i Gl.none).po ≠ ordOf Gl.p Gl.po gs → (upL gs q).getD i 0 = (gs.getD i Gl.none).s := by
   unfold upS upL
   by_cases h1 : hvOf Gl.p Gl.po gs ≤ 0
   ·rw [if_pos h1, if_pos h1]
    exact ⟨rfl, rfl, rfl, rfl, fun h => by omega, fun _ => rfl, sizes_ln gs, fun i hi _ => sizes_at hi⟩
   ·rw [if_neg h1, if_neg h1]
    have ht := stp_total Gl.p Gl.po q gs hpo (hvOf Gl.p Gl.po gs) rfl (by omega) (by omega) (by omega)
    refine ⟨rfl, rfl, rfl, rfl, fun _ => ?_, fun h => by omega, by rw [plusL_length, sizes_ln], fun i hi ho => ?_⟩
    ·rw [plusL_sum (by rw [stp_len, sizes_ln]), ht, sizes_sum]
    ·rw [plusL_at (by rw [sizes_ln]; exact hi), sizes_at hi, stp_zero _ _ _ _ _ _ hi ho]; omega
  obtain ⟨d1, d2, d3, d4, d5, d6, d7, d8⟩ := hup
  refine ⟨by rw [e2]; exact d7, fun h => by omega, fun _ => by rw [e1, e2]; exact ⟨d1, d2, d3, d4, d5, d6⟩, fun h => by omega, fun i hi h => ?_⟩
  rw [e1] at h
  rw [e2]
  refine d8 i hi ?_
  rcases h with h | ⟨_, h⟩ | ⟨h, _⟩
  ·omega
  ·rw [d3] at h; exact h
  ·omega
end Go.Proofs.YtbbehmcekbnkiaaGreat.Shr
namespace Go.Proofs.YtbbehmcekbnkiaaGreat
open Go.RowKit
set_option linter.unusedVariables false
set_option linter.unusedSimpArgs false
def al (x : Nd) : Int := if pileB x then x.ht + x.dp else if x.k = 2 ∨ x.k = 3 then x.wd else 0
def aw (x : Nd) : Int := if pileB x then x.ht + x.dp else if x.k = 2 then x.wd else 0
theorem stkStep_w (s : RS) (x : Nd) : (stkStep s x).w = s.w + aw x := by
 unfold stkStep aw
 by_cases h1 : pileB x = true
 ·simp [h1, RS.pile]
 ·by_cases h2 : x.k = 2
  ·simp [h1, h2, RS.drop]
  ·by_cases h3 : x.k = 3
   ·simp [h1, h3, RS.gap]
   ·simp [h1, h2, h3, RS.pass]
theorem stk_w (xs : List Nd) : ∀ (Z : List Nat) (s : RS), (Z.foldl (fun s p => stkStep s (xs.getD p Nd.none)) s).w = s.w + (Z.map (fun p => aw (xs.getD p Nd.none))).sum
 | [], s => by simp
 | p :: Z, s => by
  rw [List.foldl_cons, stk_w xs Z, stkStep_w, List.map_cons, List.sum_cons]
  omega
theorem al_not3 {x : Nd} (h : x.k ≠ 3) : al x = aw x := by
 unfold al aw
 by_cases h2 : x.k = 2 <;> simp [h2, h]
theorem aw_3 {x : Nd} (h : x.k = 3) : aw x = 0 := by simp [aw, pileB, h]
theorem al_wide {x : Nd} (h : x.k = 3) (l : Int) : al (x.wide l) = l := by simp [al, pileB, Nd.wide, h]
theorem glues_set {xs : List Nd} {p : Nat} {y : Nd} : ∀ {Z : List Nat}, (∀ q ∈ Z, q ≠ p) → gluesAt (xs.set p y) Z = gluesAt xs Z := by
 intro Z h
 unfold gluesAt
 refine List.filter_congr fun q hq => ?_
 rw [getD_set_ne (h q hq)]
theorem setL_oth : ∀ (ps : List Nat) (ls : List Int) (xs : List Nd) (q : Nat), (∀ p ∈ ps, p ≠ q) → (setL ps ls xs).getD q Nd.none = xs.getD q Nd.none
 | p :: ps, l :: ls, xs, q, h => by
  rw [setL, setL_oth ps ls _ q (fun r hr => h r (List.mem_cons_of_mem _ hr)), getD_set_ne (fun e => h p (List.mem_cons_self ..) e.symm)]
 | [], _, xs, q, _ => by simp [setL]
 | _ :: _, [], xs, q, _ => by simp [setL]
theorem sum_al : ∀ (Z : List Nat) (ls : List Int) (xs : List Nd), Z.Pairwise (· < ·) → (∀ p ∈ Z, p < xs.length) → ls.length = (gluesAt xs Z).length → (Z.map (fun p => al ((setL (gluesAt xs Z) ls xs).getD p Nd.none))).sum = (Z.map (fun p => aw (xs.getD p Nd.none))).sum + ls.sum
 | [], ls, xs, _, _, hl => by
  have : ls = [] := List.eq_nil_of_length_eq_zero (by simpa [gluesAt] using hl)
  simp [this]
 | p :: Z, ls, xs, hp, hlt, hl => by
  obtain ⟨hp1, hp2⟩ := List.pairwise_cons.1 hp
  have hne : ∀ q ∈ Z, q ≠ p := fun q hq => by have := hp1 q hq; omega
  have hneg : ∀ q ∈ gluesAt xs Z, q ≠ p := fun q hq => hne q (List.mem_filter.1 hq).1
  by_cases h3 : (xs.getD p Nd.none).k = 3
  ·have hg : gluesAt xs (p :: Z) = p :: gluesAt xs Z := by unfold gluesAt; rw [List.filter_cons_of_pos (by simpa using h3)]
   rw [hg] at hl ⊢
   cases ls with
   | nil => simp at hl
   | cons l ls =>
    simp only [setL]
    have hgs : gluesAt (xs.set p ((xs.getD p Nd.none).wide l)) Z = gluesAt xs Z := glues_set hne
    have ih := sum_al Z ls (xs.set p ((xs.getD p Nd.none).wide l)) hp2 (fun q hq => by rw [List.length_set]; exact hlt q (List.mem_cons_of_mem _ hq)) (by rw [hgs]; simpa using hl)
    rw [hgs] at ih
    have e1 : (Z.map (fun q => aw ((xs.set p ((xs.getD p Nd.none).wide l)).getD q Nd.none))) = Z.map (fun q => aw (xs.getD q Nd.none)) := List.map_congr_left fun q hq => by rw [getD_set_ne (hne q hq)]
    rw [e1] at ih
    rw [List.map_cons, List.sum_cons, ih, setL_oth _ _ _ _ hneg, getD_set_eq (hlt p (List.mem_cons_self ..)), al_wide h3, List.map_cons, List.sum_cons, aw_3 h3, List.sum_cons]
    omega
  ·have hg : gluesAt xs (p :: Z) = gluesAt xs Z := by unfold gluesAt; rw [List.filter_cons_of_neg (by simpa using h3)]
   rw [hg] at hl ⊢
   have ih := sum_al Z ls xs hp2 (fun q hq => hlt q (List.mem_cons_of_mem _ hq)) hl
   rw [List.map_cons, List.sum_cons, ih, setL_oth _ _ _ _ hneg, al_not3 h3, List.map_cons, List.sum_cons]
   omega
theorem stkStep_d (s : RS) (x : Nd) : (stkStep s x).d = if pileB x then x.dp else 0 := by
 unfold stkStep
 by_cases h1 : pileB x = true
 ·simp [h1, RS.pile]
 ·by_cases h2 : x.k = 2
  ·simp [h1, h2, RS.drop]
  ·by_cases h3 : x.k = 3
   ·simp [h1, h3, RS.gap]
   ·simp [h1, h2, h3, RS.pass]
theorem stk_d (xs : List Nd) (Z : List Nat) : (Z = [] → (stkTo xs Z).d = 0) ∧ ∀ i, i + 1 = Z.length → (stkTo xs Z).d = if pileB (xs.getD (Z.getD i 0) Nd.none) then (xs.getD (Z.getD i 0) Nd.none).dp else 0 := by
 refine ⟨fun h => by rw [h]; rfl, fun i hi => ?_⟩
 have hz : Z = Z.take i ++ [Z.getD i 0] := by
  have h1 := List.take_append_drop i Z
  rw [List.drop_eq_getElem_cons (show i < Z.length by omega), List.drop_eq_nil_of_le (by omega)] at h1
  rw [show Z.getD i 0 = Z[i]'(by omega) by simp [List.getD, List.getElem?_eq_getElem (show i < Z.length by omega)]]
  exact h1.symm
 have h2 := stkTo_snoc xs (Z.take i) (Z.getD i 0)
 rw [← hz] at h2
 rw [h2, stkStep_d]
theorem set_keeps (xs : List Nd) (p q : Nat) (l : Int) : ((xs.set p ((xs.getD p Nd.none).wide l)).getD q Nd.none).kids = (xs.getD q Nd.none).kids ∧ ((xs.set p ((xs.getD p Nd.none).wide l)).getD q Nd.none).dp = (xs.getD q Nd.none).dp ∧ ((xs.set p ((xs.getD p Nd.none).wide l)).getD q Nd.none).k = (xs.getD q Nd.none).k := by
 by_cases h : q = p
 ·subst h
  by_cases hq : q < xs.length
  ·rw [getD_set_eq hq]; exact ⟨rfl, rfl, rfl⟩
  ·simp [List.getD, List.getElem?_eq_none (show xs.length ≤ q by omega), List.getElem?_set, hq]
 ·rw [getD_set_ne h]; exact ⟨rfl, rfl, rfl⟩
theorem setL_keeps : ∀ (ps : List Nat) (ls : List Int) (xs : List Nd) (q : Nat), ((setL ps ls xs).getD q Nd.none).kids = (xs.getD q Nd.none).kids ∧ ((setL ps ls xs).getD q Nd.none).dp = (xs.getD q Nd.none).dp ∧ ((setL ps ls xs).getD q Nd.none).k = (xs.getD q Nd.none).k
 | p :: ps, l :: ls, xs, q => by
  obtain ⟨a, b, c⟩ := setL_keeps ps ls (xs.set p ((xs.getD p Nd.none).wide l)) q
  obtain ⟨a', b', c'⟩ := set_keeps xs p q l
  exact ⟨a.trans a', b.trans b', c.trans c'⟩
 | [], _, xs, q => ⟨by simp [setL], by simp [setL], by simp [setL]⟩
 | _ :: _, [], xs, q => ⟨by simp [setL], by simp [setL], by simp [setL]⟩
theorem starts_congr {xs ys : List Nd} (hl : xs.length = ys.length) (hk : ∀ j, (xs.getD j Nd.none).kids = (ys.getD j Nd.none).kids) : ∀ (f i : Nat), starts xs f i = starts ys f i
 | 0, i => rfl
 | f + 1, i => by
  simp only [starts]
  rw [hl, hk i, starts_congr hl hk f]
theorem begins_setL (ps : List Nat) (ls : List Int) (xs : List Nd) : begins (setL ps ls xs) = begins xs := by
 unfold begins
 rw [setL_len]
 exact starts_congr (setL_len ps ls xs) (fun j => (setL_keeps ps ls xs j).1) _ _
theorem starts_asc (xs : List Nd) : ∀ (f i : Nat), (∀ p ∈ starts xs f i, i ≤ p) ∧ (starts xs f i).Pairwise (· < ·)
 | 0, i => ⟨by simp [starts], by simp [starts]⟩
 | f + 1, i => by
  simp only [starts]
  split
  ·obtain ⟨h1, h2⟩ := starts_asc xs f (i + 1 + (xs.getD i Nd.none).kids.toNat)
   refine ⟨fun p hp => ?_, List.pairwise_cons.2 ⟨fun p hp => ?_, h2⟩⟩
   ·rcases List.mem_cons.1 hp with rfl | hp
    ·exact Nat.le_refl _
    ·have := h1 p hp; omega
   ·have := h1 p hp; omega
  ·exact ⟨by simp, by simp⟩
theorem list_setL {xs : List Nd} {ls : List Int} (h : listB xs = true) (hl : ls.length = (gluesAt xs (begins xs)).length) (hf : ls.all fitsB = true) : listB (setL (gluesAt xs (begins xs)) ls xs) = true := by
 obtain ⟨h1, h2⟩ := listB_iff.1 h
 rw [okFrom_split, Bool.and_eq_true] at h2
 refine listB_iff.2 ⟨by rw [setL_len]; exact h1, ?_⟩
 rw [okFrom_split, setL_len, okK_setL, h2.1, Bool.true_and]
 have hp : (gluesAt xs (begins xs)).Pairwise (· < ·) := List.Pairwise.filter _ (starts_asc xs _ _).2
 rw [setL_good _ _ _ hl hp (fun p hp => ⟨starts_lt xs _ _ p (List.mem_filter.1 hp).1, by simpa using (List.mem_filter.1 hp).2⟩) h2.2]
 exact hf
theorem item_head {ys : List Nd} (h : listB ys = true) {i : Nat} (hi : i < (begins ys).length) : ∃ t, (itemsOf ys).getD i [] = ys.getD ((begins ys).getD i 0) Nd.none :: t := by
 have hp : (begins ys).getD i 0 ∈ starts ys (ys.length + 1) 0 := by simp [begins, List.getD, List.getElem?_eq_getElem (show i < (starts ys (ys.length + 1) 0).length from hi)]
 have hlt := starts_lt ys _ _ _ hp
 have he : (itemsOf ys).getD i [] = itemAt ys ((begins ys).getD i 0) := by
  unfold itemsOf
  rw [if_pos h]
  simp only [List.getD, List.getElem?_map, begins]
  rw [List.getElem?_eq_getElem (show i < (starts ys (ys.length + 1) 0).length from hi)]
  rfl
 rw [he, itemAt_drop hlt]
 exact ⟨_, rfl⟩
theorem items_len {ys : List Nd} (h : listB ys = true) : (itemsOf ys).length = (begins ys).length := by
 unfold itemsOf begins
 rw [if_pos h, List.length_map]
def hdN (ys : List Nd) (i : Nat) : Nd := ys.getD ((begins ys).getD i 0) Nd.none
def alSum (ys : List Nd) : Nat → Int
 | 0 => 0
 | i + 1 => alSum ys i + al (hdN ys i)
theorem alSum_eq (ys : List Nd) : ∀ i, i ≤ (begins ys).length → alSum ys i = (((begins ys).take i).map (fun p => al (ys.getD p Nd.none))).sum
 | 0, _ => by simp [alSum]
 | i + 1, h => by
  have hi : i < (begins ys).length := h
  rw [alSum, alSum_eq ys i (by omega), List.take_add_one, List.getElem?_eq_getElem hi, List.map_append, List.sum_append]
  simp [hdN, List.getD, List.getElem?_eq_getElem hi]
theorem stack_sum {xs : List Nd} {deep mode size : Int} (hA : vpA xs deep mode size = true) :
 let ys := setL (gluesAt xs (begins xs)) (vpL xs deep mode size) xs
 let T := vpT xs deep mode size
 listB ys = true ∧ (begins ys) = begins xs ∧ vpTo xs deep mode size + (vpS xs deep).d = alSum ys (begins ys).length + (if 0 < T.sign ∧ T.have_ ≤ 0 then T.want else 0) - T.over ∧ (vpS xs deep).d ≤ deep ∧ (mode = 1 → vpTo xs deep mode size = size) ∧
 (begins ys = [] → (vpS xs deep).d = 0) ∧ (∀ i, i + 1 = (begins ys).length → if pileB (hdN ys i) then (vpS xs deep).d ≤ (hdN ys i).dp else (vpS xs deep).d = 0) := by
 intro ys T
 have hA' := hA
 unfold vpA at hA'
 rw [Bool.and_eq_true, decide_eq_true_eq] at hA'
 obtain ⟨hdeep, hok⟩ := hA'
 have hok' := hok
 unfold vpOk at hok'
 simp only [Bool.and_eq_true] at hok'
 obtain ⟨⟨⟨⟨⟨hpk, hgl⟩, hto, hw⟩, hh⟩, hd⟩, hfit⟩ := hok'
 have hlist : listB xs = true := by
  unfold packB at hpk
  simp only [Bool.and_eq_true] at hpk
  exact can_list hpk.1.1
 obtain ⟨e1, e2⟩ := vp_yes hA
 have hfit' : (vpL xs deep mode size).all fitsB = true := hfit
 have hls : listB ys = true := list_setL hlist (vpL_len xs deep mode size) hfit'
 have hbg : begins ys = begins xs := begins_setL _ _ _
 have hkk : ∀ q, (ys.getD q Nd.none).kids = (xs.getD q Nd.none).kids ∧ (ys.getD q Nd.none).dp = (xs.getD q Nd.none).dp ∧ (ys.getD q Nd.none).k = (xs.getD q Nd.none).k := setL_keeps _ _ _
 have hsum : alSum ys (begins ys).length = (stkTo xs (begins xs)).w + (vpL xs deep mode size).sum := by
  rw [alSum_eq ys _ (Nat.le_refl _), List.take_length, hbg]
  have h1 := sum_al (begins xs) (vpL xs deep mode size) xs (starts_asc xs _ _).2 (fun p hp => starts_lt xs _ _ p hp) (vpL_len xs deep mode size)
  have h2 := stk_w xs (begins xs) RS.nil
  rw [show RS.nil.w = 0 from rfl, Int.zero_add] at h2
  rw [show (stkTo xs (begins xs)).w = _ from h2]
  exact h1
 have hsz := Shr.siz_in hgl
 have hto' : -1073741823 ≤ vpTo xs deep mode size ∧ vpTo xs deep mode size ≤ 1073741823 := by
  unfold Shr.fitsB at hto
  simp only [Bool.and_eq_true, decide_eq_true_eq] at hto
  omega
 have hw' : -1073741823 ≤ (vpS xs deep).w ∧ (vpS xs deep).w ≤ 1073741823 := by
  unfold Shr.fitsB at hw
  simp only [Bool.and_eq_true, decide_eq_true_eq] at hw
  omega
 obtain ⟨q, hq⟩ : ∃ q, q = vpQ xs deep mode size := ⟨_, rfl⟩
 have hq' : q = vpTo xs deep mode size - (vpS xs deep).w - Shr.siz (vpS xs deep).gs := hq
 have SF := Shr.share_facts (q := q) hgl (by omega) (by omega)
 have hL : vpL xs deep mode size = Shr.shareL (vpS xs deep).gs q := by rw [hq]; rfl
 have hT : T = Shr.shareS (vpS xs deep).gs q := by rw [hq]; exact e2
 have hvw : (vpS xs deep).w = (stkTo xs (begins xs)).w - (vpS xs deep).d := rfl
 have hdm : (vpS xs deep).d = mnI (stkTo xs (begins xs)).d deep := rfl
 refine ⟨hls, hbg, ?_, ?_, ?_, ?_, ?_⟩
 ·rw [hsum, hT, hL]
  have key : q + Shr.siz (vpS xs deep).gs = (Shr.shareL (vpS xs deep).gs q).sum + (if 0 < (Shr.shareS (vpS xs deep).gs q).sign ∧ (Shr.shareS (vpS xs deep).gs q).have_ ≤ 0 then (Shr.shareS (vpS xs deep).gs q).want else 0) - (Shr.shareS (vpS xs deep).gs q).over := by
   rcases Int.lt_trichotomy q 0 with hn | h0 | hp
   ·obtain ⟨a1, a2, a3, a4, a5, a6, a7⟩ := SF.down hn
    rw [if_neg (by rw [a1]; omega), a5]
    omega
   ·obtain ⟨a1, a2⟩ := SF.zero h0
    rw [if_neg (by rw [a1]; omega), a2]
    have : (Shr.shareS (vpS xs deep).gs q).over = 0 := by unfold Shr.shareS; rw [if_neg (by omega), if_neg (by omega)]
    rw [this]
    omega
   ·obtain ⟨a1, a2, a3, a4, a5, a6⟩ := SF.up hp
    have : (Shr.shareS (vpS xs deep).gs q).over = 0 := by
     unfold Shr.shareS
     rw [if_pos hp]
     unfold Shr.upS
     split <;> rfl
    rw [this, a1, a4, a2]
    by_cases hh0 : 0 < Shr.hvOf Shr.Gl.p Shr.Gl.po (vpS xs deep).gs
    ·rw [if_neg (by omega), a5 hh0]
     omega
    ·rw [if_pos (by omega), a6 hh0]
     omega
  omega
 ·rw [hdm]
  unfold mnI
  split <;> omega
 ·intro hm
  unfold vpTo Shr.alongI
  rw [if_pos hm]
 ·intro hb
  rw [hbg] at hb
  rw [hdm, (stk_d xs (begins xs)).1 hb]
  unfold mnI
  rw [if_neg (by omega)]
 ·intro i hi
  rw [hbg] at hi
  have h1 := (stk_d xs (begins xs)).2 i hi
  have hk := hkk ((begins xs).getD i 0)
  have hpl : pileB (hdN ys i) = pileB (xs.getD ((begins xs).getD i 0) Nd.none) := by
   unfold hdN pileB
   rw [hbg, hk.2.2]
  have hdp : (hdN ys i).dp = (xs.getD ((begins xs).getD i 0) Nd.none).dp := by
   unfold hdN
   rw [hbg, hk.2.1]
  rw [hpl, hdp, hdm, h1]
  split
  ·unfold mnI
   split <;> omega
  ·unfold mnI
   rw [if_neg (by omega)]
end Go.Proofs.YtbbehmcekbnkiaaGreat
namespace Go.Proofs.YtbbehmcekbnkiaaGreat
open Go.RowKit Go.Shelf
set_option linter.unusedVariables false
set_option linter.unusedSimpArgs false
theorem fldP (W : World) (u : Value) (a b c d e f : Int) : (Instr.field 30 (.agg #[u, .int .i64 a, .int .i64 b, .int .i64 c, .int .i64 d, .int .i64 e, .int .i64 f]) 0).run Tryz.prog W = .ok u W := by kernel_rfl
set_option maxRecDepth 20000 in
set_option maxHeartbeats 4000000 in
theorem along_any (x : Nd) (w : World) (h1 : -4611686018427387904 ≤ x.ht + x.dp) (h2 : x.ht + x.dp ≤ 4611686018427387904) : Calls Tryz.prog 13 #[ndV x, .bool false] w fun e w' => e = .returned (.int .i64 (al x)) ∧ Below w.heap.size w w' := by
 obtain ⟨k, wd, ht, dp, sh, fo, ch, nn, gs, gp, gpo, gm, gmo, tx, kids⟩ := x
 dsimp only at h1 h2
 rcases (show k = 2 ∨ k = 3 ∨ k = 1 ∨ k = 5 ∨ k = 6 ∨ k = 7 ∨ (k ≠ 2 ∧ k ≠ 3 ∧ k ≠ 1 ∧ k ≠ 5 ∧ k ≠ 6 ∧ k ≠ 7) by omega) with rfl | rfl | rfl | rfl | rfl | rfl | ⟨q1, q2, q3, q4, q5, q6⟩
 all_goals
  simp only [ndV]
  go_enter Tryz.func13, Tryz.ntmps13
  go_wp2
  go_ret
  refine ⟨?_, below1 _ _⟩
  simp [al, pileB, *]
theorem tail_N {base g k c : Nat} {w : World} {x : Nd} {ys : List Nd} (h : w.ownsRow base 36 15 (.slice (some ⟨g, 0, none⟩) k c) k (flatN (x :: ys))) (hk : k = ys.length + 1) (o c' : Nat) (ho : 0 < ys.length → o = 15) : NRow 0 w (.slice (some ⟨g, o, none⟩) ys.length c') ys := by
 refine ⟨_, _, _, rfl, rfl, fun hn => ?_⟩
 obtain rfl := ho hn
 have hg := (own_lt h rfl).2.1
 refine ⟨g, 15, rfl, Nat.zero_le _, hg, fun i hi => ⟨(ys.getD i Nd.none).cells, cells_len _, rfl, fun j hj => ?_⟩⟩
 have h1 := flatN_get (x :: ys) (i + 1) (by simp; omega) j hj
 rw [List.getD_cons_succ] at h1
 have h2 : (ys.getD i Nd.none).cells[j]? = some ((ys.getD i Nd.none).cells[j]'(by rw [cells_len]; exact hj)) := List.getElem?_eq_getElem (by rw [cells_len]; exact hj)
 rw [h2] at h1 ⊢
 rw [show 15 + i * 15 + j = (i + 1) * 15 + j by omega]
 exact (own_cell h h1).1
def ItQ (S : World) (a : Option Addr) (m : Nat) (f : Nat → List Nd) : Prop :=
 ∀ i, i < m → ∃ g u base, a = some ⟨g, 0, none⟩ ∧ g < S.heap.size ∧ ∀ X, Below S.heap.size S X → X.cell? ⟨g, i, none⟩ = some u ∧ X.ownsRow base 36 15 u (f i).length (flatN (f i))
theorem ItQ.of {base m c : Nat} {S : World} {a : Option Addr} {vs : List Value} {f : Nat → List Nd} (h : S.ownsRow base 24 1 (.slice a m c) m vs) (hl : Lsts base S vs f) : ItQ S a m f := by
 intro i hi
 have hlen := own25_len h
 obtain ⟨ao, cap, he, hg⟩ := own25_shape h
 cases he
 obtain ⟨g, rfl, hg0, hgl⟩ := hg (by omega)
 have hvi : vs[i]? = some vs[i] := List.getElem?_eq_getElem (by omega)
 refine ⟨g, vs[i], base, rfl, hgl, fun X hX => ⟨(hX.cell (p := ⟨g, i, none⟩) hgl).trans (own25_cell h hvi).1, own_below (hl.own i _ hvi) hX⟩⟩
theorem alSum_bd {ys : List Nd} (h : ∀ i, i < (begins ys).length → -2147483646 ≤ al (hdN ys i) ∧ al (hdN ys i) ≤ 2147483646) : ∀ i, i ≤ (begins ys).length → -(2147483646 * (i : Int)) ≤ alSum ys i ∧ alSum ys i ≤ 2147483646 * (i : Int)
 | 0, _ => by simp [alSum]
 | i + 1, hi => by
  have h1 := alSum_bd h i (by omega)
  have h2 := h i (by omega)
  rw [alSum]
  push_cast
  omega
theorem hd_in {ys : List Nd} (h : listB ys = true) {i : Nat} (hi : i < (begins ys).length) : NdIn (hdN ys i) := by
 unfold hdN
 refine list_in h _ ?_
 have hp : (begins ys).getD i 0 ∈ starts ys (ys.length + 1) 0 := by simp [begins, List.getD, List.getElem?_eq_getElem (show i < (starts ys (ys.length + 1) 0).length from hi)]
 exact starts_lt ys _ _ _ hp
theorem al_bd {x : Nd} (h : NdIn x) : -2147483646 ≤ al x ∧ al x ≤ 2147483646 := by
 have := h.wd
 have := h.ht
 have := h.dp
 unfold al
 split
 ·omega
 ·split <;> omega
theorem vp_empty : (vpR [] 0 0 0).length = 1 := by
 have : vpA [] 0 0 0 = true := by kernel_rfl
 rw [(vp_yes this).1, vpN_len]
 rfl
end Go.Proofs.YtbbehmcekbnkiaaGreat
