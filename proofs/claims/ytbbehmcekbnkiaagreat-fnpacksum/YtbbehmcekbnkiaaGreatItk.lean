import Derived.Test.YtbbehmcekbnkiaaGreatShq
import Derived.Test.YtbbehmcekbnkiaaGreatDlp
import Derived.RangeFuncNested
import Derived.RangeFuncBound
import Derived.RangeFuncCalls
import Derived.RangeFuncLeaves
import Derived.Shelf.Abstract
import Derived.Shelf.RegionOpen
import Derived.WalkKit
import Derived.OwnWalkIn
import Derived.TacticsInMore
import Derived.LoopNIn
import Derived.LoopIn
import Derived.Test.YtbbehmcekbnkiaaGreatThq
import Derived.Test.YtbbehmcekbnkiaaGreatCln
import Derived.Test.YtbbehmcekbnkiaaGreatThb
namespace Go.Proofs.YtbbehmcekbnkiaaGreat.Shr
open Go.RowKit
set_option linter.unusedVariables false
set_option linter.unusedSimpArgs false
theorem sum_range_add (f g : Nat → Int) : ∀ n : Nat, ((List.range n).map (fun j => f j + g j)).sum = ((List.range n).map f).sum + ((List.range n).map g).sum
 | 0 => rfl
 | n + 1 => by
  rw [List.range_succ, List.map_append, List.map_append, List.map_append, List.sum_append, List.sum_append, List.sum_append, sum_range_add f g n]
  simp
  omega
theorem sum_range_sub (f g : Nat → Int) : ∀ n : Nat, ((List.range n).map (fun j => f j - g j)).sum = ((List.range n).map f).sum - ((List.range n).map g).sum
 | 0 => rfl
 | n + 1 => by
  rw [List.range_succ, List.map_append, List.map_append, List.map_append, List.sum_append, List.sum_append, List.sum_append, sum_range_sub f g n]
  simp
  omega
theorem range_getD (xs : List Int) : (List.range xs.length).map (fun j => xs.getD j 0) = xs := by
 apply List.ext_getElem
 ·simp
 ·intro i h1 h2
  simp at h1
  simp [List.getD, h1]
theorem plusL_sum {zs ps : List Int} (h : ps.length = zs.length) : (plusL zs ps).sum = zs.sum + ps.sum := by
 unfold plusL
 rw [sum_range_add, range_getD]
 rw [← h, range_getD]
theorem minusL_sum {zs ps : List Int} (h : ps.length = zs.length) : (minusL zs ps).sum = zs.sum - ps.sum := by
 unfold minusL
 rw [sum_range_sub, range_getD]
 rw [← h, range_getD]
theorem stp_len_aux (f o : Gl → Int) (ord want hv : Int) : ∀ (gs : List Gl) (st : Int × Int × List Int),
 (gs.foldl (fun st g => if o g = ord then (st.1 + f g, cut want (st.1 + f g) hv, st.2.2 ++ [cut want (st.1 + f g) hv - st.2.1]) else (st.1, st.2.1, st.2.2 ++ [0])) st).2.2.length = st.2.2.length + gs.length
 | [], st => by simp
 | g :: gs, st => by
  rw [List.foldl_cons]
  by_cases h : o g = ord
  ·rw [if_pos h, stp_len_aux f o ord want hv gs]; simp; omega
  ·rw [if_neg h, stp_len_aux f o ord want hv gs]; simp; omega
theorem stp_len (f o : Gl → Int) (ord want hv : Int) (gs : List Gl) : (stp f o ord want hv gs).2.2.length = gs.length := by
 have := stp_len_aux f o ord want hv gs (0, 0, [])
 simpa [stp] using this
theorem stp_keep_aux (f o : Gl → Int) (ord want hv : Int) : ∀ (gs : List Gl) (st : Int × Int × List Int) (i : Nat), i < st.2.2.length →
 (gs.foldl (fun st g => if o g = ord then (st.1 + f g, cut want (st.1 + f g) hv, st.2.2 ++ [cut want (st.1 + f g) hv - st.2.1]) else (st.1, st.2.1, st.2.2 ++ [0])) st).2.2.getD i 0 = st.2.2.getD i 0
 | [], st, i, _ => rfl
 | g :: gs, st, i, hi => by
  rw [List.foldl_cons]
  by_cases h : o g = ord
  ·rw [if_pos h, stp_keep_aux f o ord want hv gs _ i (by simp; omega)]; simp [List.getD, List.getElem?_append_left hi]
  ·rw [if_neg h, stp_keep_aux f o ord want hv gs _ i (by simp; omega)]; simp [List.getD, List.getElem?_append_left hi]
theorem stp_zero_aux (f o : Gl → Int) (ord want hv : Int) : ∀ (gs : List Gl) (st : Int × Int × List Int) (i : Nat), i < gs.length → o (gs.getD i Gl.none) ≠ ord →
 (gs.foldl (fun st g => if o g = ord then (st.1 + f g, cut want (st.1 + f g) hv, st.2.2 ++ [cut want (st.1 + f g) hv - st.2.1]) else (st.1, st.2.1, st.2.2 ++ [0])) st).2.2.getD (st.2.2.length + i) 0 = 0
 | [], st, i, hi, _ => by simp at hi
 | g :: gs, st, 0, _, ho => by
  rw [List.foldl_cons]
  have ho' : o g ≠ ord := by simpa using ho
  rw [if_neg ho', stp_keep_aux f o ord want hv gs _ _ (by simp)]
  simp [List.getD]
 | g :: gs, st, i + 1, hi, ho => by
  rw [List.foldl_cons]
  have hi' : i < gs.length := by simpa using hi
  have ho' : o (gs.getD i Gl.none) ≠ ord := by simpa using ho
  by_cases h : o g = ord
  ·rw [if_pos h]
   have := stp_zero_aux f o ord want hv gs (st.1 + f g, cut want (st.1 + f g) hv, st.2.2 ++ [cut want (st.1 + f g) hv - st.2.1]) i hi' ho'
   rw [List.length_append] at this
   rw [show st.2.2.length + (i + 1) = st.2.2.length + [cut want (st.1 + f g) hv - st.2.1].length + i by simp; omega]
   exact this
  ·rw [if_neg h]
   have := stp_zero_aux f o ord want hv gs (st.1, st.2.1, st.2.2 ++ [0]) i hi' ho'
   rw [List.length_append] at this
   rw [show st.2.2.length + (i + 1) = st.2.2.length + [(0 : Int)].length + i by simp; omega]
   exact this
theorem stp_zero (f o : Gl → Int) (ord want hv : Int) (gs : List Gl) {i : Nat} (hi : i < gs.length) (ho : o (gs.getD i Gl.none) ≠ ord) : (stp f o ord want hv gs).2.2.getD i 0 = 0 := by
 have := stp_zero_aux f o ord want hv gs (0, 0, []) i hi ho
 simpa [stp] using this
theorem sizes_sum (gs : List Gl) : (sizes gs).sum = siz gs := rfl
theorem sizes_ln (gs : List Gl) : (sizes gs).length = gs.length := by simp [sizes]
structure ShareFacts (gs : List Gl) (q : Int) : Prop where
 len : (shareL gs q).length = gs.length
 zero : q = 0 → (shareS gs q).sign = 0 ∧ (shareL gs q).sum = siz gs
 up : 0 < q → (shareS gs q).sign = 1 ∧ (shareS gs q).want = q ∧ (shareS gs q).order = ordOf Gl.p Gl.po gs ∧ (shareS gs q).have_ = hvOf Gl.p Gl.po gs ∧ (0 < hvOf Gl.p Gl.po gs → (shareL gs q).sum = siz gs + q) ∧ (¬ 0 < hvOf Gl.p Gl.po gs → (shareL gs q).sum = siz gs)
 down : q < 0 → (shareS gs q).sign = -1 ∧ (shareS gs q).want = -q ∧ (shareS gs q).order = ordOf Gl.m Gl.mo gs ∧ (shareS gs q).have_ = hvOf Gl.m Gl.mo gs ∧ (shareL gs q).sum = siz gs + q + (shareS gs q).over ∧ 0 ≤ (shareS gs q).over ∧ (shareS gs q).over ≤ -q
 keep : ∀ i, i < gs.length → ((shareS gs q).sign = 0 ∨ (0 ≤ (shareS gs q).sign ∧ (gs.getD i Gl.none).po ≠ (shareS gs q).order) ∨ ((shareS gs q).sign < 0 ∧ (gs.getD i Gl.none).mo ≠ (shareS gs q).order)) → (shareL gs q).getD i 0 = (gs.getD i Gl.none).s
theorem share_facts {gs : List Gl} {q : Int} (hok : glsOk gs = true) (hq1 : -1152921504606846976 ≤ q) (hq2 : q ≤ 1152921504606846976) : ShareFacts gs q := by
 have heach := glsOk_each hok
 have hmem : ∀ g ∈ gs, g.ok = true := by
  intro g hg
  obtain ⟨i, hi, rfl⟩ := List.getElem_of_mem hg
  have := heach.2 i hi
  simpa [List.getD, List.getElem?_eq_getElem hi] using this
 have hpo : ∀ g ∈ gs, 0 ≤ Gl.po g ∧ Gl.po g ≤ 3 := fun g hg => (ok_bounds (hmem g hg)).2.2.2.1
 have hmo : ∀ g ∈ gs, 0 ≤ Gl.mo g ∧ Gl.mo g ≤ 3 := fun g hg => (ok_bounds (hmem g hg)).2.2.2.2
 have hmb : ∀ j, -10737418230000 ≤ (tot Gl.m Gl.mo gs).getD j 0 ∧ (tot Gl.m Gl.mo gs).getD j 0 ≤ 10737418230000 := fun j => tot_have Gl.m Gl.mo gs heach.1 (fun k hk => (ok_bounds (heach.2 k hk)).2.2.1) j
 rcases Int.lt_trichotomy q 0 with hn | rfl | hp
 ·have e1 : shareS gs q = downS gs (-q) := by unfold shareS; rw [if_neg (by omega), if_pos hn]
  have e2 : shareL gs q = downL gs (-q) := by unfold shareL; rw [if_neg (by omega), if_pos hn]
  have hdn : (downS gs (-q)).sign = -1 ∧ (downS gs (-q)).want = -q ∧ (downS gs (-q)).order = ordOf Gl.m Gl.mo gs ∧ (downS gs (-q)).have_ = hvOf Gl.m Gl.mo gs ∧ ((downL gs (-q)).sum = siz gs + q + (downS gs (-q)).over ∧ 0 ≤ (downS gs (-q)).over ∧ (downS gs (-q)).over ≤ -q) ∧ (downL gs (-q)).length = gs.length ∧ ∀ i, i < gs.length → (gs.getD i Gl.none).mo ≠ ordOf Gl.m Gl.mo gs → (downL gs (-q)).getD i 0 = (gs.getD i Gl.none).s := by
   unfold downS downL
   by_cases h1 : hvOf Gl.m Gl.mo gs ≤ 0
   ·rw [if_pos h1, if_pos h1]
    refine ⟨rfl, rfl, rfl, rfl, ⟨?_, by simp only; omega, by simp only; omega⟩, sizes_ln gs, fun i hi _ => sizes_at hi⟩
    rw [sizes_sum]; simp only; omega
   ·rw [if_neg h1, if_neg h1]
    by_cases h2 : ordOf Gl.m Gl.mo gs = 0 ∧ hvOf Gl.m Gl.mo gs < -q
    ·rw [if_pos h2, if_pos h2]
     have hb : hvOf Gl.m Gl.mo gs ≤ 10737418230000 := (hmb _).2
     have ht := stp_total Gl.m Gl.mo (hvOf Gl.m Gl.mo gs) gs hmo (hvOf Gl.m Gl.mo gs) rfl (by omega) (by omega) (by omega)
     rw [h2.1] at ht
     refine ⟨rfl, rfl, h2.1.symm, rfl, ⟨?_, by simp only; omega, by simp only; omega⟩, by rw [minusL_length, sizes_ln], fun i hi ho => ?_⟩
     ·rw [minusL_sum (by rw [stp_len, sizes_ln]), ht, sizes_sum]; simp only; omega
     ·rw [minusL_at (by rw [sizes_ln]; exact hi), sizes_at hi, stp_zero _ _ _ _ _ _ hi (by rw [h2.1] at ho; exact ho)]; omega
    ·rw [if_neg h2, if_neg h2]
     have ht := stp_total Gl.m Gl.mo (-q) gs hmo (hvOf Gl.m Gl.mo gs) rfl (by omega) (by omega) (by omega)
     refine ⟨rfl, rfl, rfl, rfl, ⟨?_, by simp only; omega, by simp only; omega⟩, by rw [minusL_length, sizes_ln], fun i hi ho => ?_⟩
     ·rw [minusL_sum (by rw [stp_len, sizes_ln]), ht, sizes_sum]; simp only; omega
     ·rw [minusL_at (by rw [sizes_ln]; exact hi), sizes_at hi, stp_zero _ _ _ _ _ _ hi ho]; omega
  obtain ⟨d1, d2, d3, d4, d5, d6, d7⟩ := hdn
  refine ⟨by rw [e2]; exact d6, fun h => by omega, fun h => by omega, fun _ => by rw [e1, e2]; exact ⟨d1, d2, d3, d4, d5⟩, fun i hi h => ?_⟩
  rw [e1] at h
  rw [e2]
  refine d7 i hi ?_
  rcases h with h | ⟨h, _⟩ | ⟨_, h⟩
  ·omega
  ·omega
  ·rw [d3] at h; exact h
 ·have e1 : shareS gs 0 = ⟨0, 0, 0, 0, 0, 0⟩ := by unfold shareS; rw [if_neg (by omega), if_neg (by omega)]
  have e2 : shareL gs 0 = sizes gs := by unfold shareL; rw [if_neg (by omega), if_neg (by omega)]
  exact ⟨by rw [e2]; exact sizes_ln gs, fun _ => by rw [e1, e2]; exact ⟨rfl, rfl⟩, fun h => by omega, fun h => by omega, fun i hi _ => by rw [e2]; exact sizes_at hi⟩
 ·have e1 : shareS gs q = upS gs q := by unfold shareS; rw [if_pos hp]
  have e2 : shareL gs q = upL gs q := by unfold shareL; rw [if_pos hp]
  have hup : (upS gs q).sign = 1 ∧ (upS gs q).want = q ∧ (upS gs q).order = ordOf Gl.p Gl.po gs ∧ (upS gs q).have_ = hvOf Gl.p Gl.po gs ∧ (0 < hvOf Gl.p Gl.po gs → (upL gs q).sum = siz gs + q) ∧ (¬ 0 < hvOf Gl.p Gl.po gs → (upL gs q).sum = siz gs) ∧ (upL gs q).length = gs.length ∧ ∀ i, i < gs.length → (gs.getD i Gl.none).po ≠ ordOf Gl.p Gl.po gs → (upL gs q).getD i 0 = (gs.getD i Gl.none).s := by
   unfold upS upL
   by_cases h1 : hvOf Gl.p Gl.po gs ≤ 0
   ·rw [if_pos h1, if_pos h1]
    exact ⟨rfl, rfl, rfl, rfl, fun h => by omega, fun _ => rfl, sizes_ln gs, fun i hi _ => sizes_at hi⟩
   ·rw [if_neg h1, if_neg h1]
    have ht := stp_total Gl.p Gl.po q gs hpo (hvOf Gl.p Gl.po gs) rfl (by omega) (by omega) (by omega)
    refine ⟨rfl, rfl, rfl, rfl, fun _ => ?_, fun h => by omega, by rw [plusL_length, sizes_ln], fun i hi ho => ?_⟩
    ·rw [plusL_sum (by rw [stp_len, sizes_ln]), ht, sizes_sum]
    ·rw [plusL_at (by rw [sizes_ln]; exact hi), sizes_at hi, stp_zero _ _ _ _ _ _ hi ho]; omega
  obtain ⟨d1, d2, d3, d4, d5, d6, d7, d8⟩ := hup
  refine ⟨by rw [e2]; exact d7, fun h => by omega, fun _ => by rw [e1, e2]; exact ⟨d1, d2, d3, d4, d5, d6⟩, fun h => by omega, fun i hi h => ?_⟩
  rw [e1] at h
  rw [e2]
  refine d8 i hi ?_
  rcases h with h | ⟨_, h⟩ | ⟨h, _⟩
  ·omega
  ·rw [d3] at h; exact h
  ·omega
end Go.Proofs.YtbbehmcekbnkiaaGreat.Shr
namespace Go.Proofs.YtbbehmcekbnkiaaGreat
open Go.RowKit
set_option linter.unusedVariables false
set_option linter.unusedSimpArgs false
def al (x : Nd) : Int := if pileB x then x.ht + x.dp else if x.k = 2 ∨ x.k = 3 then x.wd else 0
def aw (x : Nd) : Int := if pileB x then x.ht + x.dp else if x.k = 2 then x.wd else 0
theorem glues_set {xs : List Nd} {p : Nat} {y : Nd} : ∀ {Z : List Nat}, (∀ q ∈ Z, q ≠ p) → gluesAt (xs.set p y) Z = gluesAt xs Z := by
 intro Z h
 unfold gluesAt
 refine List.filter_congr fun q hq => ?_
 rw [getD_set_ne (h q hq)]
theorem setL_oth : ∀ (ps : List Nat) (ls : List Int) (xs : List Nd) (q : Nat), (∀ p ∈ ps, p ≠ q) → (setL ps ls xs).getD q Nd.none = xs.getD q Nd.none
 | p :: ps, l :: ls, xs, q, h => by
  rw [setL, setL_oth ps ls _ q (fun r hr => h r (List.mem_cons_of_mem _ hr)), getD_set_ne (fun e => h p (List.mem_cons_self ..) e.symm)]
 | [], _, xs, q, _ => by simp [setL]
 | _ :: _, [], xs, q, _ => by simp [setL]
theorem set_keeps (xs : List Nd) (p q : Nat) (l : Int) : ((xs.set p ((xs.getD p Nd.none).wide l)).getD q Nd.none).kids = (xs.getD q Nd.none).kids ∧ ((xs.set p ((xs.getD p Nd.none).wide l)).getD q Nd.none).dp = (xs.getD q Nd.none).dp ∧ ((xs.set p ((xs.getD p Nd.none).wide l)).getD q Nd.none).k = (xs.getD q Nd.none).k := by
 by_cases h : q = p
 ·subst h
  by_cases hq : q < xs.length
  ·rw [getD_set_eq hq]; exact ⟨rfl, rfl, rfl⟩
  ·simp [List.getD, List.getElem?_eq_none (show xs.length ≤ q by omega), List.getElem?_set, hq]
 ·rw [getD_set_ne h]; exact ⟨rfl, rfl, rfl⟩
theorem setL_keeps : ∀ (ps : List Nat) (ls : List Int) (xs : List Nd) (q : Nat), ((setL ps ls xs).getD q Nd.none).kids = (xs.getD q Nd.none).kids ∧ ((setL ps ls xs).getD q Nd.none).dp = (xs.getD q Nd.none).dp ∧ ((setL ps ls xs).getD q Nd.none).k = (xs.getD q Nd.none).k
 | p :: ps, l :: ls, xs, q => by
  obtain ⟨a, b, c⟩ := setL_keeps ps ls (xs.set p ((xs.getD p Nd.none).wide l)) q
  obtain ⟨a', b', c'⟩ := set_keeps xs p q l
  exact ⟨a.trans a', b.trans b', c.trans c'⟩
 | [], _, xs, q => ⟨by simp [setL], by simp [setL], by simp [setL]⟩
 | _ :: _, [], xs, q => ⟨by simp [setL], by simp [setL], by simp [setL]⟩
theorem starts_congr {xs ys : List Nd} (hl : xs.length = ys.length) (hk : ∀ j, (xs.getD j Nd.none).kids = (ys.getD j Nd.none).kids) : ∀ (f i : Nat), starts xs f i = starts ys f i
 | 0, i => rfl
 | f + 1, i => by
  simp only [starts]
  rw [hl, hk i, starts_congr hl hk f]
theorem begins_setL (ps : List Nat) (ls : List Int) (xs : List Nd) : begins (setL ps ls xs) = begins xs := by
 unfold begins
 rw [setL_len]
 exact starts_congr (setL_len ps ls xs) (fun j => (setL_keeps ps ls xs j).1) _ _
theorem starts_asc (xs : List Nd) : ∀ (f i : Nat), (∀ p ∈ starts xs f i, i ≤ p) ∧ (starts xs f i).Pairwise (· < ·)
 | 0, i => ⟨by simp [starts], by simp [starts]⟩
 | f + 1, i => by
  simp only [starts]
  split
  ·obtain ⟨h1, h2⟩ := starts_asc xs f (i + 1 + (xs.getD i Nd.none).kids.toNat)
   refine ⟨fun p hp => ?_, List.pairwise_cons.2 ⟨fun p hp => ?_, h2⟩⟩
   ·rcases List.mem_cons.1 hp with rfl | hp
    ·exact Nat.le_refl _
    ·have := h1 p hp; omega
   ·have := h1 p hp; omega
  ·exact ⟨by simp, by simp⟩
theorem list_setL {xs : List Nd} {ls : List Int} (h : listB xs = true) (hl : ls.length = (gluesAt xs (begins xs)).length) (hf : ls.all fitsB = true) : listB (setL (gluesAt xs (begins xs)) ls xs) = true := by
 obtain ⟨h1, h2⟩ := listB_iff.1 h
 rw [okFrom_split, Bool.and_eq_true] at h2
 refine listB_iff.2 ⟨by rw [setL_len]; exact h1, ?_⟩
 rw [okFrom_split, setL_len, okK_setL, h2.1, Bool.true_and]
 have hp : (gluesAt xs (begins xs)).Pairwise (· < ·) := List.Pairwise.filter _ (starts_asc xs _ _).2
 rw [setL_good _ _ _ hl hp (fun p hp => ⟨starts_lt xs _ _ p (List.mem_filter.1 hp).1, by simpa using (List.mem_filter.1 hp).2⟩) h2.2]
 exact hf
theorem item_head {ys : List Nd} (h : listB ys = true) {i : Nat} (hi : i < (begins ys).length) : ∃ t, (itemsOf ys).getD i [] = ys.getD ((begins ys).getD i 0) Nd.none :: t := by
 have hp : (begins ys).getD i 0 ∈ starts ys (ys.length + 1) 0 := by simp [begins, List.getD, List.getElem?_eq_getElem (show i < (starts ys (ys.length + 1) 0).length from hi)]
 have hlt := starts_lt ys _ _ _ hp
 have he : (itemsOf ys).getD i [] = itemAt ys ((begins ys).getD i 0) := by
  unfold itemsOf
  rw [if_pos h]
  simp only [List.getD, List.getElem?_map, begins]
  rw [List.getElem?_eq_getElem (show i < (starts ys (ys.length + 1) 0).length from hi)]
  rfl
 rw [he, itemAt_drop hlt]
 exact ⟨_, rfl⟩
theorem items_len {ys : List Nd} (h : listB ys = true) : (itemsOf ys).length = (begins ys).length := by
 unfold itemsOf begins
 rw [if_pos h, List.length_map]
def hdN (ys : List Nd) (i : Nat) : Nd := ys.getD ((begins ys).getD i 0) Nd.none
end Go.Proofs.YtbbehmcekbnkiaaGreat
namespace Go.Proofs.YtbbehmcekbnkiaaGreat
open Go.RowKit Go.Shelf
set_option linter.unusedVariables false
set_option linter.unusedSimpArgs false
theorem fldP (W : World) (u : Value) (a b c d e f : Int) : (Instr.field 30 (.agg #[u, .int .i64 a, .int .i64 b, .int .i64 c, .int .i64 d, .int .i64 e, .int .i64 f]) 0).run Tryz.prog W = .ok u W := by kernel_rfl
theorem tail_N {base g k c : Nat} {w : World} {x : Nd} {ys : List Nd} (h : w.ownsRow base 36 15 (.slice (some ⟨g, 0, none⟩) k c) k (flatN (x :: ys))) (hk : k = ys.length + 1) (o c' : Nat) (ho : 0 < ys.length → o = 15) : NRow 0 w (.slice (some ⟨g, o, none⟩) ys.length c') ys := by
 refine ⟨_, _, _, rfl, rfl, fun hn => ?_⟩
 obtain rfl := ho hn
 have hg := (own_lt h rfl).2.1
 refine ⟨g, 15, rfl, Nat.zero_le _, hg, fun i hi => ⟨(ys.getD i Nd.none).cells, cells_len _, rfl, fun j hj => ?_⟩⟩
 have h1 := flatN_get (x :: ys) (i + 1) (by simp; omega) j hj
 rw [List.getD_cons_succ] at h1
 have h2 : (ys.getD i Nd.none).cells[j]? = some ((ys.getD i Nd.none).cells[j]'(by rw [cells_len]; exact hj)) := List.getElem?_eq_getElem (by rw [cells_len]; exact hj)
 rw [h2] at h1 ⊢
 rw [show 15 + i * 15 + j = (i + 1) * 15 + j by omega]
 exact (own_cell h h1).1
def ItQ (S : World) (a : Option Addr) (m : Nat) (f : Nat → List Nd) : Prop :=
 ∀ i, i < m → ∃ g u base, a = some ⟨g, 0, none⟩ ∧ g < S.heap.size ∧ ∀ X, Below S.heap.size S X → X.cell? ⟨g, i, none⟩ = some u ∧ X.ownsRow base 36 15 u (f i).length (flatN (f i))
theorem ItQ.of {base m c : Nat} {S : World} {a : Option Addr} {vs : List Value} {f : Nat → List Nd} (h : S.ownsRow base 24 1 (.slice a m c) m vs) (hl : Lsts base S vs f) : ItQ S a m f := by
 intro i hi
 have hlen := own25_len h
 obtain ⟨ao, cap, he, hg⟩ := own25_shape h
 cases he
 obtain ⟨g, rfl, hg0, hgl⟩ := hg (by omega)
 have hvi : vs[i]? = some vs[i] := List.getElem?_eq_getElem (by omega)
 refine ⟨g, vs[i], base, rfl, hgl, fun X hX => ⟨(hX.cell (p := ⟨g, i, none⟩) hgl).trans (own25_cell h hvi).1, own_below (hl.own i _ hvi) hX⟩⟩
theorem hd_in {ys : List Nd} (h : listB ys = true) {i : Nat} (hi : i < (begins ys).length) : NdIn (hdN ys i) := by
 unfold hdN
 refine list_in h _ ?_
 have hp : (begins ys).getD i 0 ∈ starts ys (ys.length + 1) 0 := by simp [begins, List.getD, List.getElem?_eq_getElem (show i < (starts ys (ys.length + 1) 0).length from hi)]
 exact starts_lt ys _ _ _ hp
end Go.Proofs.YtbbehmcekbnkiaaGreat
namespace Go.Proofs.YtbbehmcekbnkiaaGreat
open Go.RowKit
set_option linter.unusedVariables false
set_option linter.unusedSimpArgs false
def alR (x : Nd) : Int := if tallB x then x.wd else if x.k = 2 ∨ x.k = 3 then x.wd else 0
def awR (x : Nd) : Int := if tallB x then x.wd else if x.k = 2 then x.wd else 0
theorem rowStep_w (s : RS) (x : Nd) : (rowStep s x).w = s.w + awR x := by
 unfold rowStep awR
 by_cases h1 : tallB x = true
 ·simp [h1, RS.tall]
 ·by_cases h2 : x.k = 2
  ·simp [h1, h2, RS.kern]
  ·by_cases h3 : x.k = 3
   ·simp [h1, h3, RS.glue]
   ·simp [h1, h2, h3]
theorem row_w (xs : List Nd) : ∀ (Z : List Nat) (s : RS), (Z.foldl (fun s p => rowStep s (xs.getD p Nd.none)) s).w = s.w + (Z.map (fun p => awR (xs.getD p Nd.none))).sum
 | [], s => by simp
 | p :: Z, s => by
  rw [List.foldl_cons, row_w xs Z, rowStep_w, List.map_cons, List.sum_cons]
  omega
theorem alR_not3 {x : Nd} (h : x.k ≠ 3) : alR x = awR x := by
 unfold alR awR
 by_cases h2 : x.k = 2 <;> simp [h2, h]
theorem awR_3 {x : Nd} (h : x.k = 3) : awR x = 0 := by simp [awR, tallB, h]
theorem alR_wide {x : Nd} (h : x.k = 3) (l : Int) : alR (x.wide l) = l := by simp [alR, tallB, Nd.wide, h]
theorem sum_alR : ∀ (Z : List Nat) (ls : List Int) (xs : List Nd), Z.Pairwise (· < ·) → (∀ p ∈ Z, p < xs.length) → ls.length = (gluesAt xs Z).length → (Z.map (fun p => alR ((setL (gluesAt xs Z) ls xs).getD p Nd.none))).sum = (Z.map (fun p => awR (xs.getD p Nd.none))).sum + ls.sum
 | [], ls, xs, _, _, hl => by
  have : ls = [] := List.eq_nil_of_length_eq_zero (by simpa [gluesAt] using hl)
  simp [this]
 | p :: Z, ls, xs, hp, hlt, hl => by
  obtain ⟨hp1, hp2⟩ := List.pairwise_cons.1 hp
  have hne : ∀ q ∈ Z, q ≠ p := fun q hq => by have := hp1 q hq; omega
  have hneg : ∀ q ∈ gluesAt xs Z, q ≠ p := fun q hq => hne q (List.mem_filter.1 hq).1
  by_cases h3 : (xs.getD p Nd.none).k = 3
  ·have hg : gluesAt xs (p :: Z) = p :: gluesAt xs Z := by unfold gluesAt; rw [List.filter_cons_of_pos (by simpa using h3)]
   rw [hg] at hl ⊢
   cases ls with
   | nil => simp at hl
   | cons l ls =>
    simp only [setL]
    have hgs : gluesAt (xs.set p ((xs.getD p Nd.none).wide l)) Z = gluesAt xs Z := glues_set hne
    have ih := sum_alR Z ls (xs.set p ((xs.getD p Nd.none).wide l)) hp2 (fun q hq => by rw [List.length_set]; exact hlt q (List.mem_cons_of_mem _ hq)) (by rw [hgs]; simpa using hl)
    rw [hgs] at ih
    have e1 : (Z.map (fun q => awR ((xs.set p ((xs.getD p Nd.none).wide l)).getD q Nd.none))) = Z.map (fun q => awR (xs.getD q Nd.none)) := List.map_congr_left fun q hq => by rw [getD_set_ne (hne q hq)]
    rw [e1] at ih
    rw [List.map_cons, List.sum_cons, ih, setL_oth _ _ _ _ hneg, getD_set_eq (hlt p (List.mem_cons_self ..)), alR_wide h3, List.map_cons, List.sum_cons, awR_3 h3, List.sum_cons]
    omega
  ·have hg : gluesAt xs (p :: Z) = gluesAt xs Z := by unfold gluesAt; rw [List.filter_cons_of_neg (by simpa using h3)]
   rw [hg] at hl ⊢
   have ih := sum_alR Z ls xs hp2 (fun q hq => hlt q (List.mem_cons_of_mem _ hq)) hl
   rw [List.map_cons, List.sum_cons, ih, setL_oth _ _ _ _ hneg, alR_not3 h3, List.map_cons, List.sum_cons]
   omega
def butWd (x : Nd) : Nd := x.wide 0
theorem set_butWd (xs : List Nd) (p q : Nat) (l : Int) : butWd ((xs.set p ((xs.getD p Nd.none).wide l)).getD q Nd.none) = butWd (xs.getD q Nd.none) := by
 by_cases h : q = p
 ·subst h
  by_cases hq : q < xs.length
  ·rw [getD_set_eq hq]; rfl
  ·simp [List.getD, List.getElem?_eq_none (show xs.length ≤ q by omega), List.getElem?_set, hq]
 ·rw [getD_set_ne h]
theorem setL_butWd : ∀ (ps : List Nat) (ls : List Int) (xs : List Nd) (q : Nat), butWd ((setL ps ls xs).getD q Nd.none) = butWd (xs.getD q Nd.none)
 | p :: ps, l :: ls, xs, q => (setL_butWd ps ls (xs.set p ((xs.getD p Nd.none).wide l)) q).trans (set_butWd xs p q l)
 | [], _, xs, q => by simp [setL]
 | _ :: _, [], xs, q => by simp [setL]
theorem rowStep_butWd {s : RS} {x y : Nd} (h : butWd x = butWd y) (hw : x.k ≠ 3 → x.wd = y.wd) : rowStep s x = rowStep s y := by
 obtain ⟨k, wd, ht, dp, sh, fo, ch, nn, gs, gp, gpo, gm, gmo, tx, kids⟩ := x
 obtain ⟨k', wd', ht', dp', sh', fo', ch', nn', gs', gp', gpo', gm', gmo', tx', kids'⟩ := y
 simp only [butWd, Nd.wide, Nd.mk.injEq] at h
 obtain ⟨rfl, _, rfl, rfl, rfl, rfl, rfl, rfl, rfl, rfl, rfl, rfl, rfl, rfl, rfl⟩ := h
 by_cases h3 : k = 3
 ·subst h3
  rfl
 ·have := hw h3
  simp only at this
  subst this
  rfl
theorem rowTo_set {xs : List Nd} {Z : List Nat} {ls : List Int} : ∀ (Y : List Nat) (s : RS), Y.foldl (fun s p => rowStep s ((setL (gluesAt xs Z) ls xs).getD p Nd.none)) s = Y.foldl (fun s p => rowStep s (xs.getD p Nd.none)) s
 | [], s => rfl
 | p :: Y, s => by
  rw [List.foldl_cons, List.foldl_cons]
  have hb := setL_butWd (gluesAt xs Z) ls xs p
  rw [rowStep_butWd hb (fun h3 => ?_)]
  ·exact rowTo_set Y _
  ·have hk := (setL_keeps (gluesAt xs Z) ls xs p).2.2
   rw [setL_oth _ _ _ _ (fun q hq e => h3 (by rw [hk, ← e]; simpa using (List.mem_filter.1 hq).2))]
theorem glues_setL (xs : List Nd) (ps : List Nat) (ls : List Int) (Z : List Nat) : gluesAt (setL ps ls xs) Z = gluesAt xs Z := by
 unfold gluesAt
 refine List.filter_congr fun q hq => ?_
 rw [(setL_keeps ps ls xs q).2.2]
theorem wide_wide (x : Nd) (a b : Int) : (x.wide a).wide b = x.wide b := rfl
theorem setL_set (p : Nat) (a : Int) : ∀ (ps : List Nat) (ls : List Int) (xs : List Nd), (∀ q ∈ ps, q ≠ p) → p < xs.length → setL ps ls (xs.set p ((xs.getD p Nd.none).wide a)) = (setL ps ls xs).set p ((xs.getD p Nd.none).wide a)
 | q :: ps, l :: ls, xs, h, hp => by
  have hqp := h q (List.mem_cons_self ..)
  simp only [setL]
  rw [getD_set_ne hqp, List.set_comm _ _ (Ne.symm hqp)]
  have e : (xs.set q ((xs.getD q Nd.none).wide l)).getD p Nd.none = xs.getD p Nd.none := getD_set_ne (Ne.symm hqp) _
  have ih := setL_set p a ps ls (xs.set q ((xs.getD q Nd.none).wide l)) (fun r hr => h r (List.mem_cons_of_mem _ hr)) (by rw [List.length_set]; exact hp)
  rw [e] at ih
  exact ih
 | [], _, xs, _, _ => by simp [setL]
 | _ :: _, [], xs, _, _ => by simp [setL]
theorem setL_twice : ∀ (ps : List Nat) (ls ks : List Int) (xs : List Nd), ps.Pairwise (· < ·) → (∀ p ∈ ps, p < xs.length) → ls.length = ps.length → ks.length = ps.length → setL ps ls (setL ps ks xs) = setL ps ls xs
 | [], ls, ks, xs, _, _, _, _ => by simp [setL]
 | p :: ps, l :: ls, k :: ks, xs, hp, hlt, hl, hk => by
  obtain ⟨hp1, hp2⟩ := List.pairwise_cons.1 hp
  have hne : ∀ q ∈ ps, q ≠ p := fun q hq => by have := hp1 q hq; omega
  have hpl := hlt p (List.mem_cons_self ..)
  simp only [setL]
  rw [setL_set p k ps ks xs hne hpl]
  have e1 : ((setL ps ks xs).set p ((xs.getD p Nd.none).wide k)).getD p Nd.none = (xs.getD p Nd.none).wide k := getD_set_eq (by rw [setL_len]; exact hpl) _
  rw [e1, wide_wide, List.set_set]
  have e2 : (setL ps ks xs).set p ((xs.getD p Nd.none).wide l) = setL ps ks (xs.set p ((xs.getD p Nd.none).wide l)) := (setL_set p l ps ks xs hne hpl).symm
  rw [e2]
  exact setL_twice ps ls ks _ hp2 (fun q hq => by rw [List.length_set]; exact hlt q (List.mem_cons_of_mem _ hq)) (by simpa using hl) (by simpa using hk)
 | _ :: _, [], _, _, _, _, hl, _ => by simp at hl
 | _ :: _, _ :: _, [], _, _, _, _, hk => by simp at hk
def alRSum (ys : List Nd) : Nat → Int
 | 0 => 0
 | i + 1 => alRSum ys i + alR (hdN ys i)
theorem alRSum_eq (ys : List Nd) : ∀ i, i ≤ (begins ys).length → alRSum ys i = (((begins ys).take i).map (fun p => alR (ys.getD p Nd.none))).sum
 | 0, _ => by simp [alRSum]
 | i + 1, h => by
  have hi : i < (begins ys).length := h
  rw [alRSum, alRSum_eq ys i (by omega), List.take_add_one, List.getElem?_eq_getElem hi, List.map_append, List.sum_append]
  simp [hdN, List.getD, List.getElem?_eq_getElem hi]
theorem hpOk_parts {xs : List Nd} {mode size : Int} (hA : hpOk xs mode size = true) : canB xs = true ∧ listB xs = true ∧ Shr.glsOk (hpS xs).gs = true ∧ fitsB (hpTo xs mode size) = true ∧ fitsB (hpS xs).w = true ∧ fitsB (hpS xs).h = true ∧ fitsB (hpS xs).d = true ∧ (hpL xs mode size).all fitsB = true := by
 unfold hpOk at hA
 simp only [Bool.and_eq_true] at hA
 obtain ⟨⟨⟨⟨⟨hpk, hgl⟩, hto, hw⟩, hh⟩, hd⟩, hfit⟩ := hA
 unfold packB at hpk
 simp only [Bool.and_eq_true] at hpk
 exact ⟨hpk.1.1, can_list hpk.1.1, hgl, hto, hw, hh, hd, hfit⟩
theorem row_sum {xs : List Nd} {mode size : Int} (hA : hpOk xs mode size = true) :
 let ys := setL (gluesAt xs (begins xs)) (hpL xs mode size) xs
 let T := hpT xs mode size
 listB ys = true ∧ begins ys = begins xs ∧ hpTo xs mode size = alRSum ys (begins ys).length + (if 0 < T.sign ∧ T.have_ ≤ 0 then T.want else 0) - T.over ∧ (mode = 1 → hpTo xs mode size = size) := by
 intro ys T
 obtain ⟨hcan, hlist, hgl, hto, hw, hh, hd, hfit⟩ := hpOk_parts hA
 have hls : listB ys = true := list_setL hlist (hpL_len xs mode size) hfit
 have hbg : begins ys = begins xs := begins_setL _ _ _
 have hsum : alRSum ys (begins ys).length = (hpS xs).w + (hpL xs mode size).sum := by
  rw [alRSum_eq ys _ (Nat.le_refl _), List.take_length, hbg]
  have h1 := sum_alR (begins xs) (hpL xs mode size) xs (starts_asc xs _ _).2 (fun p hp => starts_lt xs _ _ p hp) (hpL_len xs mode size)
  have h2 := row_w xs (begins xs) RS.nil
  rw [show RS.nil.w = 0 from rfl, Int.zero_add] at h2
  rw [show (hpS xs).w = _ from h2]
  exact h1
 have hsz := Shr.siz_in hgl
 have hto' : -1073741823 ≤ hpTo xs mode size ∧ hpTo xs mode size ≤ 1073741823 := by
  unfold fitsB at hto
  simp only [Bool.and_eq_true, decide_eq_true_eq] at hto
  omega
 have hw' : -1073741823 ≤ (hpS xs).w ∧ (hpS xs).w ≤ 1073741823 := by
  unfold fitsB at hw
  simp only [Bool.and_eq_true, decide_eq_true_eq] at hw
  omega
 obtain ⟨q, hq⟩ : ∃ q, q = hpQ xs mode size := ⟨_, rfl⟩
 have hq' : q = hpTo xs mode size - (hpS xs).w - Shr.siz (hpS xs).gs := hq
 have SF := Shr.share_facts (q := q) hgl (by omega) (by omega)
 have hL : hpL xs mode size = Shr.shareL (hpS xs).gs q := by rw [hq]; rfl
 have hT : T = Shr.shareS (hpS xs).gs q := by rw [hq]; show hpT xs mode size = _; unfold hpT; rw [if_pos hA]
 refine ⟨hls, hbg, ?_, ?_⟩
 ·rw [hsum, hT, hL]
  have key : q + Shr.siz (hpS xs).gs = (Shr.shareL (hpS xs).gs q).sum + (if 0 < (Shr.shareS (hpS xs).gs q).sign ∧ (Shr.shareS (hpS xs).gs q).have_ ≤ 0 then (Shr.shareS (hpS xs).gs q).want else 0) - (Shr.shareS (hpS xs).gs q).over := by
   rcases Int.lt_trichotomy q 0 with hn | h0 | hp
   ·obtain ⟨a1, a2, a3, a4, a5, a6, a7⟩ := SF.down hn
    rw [if_neg (by rw [a1]; omega), a5]
    omega
   ·obtain ⟨a1, a2⟩ := SF.zero h0
    rw [if_neg (by rw [a1]; omega), a2]
    have : (Shr.shareS (hpS xs).gs q).over = 0 := by unfold Shr.shareS; rw [if_neg (by omega), if_neg (by omega)]
    rw [this]
    omega
   ·obtain ⟨a1, a2, a3, a4, a5, a6⟩ := SF.up hp
    have : (Shr.shareS (hpS xs).gs q).over = 0 := by
     unfold Shr.shareS
     rw [if_pos hp]
     unfold Shr.upS
     split <;> rfl
    rw [this, a1, a4, a2]
    by_cases hh0 : 0 < Shr.hvOf Shr.Gl.p Shr.Gl.po (hpS xs).gs
    ·rw [if_neg (by omega), a5 hh0]
     omega
    ·rw [if_pos (by omega), a6 hh0]
     omega
  omega
 ·intro hm
  unfold hpTo Shr.alongI
  rw [if_pos hm]
def bare (xs : List Nd) : List Nd := setL (gluesAt xs (begins xs)) (List.replicate (gluesAt xs (begins xs)).length 0) xs
theorem bare_S (xs : List Nd) : begins (bare xs) = begins xs ∧ hpS (bare xs) = hpS xs ∧ gluesAt (bare xs) (begins (bare xs)) = gluesAt xs (begins xs) ∧ (bare xs).length = xs.length := by
 have h1 : begins (bare xs) = begins xs := begins_setL _ _ _
 refine ⟨h1, ?_, ?_, setL_len _ _ _⟩
 ·unfold hpS rowTo
  rw [h1]
  exact rowTo_set (begins xs) RS.nil
 ·rw [h1]
  exact glues_setL _ _ _ _
theorem pack_again {xs : List Nd} {mode size : Int} (hA : hpOk xs mode size = true) : hpOk (bare xs) 1 (hpTo xs mode size) = true ∧ hpN (bare xs) 1 (hpTo xs mode size) = hpN xs mode size := by
 obtain ⟨hcan, hlist, hgl, hto, hw, hh, hd, hfit⟩ := hpOk_parts hA
 obtain ⟨h1, h2, h3, h4⟩ := bare_S xs
 have hasc : (gluesAt xs (begins xs)).Pairwise (· < ·) := List.Pairwise.filter _ (starts_asc xs _ _).2
 have hin : ∀ p ∈ gluesAt xs (begins xs), p < xs.length ∧ (xs.getD p Nd.none).k = 3 := fun p hp => ⟨starts_lt xs _ _ p (List.mem_filter.1 hp).1, by simpa using (List.mem_filter.1 hp).2⟩
 have hT1 : hpTo (bare xs) 1 (hpTo xs mode size) = hpTo xs mode size := by unfold hpTo Shr.alongI; rw [if_pos rfl]
 have hQ1 : hpQ (bare xs) 1 (hpTo xs mode size) = hpQ xs mode size := by unfold hpQ; rw [hT1, h2]
 have hL1 : hpL (bare xs) 1 (hpTo xs mode size) = hpL xs mode size := by unfold hpL; rw [hQ1, h2]
 have hcb : canB (bare xs) = true := by
  unfold canB at hcan ⊢
  simp only [Bool.and_eq_true, decide_eq_true_eq] at hcan ⊢
  refine ⟨⟨by rw [h4]; exact hcan.1.1, ?_⟩, ?_⟩
  ·rw [h4]
   unfold bare
   rw [okK_setL]
   exact hcan.1.2
  ·unfold bare
   rw [setL_good _ _ _ (by simp) hasc hin hcan.2]
   simp [List.all_replicate, fits0]
 constructor
 ·unfold hpOk packB
  rw [hT1, hL1, h2, hcb, hto]
  simp only [Bool.true_and, Bool.and_eq_true]
  have e : Shr.fitsB = fitsB := rfl
  rw [e]
  exact ⟨⟨⟨⟨⟨⟨rfl, trivial⟩, hgl⟩, hto, hw⟩, hh⟩, hd⟩, hfit⟩
 ·unfold hpN
  rw [hT1, hL1, h2, h3, h4]
  congr 1
  exact setL_twice _ _ _ _ hasc (fun p hp => (hin p hp).1) (hpL_len xs mode size) (by simp)
end Go.Proofs.YtbbehmcekbnkiaaGreat
namespace Go.Proofs.YtbbehmcekbnkiaaGreat.Wk
open Go.RowKit Go.Shelf
set_option linter.unusedVariables false
set_option linter.unusedSimpArgs false
attribute [local go_sem] Oper.semAt_some
def kin (y x : Nd) : Prop := y.k = x.k ∧ y.kids = x.kids
structure Src (xs : List Nd) (ao : Option Addr) (Bs b off cap : Nat) (W : World) : Prop where
 box : W.cell? ⟨Bs, 0, none⟩ = some (.slice ao xs.length cap)
 some_ : 0 < xs.length → ao = some ⟨b, off, none⟩
 at_ : ∀ i, i < xs.length → ∃ y : Nd, kin y (xs.getD i Nd.none) ∧ ∀ j, j < 15 → W.cell? ⟨b, off + i * 15 + j, none⟩ = y.cells[j]?
theorem Src.grown {xs : List Nd} {ao : Option Addr} {Bs b off cap : Nat} {W W' : World} (h : Src xs ao Bs b off cap W) (hb : Below W.heap.size W W') : Src xs ao Bs b off cap W' := by
 refine ⟨(hb.cell (p := ⟨Bs, 0, none⟩) (World.block_lt_of_cell? W _ h.box)).trans h.box, h.some_, fun i hi => ?_⟩
 obtain ⟨y, hk, hc⟩ := h.at_ i hi
 refine ⟨y, hk, fun j hj => ?_⟩
 have h1 := hc j hj
 rw [List.getElem?_eq_getElem (show j < y.cells.length by exact hj)] at h1 ⊢
 exact (hb.cell (p := ⟨b, off + i * 15 + j, none⟩) (World.block_lt_of_cell? W _ h1)).trans h1
def Item (xs : List Nd) : Type := { p : Nat × Value // p.1 < xs.length ∧ ∃ y : Nd, kin y (xs.getD p.1 Nd.none) ∧ ThingQ y p.2 }
def Item.encs {xs : List Nd} (x : Item xs) : Array Value := #[.int .i64 (x.1.1 : Int), x.1.2]
set_option maxRecDepth 100000 in
set_option maxHeartbeats 4000000 in
theorem each1_in (n l : Nat) (hn : 1 ≤ n) (xs : List Nd) (ao : Option Addr) (Bs b off cap : Nat) (hlen : xs.length ≤ 20000) (hkids : ∀ i, i < xs.length → 0 ≤ (xs.getD i Nd.none).kids ∧ (xs.getD i Nd.none).kids ≤ 20000) (J Jx : List (Item xs) → World → Prop) (W : World) (hJ : AbidesFrom W.heap.size J) (hS : Src xs ao Bs b off cap W)
 (hY : ∀ pre x W1, J pre W1 → pre.length < xs.length + 1 → YieldAt Fence.wide (n - 1) Tryz.prog l (Item.encs x) W1 fun e W' =>
  (e = .returned (.bool true) ∧ J (pre ++ [x]) W' ∧ (Src xs ao Bs b off cap W1 → Src xs ao Bs b off cap W')) ∨ (e = .returned (.bool false) ∧ Jx (pre ++ [x]) W')) (h0 : J [] W) :
 CallsIn Fence.wide n Tryz.prog 65 #[.func (.yield l) #[] #[], .pointer (some ⟨Bs, 0, none⟩)] W fun e W' => (∃ v, e = .returned v) ∧
  ((∃ ys : List (Item xs), ys.map (·.1.1) = starts xs (xs.length + 1) 0 ∧ J ys W') ∨ (∃ pre, True ∧ Jx pre W')) := by
 refine callsIn_of_wp Tryz.func65 rfl trivial ?_ rfl
 simp only [Tryz.ntmps65, List.size_toArray, List.length_cons, List.length_nil, Nat.reduceAdd, Nat.reduceSub, Array.replicate_succ, Array.replicate_zero, List.push_toArray, List.append_toArray, List.nil_append, List.cons_append]
 gi_wp2
 gi_loopw [3] (fun a wr => ∃ (i f : Nat) (pre : List (Item xs)), a = .int .i64 (i : Int) ∧ i ≤ 40001 ∧ xs.length < i + f ∧ Hid (pre.map (·.1.1) ++ starts xs f i = starts xs (xs.length + 1) 0) ∧ pre.length ≤ i ∧ J pre wr ∧ Hid (Src xs ao Bs b off cap wr)) (fun a _ => xs.length - (intOf a).toNat)
 case atStart => exact ⟨0, xs.length + 1, [], rfl, by omega, by omega, rfl, by simp, h0, hS⟩
 case round =>
  obtain ⟨i, f, pre, rfl, hi, hf, HP, hpl, hJs, HS⟩ := hrel
  have hbox := HS.out.box
  by_cases hil : i < xs.length
  ·have hii : (i : Int) < (xs.length : Int) := by omega
   obtain rfl := HS.out.some_ (by omega)
   obtain ⟨y, hy, hyc⟩ := HS.out.at_ i hil
   have TC : Hid (∀ w : World, Calls Tryz.prog 62 #[ndV y] w fun r w' => (∃ v, r = .returned v ∧ ThingQ y v) ∧ Below w.heap.size w w') := hideP (fun w => thing_q y w)
   have HY := hideP hy
   have hkk := hkids i hil
   rw [← hy.2] at hkk
   obtain ⟨y0, hy0⟩ : ∃ y0, y0 = y := ⟨_, rfl⟩
   rw [← hy0] at HY
   have HY0 := hideP hy0
   obtain ⟨kd, wd, hh, dp, sh, fo, ch, nn, gs, gp, gpo, gm, gmo, tx, kids⟩ := y
   simp only [Nd.cells] at hyc
   have c0 : wr.cell? ⟨b, off + i * 15, none⟩ = some (.int .i64 kd) := hyc 0 (by omega)
   have c1 : wr.cell? ⟨b, off + i * 15 + 1, none⟩ = some (.int .i64 wd) := hyc 1 (by omega)
   have c2 : wr.cell? ⟨b, off + i * 15 + 2, none⟩ = some (.int .i64 hh) := hyc 2 (by omega)
   have c3 : wr.cell? ⟨b, off + i * 15 + 3, none⟩ = some (.int .i64 dp) := hyc 3 (by omega)
   have c4 : wr.cell? ⟨b, off + i * 15 + 4, none⟩ = some (.int .i64 sh) := hyc 4 (by omega)
   have c5 : wr.cell? ⟨b, off + i * 15 + 5, none⟩ = some (.int .i64 fo) := hyc 5 (by omega)
   have c6 : wr.cell? ⟨b, off + i * 15 + 6, none⟩ = some (.int .i64 ch) := hyc 6 (by omega)
   have c7 : wr.cell? ⟨b, off + i * 15 + 7, none⟩ = some (.int .i64 nn) := hyc 7 (by omega)
   have c8 : wr.cell? ⟨b, off + i * 15 + 8, none⟩ = some (.int .i64 gs) := hyc 8 (by omega)
   have c9 : wr.cell? ⟨b, off + i * 15 + 9, none⟩ = some (.int .i64 gp) := hyc 9 (by omega)
   have c10 : wr.cell? ⟨b, off + i * 15 + 10, none⟩ = some (.int .i64 gpo) := hyc 10 (by omega)
   have c11 : wr.cell? ⟨b, off + i * 15 + 11, none⟩ = some (.int .i64 gm) := hyc 11 (by omega)
   have c12 : wr.cell? ⟨b, off + i * 15 + 12, none⟩ = some (.int .i64 gmo) := hyc 12 (by omega)
   have c13 : wr.cell? ⟨b, off + i * 15 + 13, none⟩ = some (.string tx) := hyc 13 (by omega)
   have c14 : wr.cell? ⟨b, off + i * 15 + 14, none⟩ = some (.int .i64 kids) := hyc 14 (by omega)
   have HJ := hideP hJs
   dsimp only at hkk
   obtain ⟨hk0, hk1⟩ := hkk
   obtain ⟨f, rfl⟩ : ∃ q, f = q + 1 := ⟨f - 1, by omega⟩
   have HST : Hid (pre.map (·.1.1) ++ i :: starts xs f (i + 1 + kids.toNat) = starts xs (xs.length + 1) 0) := hideP (by
    have h := HP.out
    rw [show starts xs (f + 1) i = i :: starts xs f (i + 1 + (xs.getD i Nd.none).kids.toNat) by simp only [starts]; rw [if_pos hil]] at h
    rw [← HY.out.2, HY0.out] at h
    exact h)
   clear hyc hJs hy hy0
   gi_wp2_with fail
   refine ⟨trivial, CallsIn.mono (callsIn_wide.2 (TC.out wr)) ?_⟩
   rintro e w1 ⟨⟨v, rfl, hth⟩, hb1⟩
   have hJ1 : J pre w1 := hJ pre wr w1 none HJ.out ⟨hb1.os, hb1.tape, hb1.output, hb1.size, fun k hk _ => hb1.block k hk⟩ (fun r e => by cases e)
   have HS1 := hideP (HS.out.grown hb1)
   rw [← HY0.out] at hth
   obtain ⟨x, hx⟩ : ∃ x : Item xs, x = ⟨(i, v), hil, y0, HY.out, hth⟩ := ⟨_, rfl⟩
   obtain ⟨fn, tmps, assign, body, hyl, hR⟩ := hY pre x w1 hJ1 (by omega)
   have HX : Hid (x.1.1 = i) := hideP (by rw [hx])
   rw [show Item.encs x = #[.int .i64 (i : Int), v] by rw [hx]; rfl] at hyl
   clear hb1 hJ1 hth hbox hx c0 c1 c2 c3 c4 c5 c6 c7 c8 c9 c10 c11 c12 c13 c14
   have HRR := hideP hR
   clear hR
   gi_wp2_with fail
   refine HRR.out.mono ?_
   rintro e W3 (⟨rfl, hJ3, hk3⟩ | ⟨rfl, hJx3⟩)
   ·have HS3 := hideP (hk3 HS1.out)
    have hbox3 := HS3.out.box
    obtain ⟨y3, hy3, hc3⟩ := HS3.out.at_ i hil
    have c14 : W3.cell? ⟨b, off + i * 15 + 14, none⟩ = some (.int .i64 kids) := by
     rw [hc3 14 (by omega), show y3.cells[14]? = some (.int .i64 y3.kids) from rfl, hy3.2, ← HY.out.2, HY0.out]
    have HJ3 := hideP hJ3
    clear hJ3 hk3 hc3 hy3
    gi_wp2_with fail
    go_roundw
    case rel =>
     refine ⟨i + 1 + kids.toNat, f, pre ++ [x], congrArg _ (by omega), by omega, by omega, hideP ?_, by simp; omega, HJ3.out, HS3⟩
     rw [List.map_append, List.append_assoc, List.map_singleton, HX.out]
     exact HST.out
    case measure => simp [intOf]; omega
   ·gi_wp2
    refine bodyPost_ret (results_none rfl _ _ _) rfl ?_
    exact ⟨⟨_, rfl⟩, .inr ⟨pre ++ [x], trivial, hJx3⟩⟩
  ·have hii : ¬ (i : Int) < (xs.length : Int) := by omega
   have HE : Hid (pre.map (·.1.1) = starts xs (xs.length + 1) 0) := hideP (by
    have h := HP.out
    cases f with
    | zero => simpa [starts] using h
    | succ f =>
     rw [show starts xs (f + 1) i = [] by simp only [starts]; rw [if_neg hil]] at h
     simpa using h)
   gi_wp2
   go_end0
   exact ⟨⟨_, rfl⟩, .inl ⟨pre, HE.out, hJs⟩⟩
set_option maxHeartbeats 1000000 in
theorem eachItem_any (a : Option Addr) (len cap : Nat) (w : World) :
 Calls Tryz.prog 35 #[.slice a len cap] w fun e w' => e = .returned (.func (.func 65) #[] #[.pointer (some ⟨w.heap.size, 0, none⟩)]) ∧ w' = w.alloc (.cells #[.slice a len cap] 24) := by
 go_enter Tryz.func35, Tryz.ntmps35
 go_wp2
 go_ret
 exact ⟨rfl, rfl⟩
theorem each_stops (n : Nat) (hn : 1 ≤ n) (xs : List Nd) (ao : Option Addr) (Bs b off cap : Nat) (hlen : xs.length ≤ 20000) (hkids : ∀ i, i < xs.length → 0 ≤ (xs.getD i Nd.none).kids ∧ (xs.getD i Nd.none).kids ≤ 20000) (w : World) (hS : Src xs ao Bs b off cap w) :
 SeqStopsK Fence.wide n Tryz.prog 65 #[.pointer (some ⟨Bs, 0, none⟩)] (Item.encs (xs := xs)) (fun A B => Src xs ao Bs b off cap A → Src xs ao Bs b off cap B) (fun ys => ys.map (·.1.1) = starts xs (xs.length + 1) 0) (fun _ => True) (xs.length + 1) w := fun l J Jx W hW hJ _ hY h0 => by
 refine (each1_in n l hn xs ao Bs b off cap hlen hkids J Jx W hJ (hS.grown hW) hY h0).mono ?_
 rintro e W' ⟨he, ⟨ys, hys, hj⟩ | ⟨pre, _, hj⟩⟩
 ·exact ⟨he, .inl ⟨ys, hys, hj⟩⟩
 ·exact ⟨he, .inr ⟨pre, trivial, hj⟩⟩
end Go.Proofs.YtbbehmcekbnkiaaGreat.Wk
