import Derived.Test.YtojoehdmjkgnnaaGreatHlp
namespace Go.Proofs.YtojoehdmjkgnnaaGreat
open Go.RowKit
set_option linter.unusedVariables false
set_option linter.unusedSimpArgs false
def okK (d : Nat) (len : Int) : Int → List Int → List Nd → Bool
 | _, _, [] => true
 | i, T, x :: xs =>
  let U := T.dropWhile (· == i)
  decide (x.kids ≤ U.headD len - i - 1) && (!deepB x || decide (U.length ≤ d)) && okK d len (i + 1) (if deepB x then (i + 1 + x.kids) :: U else U) xs
theorem okFrom_split (len : Int) : ∀ (xs : List Nd) (i : Int) (T : List Int), okFrom len i T xs = (okK 40 len i T xs && xs.all goodB)
 | [], _, _ => rfl
 | x :: xs, i, T => by
  simp only [okFrom, okK, List.all_cons]
  rw [okFrom_split len xs]
  cases goodB x <;> simp [Bool.and_assoc]
theorem okK_in (d : Nat) (len : Int) : ∀ (xs : List Nd) (i : Int) (T : List Int), i + xs.length ≤ len → (∀ y ∈ T, y ≤ len) → okK (d + 1) (len + 1) (i + 1) (T.map (· + 1) ++ [len + 1]) xs = okK d len i T xs
 | [], _, _, _, _ => rfl
 | x :: xs, i, T, hi, hT => by
  have hd : (T.map (· + 1) ++ [len + 1]).dropWhile (· == (i + 1)) = (T.dropWhile (· == i)).map (· + 1) ++ [len + 1] := by
   induction T with
   | nil =>
    have h1 : (len + 1 == i + 1) = false := by
     have : ¬ len + 1 = i + 1 := by simp at hi; omega
     simpa using this
    simp [List.dropWhile, h1]
   | cons a T ih =>
    have ih' := ih (fun y hy => hT y (List.mem_cons_of_mem _ hy))
    by_cases ha : a = i
    ·subst ha
     simp only [List.map_cons, List.cons_append, List.dropWhile, beq_self_eq_true]
     exact ih'
    ·have h1 : (a == i) = false := by simpa using ha
     have h2 : (a + 1 == i + 1) = false := by
      have : ¬ a + 1 = i + 1 := by omega
      simpa using this
     simp only [List.map_cons, List.cons_append, List.dropWhile, h1, h2]
  simp only [okK]
  rw [hd]
  obtain ⟨U, hU⟩ := exq (T.dropWhile (· == i))
  rw [← hU]
  have hUl : ∀ y ∈ U, y ≤ len := fun y hy => hT y (by rw [hU] at hy; exact drop_mem hy)
  have hhead : (U.map (· + 1) ++ [len + 1]).headD (len + 1) = U.headD len + 1 := by cases U <;> simp
  have hlen : (U.map (· + 1) ++ [len + 1]).length = U.length + 1 := by simp
  rw [hhead, hlen]
  have e1 : decide (x.kids ≤ U.headD len + 1 - (i + 1) - 1) = decide (x.kids ≤ U.headD len - i - 1) := by
   rw [Bool.eq_iff_iff]
   simp only [decide_eq_true_eq]
   omega
  have e2 : decide (U.length + 1 ≤ d + 1) = decide (U.length ≤ d) := by
   rw [Bool.eq_iff_iff]
   simp
  rw [e1, e2]
  by_cases hk : x.kids ≤ U.headD len - i - 1
  ·have hkl : U.headD len ≤ len := by
    cases hu : U with
    | nil => simp
    | cons a V => simpa using hUl a (by rw [hu]; exact List.mem_cons_self ..)
   have hi' : i + 1 + (xs.length : Int) ≤ len := by simp at hi; omega
   cases hb : deepB x
   ·have h3 := okK_in d len xs (i + 1) U hi' hUl
    simp only [Bool.false_eq_true, if_false]
    rw [h3]
   ·have h3 := okK_in d len xs (i + 1) ((i + 1 + x.kids) :: U) hi' (fun y hy => by
     rcases List.mem_cons.1 hy with rfl | hy
     ·omega
     ·exact hUl y hy)
    simp only [if_true]
    rw [List.map_cons, List.cons_append] at h3
    have e3 : i + 1 + 1 + x.kids = i + 1 + x.kids + 1 := by omega
    rw [e3, h3]
  ·rw [decide_eq_false hk]
   simp
def Nd.wide (x : Nd) (l : Int) : Nd := ⟨x.k, l, x.ht, x.dp, x.sh, x.fo, x.ch, x.nn, x.gs, x.gp, x.gpo, x.gm, x.gmo, x.tx, x.kids⟩
theorem wide_good {x : Nd} (h : goodB x = true) (hk : x.k = 3) (l : Int) : goodB (x.wide l) = fitsB l := by
 obtain ⟨k, wd, ht, dp, sh, fo, ch, nn, gs, gp, gpo, gm, gmo, tx, kids⟩ := x
 simp only at hk
 subst hk
 unfold goodB specB at h ⊢
 simp only [Bool.and_eq_true, decide_eq_true_eq] at h
 obtain ⟨⟨⟨⟨⟨⟨h1, h2⟩, ⟨⟨⟨⟨h3, h4⟩, h5⟩, h6⟩, h7⟩⟩, h8⟩, h9⟩, h10⟩, h11⟩ := h
 rw [eqNd_iff] at h2
 have hu : eqNd (Nd.wide ⟨3, wd, ht, dp, sh, fo, ch, nn, gs, gp, gpo, gm, gmo, tx, kids⟩ l) (Nd.wide ⟨3, wd, ht, dp, sh, fo, ch, nn, gs, gp, gpo, gm, gmo, tx, kids⟩ l).used = true := by
  rw [eqNd_iff]
  simp [Nd.used, Nd.wide] at h2 ⊢
  exact h2
 rw [hu]
 have hp : penB (Nd.wide ⟨3, wd, ht, dp, sh, fo, ch, nn, gs, gp, gpo, gm, gmo, tx, kids⟩ l) = true := h8
 rw [hp]
 simp only [Nd.wide, h4, h5, h6, h7, h9, Bool.and_true, Bool.true_and]
 simp [h10, h11]
def setL : List Nat → List Int → List Nd → List Nd
 | p :: ps, l :: ls, xs => setL ps ls (xs.set p ((xs.getD p Nd.none).wide l))
 | [], _, xs => xs
 | _ :: _, [], xs => xs
theorem setL_len : ∀ (ps : List Nat) (ls : List Int) (xs : List Nd), (setL ps ls xs).length = xs.length
 | p :: ps, l :: ls, xs => by rw [setL, setL_len ps ls, List.length_set]
 | [], _, xs => by simp [setL]
 | _ :: _, [], xs => by simp [setL]
theorem getD_set_ne {xs : List Nd} {p q : Nat} (h : q ≠ p) (y : Nd) : (xs.set p y).getD q Nd.none = xs.getD q Nd.none := by
 rw [List.getD_eq_getElem?_getD, List.getD_eq_getElem?_getD, List.getElem?_set_ne (by omega)]
theorem getD_set_eq {xs : List Nd} {p : Nat} (h : p < xs.length) (y : Nd) : (xs.set p y).getD p Nd.none = y := by
 rw [List.getD_eq_getElem?_getD, List.getElem?_set_self h]
 rfl
theorem setL_other : ∀ (ps : List Nat) (ls : List Int) (xs : List Nd) (q : Nat), (∀ p ∈ ps, p ≠ q) → (setL ps ls xs).getD q Nd.none = xs.getD q Nd.none
 | p :: ps, l :: ls, xs, q, h => by
  rw [setL, setL_other ps ls _ q (fun r hr => h r (List.mem_cons_of_mem _ hr)), getD_set_ne (fun e => h p (List.mem_cons_self ..) e.symm)]
 | [], _, xs, _, _ => by simp [setL]
 | _ :: _, [], xs, _, _ => by simp [setL]
theorem okK_set (d : Nat) (len : Int) : ∀ (xs : List Nd) (i : Int) (T : List Int) (p : Nat) (l : Int), okK d len i T (xs.set p ((xs.getD p Nd.none).wide l)) = okK d len i T xs
 | [], _, _, _, _ => rfl
 | x :: xs, i, T, 0, l => rfl
 | x :: xs, i, T, p + 1, l => by
  have h := okK_set d len xs (i + 1) (if deepB x then (i + 1 + x.kids) :: T.dropWhile (· == i) else T.dropWhile (· == i)) p l
  have e : (x :: xs).getD (p + 1) Nd.none = xs.getD p Nd.none := by simp [List.getD]
  rw [e, List.set_cons_succ]
  simp only [okK]
  rw [h]
theorem okK_setL (d : Nat) (len : Int) (i : Int) (T : List Int) : ∀ (ps : List Nat) (ls : List Int) (xs : List Nd), okK d len i T (setL ps ls xs) = okK d len i T xs
 | p :: ps, l :: ls, xs => by rw [setL, okK_setL d len i T ps ls, okK_set]
 | [], _, xs => by simp [setL]
 | _ :: _, [], xs => by simp [setL]
theorem all_getD {xs : List Nd} {f : Nd → Bool} : xs.all f = true ↔ ∀ j, j < xs.length → f (xs.getD j Nd.none) = true := by
 rw [List.all_eq_true]
 constructor
 ·intro h j hj
  rw [List.getD_eq_getElem?_getD, List.getElem?_eq_getElem hj]
  exact h _ (List.getElem_mem hj)
 ·intro h x hx
  obtain ⟨j, hj, rfl⟩ := List.getElem_of_mem hx
  have := h j hj
  rw [List.getD_eq_getElem?_getD, List.getElem?_eq_getElem hj] at this
  exact this
theorem setL_good : ∀ (ps : List Nat) (ls : List Int) (xs : List Nd), ls.length = ps.length → ps.Pairwise (· < ·) → (∀ p ∈ ps, p < xs.length ∧ (xs.getD p Nd.none).k = 3) → xs.all goodB = true → (setL ps ls xs).all goodB = ls.all fitsB
 | p :: ps, l :: ls, xs, hl, hp, hk, hg => by
  obtain ⟨h1, h2⟩ := List.pairwise_cons.1 hp
  obtain ⟨hpl, hp3⟩ := hk p (List.mem_cons_self ..)
  have hgp := all_getD.1 hg p hpl
  have hw := wide_good hgp hp3 l
  rw [setL, List.all_cons]
  cases hf : fitsB l
  ·rw [hf] at hw
   rw [Bool.false_and]
   rw [Bool.eq_false_iff]
   intro hall
   have h3 := all_getD.1 hall p (by rw [setL_len, List.length_set]; exact hpl)
   rw [setL_other ps ls _ p (fun r hr => by have := h1 r hr; omega), getD_set_eq hpl, hw] at h3
   cases h3
  ·rw [hf] at hw
   rw [Bool.true_and]
   refine setL_good ps ls _ (by simpa using hl) h2 (fun r hr => ?_) ?_
   ·have h3 := hk r (List.mem_cons_of_mem _ hr)
    have h4 := h1 r hr
    rw [List.length_set, getD_set_ne (by omega)]
    exact h3
   ·rw [all_getD]
    intro j hj
    rw [List.length_set] at hj
    by_cases hjp : j = p
    ·subst hjp
     rw [getD_set_eq hpl]
     exact hw
    ·rw [getD_set_ne hjp]
     exact all_getD.1 hg j hj
 | [], [], xs, _, _, _, hg => by simp [setL, hg]
 | [], _ :: _, xs, hl, _, _, _ => by simp at hl
 | _ :: _, [], xs, hl, _, _, _ => by simp at hl
def boxN (k wd ht dp : Int) (n : Nat) : Nd := ⟨k, wd, ht, dp, 0, 0, 0, 0, 0, 0, 0, 0, 0, ⟨#[]⟩, n⟩
theorem boxN_good {k : Int} (hk : k = 6 ∨ k = 7) (wd ht dp : Int) (n : Nat) : goodB (boxN k wd ht dp n) = (fitsB wd && fitsB ht && fitsB dp) := by
 unfold goodB specB
 have h0 : fitsB 0 = true := by decide
 have h1 : glB 0 0 0 0 0 = true := by decide
 have h2 : uptoB 0 15 = true := by decide
 have h3 : uptoB 0 255 = true := by decide
 have hu : eqNd (boxN k wd ht dp n) (boxN k wd ht dp n).used = true := by
  rw [eqNd_iff]
  rcases hk with rfl | rfl <;> rfl
 have hp : penB (boxN k wd ht dp n) = true := by rcases hk with rfl | rfl <;> rfl
 rw [hu, hp]
 simp only [boxN, h0, h1, h2, h3, Bool.and_true, Bool.true_and]
 have h4 : (1 : Int) ≤ k ∧ k ≤ 11 := by omega
 simp [h4, ByteArray.size]
def canB (xs : List Nd) : Bool := decide (xs.length < 20000) && okK 39 xs.length 0 [] xs && xs.all goodB
theorem box_list {k : Int} (hk : k = 6 ∨ k = 7) (wd ht dp : Int) {xs : List Nd} {ps : List Nat} {ls : List Int} (hl : ls.length = ps.length) (hp : ps.Pairwise (· < ·)) (h3 : ∀ p ∈ ps, p < xs.length ∧ (xs.getD p Nd.none).k = 3) (hg : xs.all goodB = true) :
 listB (boxN k wd ht dp xs.length :: setL ps ls xs) = (canB xs && (fitsB wd && fitsB ht && fitsB dp) && ls.all fitsB) := by
 unfold listB canB
 rw [okFrom_split, List.all_cons, boxN_good hk, setL_good ps ls xs hl hp h3 hg, hg, List.length_cons, setL_len]
 simp only [okK, List.dropWhile, List.headD_nil, List.length_nil]
 have hdp : deepB (boxN k wd ht dp xs.length) = true := by rcases hk with rfl | rfl <;> rfl
 have hki : (boxN k wd ht dp xs.length).kids = (xs.length : Int) := rfl
 rw [hdp, hki]
 have e0 : ((xs.length + 1 : Nat) : Int) = (xs.length : Int) + 1 := by push_cast; rfl
 rw [e0]
 have e1 : ((xs.length : Int) ≤ (xs.length : Int) + 1 - 0 - 1) = True := eq_true (by omega)
 simp only [e1, decide_true]
 have e2 := okK_in 39 (xs.length : Int) xs 0 [] (by omega) (by simp)
 simp only [List.map_nil, List.nil_append] at e2
 simp only [if_true, okK_setL]
 have e3 : (0 : Int) + 1 + (xs.length : Int) = (xs.length : Int) + 1 := by omega
 rw [e3]
 rw [e2]
 have e4 : decide (xs.length + 1 ≤ 20000) = decide (xs.length < 20000) := by
  rw [Bool.eq_iff_iff]
  simp only [decide_eq_true_eq]
  omega
 rw [e4]
 cases decide (xs.length < 20000) <;> cases okK 39 (xs.length : Int) 0 [] xs <;> cases fitsB wd <;> cases fitsB ht <;> cases fitsB dp <;> cases ls.all fitsB <;> rfl
def gluesAt (xs : List Nd) (Z : List Nat) : List Nat := Z.filter (fun p => (xs.getD p Nd.none).k == 3)
theorem gluesAt_yes (xs : List Nd) (Z : List Nat) {p : Nat} (h : (xs.getD p Nd.none).k = 3) : gluesAt xs (Z ++ [p]) = gluesAt xs Z ++ [p] := by
 unfold gluesAt
 rw [List.filter_append]
 simp only [List.filter_cons, List.filter_nil, h, beq_self_eq_true, if_true]
theorem gluesAt_no (xs : List Nd) (Z : List Nat) {p : Nat} (h : (xs.getD p Nd.none).k ≠ 3) : gluesAt xs (Z ++ [p]) = gluesAt xs Z := by
 unfold gluesAt
 rw [List.filter_append]
 have : ((xs.getD p Nd.none).k == 3) = false := by simpa using h
 simp only [List.filter_cons, List.filter_nil, this, Bool.false_eq_true, if_false, List.append_nil]
theorem rowStep_gs (s : RS) (x : Nd) : (rowStep s x).gs = if x.k = 3 then s.gs ++ [glOf x] else s.gs := by
 by_cases h : x.k = 3
 ·rw [rowStep_3 h, if_pos h]
  rfl
 ·rw [if_neg h]
  unfold rowStep
  split
  ·rfl
  ·split
   ·rfl
   ·rfl
theorem rowTo_gs_aux (xs : List Nd) : ∀ (Z : List Nat) (s : RS), (Z.foldl (fun s p => rowStep s (xs.getD p Nd.none)) s).gs = s.gs ++ (gluesAt xs Z).map (fun p => glOf (xs.getD p Nd.none))
 | [], s => by simp [gluesAt]
 | p :: Z, s => by
  rw [List.foldl_cons, rowTo_gs_aux xs Z, rowStep_gs]
  by_cases h : (xs.getD p Nd.none).k = 3
  ·have : gluesAt xs (p :: Z) = p :: gluesAt xs Z := by
    unfold gluesAt
    rw [List.filter_cons, if_pos (by rw [h]; rfl)]
   rw [if_pos h, this, List.map_cons, List.append_assoc]
   rfl
  ·have : gluesAt xs (p :: Z) = gluesAt xs Z := by
    unfold gluesAt
    rw [List.filter_cons, if_neg (by simpa using h)]
   rw [if_neg h, this]
theorem rowTo_gs (xs : List Nd) (Z : List Nat) : (rowTo xs Z).gs = (gluesAt xs Z).map (fun p => glOf (xs.getD p Nd.none)) := by
 have h := rowTo_gs_aux xs Z RS.nil
 rw [show RS.nil.gs = [] from rfl, List.nil_append] at h
 exact h
theorem setL_snoc : ∀ (ps : List Nat) (ls : List Int) (xs : List Nd) (p : Nat) (l : Int), ls.length = ps.length → setL (ps ++ [p]) (ls ++ [l]) xs = (setL ps ls xs).set p (((setL ps ls xs).getD p Nd.none).wide l)
 | [], [], xs, p, l, _ => rfl
 | q :: ps, m :: ls, xs, p, l, h => by
  simp only [List.cons_append, setL]
  exact setL_snoc ps ls _ p l (by simpa using h)
 | [], _ :: _, _, _, _, h => by simp at h
 | _ :: _, [], _, _, _, h => by simp at h
theorem wide_k (x : Nd) (l : Int) : (x.wide l).k = x.k := rfl
theorem set_k (xs : List Nd) (p q : Nat) (l : Int) : ((xs.set p ((xs.getD p Nd.none).wide l)).getD q Nd.none).k = (xs.getD q Nd.none).k := by
 by_cases h : q = p
 ·subst h
  by_cases hq : q < xs.length
  ·rw [getD_set_eq hq, wide_k]
  ·rw [List.getD_eq_getElem?_getD, List.getElem?_eq_none (by rw [List.length_set]; omega), List.getD_eq_getElem?_getD, List.getElem?_eq_none (by omega)]
 ·rw [getD_set_ne h]
theorem setL_k : ∀ (ps : List Nat) (ls : List Int) (xs : List Nd) (q : Nat), ((setL ps ls xs).getD q Nd.none).k = (xs.getD q Nd.none).k
 | p :: ps, l :: ls, xs, q => by rw [setL, setL_k ps ls, set_k]
 | [], _, xs, _ => by simp [setL]
 | _ :: _, [], xs, _ => by simp [setL]
theorem flatN_wide : ∀ (xs : List Nd) (p : Nat) (l : Int), p < xs.length → flatN (xs.set p ((xs.getD p Nd.none).wide l)) = (flatN xs).set (p * 15 + 1) (.int .i64 l)
 | [], p, l, h => by simp at h
 | x :: xs, 0, l, h => by
  simp only [List.getD_cons_zero, List.set_cons_zero, flatN]
  rfl
 | x :: xs, p + 1, l, h => by
  simp only [List.getD_cons_succ, List.set_cons_succ, flatN]
  rw [flatN_wide xs p l (by simpa using h), List.set_append_right _ _ (by rw [cells_len]; omega), cells_len, show (p + 1) * 15 + 1 - 15 = p * 15 + 1 by omega]
structure SInv (w wr : World) (va : Value) (Z : List Nat) (u : Value) (n : Nat) (ys : List Nd) : Prop where
 own : wr.ownsRow w.heap.size 36 15 u n (flatN ys)
 len : ys.length = n
 row : IR wr w.heap.size va Z.length (natI Z)
 bel : Below w.heap.size w wr
theorem SInv.below {w wr w' : World} {va : Value} {Z : List Nat} {u : Value} {n : Nat} {ys : List Nd} (h : SInv w wr va Z u n ys) (hb : Below wr.heap.size wr w') : SInv w w' va Z u n ys :=
 ⟨ownG_below h.own hb, h.len, h.row.below hb, below_more h.bel hb h.bel.size⟩
theorem SInv.put {w wr : World} {va : Value} {Z : List Nat} {g cap n : Nat} {ys : List Nd} (h : SInv w wr va Z (.slice (some ⟨g, 0, none⟩) n cap) n ys) {p : Nat} (hp : p < n) (l : Int) : SInv w (wr.setCell ⟨g, p * 15 + 1, none⟩ (.int .i64 l)) va Z (.slice (some ⟨g, 0, none⟩) n cap) n (ys.set p ((ys.getD p Nd.none).wide l)) := by
 have hne := ownG_ne h.row h.own (by decide)
 have hgb : w.heap.size ≤ g := (h.own.lt g rfl).1
 refine ⟨?_, by rw [List.length_set]; exact h.len, ownG_same h.row (fun b hb => Below.heap_setCell _ _ _ _ ?_), h.bel.setCell hgb _⟩
 ·rw [flatN_wide _ _ _ (by rw [h.len]; exact hp)]
  exact own_set h.own _ _
 ·rcases hne with h1 | h1
  ·rw [h1] at hb; cases hb
  ·intro e
   apply h1
   rw [hb]
   simp only [Value.ownBlock]
   simpa using e
end Go.Proofs.YtojoehdmjkgnnaaGreat
