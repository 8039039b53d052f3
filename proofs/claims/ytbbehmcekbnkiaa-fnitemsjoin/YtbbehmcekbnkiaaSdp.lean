/-
  How deep a list is, for every bound.
-/
import Derived.Test.YtbbehmcekbnkiaaHlp
import Derived.Laws.AppendOwnNone
namespace Go.Proofs.Ytbbehmcekbnkiaa
open Go.RowKit
set_option linter.unusedVariables false
set_option linter.unusedSimpArgs false

/-- As okFrom, with a bound on what is open, and of the nodes only their Kids and whether they hold something. -/
def okK (d : Nat) (len : Int) : Int → List Int → List Nd → Bool
  | _, _, [] => true
  | i, T, x :: xs =>
    let U := T.dropWhile (· == i)
    decide (x.kids ≤ U.headD len - i - 1) && (!deepB x || decide (U.length ≤ d)) && okK d len (i + 1) (if deepB x then (i + 1 + x.kids) :: U else U) xs
theorem okFrom_split (len : Int) : ∀ (xs : List Nd) (i : Int) (T : List Int), okFrom len i T xs = (okK 40 len i T xs && xs.all goodB)
  | [], _, _ => rfl
  | x :: xs, i, T => by
    simp only [okFrom, okK, List.all_cons]
    rw [okFrom_split len xs]
    cases goodB x <;> simp [Bool.and_assoc]
/-- A node with another width. -/
def Nd.wide (x : Nd) (l : Int) : Nd := ⟨x.k, l, x.ht, x.dp, x.sh, x.fo, x.ch, x.nn, x.gs, x.gp, x.gpo, x.gm, x.gmo, x.tx, x.kids⟩
/-- The widths of the nodes at these places, one by one. -/
def setL : List Nat → List Int → List Nd → List Nd
  | p :: ps, l :: ls, xs => setL ps ls (xs.set p ((xs.getD p Nd.none).wide l))
  | [], _, xs => xs
  | _ :: _, [], xs => xs
theorem setL_len : ∀ (ps : List Nat) (ls : List Int) (xs : List Nd), (setL ps ls xs).length = xs.length
  | p :: ps, l :: ls, xs => by rw [setL, setL_len ps ls, List.length_set]
  | [], _, xs => by simp [setL]
  | _ :: _, [], xs => by simp [setL]
theorem getD_set_ne {xs : List Nd} {p q : Nat} (h : q ≠ p) (y : Nd) : (xs.set p y).getD q Nd.none = xs.getD q Nd.none := by
  rw [List.getD_eq_getElem?_getD, List.getD_eq_getElem?_getD, List.getElem?_set_ne (by omega)]
theorem getD_set_eq {xs : List Nd} {p : Nat} (h : p < xs.length) (y : Nd) : (xs.set p y).getD p Nd.none = y := by
  rw [List.getD_eq_getElem?_getD, List.getElem?_set_self h]
  rfl
theorem all_getD {xs : List Nd} {f : Nd → Bool} : xs.all f = true ↔ ∀ j, j < xs.length → f (xs.getD j Nd.none) = true := by
  rw [List.all_eq_true]
  constructor
  · intro h j hj
    rw [List.getD_eq_getElem?_getD, List.getElem?_eq_getElem hj]
    exact h _ (List.getElem_mem hj)
  · intro h x hx
    obtain ⟨j, hj, rfl⟩ := List.getElem_of_mem hx
    have := h j hj
    rw [List.getD_eq_getElem?_getD, List.getElem?_eq_getElem hj] at this
    exact this
/-- A box of so many nodes. -/
def boxN (k wd ht dp : Int) (n : Nat) : Nd := ⟨k, wd, ht, dp, 0, 0, 0, 0, 0, 0, 0, 0, 0, ⟨#[]⟩, n⟩
/-- Whether a list can stand in a box: it can be, is not too long and not too deep. -/
def canB (xs : List Nd) : Bool := decide (xs.length < 20000) && okK 39 xs.length 0 [] xs && xs.all goodB

/-- Where among these places glues stand. -/
def gluesAt (xs : List Nd) (Z : List Nat) : List Nat := Z.filter (fun p => (xs.getD p Nd.none).k == 3)
theorem gluesAt_yes (xs : List Nd) (Z : List Nat) {p : Nat} (h : (xs.getD p Nd.none).k = 3) : gluesAt xs (Z ++ [p]) = gluesAt xs Z ++ [p] := by
  unfold gluesAt
  rw [List.filter_append]
  simp only [List.filter_cons, List.filter_nil, h, beq_self_eq_true, if_true]
theorem gluesAt_no (xs : List Nd) (Z : List Nat) {p : Nat} (h : (xs.getD p Nd.none).k ≠ 3) : gluesAt xs (Z ++ [p]) = gluesAt xs Z := by
  unfold gluesAt
  rw [List.filter_append]
  have : ((xs.getD p Nd.none).k == 3) = false := by simpa using h
  simp only [List.filter_cons, List.filter_nil, this, Bool.false_eq_true, if_false, List.append_nil]
theorem rowStep_gs (s : RS) (x : Nd) : (rowStep s x).gs = if x.k = 3 then s.gs ++ [glOf x] else s.gs := by
  by_cases h : x.k = 3
  · rw [rowStep_3 h, if_pos h]
    rfl
  · rw [if_neg h]
    unfold rowStep
    split
    · rfl
    · split
      · rfl
      · rfl
theorem rowTo_gs_aux (xs : List Nd) : ∀ (Z : List Nat) (s : RS), (Z.foldl (fun s p => rowStep s (xs.getD p Nd.none)) s).gs = s.gs ++ (gluesAt xs Z).map (fun p => glOf (xs.getD p Nd.none))
  | [], s => by simp [gluesAt]
  | p :: Z, s => by
    rw [List.foldl_cons, rowTo_gs_aux xs Z, rowStep_gs]
    by_cases h : (xs.getD p Nd.none).k = 3
    · have : gluesAt xs (p :: Z) = p :: gluesAt xs Z := by
        unfold gluesAt
        rw [List.filter_cons, if_pos (by rw [h]; rfl)]
      rw [if_pos h, this, List.map_cons, List.append_assoc]
      rfl
    · have : gluesAt xs (p :: Z) = gluesAt xs Z := by
        unfold gluesAt
        rw [List.filter_cons, if_neg (by simpa using h)]
      rw [if_neg h, this]
/-- The glues are those that stand at these places. -/
theorem rowTo_gs (xs : List Nd) (Z : List Nat) : (rowTo xs Z).gs = (gluesAt xs Z).map (fun p => glOf (xs.getD p Nd.none)) := by
  have h := rowTo_gs_aux xs Z RS.nil
  rw [show RS.nil.gs = [] from rfl, List.nil_append] at h
  exact h
theorem setL_snoc : ∀ (ps : List Nat) (ls : List Int) (xs : List Nd) (p : Nat) (l : Int), ls.length = ps.length → setL (ps ++ [p]) (ls ++ [l]) xs = (setL ps ls xs).set p (((setL ps ls xs).getD p Nd.none).wide l)
  | [], [], xs, p, l, _ => rfl
  | q :: ps, m :: ls, xs, p, l, h => by
    simp only [List.cons_append, setL]
    exact setL_snoc ps ls _ p l (by simpa using h)
  | [], _ :: _, _, _, _, h => by simp at h
  | _ :: _, [], _, _, _, h => by simp at h
theorem wide_k (x : Nd) (l : Int) : (x.wide l).k = x.k := rfl
theorem set_k (xs : List Nd) (p q : Nat) (l : Int) : ((xs.set p ((xs.getD p Nd.none).wide l)).getD q Nd.none).k = (xs.getD q Nd.none).k := by
  by_cases h : q = p
  · subst h
    by_cases hq : q < xs.length
    · rw [getD_set_eq hq, wide_k]
    · rw [List.getD_eq_getElem?_getD, List.getElem?_eq_none (by rw [List.length_set]; omega), List.getD_eq_getElem?_getD, List.getElem?_eq_none (by omega)]
  · rw [getD_set_ne h]
theorem setL_k : ∀ (ps : List Nat) (ls : List Int) (xs : List Nd) (q : Nat), ((setL ps ls xs).getD q Nd.none).k = (xs.getD q Nd.none).k
  | p :: ps, l :: ls, xs, q => by rw [setL, setL_k ps ls, set_k]
  | [], _, xs, _ => by simp [setL]
  | _ :: _, [], xs, _ => by simp [setL]
theorem flatN_wide : ∀ (xs : List Nd) (p : Nat) (l : Int), p < xs.length → flatN (xs.set p ((xs.getD p Nd.none).wide l)) = (flatN xs).set (p * 15 + 1) (.int .i64 l)
  | [], p, l, h => by simp at h
  | x :: xs, 0, l, h => by
    simp only [List.getD_cons_zero, List.set_cons_zero, flatN]
    rfl
  | x :: xs, p + 1, l, h => by
    simp only [List.getD_cons_succ, List.set_cons_succ, flatN]
    rw [flatN_wide xs p l (by simpa using h), List.set_append_right _ _ (by rw [cells_len]; omega), cells_len, show (p + 1) * 15 + 1 - 15 = p * 15 + 1 by omega]

/-- What stands while glues are set. -/
structure SInv (w wr : World) (va : Value) (Z : List Nat) (u : Value) (n : Nat) (ys : List Nd) : Prop where
  own : wr.ownsRow w.heap.size 32 15 u n (flatN ys)
  len : ys.length = n
  row : IR wr w.heap.size va Z.length (natI Z)
  bel : Below w.heap.size w wr
theorem SInv.below {w wr w' : World} {va : Value} {Z : List Nat} {u : Value} {n : Nat} {ys : List Nd} (h : SInv w wr va Z u n ys) (hb : Below wr.heap.size wr w') : SInv w w' va Z u n ys :=
  ⟨ownG_below h.own hb, h.len, h.row.below hb, below_more h.bel hb h.bel.size⟩
theorem SInv.put {w wr : World} {va : Value} {Z : List Nat} {g cap n : Nat} {ys : List Nd} (h : SInv w wr va Z (.slice (some ⟨g, 0, none⟩) n cap) n ys) {p : Nat} (hp : p < n) (l : Int) : SInv w (wr.setCell ⟨g, p * 15 + 1, none⟩ (.int .i64 l)) va Z (.slice (some ⟨g, 0, none⟩) n cap) n (ys.set p ((ys.getD p Nd.none).wide l)) := by
  have hne := ownG_ne h.row h.own (by decide)
  have hgb : w.heap.size ≤ g := (h.own.lt g rfl).1
  refine ⟨?_, by rw [List.length_set]; exact h.len, ownG_same h.row (fun b hb => Below.heap_setCell _ _ _ _ ?_), h.bel.setCell hgb _⟩
  · rw [flatN_wide _ _ _ (by rw [h.len]; exact hp)]
    exact own_set h.own _ _
  · rcases hne with h1 | h1
    · rw [h1] at hb; cases hb
    · intro e
      apply h1
      rw [hb]
      simp only [Value.ownBlock]
      simpa using e

set_option maxRecDepth 20000 in
set_option maxHeartbeats 8000000 in
theorem specSet_nil {lv : Value} {w : World} (hN : NRow 0 w (.slice none 0 0) []) :
    Calls Try.prog 34 #[.slice none 0 0, lv] w fun e w' => ∃ g c, e = .returned (.slice (some ⟨g, 0, none⟩) 0 c) ∧ w'.ownsRow w.heap.size 32 15 (.slice (some ⟨g, 0, none⟩) 0 c) 0 (flatN []) ∧ Below w.heap.size w w' := by
  have HC : Hid (∀ W, Below w.heap.size w W → Calls Try.prog 39 #[.slice none 0 0] W fun e w' => (∃ u, e = .returned u ∧ IR w' W.heap.size u 0 []) ∧ Below W.heap.size W w') := hideP (fun W hW => starts_any (hN.below ndStable hW) (by simp) (fun i hi => by simp at hi))
  obtain ⟨i0, hi, hz0, hz1, hz2⟩ := info_parts Try.info57c
  clear hN
  go_enter Try.func34, Try.ntmps34
  go_wp2_with (at_builtin; refine wpList_append_own_none _ rfl _ _ 24 rfl w.heap.size 32 i0 15 Try.underlying24 hi _ 0 [] rfl (World.ownsRow_made w #[] 0 (Nat.le_refl _) (Nat.zero_le _) (by simp)) rfl ?_)
  go_wp2_with fail
  refine (HC.out _ (below1 _ _)).mono ?_
  rintro e w1 ⟨⟨va, rfl, hI⟩, hb1⟩
  have J0 : Hid (w1.ownsRow w.heap.size 32 15 (.slice (some ⟨w.heap.size, 0, none⟩) 0 0) 0 [] ∧ Below w.heap.size w w1) := hideP ⟨ownG_below (World.ownsRow_made w #[] 0 (Nat.le_refl _) (Nat.zero_le _) (by simp)) hb1, below_more (below1 _ _) hb1 (by simp)⟩
  obtain ⟨aa, ca, rfl⟩ := ownG_shape hI
  clear hI hb1 HC
  go_wp2
  go_loopw [7, 8] (fun kk i wr => i = .int .i64 0 ∧ wr = w1) (fun _ _ _ => 0)
  case atStart => exact ⟨rfl, rfl⟩
  case round =>
    obtain ⟨rfl, rfl⟩ := hrel
    go_wp2
    go_ret
    exact ⟨_, _, rfl, J0.out.1, J0.out.2⟩

set_option maxRecDepth 20000 in
set_option maxHeartbeats 8000000 in
theorem specSet_some {b off cap : Nat} {lv : Value} {xs : List Nd} {ls : List Int} {w : World} (hN : NRow 0 w (.slice (some ⟨b, off, none⟩) xs.length cap) xs) (hcap : xs.length ≤ cap) (hok : AllOk xs) (hb : 0 < xs.length → b < w.heap.size) (hc : ∀ j u, (flatN xs)[j]? = some u → w.cell? ⟨b, off + j, none⟩ = some u) (hL : Shr.Row w lv ls) (hls : ls.length = (gluesAt xs (starts xs (xs.length + 1) 0)).length) :
    Calls Try.prog 34 #[.slice (some ⟨b, off, none⟩) xs.length cap, lv] w fun e w' => ∃ g c, e = .returned (.slice (some ⟨g, 0, none⟩) xs.length c) ∧ w'.ownsRow w.heap.size 32 15 (.slice (some ⟨g, 0, none⟩) xs.length c) xs.length (flatN (setL (gluesAt xs (starts xs (xs.length + 1) 0)) ls xs)) ∧ Below w.heap.size w w' := by
  have HC : Hid (∀ W, Below w.heap.size w W → Calls Try.prog 39 #[.slice (some ⟨b, off, none⟩) xs.length cap] W fun e w' => (∃ u, e = .returned u ∧ IR w' W.heap.size u (starts xs (xs.length + 1) 0).length (natI (starts xs (xs.length + 1) 0))) ∧ Below W.heap.size W w') := hideP (fun W hW => starts_any (hN.below ndStable hW) hok.len hok.weak)
  obtain ⟨i0, hi, hz0, hz1, hz2⟩ := info_parts Try.info57c
  obtain ⟨al, nl, cl, rfl, hll, hlr⟩ := hL
  have hn : xs.length ≤ 20000 := hok.len
  obtain ⟨n, hl⟩ : ∃ n, n = xs.length := ⟨_, rfl⟩
  rw [← hl] at HC hn hcap hb
  rw [← hl]
  obtain ⟨Z, hZ⟩ : ∃ Z, Z = starts xs (n + 1) 0 := ⟨_, rfl⟩
  rw [← hl, ← hZ] at hls
  rw [← hZ] at HC
  rw [← hZ]
  have HZP : Hid (∀ p ∈ Z, p < n) := hideP (fun p hp => by rw [hl]; exact starts_lt xs _ _ p (by rw [← hZ]; exact hp))
  have HLR : Hid (0 < nl → ∃ b off, al = some ⟨b, off, none⟩ ∧ b < w.heap.size ∧ ∀ i, i < nl → w.cell? ⟨b, off + i, none⟩ = some (.int .i64 (ls.getD i 0))) := hideP hlr
  have HLL : Hid (ls.length = nl) := hideP hll
  have HLS : Hid (ls.length = (gluesAt xs Z).length) := hideP hls
  have HFC : Hid (∀ j u, (flatN xs)[j]? = some u → w.cell? ⟨b, off + j, none⟩ = some u) := hideP hc
  have HLEN : Hid (n = xs.length) := hideP hl
  obtain ⟨r, hrz⟩ : ∃ r, r = Z.length := ⟨_, rfl⟩
  have HRZ := hideP hrz
  have hr20 : r ≤ 20000 := by
    rw [hrz, hZ]
    have := starts_count (xs := xs) (n + 1) 0
    omega
  clear hlr hll hls hc hl hZ hrz hN hok hb
  go_enter Try.func34, Try.ntmps34
  go_wp2_with (at_builtin; refine wpList_append_own _ rfl _ _ 24 rfl w.heap.size 32 i0 _ 15 128 Try.underlying24 hi hz0 hz1 hz2 rfl (by decide) _ _ _ rfl (World.ownsRow_made w #[] 0 (Nat.le_refl _) (Nat.zero_le _) (by simp)) ⟨b, off, none⟩ n cap (flatN xs) rfl ?c1 ?c2 ?c3 ?c4 ?c5 ?c6 ?_)
  case c1 => rw [flatN_len, ← HLEN.out]
  case c2 =>
    intro j u hj
    rw [Addr.add_lit]
    exact Lib.cell?_alloc_some _ (HFC.out j u hj)
  case c3 => exact flatN_one xs
  case c4 => unfold maxLen; omega
  case c5 => omega
  case c6 => simp
  intro vo w0 hown hgrow hnil
  have hown2 : w0.ownsRow w.heap.size 32 15 vo n (flatN xs) := by simpa using hown
  have hsh : ∃ g c, vo = .slice (some ⟨g, 0, none⟩) n c := by
    rcases hown2.2 with ⟨h0, _⟩ | ⟨g, c, cur, he, _⟩
    · exact (hnil h0).elim
    · exact ⟨g, c, he⟩
  have HO : Hid (w0.ownsRow w.heap.size 32 15 vo n (flatN xs) ∧ Below w.heap.size w w0) := hideP ⟨hown2, ((Below.refl _ w).alloc (Nat.le_refl _) _).grown hgrow (by simp) (by intro k hk; simp [Value.ownBlock] at hk; omega)⟩
  clear hown hgrow hnil HFC hown2
  obtain ⟨GO, co, rfl⟩ := hsh
  go_wp2_with fail
  refine (HC.out _ HO.out.2).mono ?_
  rintro e w1 ⟨⟨va, rfl, hI⟩, hb1⟩
  have J0 : Hid (SInv w w1 va Z (.slice (some ⟨GO, 0, none⟩) n co) n xs) := hideP ⟨ownG_below HO.out.1 hb1, HLEN.out.symm, ownG_mono hI HO.out.2.size, below_more HO.out.2 hb1 HO.out.2.size⟩
  obtain ⟨aa, ca, rfl⟩ := ownG_shape hI
  rw [← HRZ.out]
  clear hI hb1 HC HO
  go_wp2
  go_loopw [7, 8] (fun kk i wr => ∃ (k j : Nat), k ≤ r ∧ i = .int .i64 k ∧ kk = .int .i64 j ∧ Hid (j = (gluesAt xs (Z.take k)).length) ∧ j ≤ k ∧ Hid (SInv w wr (.slice aa r ca) Z (.slice (some ⟨GO, 0, none⟩) n co) n (setL (gluesAt xs (Z.take k)) (ls.take j) xs))) (fun _ i _ => r - (intOf i).toNat)
  case atStart => exact ⟨0, 0, by omega, rfl, rfl, hideP rfl, by omega, by rw [HRZ.out]; exact J0⟩
  case round =>
    obtain ⟨k, j, hk, rfl, rfl, HJK, hjk, HS⟩ := hrel
    by_cases hkr : k < r
    · have hki : (k : Int) < (r : Int) := by omega
      obtain ⟨p, hp⟩ : ∃ p, p = Z.getD k 0 := ⟨_, rfl⟩
      have hpn : p < n := by
        rw [hp]
        refine HZP.out _ ?_
        rw [List.getD_eq_getElem?_getD, List.getElem?_eq_getElem (by rw [← HRZ.out]; exact hkr)]
        exact List.getElem_mem _
      have hpi : (p : Int) < (n : Int) := by omega
      have HTK : Hid (Z.take (k + 1) = Z.take k ++ [p]) := hideP (by rw [hp]; exact take_snoc Z k 0 (by rw [← HRZ.out]; exact hkr))
      obtain ⟨GZ, rfl⟩ : ∃ GZ, aa = some ⟨GZ, 0, none⟩ := by
        rcases HS.out.row.2 with ⟨_, h0⟩ | ⟨g, c, cur, he, _⟩
        · rw [← HRZ.out] at h0; omega
        · cases he; exact ⟨g, rfl⟩
      have hcz : wr.cell? ⟨GZ, k, none⟩ = some (.int .i64 (p : Int)) := by
        have h0 := HS.out.row
        rw [← HRZ.out] at h0
        have h1 := natI_at (j := k) h0 HRZ.out.symm hkr
        rw [← hp] at h1
        exact h1
      obtain ⟨ys, hys⟩ : ∃ ys, ys = setL (gluesAt xs (Z.take k)) (ls.take j) xs := ⟨_, rfl⟩
      rw [← hys] at HS
      have HYS := hideP hys
      have hkk : (ys.getD p Nd.none).k = (xs.getD p Nd.none).k := by rw [hys]; exact setL_k _ _ _ _
      obtain ⟨kd, hkd⟩ : ∃ kd, kd = (xs.getD p Nd.none).k := ⟨_, rfl⟩
      have HKD := hideP hkd
      have c0 : wr.cell? ⟨GO, p * 15, none⟩ = some (.int .i64 kd) := (own_cell (j := p * 15) HS.out.own (flatN_at ys p (by rw [HS.out.len]; exact hpn) 0 (by omega) (by rw [hkd, ← hkk]; rfl))).1
      obtain ⟨lw, c1⟩ : ∃ lw, wr.cell? ⟨GO, p * 15 + 1, none⟩ = some (.int .i64 lw) := ⟨_, (own_cell (j := p * 15 + 1) HS.out.own (flatN_at ys p (by rw [HS.out.len]; exact hpn) 1 (by omega) rfl)).1⟩
      have c1f : wr.frozen? ⟨GO, p * 15 + 1, none⟩ = false := (own_cell (j := p * 15 + 1) HS.out.own (flatN_at ys p (by rw [HS.out.len]; exact hpn) 1 (by omega) rfl)).2
      clear hys hkk hkd hp
      by_cases h3 : kd = 3
      · have HG1 : Hid (gluesAt xs (Z.take (k + 1)) = gluesAt xs (Z.take k) ++ [p]) := hideP (by rw [HTK.out]; exact gluesAt_yes xs _ (by rw [← HKD.out]; exact h3))
        have hjl : j < ls.length := by
          rw [HLS.out, HJK.out]
          have h1 : (gluesAt xs (Z.take (k + 1))).length ≤ (gluesAt xs Z).length := by
            unfold gluesAt
            exact ((List.take_sublist (k + 1) Z).filter _).length_le
          rw [HG1.out, List.length_append, List.length_singleton] at h1
          omega
        have hjn : j < nl := by rw [← HLL.out]; exact hjl
        have hji : (j : Int) < (nl : Int) := by omega
        have hnl : nl ≤ 20000 := by
          have h1 : (gluesAt xs Z).length ≤ Z.length := List.length_filter_le _ _
          have h2 := HLS.out
          have h3 := HLL.out
          have h4 := HRZ.out
          omega
        obtain ⟨bl, ol, rfl, hbl, hcl⟩ := HLR.out (by omega)
        obtain ⟨l, hl⟩ : ∃ l, l = ls.getD j 0 := ⟨_, rfl⟩
        have cl0 : wr.cell? ⟨bl, ol + j, none⟩ = some (.int .i64 l) := (HS.out.bel.cell (p := ⟨bl, ol + j, none⟩) hbl).trans (by rw [hl]; exact hcl j hjn)
        have J1 : Hid (SInv w (wr.setCell ⟨GO, p * 15 + 1, none⟩ (.int .i64 l)).drew (.slice (some ⟨GZ, 0, none⟩) r ca) Z (.slice (some ⟨GO, 0, none⟩) n co) n (setL (gluesAt xs (Z.take (k + 1))) (ls.take (j + 1)) xs)) := hideP (by
          have h1 := HS.out.put hpn l
          rw [HG1.out, take_snoc ls j 0 hjl, ← hl, setL_snoc _ _ _ _ _ (by rw [List.length_take, ← HJK.out]; omega), ← HYS.out]
          exact h1.below (Below.drew (Below.refl _ _)))
        have HJ1 : Hid (j + 1 = (gluesAt xs (Z.take (k + 1))).length) := hideP (by rw [HG1.out, List.length_append, ← HJK.out]; rfl)
        subst h3
        clear hcl hl
        go_wp2
        go_region
        go_wp2
        go_roundw
        case rel => exact ⟨k + 1, j + 1, by omega, by go_num, by go_num, HJ1, by omega, J1⟩
        case measure => simp [intOf]; omega
      · have HG1 : Hid (gluesAt xs (Z.take (k + 1)) = gluesAt xs (Z.take k)) := hideP (by rw [HTK.out]; exact gluesAt_no xs _ (by rw [← HKD.out]; exact h3))
        have J1 : Hid (SInv w wr (.slice (some ⟨GZ, 0, none⟩) r ca) Z (.slice (some ⟨GO, 0, none⟩) n co) n (setL (gluesAt xs (Z.take (k + 1))) (ls.take j) xs)) := hideP (by rw [HG1.out, ← HYS.out]; exact HS.out)
        have HJ1 : Hid (j = (gluesAt xs (Z.take (k + 1))).length) := hideP (by rw [HG1.out]; exact HJK.out)
        go_wp2
        go_roundw
        case rel => exact ⟨k + 1, j, by omega, by go_num, rfl, HJ1, by omega, J1⟩
        case measure => simp [intOf]; omega
    · have hki : ¬ (k : Int) < (r : Int) := by omega
      have HE : Hid (wr.ownsRow w.heap.size 32 15 (.slice (some ⟨GO, 0, none⟩) n co) n (flatN (setL (gluesAt xs Z) ls xs))) := hideP (by
        have h1 := HS.out.own
        rw [show k = Z.length by rw [← HRZ.out]; omega, List.take_length] at h1
        have h2 := HJK.out
        rw [show k = Z.length by rw [← HRZ.out]; omega, List.take_length, ← HLS.out] at h2
        rw [h2, List.take_length] at h1
        exact h1)
      go_wp2
      go_ret
      exact ⟨_, _, rfl, HE.out, HS.out.bel⟩

/-- As okFrom, with a bound on what is open. -/
def okD (d : Nat) (len : Int) : Int → List Int → List Nd → Bool
  | _, _, [] => true
  | i, T, x :: xs =>
    let U := T.dropWhile (· == i)
    goodB x && decide (x.kids ≤ U.headD len - i - 1) && (!deepB x || decide (U.length ≤ d)) && okD d len (i + 1) (if deepB x then (i + 1 + x.kids) :: U else U) xs
theorem okD_split (d : Nat) (len : Int) : ∀ (xs : List Nd) (i : Int) (T : List Int), okD d len i T xs = (okK d len i T xs && xs.all goodB)
  | [], _, _ => rfl
  | x :: xs, i, T => by
    simp only [okD, okK, List.all_cons]
    rw [okD_split d len xs]
    cases goodB x <;> simp [Bool.and_assoc]
theorem okD_pad (d : Nat) (len i : Int) (T : List Int) (xs : List Nd) : okD d len i (i :: T) xs = okD d len i T xs := by
  cases xs with
  | nil => rfl
  | cons x xs => simp [okD]
structure LeftD (xs : List Nd) (k : Nat) (T : List Int) (m : Int) : Prop where
  opn : Open k T
  most : ∀ y ∈ T, y ≤ xs.length
  len : T.length ≤ k
  pos : 0 ≤ m
  small : m ≤ k + 1
  same : ∀ d : Nat, okD d xs.length 0 [] xs = (decide (m ≤ (d : Int) + 1) && okD d xs.length k T (xs.drop k))
theorem LeftD.start (xs : List Nd) : LeftD xs 0 [] 0 := ⟨⟨by simp, by simp⟩, by simp, by simp, by omega, by omega, fun d => by simp; omega⟩
theorem LeftD.done {xs : List Nd} {T : List Int} {m : Int} (h : LeftD xs xs.length T m)  (d : Nat) : okD d xs.length 0 [] xs = decide (m ≤ (d : Int) + 1) := by
  rw [h.same]
  simp [okD]
theorem LeftD.step {xs : List Nd} {k : Nat} {T : List Int} {m : Int} (h : LeftD xs k T m) (hk : k < xs.length)  (d : Nat) : okD d xs.length 0 [] xs = (decide (m ≤ (d : Int) + 1) &&
    (goodB (xs.getD k Nd.none) && decide ((xs.getD k Nd.none).kids ≤ (T.dropWhile (· == (k : Int))).headD xs.length - k - 1) && (!deepB (xs.getD k Nd.none) || decide ((T.dropWhile (· == (k : Int))).length ≤ d)) &&
      okD d xs.length (k + 1) (if deepB (xs.getD k Nd.none) then ((k : Int) + 1 + (xs.getD k Nd.none).kids) :: T.dropWhile (· == (k : Int)) else T.dropWhile (· == (k : Int))) (xs.drop (k + 1)))) := by
  rw [h.same, drop_at hk]
  rfl
theorem LeftD.top {xs : List Nd} {k : Nat} {T : List Int} {m : Int} (h : LeftD xs k T m) (hk : k < xs.length) : (k : Int) + 1 ≤ (T.dropWhile (· == (k : Int))).headD xs.length ∧ (T.dropWhile (· == (k : Int))).headD xs.length ≤ xs.length := by
  refine ⟨h.opn.pop.head (by omega), ?_⟩
  cases he : T.dropWhile (· == (k : Int)) with
  | nil => simp
  | cons a U =>
    have := h.most a (drop_mem (by rw [he]; exact List.mem_cons_self ..))
    simpa using this
theorem LeftD.bad {xs : List Nd} {k : Nat} {T : List Int} {m : Int} (h : LeftD xs k T m) (hk : k < xs.length) (hg : goodB (xs.getD k Nd.none) = false)  (d : Nat) : okD d xs.length 0 [] xs = false := by
  rw [h.step hk, hg]
  simp
theorem LeftD.over {xs : List Nd} {k : Nat} {T : List Int} {m : Int} (h : LeftD xs k T m) (hk : k < xs.length) (hg : ¬ (xs.getD k Nd.none).kids ≤ (T.dropWhile (· == (k : Int))).headD xs.length - k - 1)  (d : Nat) : okD d xs.length 0 [] xs = false := by
  rw [h.step hk, decide_eq_false hg]
  simp
theorem drop_len2 {p : Int → Bool} (T : List Int) : (T.dropWhile p).length ≤ T.length := (List.dropWhile_sublist p).length_le
theorem LeftD.flat {xs : List Nd} {k : Nat} {T : List Int} {m : Int} (h : LeftD xs k T m) (hk : k < xs.length) (hg : goodB (xs.getD k Nd.none) = true) (hd : deepB (xs.getD k Nd.none) = false) : LeftD xs (k + 1) (T.dropWhile (· == (k : Int))) m := by
  have h0 := flat_kids hg hd
  have ht := h.top hk
  refine ⟨by simpa using h.opn.pop, fun y hy => h.most y (drop_mem hy), Nat.le_trans (drop_len2 T) (Nat.le_succ_of_le h.len), h.pos, by have := h.small; push_cast; omega, fun d => ?_⟩
  rw [h.step hk, hg, hd, h0, decide_eq_true (p := (0 : Int) ≤ (T.dropWhile (· == (k : Int))).headD xs.length - k - 1) (by omega)]
  simp
theorem mostOf_leD (d : Nat) (m : Int) (q : Nat) (r : Bool) : (decide (m ≤ (d : Int) + 1) && (decide (q ≤ d) && r)) = (decide (mostOf m q ≤ (d : Int) + 1) && r) := by
  unfold mostOf
  cases r <;> simp
  split
  · rw [Bool.eq_iff_iff]; simp; omega
  · rw [Bool.eq_iff_iff]; simp; omega
theorem LeftD.deep {xs : List Nd} {k : Nat} {T : List Int} {m : Int} (h : LeftD xs k T m) (hk : k < xs.length) (hg : goodB (xs.getD k Nd.none) = true) (hd : deepB (xs.getD k Nd.none) = true) (hle : (xs.getD k Nd.none).kids ≤ (T.dropWhile (· == (k : Int))).headD xs.length - k - 1) :
    LeftD xs (k + 1) (((k : Int) + 1 + (xs.getD k Nd.none).kids) :: T.dropWhile (· == (k : Int))) (mostOf m (T.dropWhile (· == (k : Int))).length) := by
  have hk0 : 0 ≤ (xs.getD k Nd.none).kids := by
    unfold goodB at hg
    simp at hg
    exact hg.2
  have ht := h.top hk
  have hl := drop_len2 (p := (· == (k : Int))) T
  have hl2 := h.len
  have hs := h.small
  have hp := h.pos
  refine ⟨Open.push (by simpa using h.opn.pop) (by push_cast; omega) fun len => ?_, fun y hy => ?_, by simp; omega, by unfold mostOf; split <;> omega, by unfold mostOf; push_cast; split <;> omega, fun d => ?_⟩
  · cases he : T.dropWhile (· == (k : Int)) with
    | nil => exact .inr rfl
    | cons a U =>
      rw [he] at hle
      simp at hle ⊢
      omega
  · rcases List.mem_cons.1 hy with rfl | hy
    · omega
    · exact h.most y (drop_mem hy)
  · rw [h.step hk, hg, hd, decide_eq_true hle]
    simp only [Bool.true_and, Bool.not_true, Bool.false_or, if_true]
    rw [mostOf_leD]
    push_cast
    rfl
theorem LeftD.empty {xs : List Nd} {k : Nat} {U : List Int} {m : Int} (h : LeftD xs (k + 1) (((k : Int) + 1) :: U) m) : LeftD xs (k + 1) U m := by
  refine ⟨⟨fun y hy => h.opn.1 y (List.mem_cons_of_mem _ hy), (List.pairwise_cons.1 h.opn.2).2⟩, fun y hy => h.most y (List.mem_cons_of_mem _ hy), by have := h.len; simp at this; omega, h.pos, h.small, fun d => ?_⟩
  rw [h.same]
  have := okD_pad d xs.length ((k : Int) + 1) U (xs.drop (k + 1))
  push_cast
  rw [this]
end Go.Proofs.Ytbbehmcekbnkiaa
