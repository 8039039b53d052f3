/-
  The program's parts of a row of codes.
-/
import Derived.Test.YtggcfgbpameppaaShn
namespace Go.Proofs.Ytggcfgbpameppaa
open Go.RowKit Go.Maps
set_option linter.unusedVariables false
set_option linter.unusedSimpArgs false

/-- Parts in their cells. -/
def f3 (ts : List (Int × Int × Int)) : List Value := ts.flatMap (fun t => [.int .i64 t.1, .int .i64 t.2.1, .int .i64 t.2.2])
theorem f3_snoc (ts : List (Int × Int × Int)) (a b c : Int) : f3 (ts ++ [(a, b, c)]) = f3 ts ++ [.int .i64 a, .int .i64 b, .int .i64 c] := by simp [f3]
theorem f3_len (ts : List (Int × Int × Int)) : (f3 ts).length = ts.length * 3 := by
  induction ts with
  | nil => rfl
  | cons t r ih => simp only [f3, List.flatMap_cons, List.length_append] at ih ⊢; rw [ih]; simp only [List.length_cons, List.length_nil]; omega
theorem new3 (w : World) (a b c : Value) (t : TypeId) : ∀ j u, [a, b, c][j]? = some u → (w.alloc (.cells #[a, b, c] t)).cell? ((⟨w.heap.size, 0, none⟩ : Addr).add j) = some u := by
  intro j u hj
  match j, hj with
  | 0, hj => simp at hj; subst hj; simp [Addr.add, go_sem]
  | 1, hj => simp at hj; subst hj; simp [Addr.add, go_sem]
  | 2, hj => simp at hj; subst hj; simp [Addr.add, go_sem]
theorem one3 (a b c : Int) : ∀ u ∈ [Value.int .i64 a, .int .i64 b, .int .i64 c], u.oneCell' = true := by
  intro u hu
  simp at hu
  rcases hu with rfl | rfl | rfl <;> rfl
theorem set3 {W : World} {P t : Nat} {a b c : Value} (h : W.heap[P]? = some (.cells #[a, b, c] t (0, 0))) (a' b' c' : Value) : (((W.setCell ⟨P, 0, none⟩ a').setCell ⟨P, 1, none⟩ b').setCell ⟨P, 2, none⟩ c').heap[P]? = some (.cells #[a', b', c'] t (0, 0)) :=
  heap_setCell_same _ P 2 _ t c' (heap_setCell_same _ P 1 _ t b' (heap_setCell_same W P 0 _ t a' h))
theorem set3_other {W : World} {P g : Nat} (hg : g ≠ P) (a b c : Value) : (((W.setCell ⟨P, 0, none⟩ a).setCell ⟨P, 1, none⟩ b).setCell ⟨P, 2, none⟩ c).heap[g]? = W.heap[g]? := by
  rw [Below.heap_setCell _ _ _ _ (by simpa using hg), Below.heap_setCell _ _ _ _ (by simpa using hg), Below.heap_setCell _ _ _ _ (by simpa using hg)]

/-- What stands while the parts of a row are put together. -/
structure JInv (w wr : World) (u : Value) (acc : List (Int × Int × Int)) (cc nc : Int) : Prop where
  own : wr.ownsRow w.heap.size 83 3 u acc.length (f3 acc)
  blk : wr.heap[w.heap.size + 1]? = some (.cells #[.int .i64 cc, .int .i64 0, .int .i64 nc] 83 (0, 0))
  off : u.ownBlock ≠ some (w.heap.size + 1)
  bel : Below w.heap.size w wr
theorem JInv.lt {w wr : World} {u : Value} {acc : List (Int × Int × Int)} {cc nc : Int} (h : JInv w wr u acc cc nc) : w.heap.size + 1 < wr.heap.size := (Array.getElem?_eq_some_iff.1 h.blk).1
theorem JInv.own' {w wr : World} {u : Value} {acc : List (Int × Int × Int)} {cc nc : Int} {m : Nat} (h : JInv w wr u acc cc nc) (hm : m = acc.length) : wr.ownsRow w.heap.size 83 3 u m (f3 acc) := by rw [hm]; exact h.own
theorem JInv.below {w wr w' : World} {u : Value} {acc : List (Int × Int × Int)} {cc nc : Int} (h : JInv w wr u acc cc nc) (hb : Below wr.heap.size wr w') : JInv w w' u acc cc nc :=
  ⟨own_below h.own hb, (hb.block _ h.lt).trans h.blk, h.off, below_more h.bel hb h.bel.size⟩
theorem JInv.at {w wr : World} {u : Value} {acc : List (Int × Int × Int)} {cc nc : Int} (h : JInv w wr u acc cc nc) : wr.cell? ⟨w.heap.size + 1, 0, none⟩ = some (.int .i64 cc) ∧ wr.cell? ⟨w.heap.size + 1, 1, none⟩ = some (.int .i64 0) ∧ wr.cell? ⟨w.heap.size + 1, 2, none⟩ = some (.int .i64 nc) ∧ ∀ j, wr.frozen? ⟨w.heap.size + 1, j, none⟩ = false :=
  ⟨by rw [cell_of_row _ _ _ _ _ _ h.blk]; rfl, by rw [cell_of_row _ _ _ _ _ _ h.blk]; rfl, by rw [cell_of_row _ _ _ _ _ _ h.blk]; rfl, fun j => frozen_of_row _ _ _ _ _ h.blk⟩
theorem JInv.set {w wr : World} {u : Value} {acc : List (Int × Int × Int)} {cc nc : Int} (h : JInv w wr u acc cc nc) (a c : Int) : JInv w (((wr.setCell ⟨w.heap.size + 1, 0, none⟩ (.int .i64 a)).setCell ⟨w.heap.size + 1, 1, none⟩ (.int .i64 0)).setCell ⟨w.heap.size + 1, 2, none⟩ (.int .i64 c)) u acc a c :=
  ⟨own_same h.own (fun g hg => set3_other (fun e => h.off (by rw [hg, e])) _ _ _), set3 h.blk _ _ _, h.off, ((h.bel.setCell (Nat.le_succ _) _).setCell (Nat.le_succ _) _).setCell (Nat.le_succ _) _⟩
theorem JInv.put {w wr w' : World} {u u' : Value} {acc : List (Int × Int × Int)} {cc nc a b c : Int} {o : Obj} (h : JInv w wr u acc cc nc) (ho : w'.ownsRow w.heap.size 83 3 u' (acc.length + 1) (f3 acc ++ [.int .i64 a, .int .i64 b, .int .i64 c])) (hg : (wr.alloc o).grownBy w' u.ownBlock) (hat : u'.ownBlock = u.ownBlock ∨ u'.ownBlock = some (wr.alloc o).heap.size) : JInv w w' u' (acc ++ [(a, b, c)]) cc nc := by
  have hz := h.lt
  refine ⟨by rw [f3_snoc, List.length_append]; exact ho, ?_, ?_, Below.grown (h.bel.alloc h.bel.size o) hg (by simp; have := h.bel.size; omega) (fun j hj => (h.own.lt j hj).1)⟩
  · rw [hg.block _ (by simp; omega) (fun e => h.off e.symm)]
    exact ((below1 wr o).block _ hz).trans h.blk
  · rcases hat with e | e
    · rw [e]; exact h.off
    · rw [e]
      intro e2
      simp at e2
      omega

/-- The parts of a row of codes. -/
def jl (ps : List Q4) : List Int → List (Int × Int × Int)
  | [] => []
  | x :: t => jn ps x 1 t
theorem jl_st (gs ps : List Q4) (bs : List Int) : jl ps (bs.filter (hasB gs)) = stL gs ps bs := by
  unfold stL
  cases bs.filter (hasB gs) <;> rfl

set_option maxRecDepth 20000 in
set_option maxHeartbeats 8000000 in
theorem joined_any {v u : Value} {lo lo2 : Nat} {gs ps : List Q4} {cs : List Int} {w : World} (hf : Face w v lo gs ps) (hpr : ∀ l r, I64 (prO ps l r).c) (hcs : ∀ x ∈ cs, I64 x) (h : w.ownsRow lo2 2 1 u cs.length (fi cs)) (hl : cs.length ≤ 1000) :
    Calls Try.prog 58 #[u, .func (.func 60) #[v] #[]] w fun e w' => ∃ t, e = .returned t ∧ w'.ownsRow w.heap.size 83 3 t (jl ps cs).length (f3 (jl ps cs)) ∧ Below w.heap.size w w' := by
  obtain ⟨i1, hi, hz0, hz1, hz2⟩ := info_parts Try.info83
  have OWN0 : Hid ((w.alloc (.cells #[] 83)).ownsRow w.heap.size 83 3 (.slice (some ⟨w.heap.size, 0, none⟩) 0 0) 0 []) := hideP ⟨rfl, Or.inr ⟨w.heap.size, 0, #[], rfl, Nat.le_refl _, heap_alloc_new _ _, Nat.le_refl _, by unfold maxLen; omega, rfl, rfl⟩⟩
  cases cs with
  | nil =>
    obtain ⟨a, c, rfl⟩ := ownG_shape h
    clear h hcs hl hpr hf
    simp only [List.length_nil]
    go_enter Try.func58, Try.ntmps58
    go_wp2
    go_ret
    exact ⟨_, rfl, OWN0.out, below1 _ _⟩
  | cons c0 cr =>
    have HFC := hideP hf
    have HPR := hideP hpr
    have HCS := hideP hcs
    have HOW := hideP h
    obtain ⟨n, hn⟩ : ∃ n, n = cr.length := ⟨_, rfl⟩
    have hnl : n ≤ 999 := by simp only [List.length_cons] at hl; omega
    have h' := h
    simp only [List.length_cons, ← hn] at h'
    obtain ⟨g, cap, rfl, hcap, hg⟩ : ∃ g cap, u = .slice (some ⟨g, 0, none⟩) (n + 1) cap ∧ n + 1 ≤ cap ∧ g < w.heap.size := by
      rcases h'.2 with ⟨_, h2⟩ | ⟨g, cap, cur, rfl, _, h3, h4, _⟩
      · omega
      · exact ⟨g, cap, rfl, h4, (Array.getElem?_eq_some_iff.1 h3).1⟩
    have CL : Hid (∀ W, Below w.heap.size w W → ∀ j, j < n + 1 → W.cell? ⟨g, j, none⟩ = some (.int .i64 ((c0 :: cr).getD j 0))) := hideP (fun W hW j hj => by
      rw [hW.cell (p := ⟨g, j, none⟩) hg]
      have := World.ownsRow.cellAt h' j (by omega)
      rw [this]
      simp only [fi]
      rw [List.getElem?_map, List.getElem?_eq_getElem (by simp only [List.length_cons]; omega), List.getD_eq_getElem?_getD, List.getElem?_eq_getElem (by simp only [List.length_cons]; omega)]
      rfl)
    have HN := hideP hn
    have HI0 : Hid (I64 c0) := hideP (hcs c0 (by simp))
    clear h h' hl hcs hf hpr hn
    obtain ⟨T, hT⟩ : ∃ T, T = jl ps (c0 :: cr) := ⟨_, rfl⟩
    have HT := hideP hT
    rw [← hT]
    clear hT
    have k0 := CL.out _ (below1 w (.cells #[] 83)) 0 (by omega)
    simp only [List.getD_cons_zero] at k0
    have J0 : Hid (JInv w ((w.alloc (.cells #[] 83)).alloc (.cells #[.int .i64 c0, .int .i64 0, .int .i64 1] 83)) (.slice (some ⟨w.heap.size, 0, none⟩) 0 0) [] c0 1) := hideP ⟨OWN0.out.alloc _, by have h := heap_alloc_new (w.alloc (.cells #[] 83)) (.cells #[.int .i64 c0, .int .i64 0, .int .i64 1] 83); rw [World.size_alloc] at h; exact h, by simp [Value.ownBlock], below2 _ _ _⟩
    clear OWN0
    by_cases hc1 : cap = 1
    · obtain rfl : n = 0 := by omega
      subst hc1
      obtain rfl : cr = [] := List.eq_nil_of_length_eq_zero HN.out.symm
      have HE : Hid (T = [(c0, 0, 1)]) := hideP HT.out
      go_enter Try.func58, Try.ntmps58
      go_wp2
      go_loopw [5, 23] (fun u i wr => u = .slice (some ⟨w.heap.size, 0, none⟩) 0 0 ∧ i = .int .i64 0 ∧ Hid (JInv w wr (.slice (some ⟨w.heap.size, 0, none⟩) 0 0) [] c0 1)) (fun _ _ _ => 0)
      case atStart => exact ⟨rfl, rfl, J0⟩
      case round =>
        obtain ⟨rfl, rfl, HJ⟩ := hrel
        clear J0
        obtain ⟨p0, p1, p2, fz⟩ := HJ.out.at
        have hzP := HJ.out.lt
        go_wp2_with (at_builtin; refine Hid.out ?_)
        refine hideP ?_
        refine wpList_append_own_at _ rfl (.tmp 61) (.tmp 63) 78 rfl w.heap.size 83 i1 (.agg #[.int .i64 0, .int .i64 0, .int .i64 0]) 3 24 Try.underlying78 hi hz0 hz1 hz2 rfl (by decide) (.slice (some ⟨w.heap.size, 0, none⟩) 0 0) 0 (f3 []) (by rfl) (World.ownsRow.alloc HJ.out.own _) ⟨wr.heap.size, 0, none⟩ 1 1 [.int .i64 c0, .int .i64 0, .int .i64 1] (by rfl) rfl (new3 _ _ _ _ _) (one3 _ _ _) (by unfold maxLen; omega) (by omega) (by simp; omega) ?_
        intro v6 w6 ho6 hg6 hn6 hat6
        have J6 := hideP (HJ.out.put ho6 hg6 hat6)
        obtain ⟨a6, c6, rfl⟩ := ownG_shape ho6
        clear ho6 hg6 hn6 hat6
        go_wp2
        go_ret
        exact ⟨_, rfl, by rw [HE.out]; exact J6.out.own, J6.out.bel⟩
    · have hcap2 : 2 ≤ cap := by omega
      have hnz : (((n : Int) + 1) == 0) = false := by simp; omega
      have hnz2 : decide ((n : Int) + 1 = 0) = false := by simp; omega
      go_enter Try.func58, Try.ntmps58
      go_wp2
      go_loopw [5, 23] (fun u i wr => ∃ (k : Nat) (acc : List (Int × Int × Int)) (cc nc : Int), k ≤ n ∧ i = .int .i64 k ∧ Hid (JInv w wr u acc cc nc) ∧ Hid (acc ++ jn ps cc nc (cr.drop k) = T) ∧ Hid (I64 cc ∧ 0 ≤ nc ∧ nc ≤ k + 1 ∧ acc.length ≤ 2 * k)) (fun _ i _ => n - (intOf i).toNat)
      case atStart => exact ⟨0, [], c0, 1, by omega, rfl, J0, hideP (by rw [HT.out, List.drop_zero]; rfl), hideP ⟨HI0.out, by omega, by omega, by simp⟩⟩
      case round =>
        obtain ⟨k, acc, cc, nc, hk, rfl, HJ, HE, HB⟩ := hrel
        clear J0 k0
        obtain ⟨m, hm⟩ : ∃ m, m = acc.length := ⟨_, rfl⟩
        have HM := hideP hm
        obtain ⟨au, cu, rfl⟩ := ownG_shape HJ.out.own
        obtain ⟨p0, p1, p2, fz⟩ := HJ.out.at
        have hzP := HJ.out.lt
        have hml : m ≤ 2 * k := by rw [hm]; exact HB.out.2.2.2
        have hnc : nc ≤ 1001 := by have := HB.out.2.2.1; omega
        have hnc0 : 0 ≤ nc := HB.out.2.1
        rw [← hm] at HJ ⊢
        clear hm
        by_cases hlt : k < n
        · have hki : (k : Int) < (n : Int) := by omega
          obtain ⟨x, hx⟩ : ∃ x, x = cr.getD k 0 := ⟨_, rfl⟩
          have e0 := CL.out wr HJ.out.bel (1 + k) (by omega)
          rw [show (c0 :: cr).getD (1 + k) 0 = x by rw [hx, Nat.add_comm 1 k, List.getD_cons_succ]] at e0
          have HDR : Hid (cr.drop k = x :: cr.drop (k + 1)) := hideP (by
            have hkl : k < cr.length := by rw [← HN.out]; exact hlt
            rw [List.drop_eq_getElem_cons hkl, hx, List.getD_eq_getElem?_getD, List.getElem?_eq_getElem hkl]
            rfl)
          have HIX : Hid (I64 x) := hideP (HCS.out x (by
            have hkl : k < cr.length := by rw [← HN.out]; exact hlt
            rw [hx, List.getD_eq_getElem?_getD, List.getElem?_eq_getElem hkl]
            exact List.mem_cons_of_mem _ (List.getElem_mem _)))
          clear hx
          obtain ⟨o, ho⟩ : ∃ o, o = prO ps cc x := ⟨_, rfl⟩
          have CP : Hid (Calls Try.prog 60 #[v, .int .i64 cc, .int .i64 x] wr fun e w' => e = .returned (q4V o) ∧ Below wr.heap.size wr w') := hideP (by rw [ho]; exact pair_any (HFC.out.below HJ.out.bel) HB.out.1 HIX.out)
          have HIC : Hid (I64 o.c) := hideP (by rw [ho]; exact HPR.out cc x)
          have HJN : Hid (jn ps cc nc (x :: cr.drop (k + 1)) = if 0 ≤ o.c then jn ps o.c (nc + 1) (cr.drop (k + 1)) else (cc, 0, nc) :: ((if o.d = 0 then [] else [(-1, o.d, 0)]) ++ jn ps x 1 (cr.drop (k + 1)))) := hideP (by rw [ho]; rfl)
          clear ho
          obtain ⟨oa, ob, oc, od⟩ := o
          simp only [q4V] at CP
          go_wp2_with fail
          refine CP.out.mono ?_
          rintro e w2 ⟨rfl, hb2⟩
          have J2 := hideP (HJ.out.below hb2)
          clear hb2 p0 p1 p2 fz hzP
          obtain ⟨p0, p1, p2, fz⟩ := J2.out.at
          have hzP := J2.out.lt
          by_cases hc : 0 ≤ oc
          · have HQ : Hid (acc ++ jn ps oc (nc + 1) (cr.drop (k + 1)) = T) := hideP (by rw [← HE.out, HDR.out, HJN.out, if_pos hc])
            have JA : Hid (∀ ob, JInv w (w2.alloc ob) (.slice au m cu) acc cc nc) := hideP (fun ob => J2.out.below (below1 _ _))
            have HIC0 : Hid (I64 oc) := HIC
            go_wp2
            go_roundw
            case rel => exact ⟨k + 1, acc, oc, (nc + 1), by omega, by go_num, hideP ((J2.out.set oc (nc + 1)).below (below1 _ _)), HQ, hideP ⟨HIC0.out, by omega, by have := HB.out.2.2.1; omega, by (try simp only [List.length_append, List.length_singleton]); have := HM.out; omega⟩⟩
            case measure => simp [intOf]; omega
          · obtain ⟨W2, hW2⟩ : ∃ W, W = w2.alloc (.cells #[.int .i64 oa, .int .i64 ob, .int .i64 oc, .int .i64 od] 63) := ⟨_, rfl⟩
            have JB : Hid (JInv w W2 (.slice au m cu) acc cc nc) := hideP (by rw [hW2]; exact J2.out.below (below1 _ _))
            have OB : Hid (W2.heap[w2.heap.size]? = some (.cells #[.int .i64 oa, .int .i64 ob, .int .i64 oc, .int .i64 od] 63 (0, 0))) := hideP (by rw [hW2]; exact heap_alloc_new _ _)
            have hW2s : w2.heap.size < W2.heap.size := by rw [hW2]; simp
            have hW2z : W2.heap.size = w2.heap.size + 1 := by rw [hW2]; simp
            have hszw : w.heap.size ≤ w2.heap.size := J2.out.bel.size
            have HNO : Hid (Value.ownBlock (.slice au m cu) ≠ some w2.heap.size) := hideP (fun e => by have := (J2.out.own.lt _ e).2; omega)
            have HIC0 := HIX
            have hcf : decide (0 ≤ oc) = false := by simp; omega
            have HM1 : Hid (m + 1 = (acc ++ [(cc, 0, nc)]).length) := hideP (by simp; exact HM.out)
            by_cases hd : od = 0
            · have HQ : Hid ((acc ++ [(cc, 0, nc)]) ++ jn ps x 1 (cr.drop (k + 1)) = T) := hideP (by rw [← HE.out, HDR.out, HJN.out, if_neg hc]; simp only [hd, if_true, List.nil_append, List.append_assoc, List.singleton_append])
              subst hd
              go_wp2_with (at_builtin; refine Hid.out ?_)
              refine hideP ?_
              rw [← hW2]
              refine wpList_append_own_at _ rfl (.tmp 43) (.tmp 45) 78 rfl w.heap.size 83 i1 (.agg #[.int .i64 0, .int .i64 0, .int .i64 0]) 3 24 Try.underlying78 hi hz0 hz1 hz2 rfl (by decide) (.slice au m cu) m (f3 acc) (by rfl) (World.ownsRow.alloc (JInv.own' JB.out HM.out) _) ⟨w2.heap.size + 1, 0, none⟩ 1 1 [.int .i64 cc, .int .i64 0, .int .i64 nc] (by rfl) rfl (by rw [← hW2z]; exact new3 _ _ _ _ _) (one3 _ _ _) (by unfold maxLen; omega) (by omega) (by simp; omega) ?_
              intro v6 w6 ho6 hg6 hn6 hat6
              have J6' := hideP (JB.out.put (by rw [← HM.out]; exact ho6) hg6 hat6)
              obtain ⟨a6, c6, rfl⟩ := ownG_shape ho6
              have J6 : Hid (JInv w w6 (.slice a6 (m + 1) c6) (acc ++ [(cc, 0, nc)]) cc nc) := J6'
              have ob6 : w6.heap[w2.heap.size]? = some (.cells #[.int .i64 oa, .int .i64 ob, .int .i64 oc, .int .i64 0] 63 (0, 0)) := by
                rw [hg6.block _ (by simp; omega) (fun e => HNO.out e.symm)]
                exact ((below1 W2 _).block _ hW2s).trans OB.out
              have o3 : w6.cell? ⟨w2.heap.size, 3, none⟩ = some (.int .i64 0) := by rw [cell_of_row _ _ _ _ _ _ ob6]; rfl
              have hzo : w2.heap.size < w6.heap.size := (Array.getElem?_eq_some_iff.1 ob6).1
              clear ho6 hg6 hn6 hat6 J6' ob6 p0 p1 p2 fz hzP
              obtain ⟨p0, p1, p2, fz⟩ := J6.out.at
              have hzP := J6.out.lt
              go_wp2
              go_roundw
              case rel => exact ⟨k + 1, (acc ++ [(cc, 0, nc)]), x, 1, by omega, by go_num, hideP (J6.out.set x 1), HQ, hideP ⟨HIC0.out, by omega, by have := HB.out.2.2.1; omega, by (try simp only [List.length_append, List.length_singleton]); have := HM.out; omega⟩⟩
              case measure => simp [intOf]; omega
            · have HQ : Hid ((acc ++ [(cc, 0, nc)] ++ [(-1, od, 0)]) ++ jn ps x 1 (cr.drop (k + 1)) = T) := hideP (by rw [← HE.out, HDR.out, HJN.out, if_neg hc]; simp only [hd, if_false, List.append_assoc, List.singleton_append, List.cons_append, List.nil_append])
              have d1 : (od != 0) = true := by simp [hd]
              have d2 : decide (od = 0) = false := by simp [hd]
              have d3 : (od == 0) = false := by simp [hd]
              go_wp2_with (at_builtin; refine Hid.out ?_)
              refine hideP ?_
              rw [← hW2]
              refine wpList_append_own_at _ rfl (.tmp 43) (.tmp 45) 78 rfl w.heap.size 83 i1 (.agg #[.int .i64 0, .int .i64 0, .int .i64 0]) 3 24 Try.underlying78 hi hz0 hz1 hz2 rfl (by decide) (.slice au m cu) m (f3 acc) (by rfl) (World.ownsRow.alloc (JInv.own' JB.out HM.out) _) ⟨w2.heap.size + 1, 0, none⟩ 1 1 [.int .i64 cc, .int .i64 0, .int .i64 nc] (by rfl) rfl (by rw [← hW2z]; exact new3 _ _ _ _ _) (one3 _ _ _) (by unfold maxLen; omega) (by omega) (by simp; omega) ?_
              intro v6 w6 ho6 hg6 hn6 hat6
              have J6' := hideP (JB.out.put (by rw [← HM.out]; exact ho6) hg6 hat6)
              obtain ⟨a6, c6, rfl⟩ := ownG_shape ho6
              have J6 : Hid (JInv w w6 (.slice a6 (m + 1) c6) (acc ++ [(cc, 0, nc)]) cc nc) := J6'
              have ob6 : w6.heap[w2.heap.size]? = some (.cells #[.int .i64 oa, .int .i64 ob, .int .i64 oc, .int .i64 od] 63 (0, 0)) := by
                rw [hg6.block _ (by simp; omega) (fun e => HNO.out e.symm)]
                exact ((below1 W2 _).block _ hW2s).trans OB.out
              have o3 : w6.cell? ⟨w2.heap.size, 3, none⟩ = some (.int .i64 od) := by rw [cell_of_row _ _ _ _ _ _ ob6]; rfl
              have hzo : w2.heap.size < w6.heap.size := (Array.getElem?_eq_some_iff.1 ob6).1
              clear ho6 hg6 hn6 hat6 J6' ob6 p0 p1 p2 fz hzP
              obtain ⟨p0, p1, p2, fz⟩ := J6.out.at
              have hzP := J6.out.lt
              go_wp2_with (at_builtin; refine Hid.out ?_)
              refine hideP ?_
              refine wpList_append_own_at _ rfl (.tmp 50) (.tmp 55) 78 rfl w.heap.size 83 i1 (.agg #[.int .i64 0, .int .i64 0, .int .i64 0]) 3 24 Try.underlying78 hi hz0 hz1 hz2 rfl (by decide) (.slice a6 (m + 1) c6) (m + 1) (f3 (acc ++ [(cc, 0, nc)])) (by rfl) (World.ownsRow.alloc (JInv.own' J6.out HM1.out) _) ⟨w6.heap.size, 0, none⟩ 1 1 [.int .i64 (-1), .int .i64 od, .int .i64 0] (by rfl) rfl (new3 _ _ _ _ _) (one3 _ _ _) (by unfold maxLen; omega) (by omega) (by simp; omega) ?_
              intro v7 w7 ho7 hg7 hn7 hat7
              have J7' := hideP (J6.out.put (by rw [← HM1.out]; exact ho7) hg7 hat7)
              obtain ⟨a7, c7, rfl⟩ := ownG_shape ho7
              have J7 : Hid (JInv w w7 (.slice a7 (m + 1 + 1) c7) (acc ++ [(cc, 0, nc)] ++ [(-1, od, 0)]) cc nc) := J7'
              clear ho7 hg7 hn7 hat7 J7' p0 p1 p2 fz hzP
              obtain ⟨p0, p1, p2, fz⟩ := J7.out.at
              have hzP := J7.out.lt
              go_wp2
              go_roundw
              case rel => exact ⟨k + 1, (acc ++ [(cc, 0, nc)] ++ [(-1, od, 0)]), x, 1, by omega, by go_num, hideP (J7.out.set x 1), HQ, hideP ⟨HIC0.out, by omega, by have := HB.out.2.2.1; omega, by (try simp only [List.length_append, List.length_singleton]); have := HM.out; omega⟩⟩
              case measure => simp [intOf]; omega
        · have hki : ¬ (k : Int) < (n : Int) := by omega
          have HQ : Hid (acc ++ [(cc, 0, nc)] = T) := hideP (by rw [← HE.out, List.drop_eq_nil_of_le (by rw [← HN.out]; omega)]; rfl)
          have hszw : w.heap.size ≤ wr.heap.size := HJ.out.bel.size
          go_wp2_with (at_builtin; refine Hid.out ?_)
          refine hideP ?_
          refine wpList_append_own_at _ rfl (.tmp 61) (.tmp 63) 78 rfl w.heap.size 83 i1 (.agg #[.int .i64 0, .int .i64 0, .int .i64 0]) 3 24 Try.underlying78 hi hz0 hz1 hz2 rfl (by decide) (.slice au m cu) m (f3 acc) (by rfl) (World.ownsRow.alloc (JInv.own' HJ.out HM.out) _) ⟨wr.heap.size, 0, none⟩ 1 1 [.int .i64 cc, .int .i64 0, .int .i64 nc] (by rfl) rfl (new3 _ _ _ _ _) (one3 _ _ _) (by unfold maxLen; omega) (by omega) (by simp; omega) ?_
          intro v6 w6 ho6 hg6 hn6 hat6
          have J6 := hideP (HJ.out.put (by rw [← HM.out]; exact ho6) hg6 hat6)
          obtain ⟨a6, c6, rfl⟩ := ownG_shape ho6
          clear ho6 hg6 hn6 hat6
          go_wp2
          go_ret
          exact ⟨_, rfl, by rw [← HQ.out]; exact J6.out.own, J6.out.bel⟩
end Go.Proofs.Ytggcfgbpameppaa
