/-
  Where a row ends ahead of its last glues.
-/
import Derived.Test.YtdgfnceipginkaaLrw
import Derived.Test.YtdgfnceipginkaaTrp
import Derived.Test.YtdgfnceipginkaaRow
import Derived.Deep.DeepCutAuto
import Derived.Test.YtdgfnceipginkaaSty
import Derived.Test.YtdgfnceipginkaaSps
namespace Go.Proofs.Ytdgfnceipginkaa
open Go.RowKit
set_option linter.unusedVariables false
set_option linter.unusedSimpArgs false

/-- The items of the row with what comes behind it, but for where they stand. -/
def rowI (xs : List Nd) (S : Sy) : List It := (its xs).take (trm (its xs) (its xs).length) ++ [(penN 10000, 0, 0), (gapN S.f0 S.f1 S.f2 S.f3 S.f4, 0, 0), (penN (-10000), 0, 0)]
def rowL (xs : List Nd) (S : Sy) : List (List Nd) := (itemsOf xs).take (trm (its xs) (its xs).length) ++ [[penN 10000], [gapN S.f0 S.f1 S.f2 S.f3 S.f4], [penN (-10000)]]
theorem trm_le (ys : List It) : ∀ m, trm ys m ≤ m
  | 0 => Nat.le_refl _
  | m + 1 => by
    rw [trm]
    have := trm_le ys m
    split <;> omega
def bl0 (xs : List Nd) (S : Sy) : List Int := ((List.range (rowI xs S).length).filter (trnB (rowI xs S))).map (fun a : Nat => (a : Int))
/-- Where lines may end. -/
def blL (xs : List Nd) (S : Sy) : List Int := if syB S = true ∧ listB xs = true ∧ (its xs).length ≤ 2000 ∧ (bl0 xs S).length ≤ 300 then bl0 xs S else []

theorem loadSy {W : World} {G : Nat} {cs : Array Value} (hsz : cs.size = 23) (h : W.heap[G]? = some (.cells cs 33 (0, 0))) : (loadVar 33 ⟨G, 0, none⟩).run Try.prog W = .ok (.agg cs) W :=
  run_loadVar_row _ _ 33 33 _ (0, 0) _ h Try.underlying33 rfl (by rw [hsz]; kernel_rfl)
theorem items_its {xs : List Nd} (h : listB xs = true) : (itemsOf xs).length = (its xs).length := by
  unfold itemsOf its
  rw [if_pos h, List.length_map, List.length_map]

theorem own1_below {base n : Nat} {w w' : World} {v : Value} {xs : List Value} (h : w.ownsRow base 2 1 v n xs) (hb : Below w.heap.size w w') : w'.ownsRow base 2 1 v n xs := by
  obtain ⟨hl, h | ⟨g, cap, cur, rfl, hg, hbk, hr⟩⟩ := h
  · exact ⟨hl, .inl h⟩
  · exact ⟨hl, .inr ⟨g, cap, cur, rfl, hg, (hb.block g (Array.getElem?_eq_some_iff.1 hbk).1).trans hbk, hr⟩⟩
def flT (ys : List It) (k : Nat) : List Int := ((List.range k).filter (trnB ys)).map (fun a : Nat => (a : Int))
theorem flT_succ (ys : List It) (k : Nat) : flT ys (k + 1) = if trnB ys k = true then flT ys k ++ [(k : Int)] else flT ys k := by
  unfold flT
  rw [List.range_succ, List.filter_append]
  by_cases h : trnB ys k = true
  · rw [if_pos h]; simp [h]
  · rw [if_neg h]; simp [h]
theorem flT_len (ys : List It) (k : Nat) : (flT ys k).length ≤ k := by
  unfold flT
  rw [List.length_map]
  exact Nat.le_trans (List.length_filter_le _ _) (by simp)
theorem rowI_len {xs : List Nd} (S : Sy) (h : listB xs = true) : (rowL xs S).length = (rowI xs S).length := by
  unfold rowL rowI
  simp [items_its h]
theorem item_its {xs : List Nd} (hob : listB xs = true) {i : Nat} (hi : i < (its xs).length) : ∃ rest, (itemsOf xs).getD i [] = ((its xs).getD i It.none).1 :: rest := by
  have hi2 : i < (starts xs (xs.length + 1) 0).length := by simpa [its] using hi
  have hst := starts_lt xs (xs.length + 1) 0 _ (List.getElem_mem hi2)
  have e1 : (itemsOf xs).getD i [] = itemAt xs ((starts xs (xs.length + 1) 0)[i]) := by
    unfold itemsOf
    rw [if_pos hob]
    simp [List.getD, List.getElem?_map, List.getElem?_eq_getElem hi2]
  have e2 : (its xs).getD i It.none = itAt xs ((starts xs (xs.length + 1) 0)[i]) := by
    unfold its
    simp [List.getD, List.getElem?_map, List.getElem?_eq_getElem hi2]
  obtain ⟨p, hp⟩ : ∃ p, p = (starts xs (xs.length + 1) 0)[i] := ⟨_, rfl⟩
  rw [← hp] at e1 e2 hst
  refine ⟨(itemAt xs p).tail, ?_⟩
  rw [e1, e2]
  show itemAt xs p = xs.getD p Nd.none :: (itemAt xs p).tail
  unfold itemAt
  have hd : xs.drop p = xs[p] :: xs.drop (p + 1) := List.drop_eq_getElem_cons hst
  rw [hd, Nat.add_comm 1, List.take_succ_cons]
  simp [List.getD, List.getElem?_eq_getElem hst]
theorem row_item {xs : List Nd} (S : Sy) (hob : listB xs = true) {i : Nat} (hi : i < (rowI xs S).length) : ∃ rest, (rowL xs S).getD i [] = ((rowI xs S).getD i It.none).1 :: rest := by
  obtain ⟨k, hk⟩ : ∃ k, k = trm (its xs) (its xs).length := ⟨_, rfl⟩
  have hkl : k ≤ (its xs).length := by rw [hk]; exact trm_le _ _
  have hkl2 : k ≤ (itemsOf xs).length := by rw [items_its hob]; exact hkl
  unfold rowL rowI at *
  rw [← hk] at hi ⊢
  have hl1 : ((itemsOf xs).take k).length = k := by simp [hkl2]
  have hl2 : ((its xs).take k).length = k := by simp [hkl]
  by_cases h : i < k
  · obtain ⟨r, hr⟩ := item_its hob (show i < (its xs).length by omega)
    refine ⟨r, ?_⟩
    simp only [List.getD] at hr ⊢
    rw [List.getElem?_append_left (by omega), List.getElem?_append_left (by omega), List.getElem?_take_of_lt h, List.getElem?_take_of_lt h]
    exact hr
  · have hi3 : i < k + 3 := by simpa [hl2] using hi
    simp only [List.getD]
    rw [List.getElem?_append_right (by omega), List.getElem?_append_right (by omega), hl1, hl2]
    rcases (show i - k = 0 ∨ i - k = 1 ∨ i - k = 2 by omega) with e | e | e <;> rw [e] <;> exact ⟨[], rfl⟩
theorem heads_row {w : World} {lo : Nat} {u : Value} {xs : List Nd} {S : Sy} (hob : listB xs = true) (h : Rws lo w u (rowL xs S)) : Heads lo w u (rowI xs S) := by
  obtain ⟨ao, cap, rfl, hc⟩ := h.is
  refine ⟨ao, cap, by rw [rowI_len S hob], fun hp => ?_⟩
  obtain ⟨b, off, rfl, hlo, hlt, hcell⟩ := hc (by rw [rowI_len S hob]; exact hp)
  refine ⟨b, off, rfl, hlo, hlt, fun i hi => ?_⟩
  obtain ⟨v, h1, h2⟩ := hcell i (by rw [rowI_len S hob]; exact hi)
  obtain ⟨r, hr⟩ := row_item S hob hi
  rw [hr] at h2
  exact ⟨v, r, h1, own_NRow h2 rfl⟩

set_option maxRecDepth 20000 in
set_option maxHeartbeats 8000000 in
theorem specBreaks_any {v : Value} {xs : List Nd} {w : World} (S : Sy) (h : NRow 0 w v xs) (hs : xs.length ≤ 1048576) (hcp : ∀ a n c, v = .slice a n c → n ≤ c ∧ c ≤ 9223372036854775807) :
    Calls Try.prog 13 #[v, syV S] w fun e W' => (∃ r u, e = .returned (.tuple #[r, u]) ∧ W'.ownsRow w.heap.size 2 1 u (blL xs S).length ((blL xs S).map (Value.int .i64)) ∧ (blL xs S ≠ [] → listB xs = true ∧ Rws w.heap.size W' r (rowL xs S))) ∧ Below w.heap.size w W' := by
  have SC : Hid (∀ W, Calls Try.prog 23 #[syV S] W fun e w' => e = .returned (.bool (syB S)) ∧ Below W.heap.size W w') := hideP (fun W => specStyle_any S W)
  have LC : Hid (∀ W, Below w.heap.size w W → Calls Try.prog 24 #[v] W fun e w' => e = .returned (.bool (listB xs)) ∧ Below W.heap.size W w') := hideP (fun W hW => specListOk_any (SRow.below ndStable h hW) hs)
  have IC : Hid (∀ W, Below w.heap.size w W → Calls Try.prog 25 #[v] W fun e W' => (∃ a c, e = .returned (.slice a (itemsOf xs).length c)) ∧ Below W.heap.size W W') := hideP (fun W hW => (specItems_any (SRow.below ndStable h hW) hs hcp).mono (fun e W' ⟨⟨u, vs, h1, h2, h3⟩, h4⟩ => by
    obtain ⟨a, c, hu, _⟩ := own25_shape h2
    exact ⟨⟨a, c, by rw [h1, hu]⟩, h4⟩))
  have RC : Hid (listB xs = true → ∀ W, Below w.heap.size w W → Calls Try.prog 26 #[v, syV S] W fun e W' => (∃ u, e = .returned u ∧ Rws W.heap.size W' u (rowL xs S)) ∧ Below W.heap.size W W') := hideP (fun hb W hW => l9Row_any S (SRow.below ndStable h hW) hs hcp hb)
  have hsy : ∃ cs : Array Value, syV S = .agg cs ∧ cs.size = 23 := ⟨_, rfl, rfl⟩
  obtain ⟨cs, hcs, hsz⟩ := hsy
  rw [hcs] at SC RC ⊢
  obtain ⟨va, vn, vc, rfl, _⟩ := h
  obtain ⟨sb, hsb⟩ : ∃ sb, sb = syB S := ⟨_, rfl⟩
  rw [← hsb] at SC
  obtain ⟨lb, hlb⟩ : ∃ lb, lb = listB xs := ⟨_, rfl⟩
  rw [← hlb] at LC RC
  have HSB := hideP hsb
  have HLB := hideP hlb
  clear hcs hs hcp hsb hlb
  obtain ⟨W0, hW0⟩ : ∃ W0, W0 = w.alloc (.cells cs 33) := ⟨_, rfl⟩
  have hG0 : W0.heap[w.heap.size]? = some (.cells cs 33 (0, 0)) := by rw [hW0]; exact heap_alloc_new w _
  have hZ0 : W0.heap.size = w.heap.size + 1 := by rw [hW0]; simp
  have B0 : Below w.heap.size w W0 := by rw [hW0]; exact below1 w _
  have hG1 : (W0.alloc (.cells #[] 2)).heap[w.heap.size]? = some (.cells cs 33 (0, 0)) := (Below.heap_alloc _ _ _ (by omega)).trans hG0
  have B1 : Hid (Below w.heap.size w (W0.alloc (.cells #[] 2))) := hideP (B0.alloc B0.size _)
  have O1 : Hid ((W0.alloc (.cells #[] 2)).ownsRow w.heap.size 2 1 (.slice (some ⟨W0.heap.size, 0, none⟩) 0 0) 0 []) := hideP ⟨rfl, .inr ⟨_, _, _, rfl, by omega, heap_alloc_new W0 _, Nat.le_refl _, by unfold maxLen; omega, rfl, rfl⟩⟩
  have hld1 := loadSy hsz hG1
  have HG1 := hideP hG1
  clear hG0 B0
  go_enter Try.func13, Try.ntmps13
  go_upto_region 1 with fail
  rw [← hW0]
  clear hW0
  go_upto_region 2 with fail
  rw [hZ0] at O1
  obtain ⟨g0, hg0⟩ : ∃ g0, g0 = w.heap.size + 1 := ⟨_, rfl⟩
  rw [← hg0] at O1
  rw [← hg0]
  generalize World.alloc _ _ = W1 at B1 O1 hld1 HG1 ⊢
  clear hZ0 hg0 hG1
  clear hld1
  obtain ⟨nI, hnI⟩ : ∃ nI, nI = (itemsOf xs).length := ⟨_, rfl⟩
  rw [← hnI] at IC
  have HNI := hideP hnI
  have hO1 := O1.out.lt g0 rfl
  clear hnI
  go_cut [23] (fun s23 wc => (∃ t : Bool, s23 = .bool t ∧ (t = false ↔ sb = true ∧ lb = true ∧ nI ≤ 2000)) ∧ Hid (Below W1.heap.size W1 wc))
  case first =>
    go_wp2_with (refine wpList_load_row rfl 33 _ rfl w.heap.size rfl cs 33 (0, 0) HG1.out _ Try.underlying33 rfl (by rw [hsz]; kernel_rfl) ?_)
    refine (SC.out W1).mono ?_
    rintro e w2 ⟨rfl, hb2⟩
    have B2 := hideP hb2
    have BB2 : Hid (Below w.heap.size w w2) := hideP (below_more B1.out hb2 B1.out.size)
    clear hb2
    cases sb with
    | false =>
      go_wp2
      go_meet
      case rel => exact ⟨⟨_, rfl, by simp⟩, B2⟩
    | true =>
      go_wp2_with fail
      refine (LC.out w2 BB2.out).mono ?_
      rintro e w3 ⟨rfl, hb3⟩
      have B3 : Hid (Below W1.heap.size W1 w3) := hideP (below_more B2.out hb3 B2.out.size)
      have BB3 : Hid (Below w.heap.size w w3) := hideP (below_more BB2.out hb3 BB2.out.size)
      clear hb3
      cases lb with
      | false =>
        go_wp2
        go_meet
        case rel => exact ⟨⟨_, rfl, by simp⟩, B3⟩
      | true =>
        go_wp2_with fail
        refine (IC.out w3 BB3.out).mono ?_
        rintro e w4 ⟨⟨ia, ic, rfl⟩, hb4⟩
        have B4 : Hid (Below W1.heap.size W1 w4) := hideP (below_more B3.out hb4 B3.out.size)
        clear hb4
        by_cases hn : 2000 < nI
        · have hni : (2000 : Int) < (nI : Int) := by omega
          have hnd : decide ((2000 : Int) < (nI : Int)) = true := by simp; omega
          go_wp2
          go_meet
          case rel => exact ⟨⟨_, rfl, by simp; omega⟩, B4⟩
        · have hni : ¬ (2000 : Int) < (nI : Int) := by omega
          have hnd : decide ((2000 : Int) < (nI : Int)) = false := by simp; omega
          go_wp2
          go_meet
          case rel => exact ⟨⟨_, rfl, by simp; omega⟩, B4⟩
  case rest =>
    obtain ⟨⟨t, rfl, ht⟩, BC⟩ := hcut
    have BW : Hid (Below w.heap.size w wc) := hideP (below_more B1.out BC.out B1.out.size)
    have OC : Hid (wc.ownsRow w.heap.size 2 1 (.slice (some ⟨g0, 0, none⟩) 0 0) 0 []) := hideP (own1_below O1.out BC.out)
    have HGC := hideP ((BC.out.block w.heap.size (Array.getElem?_eq_some_iff.1 HG1.out).1).trans HG1.out)
    clear O1 B1 HG1 BC SC LC IC hO1
    cases t with
    | true =>
      have hbl : blL xs S = [] := by
        unfold blL
        rw [if_neg]
        rintro ⟨h1, h2, h3, h4⟩
        have := ht.2 ⟨HSB.out.trans h1, HLB.out.trans h2, by rw [HNI.out, items_its h2]; exact h3⟩
        cases this
      have HBL := hideP hbl
      clear ht hbl
      have OD := hideP (own1_below OC.out (below1 wc (.cells #[] 28)))
      have BD : Hid (Below w.heap.size w (wc.alloc (.cells #[] 28))) := hideP (BW.out.alloc BW.out.size _)
      go_wp2
      refine bodyPost_ret (v := .tuple #[_, _]) (by simp [results, Try.results13, go_sem]; exact ⟨rfl, rfl⟩) rfl ?_
      exact ⟨⟨_, _, rfl, by rw [HBL.out]; exact OD.out, fun h => absurd HBL.out h⟩, BD.out⟩
    | false =>
      obtain ⟨rfl, rfl, hn2⟩ := ht.1 rfl
      clear ht
      go_wp2_with (refine wpList_load_row rfl 33 _ rfl w.heap.size rfl cs 33 (0, 0) HGC.out _ Try.underlying33 rfl (by rw [hsz]; kernel_rfl) ?_)
      refine (RC.out (by first | rfl | trivial) wc BW.out).mono ?_
      rintro e w5 ⟨⟨u, rfl, hR⟩, hb5⟩
      have hob : listB xs = true := HLB.out.symm
      have hh := heads_row hob hR
      obtain ⟨ys, hys⟩ : ∃ ys, ys = rowI xs S := ⟨_, rfl⟩
      have HBL : Hid (blL xs S = if (flT ys ys.length).length ≤ 300 then flT ys ys.length else []) := hideP (by
        unfold blL
        have e : bl0 xs S = flT ys ys.length := by rw [hys]; rfl
        rw [e]
        by_cases h3 : (flT ys ys.length).length ≤ 300
        · rw [if_pos ⟨HSB.out.symm, hob, by rw [← items_its hob, ← HNI.out]; exact hn2, h3⟩, if_pos h3]
        · rw [if_neg (fun h => h3 h.2.2.2), if_neg h3])
      have hN : ys.length ≤ 2003 := by
        rw [hys]
        unfold rowI
        have := trm_le (its xs) (its xs).length
        rw [HNI.out, items_its hob] at hn2
        simp
        omega
      rw [← hys] at hh
      obtain ⟨N, hNN⟩ : ∃ N, N = ys.length := ⟨_, rfl⟩
      rw [← hNN] at hN HBL
      have HN := hideP hNN
      obtain ⟨uu, uc, rfl, _⟩ := hh.is
      rw [← hNN] at hh hR
      have HRW := hideP hR
      have HWZ : Hid (w.heap.size ≤ wc.heap.size) := hideP BW.out.size
      rw [← hNN]
      have HH := hideP hh
      have BW5 : Hid (Below w.heap.size w w5) := hideP (below_more BW.out hb5 BW.out.size)
      have O5 : Hid (w5.ownsRow w.heap.size 2 1 (.slice (some ⟨g0, 0, none⟩) 0 0) (flT ys 0).length ((flT ys 0).map (Value.int .i64))) := hideP (own1_below OC.out hb5)
      have hg0l : g0 < wc.heap.size := (OC.out.lt g0 rfl).2
      clear hb5 hR hob hys hNN hh RC hn2 HGC OC BW
      go_wp2
      go_loopw [6, 8] (fun s6 s8 wr => ∃ (k : Nat) (u : Value), k ≤ N ∧ s8 = .int .i64 k ∧ s6 = u ∧ wr.ownsRow w.heap.size 2 1 u (flT ys k).length ((flT ys k).map (Value.int .i64)) ∧ (∀ gg, u.ownBlock = some gg → gg < wc.heap.size ∨ w5.heap.size ≤ gg) ∧ Abv wc.heap.size w5 wr ∧ Below w.heap.size w wr) (fun _ s _ => N - (intOf s).toNat)
      case atStart => exact ⟨0, _, by omega, rfl, rfl, O5.out, fun gg e => .inl (by have e2 : g0 = gg := (by simpa [Value.ownBlock] using e); omega), Abv.refl _ _, BW5.out⟩
      case round =>
        obtain ⟨k, u, hk, rfl, rfl, ho, hgg, hav, hB⟩ := hrel
        have hhr := HH.out.abv hav
        have HGG := hideP hgg
        have HAV := hideP hav
        by_cases hkN : k < N
        · have hki : (k : Int) < (N : Int) := by omega
          have BC : Hid (Calls Try.prog 27 #[.slice uu N uc, .int .i64 (k : Int)] wr fun e w' => e = .returned (.bool (trnB ys k)) ∧ Below wr.heap.size wr w') := hideP (l9Is_any k hhr HN.out.symm hkN (by omega))
          obtain ⟨pb, hpb⟩ : ∃ b, b = trnB ys k := ⟨_, rfl⟩
          rw [← hpb] at BC
          have hfl := flT_succ ys k
          rw [← hpb] at hfl
          have HFL := hideP hfl
          have hfk := flT_len ys k
          obtain ⟨m, hm⟩ : ∃ m, m = (flT ys k).length := ⟨_, rfl⟩
          rw [← hm] at ho hfk
          have HM := hideP hm
          have HO := hideP ho
          have HHr := hideP hhr
          have HBr := hideP hB
          obtain ⟨ua2, uc2, rfl⟩ := ownG_shape ho
          clear hfl hpb hm ho hhr hB hgg hav
          go_wp2_with fail
          refine BC.out.mono ?_
          rintro e w6 ⟨rfl, hb6⟩
          have O6 := ownG_below HO.out hb6
          have H6 : Abv wc.heap.size w5 w6 := HAV.out.trans (Abv.below hb6)
          have B6 : Below w.heap.size w w6 := below_more HBr.out hb6 HBr.out.size
          have HO6 := hideP O6
          have HH6 := hideP H6
          have HB6 := hideP B6
          have hsz6 : w.heap.size ≤ w6.heap.size := B6.size
          clear hb6 O6 H6 B6
          cases pb with
          | false =>
            go_wp2
            go_roundw
            case rel =>
              refine ⟨k + 1, _, by omega, by go_num, rfl, ?_, HGG.out, HH6.out, HB6.out⟩
              rw [HFL.out]
              simp only [if_neg (show ¬ (false = true) by decide), Bool.false_eq_true, if_false]
              rw [← HM.out]
              exact HO6.out
            case measure => simp [intOf]; omega
          | true =>
            obtain ⟨j0, hj, hy0, hy1, hy2⟩ := info_parts Try.info2i
            go_wp2_with (at_builtin; refine wpList_append_at rfl _ _ 42 rfl w.heap.size 2 j0 _ 1 8 Try.underlying42 hj hy0 hy1 hy2 rfl (by decide) _ _ _ rfl (World.ownsRow.alloc HO6.out _) ⟨w6.heap.size, 0, none⟩ 1 1 [.int .i64 (k : Int)] rfl rfl (cell_one_new _ _ _) (by simp [Value.oneCell']) (by unfold maxLen; omega) (by omega) (by simp; omega) ?_)
            intro v7 w7 ho7 hg7 hat7
            have hsa : (w6.alloc (.cells #[.int .i64 (k : Int)] 2)).heap.size = w6.heap.size + 1 := by simp
            have hb7 : ∀ q : Nat, q < w6.heap.size → (Value.slice ua2 m uc2).ownBlock ≠ some q → w7.heap[q]? = w6.heap[q]? := fun q hq hn => (hg7.block q (by omega) (fun e => hn e.symm)).trans (Below.heap_alloc _ _ _ hq)
            have hz2 : w5.heap.size ≤ w6.heap.size := HH6.out.size
            have G7 : Hid (∀ gg, v7.ownBlock = some gg → gg < wc.heap.size ∨ w5.heap.size ≤ gg) := hideP (fun gg e => by
              rcases hat7 with h | h
              · exact HGG.out gg (h.symm.trans e)
              · have := Option.some.inj (h.symm.trans e)
                omega)
            have A7 : Hid (Abv wc.heap.size w5 w7) := hideP ⟨Nat.le_trans hz2 (Nat.le_trans (by omega) hg7.size), fun q hq1 hq2 => (hb7 q (by omega) (fun e => by rcases HGG.out q e with h | h <;> omega)).trans (HH6.out.block q hq1 hq2)⟩
            have B7 : Hid (Below w.heap.size w w7) := hideP (by
              have b := HB6.out
              refine ⟨hg7.os.trans b.os, hg7.tape.trans b.tape, hg7.output.trans b.output, Nat.le_trans b.size (Nat.le_trans (by omega) hg7.size), fun q hq => (hb7 q (Nat.lt_of_lt_of_le hq hsz6) (fun e => ?_)).trans (b.block q hq)⟩
              have := (World.ownsRow.lt HO6.out q e).1
              omega)
            have O7 : Hid (w7.ownsRow w.heap.size 2 1 v7 (m + 1) ((flT ys k).map (Value.int .i64) ++ [.int .i64 (k : Int)])) := hideP ho7
            clear ho7 hg7 hat7 hb7 hsa
            go_wp2
            go_roundw
            case rel =>
              refine ⟨k + 1, _, by omega, by go_num, rfl, ?_, G7.out, A7.out, B7.out⟩
              rw [HFL.out]
              simp only [if_true]
              rw [List.length_append, List.length_singleton, ← HM.out, List.map_append]
              exact O7.out
            case measure => simp [intOf]; omega
        · have hki : ¬ (k : Int) < (N : Int) := by omega
          obtain rfl : k = N := by omega
          obtain ⟨m, hm⟩ : ∃ m, m = (flT ys k).length := ⟨_, rfl⟩
          have HM := hideP hm
          rw [← hm] at ho HBL
          obtain ⟨ua2, uc2, rfl⟩ := ownG_shape ho
          have HO := hideP ho
          have HBr := hideP hB
          clear ho hhr hB hgg hav hm
          by_cases h3 : 300 < m
          · have h3i : (300 : Int) < (m : Int) := by omega
            have HE : Hid (blL xs S = []) := hideP (by rw [HBL.out, if_neg (by omega)])
            have OE : Hid (((wr.alloc (.cells #[] 28)).alloc (.cells #[] 2)).ownsRow w.heap.size 2 1 (.slice (some ⟨wr.heap.size + 1, 0, none⟩) 0 0) 0 []) := hideP ⟨rfl, .inr ⟨_, _, _, rfl, by have := HBr.out.size; omega, by have := heap_alloc_new (wr.alloc (.cells #[] 28)) (.cells #[] 2); simpa using this, Nat.le_refl _, by unfold maxLen; omega, rfl, rfl⟩⟩
            have BE : Hid (Below w.heap.size w ((wr.alloc (.cells #[] 28)).alloc (.cells #[] 2))) := hideP ((HBr.out.alloc HBr.out.size _).alloc (by have := HBr.out.size; simp; omega) _)
            go_wp2
            refine bodyPost_ret (v := .tuple #[_, _]) (by simp [results, Try.results13, go_sem]; exact ⟨rfl, rfl⟩) rfl ?_
            exact ⟨⟨_, _, rfl, by rw [HE.out]; exact OE.out, fun h => absurd HE.out h⟩, BE.out⟩
          · have h3i : ¬ (300 : Int) < (m : Int) := by omega
            have HE : Hid (blL xs S = flT ys k) := hideP (by rw [HBL.out, if_pos (by omega)])
            go_wp2
            refine bodyPost_ret (v := .tuple #[_, _]) (by simp [results, Try.results13, go_sem]; exact ⟨rfl, rfl⟩) rfl ?_
            exact ⟨⟨_, _, rfl, by rw [HE.out, ← HM.out]; exact HO.out, fun _ => ⟨HLB.out.symm, (HRW.out.abv HAV.out).mono HWZ.out⟩⟩, HBr.out⟩

theorem endK_succ (xs : List Nd) : ∀ (k i : Nat), endK xs i (k + 1) = endK xs i k + 1 + (xs.getD (endK xs i k) Nd.none).kids.toNat
  | 0, i => rfl
  | k + 1, i => by
    rw [show endK xs i (k + 1 + 1) = endK xs (i + 1 + (xs.getD i Nd.none).kids.toNat) (k + 1) from rfl, endK_succ xs k]
    rfl
theorem starts_endK (xs : List Nd) : ∀ (f i k : Nat) (h : k < (starts xs f i).length), (starts xs f i)[k] = endK xs i k
  | 0, i, k, h => by simp [starts] at h
  | f + 1, i, k, h => by
    have e : starts xs (f + 1) i = if i < xs.length then i :: starts xs f (i + 1 + (xs.getD i Nd.none).kids.toNat) else [] := rfl
    by_cases hi : i < xs.length
    · rw [if_pos hi] at e
      cases k with
      | zero => simp only [e, List.getElem_cons_zero]; rfl
      | succ k =>
        simp only [e, List.length_cons] at h
        simp only [e, List.getElem_cons_succ]
        rw [starts_endK xs f _ k (by omega)]
        rfl
    · rw [if_neg hi] at e
      rw [e] at h
      simp at h
/-- Where the last item that is no glue ends. -/
def endP (xs : List Nd) : List Nat → Nat
  | [] => 0
  | ps => ps.foldl (fun e p => if (xs.getD p Nd.none).k = 3 then e else p + 1 + (xs.getD p Nd.none).kids.toNat) 0
theorem endP_snoc (xs : List Nd) (ps : List Nat) (p : Nat) : endP xs (ps ++ [p]) = if (xs.getD p Nd.none).k = 3 then endP xs ps else p + 1 + (xs.getD p Nd.none).kids.toNat := by
  have h : ∀ qs, endP xs qs = qs.foldl (fun e p => if (xs.getD p Nd.none).k = 3 then e else p + 1 + (xs.getD p Nd.none).kids.toNat) 0 := fun qs => by cases qs <;> rfl
  rw [h, h, List.foldl_append]
  rfl
theorem its_fst {xs : List Nd} {k : Nat} (h : k < (starts xs (xs.length + 1) 0).length) : ((its xs).getD k It.none).1 = xs.getD ((starts xs (xs.length + 1) 0)[k]) Nd.none := by
  unfold its
  simp [List.getD, List.getElem?_map, List.getElem?_eq_getElem h]
  rfl
theorem endP_take (xs : List Nd) : ∀ k, k ≤ (starts xs (xs.length + 1) 0).length → endP xs ((starts xs (xs.length + 1) 0).take k) = endK xs 0 (trm (its xs) k)
  | 0, _ => by simp [endP, trm, endK]
  | k + 1, h => by
    have hk : k < (starts xs (xs.length + 1) 0).length := h
    rw [List.take_add_one, List.getElem?_eq_getElem hk]
    show endP xs (_ ++ [_]) = _
    rw [endP_snoc, endP_take xs k (by omega), trm, its_fst hk]
    split
    · rfl
    · rw [endK_succ, starts_endK]
theorem endP_all (xs : List Nd) : endP xs (starts xs (xs.length + 1) 0) = endK xs 0 (trm (its xs) (its xs).length) := by
  have h := endP_take xs (starts xs (xs.length + 1) 0).length (Nat.le_refl _)
  rw [List.take_length] at h
  rw [h]
  congr 2
  simp [its]
end Go.Proofs.Ytdgfnceipginkaa
