import Derived.Test.YtlohbaoigfaneaaGreatLrw
import Derived.Test.YtlohbaoigfaneaaGreatSts1
import Derived.Test.YtlohbaoigfaneaaGreatInts
import Derived.Deep.DeepCutAuto
import Derived.Test.YtlohbaoigfaneaaGreatLis
import Derived.Test.YtlohbaoigfaneaaGreatTrn
import Derived.Test.YtlohbaoigfaneaaGreatItb
namespace Go.Proofs.YtlohbaoigfaneaaGreat
open Go.RowKit
set_option linter.unusedVariables false
set_option linter.unusedSimpArgs false
def endK (xs : List Nd) : Nat → Nat → Nat
 | i, 0 => i
 | i, k + 1 => endK xs (i + 1 + (xs.getD i Nd.none).kids.toNat) k
theorem endK_ge (xs : List Nd) : ∀ (k i : Nat), i + k ≤ endK xs i k
 | 0, i => Nat.le_refl _
 | k + 1, i => by
  have := endK_ge xs k (i + 1 + (xs.getD i Nd.none).kids.toNat)
  rw [endK]
  omega
theorem take_app_lt {xs T : List Nd} {e p : Nat} (hp : p < e) (he : e ≤ xs.length) : (xs.take e ++ T).getD p Nd.none = xs.getD p Nd.none := by
 rw [List.getD_eq_getElem?_getD, List.getElem?_append_left (by rw [List.length_take]; omega), List.getElem?_take, if_pos hp, List.getD_eq_getElem?_getD]
theorem take_app_ge {xs T : List Nd} {e j : Nat} (he : e ≤ xs.length) : (xs.take e ++ T).getD (e + j) Nd.none = T.getD j Nd.none := by
 have hl : (xs.take e).length = e := by rw [List.length_take]; omega
 rw [List.getD_eq_getElem?_getD, List.getElem?_append_right (by omega), hl, Nat.add_sub_cancel_left, List.getD_eq_getElem?_getD]
theorem starts_cut {xs : List Nd} {a b c : Nd} (ha : a.kids = 0) (hb : b.kids = 0) (hc : c.kids = 0) (hk : ∀ i, i < xs.length → 0 ≤ (xs.getD i Nd.none).kids ∧ (i : Int) + 1 + (xs.getD i Nd.none).kids ≤ xs.length) :
 ∀ (k f g i : Nat), i ≤ xs.length → k ≤ (starts xs f i).length → k + 4 ≤ g → endK xs i k ≤ xs.length ∧ starts (xs.take (endK xs i k) ++ [a, b, c]) g i = (starts xs f i).take k ++ [endK xs i k, endK xs i k + 1, endK xs i k + 2]
 | 0, f, g, i, hi, _, hg => by
  obtain ⟨g', rfl⟩ : ∃ g', g = g' + 4 := ⟨g - 4, by omega⟩
  refine ⟨hi, ?_⟩
  have hl : (xs.take i ++ [a, b, c]).length = i + 3 := by rw [List.length_append, List.length_take]; simp; omega
  have e0 := take_app_ge (T := [a, b, c]) (j := 0) hi
  have e1 := take_app_ge (T := [a, b, c]) (j := 1) hi
  have e2 := take_app_ge (T := [a, b, c]) (j := 2) hi
  simp only [List.getD_cons_zero, List.getD_cons_succ, Nat.add_zero] at e0 e1 e2
  simp only [endK, List.take_zero, List.nil_append]
  rw [starts, if_pos (by omega), e0, ha, starts, if_pos (by simp; omega)]
  simp only [Int.toNat_zero, Nat.add_zero]
  rw [e1, hb, starts, if_pos (by simp; omega)]
  simp only [Int.toNat_zero, Nat.add_zero]
  rw [e2, hc, starts, if_neg (by simp; omega)]
 | k + 1, f, g, i, hi, hkl, hg => by
  cases f with
  | zero => simp [starts] at hkl
  | succ f =>
   obtain ⟨g', rfl⟩ : ∃ g', g = g' + 1 := ⟨g - 1, by omega⟩
   rw [starts] at hkl
   split at hkl
   ·rename_i hil
    have h1 := hk i hil
    obtain ⟨h2, h3⟩ := starts_cut ha hb hc hk k f g' (i + 1 + (xs.getD i Nd.none).kids.toNat) (by omega) (by simpa using hkl) (by omega)
    have h4 := endK_ge xs k (i + 1 + (xs.getD i Nd.none).kids.toNat)
    refine ⟨h2, ?_⟩
    rw [endK]
    obtain ⟨e, he⟩ : ∃ e, e = endK xs (i + 1 + (xs.getD i Nd.none).kids.toNat) k := ⟨_, rfl⟩
    rw [← he] at h2 h3 h4 ⊢
    have hl : (xs.take e ++ [a, b, c]).length = e + 3 := by rw [List.length_append, List.length_take]; simp; omega
    rw [starts, if_pos (by omega), take_app_lt (by omega) h2, h3]
    rw [starts, if_pos hil, List.take_succ_cons, List.cons_append]
   ·simp at hkl
theorem starts_below {xs : List Nd} (hk : ∀ i, i < xs.length → 0 ≤ (xs.getD i Nd.none).kids ∧ (i : Int) + 1 + (xs.getD i Nd.none).kids ≤ xs.length) : ∀ (k f i p : Nat), p ∈ (starts xs f i).take k → p < endK xs i k
 | 0, f, i, p, hp => by simp at hp
 | k + 1, 0, i, p, hp => by simp [starts] at hp
 | k + 1, f + 1, i, p, hp => by
  rw [starts] at hp
  split at hp
  ·rw [List.take_succ_cons] at hp
   rw [endK]
   rcases List.mem_cons.1 hp with rfl | hp
   ·have := endK_ge xs k (p + 1 + (xs.getD p Nd.none).kids.toNat)
    omega
   ·exact starts_below hk k f _ p hp
  ·simp at hp
theorem its_cut {xs : List Nd} {a b c : Nd} (ha : a.kids = 0) (hb : b.kids = 0) (hc : c.kids = 0) (hk : ∀ i, i < xs.length → 0 ≤ (xs.getD i Nd.none).kids ∧ (i : Int) + 1 + (xs.getD i Nd.none).kids ≤ xs.length) {k : Nat} (hkl : k ≤ (its xs).length) :
 endK xs 0 k ≤ xs.length ∧ its (xs.take (endK xs 0 k) ++ [a, b, c]) = (its xs).take k ++ [(a, (endK xs 0 k : Int), (endK xs 0 k : Int) + 1), (b, (endK xs 0 k : Int) + 1, (endK xs 0 k : Int) + 2), (c, (endK xs 0 k : Int) + 2, (endK xs 0 k : Int) + 3)] := by
 have hkl' : k ≤ (starts xs (xs.length + 1) 0).length := by simpa [its] using hkl
 have h4 := endK_ge xs k 0
 obtain ⟨h0, _⟩ := starts_cut ha hb hc hk k (xs.length + 1) (k + 4) 0 (by omega) hkl' (by omega)
 obtain ⟨e, he⟩ : ∃ e, e = endK xs 0 k := ⟨_, rfl⟩
 have hl : (xs.take e ++ [a, b, c]).length = e + 3 := by rw [he, List.length_append, List.length_take]; simp; omega
 obtain ⟨_, h2⟩ := starts_cut ha hb hc hk k (xs.length + 1) (e + 3 + 1) 0 (by omega) hkl' (by omega)
 rw [← he] at h0 h2 h4 ⊢
 refine ⟨h0, ?_⟩
 unfold its
 rw [hl, h2, List.map_append, ← List.map_take]
 have e0 := take_app_ge (T := [a, b, c]) (j := 0) h0
 have e1 := take_app_ge (T := [a, b, c]) (j := 1) h0
 have e2 := take_app_ge (T := [a, b, c]) (j := 2) h0
 simp only [List.getD_cons_zero, List.getD_cons_succ, Nat.add_zero] at e0 e1 e2
 congr 1
 ·refine List.map_congr_left (fun p hp => ?_)
  have hpe : p < e := by
   rw [he]
   exact starts_below hk k (xs.length + 1) 0 p hp
  unfold itAt
  rw [take_app_lt hpe h0]
 ·simp only [List.map_cons, List.map_nil, itAt, e0, e1, e2, ha, hb, hc]
  simp
  omega
theorem trnB_fst {ys zs : List It} (h : ys.map Prod.fst = zs.map Prod.fst) (a : Nat) : trnB ys a = trnB zs a := by
 have hg : ∀ i, (ys.getD i It.none).1 = (zs.getD i It.none).1 := fun i => by
  have h1 := congrArg (fun l => l.getD i Nd.none) h
  simp only [List.getD_eq_getElem?_getD, List.getElem?_map] at h1 ⊢
  cases h2 : ys[i]? <;> cases h3 : zs[i]? <;> simp_all
 unfold trnB brkB
 rw [hg a, hg (a - 1)]
def rowI (xs : List Nd) (S : Sy) : List It := (its xs).take (trm (its xs) (its xs).length) ++ [(penN 10000, 0, 0), (gapN S.f0 S.f1 S.f2 S.f3 S.f4, 0, 0), (penN (-10000), 0, 0)]
def rowL (xs : List Nd) (S : Sy) : List (List Nd) := (itemsOf xs).take (trm (its xs) (its xs).length) ++ [[penN 10000], [gapN S.f0 S.f1 S.f2 S.f3 S.f4], [penN (-10000)]]
theorem trm_le (ys : List It) : ∀ m, trm ys m ≤ m
 | 0 => Nat.le_refl _
 | m + 1 => by
  rw [trm]
  have := trm_le ys m
  split <;> omega
def bl0 (xs : List Nd) (S : Sy) : List Int := ((List.range (rowI xs S).length).filter (trnB (rowI xs S))).map (fun a : Nat => (a : Int))
def blL (xs : List Nd) (S : Sy) : List Int := if syB S = true ∧ listB xs = true ∧ (its xs).length ≤ 2000 ∧ (bl0 xs S).length ≤ 300 then bl0 xs S else []
theorem loadSy {W : World} {G : Nat} {cs : Array Value} (hsz : cs.size = 23) (h : W.heap[G]? = some (.cells cs 35 (0, 0))) : (loadVar 35 ⟨G, 0, none⟩).run Tryz.prog W = .ok (.agg cs) W :=
 run_loadVar_row _ _ 35 35 _ (0, 0) _ h Tryz.underlying35 rfl (by rw [hsz]; kernel_rfl)
theorem items_its {xs : List Nd} (h : listB xs = true) : (itemsOf xs).length = (its xs).length := by
 unfold itemsOf its
 rw [if_pos h, List.length_map, List.length_map]
theorem own1_below {base n : Nat} {w w' : World} {v : Value} {xs : List Value} (h : w.ownsRow base 2 1 v n xs) (hb : Below w.heap.size w w') : w'.ownsRow base 2 1 v n xs := by
 obtain ⟨hl, h | ⟨g, cap, cur, rfl, hg, hbk, hr⟩⟩ := h
 ·exact ⟨hl, .inl h⟩
 ·exact ⟨hl, .inr ⟨g, cap, cur, rfl, hg, (hb.block g (Array.getElem?_eq_some_iff.1 hbk).1).trans hbk, hr⟩⟩
def flT (ys : List It) (k : Nat) : List Int := ((List.range k).filter (trnB ys)).map (fun a : Nat => (a : Int))
theorem flT_succ (ys : List It) (k : Nat) : flT ys (k + 1) = if trnB ys k = true then flT ys k ++ [(k : Int)] else flT ys k := by
 unfold flT
 rw [List.range_succ, List.filter_append]
 by_cases h : trnB ys k = true
 ·rw [if_pos h]; simp [h]
 ·rw [if_neg h]; simp [h]
theorem flT_len (ys : List It) (k : Nat) : (flT ys k).length ≤ k := by
 unfold flT
 rw [List.length_map]
 exact Nat.le_trans (List.length_filter_le _ _) (by simp)
theorem rowI_len {xs : List Nd} (S : Sy) (h : listB xs = true) : (rowL xs S).length = (rowI xs S).length := by
 unfold rowL rowI
 simp [items_its h]
theorem item_its {xs : List Nd} (hob : listB xs = true) {i : Nat} (hi : i < (its xs).length) : ∃ rest, (itemsOf xs).getD i [] = ((its xs).getD i It.none).1 :: rest := by
 have hi2 : i < (starts xs (xs.length + 1) 0).length := by simpa [its] using hi
 have hst := starts_lt xs (xs.length + 1) 0 _ (List.getElem_mem hi2)
 have e1 : (itemsOf xs).getD i [] = itemAt xs ((starts xs (xs.length + 1) 0)[i]) := by
  unfold itemsOf
  rw [if_pos hob]
  simp [List.getD, List.getElem?_map, List.getElem?_eq_getElem hi2]
 have e2 : (its xs).getD i It.none = itAt xs ((starts xs (xs.length + 1) 0)[i]) := by
  unfold its
  simp [List.getD, List.getElem?_map, List.getElem?_eq_getElem hi2]
 obtain ⟨p, hp⟩ : ∃ p, p = (starts xs (xs.length + 1) 0)[i] := ⟨_, rfl⟩
 rw [← hp] at e1 e2 hst
 refine ⟨(itemAt xs p).tail, ?_⟩
 rw [e1, e2]
 show itemAt xs p = xs.getD p Nd.none :: (itemAt xs p).tail
 unfold itemAt
 have hd : xs.drop p = xs[p] :: xs.drop (p + 1) := List.drop_eq_getElem_cons hst
 rw [hd, Nat.add_comm 1, List.take_succ_cons]
 simp [List.getD, List.getElem?_eq_getElem hst]
theorem row_item {xs : List Nd} (S : Sy) (hob : listB xs = true) {i : Nat} (hi : i < (rowI xs S).length) : ∃ rest, (rowL xs S).getD i [] = ((rowI xs S).getD i It.none).1 :: rest := by
 obtain ⟨k, hk⟩ : ∃ k, k = trm (its xs) (its xs).length := ⟨_, rfl⟩
 have hkl : k ≤ (its xs).length := by rw [hk]; exact trm_le _ _
 have hkl2 : k ≤ (itemsOf xs).length := by rw [items_its hob]; exact hkl
 unfold rowL rowI at *
 rw [← hk] at hi ⊢
 have hl1 : ((itemsOf xs).take k).length = k := by simp [hkl2]
 have hl2 : ((its xs).take k).length = k := by simp [hkl]
 by_cases h : i < k
 ·obtain ⟨r, hr⟩ := item_its hob (show i < (its xs).length by omega)
  refine ⟨r, ?_⟩
  simp only [List.getD] at hr ⊢
  rw [List.getElem?_append_left (by omega), List.getElem?_append_left (by omega), List.getElem?_take_of_lt h, List.getElem?_take_of_lt h]
  exact hr
 ·have hi3 : i < k + 3 := by simpa [hl2] using hi
  simp only [List.getD]
  rw [List.getElem?_append_right (by omega), List.getElem?_append_right (by omega), hl1, hl2]
  rcases (show i - k = 0 ∨ i - k = 1 ∨ i - k = 2 by omega) with e | e | e <;> rw [e] <;> exact ⟨[], rfl⟩
theorem heads_row {w : World} {lo : Nat} {u : Value} {xs : List Nd} {S : Sy} (hob : listB xs = true) (h : Rws lo w u (rowL xs S)) : Heads lo w u (rowI xs S) := by
 obtain ⟨ao, cap, rfl, hc⟩ := h.is
 refine ⟨ao, cap, by rw [rowI_len S hob], fun hp => ?_⟩
 obtain ⟨b, off, rfl, hlo, hlt, hcell⟩ := hc (by rw [rowI_len S hob]; exact hp)
 refine ⟨b, off, rfl, hlo, hlt, fun i hi => ?_⟩
 obtain ⟨v, h1, h2⟩ := hcell i (by rw [rowI_len S hob]; exact hi)
 obtain ⟨r, hr⟩ := row_item S hob hi
 rw [hr] at h2
 exact ⟨v, r, h1, own_NRow h2 rfl⟩
set_option maxRecDepth 20000 in
set_option maxHeartbeats 8000000 in
theorem specBreaks_any {v : Value} {xs : List Nd} {w : World} (S : Sy) (h : NRow 0 w v xs) (hs : xs.length ≤ 1048576) (hcp : ∀ a n c, v = .slice a n c → n ≤ c ∧ c ≤ 9223372036854775807) :
 Calls Tryz.prog 20 #[v, syV S] w fun e W' => (∃ r u, e = .returned (.tuple #[r, u]) ∧ W'.ownsRow w.heap.size 2 1 u (blL xs S).length ((blL xs S).map (Value.int .i64)) ∧ (blL xs S ≠ [] → listB xs = true ∧ Rws w.heap.size W' r (rowL xs S))) ∧ Below w.heap.size w W' := by
 have SC : Hid (∀ W, Calls Tryz.prog 52 #[syV S] W fun e w' => e = .returned (.bool (syB S)) ∧ Below W.heap.size W w') := hideP (fun W => specStyle_any S W)
 have LC : Hid (∀ W, Below w.heap.size w W → Calls Tryz.prog 53 #[v] W fun e w' => e = .returned (.bool (listB xs)) ∧ Below W.heap.size W w') := hideP (fun W hW => specListOk_any (SRow.below ndStable h hW) hs)
 have IC : Hid (∀ W, Below w.heap.size w W → Calls Tryz.prog 54 #[v] W fun e W' => (∃ a c, e = .returned (.slice a (itemsOf xs).length c)) ∧ Below W.heap.size W W') := hideP (fun W hW => (specItems_any (SRow.below ndStable h hW) hs hcp).mono (fun e W' ⟨⟨u, vs, h1, h2, h3⟩, h4⟩ => by
  obtain ⟨a, c, hu, _⟩ := own25_shape h2
  exact ⟨⟨a, c, by rw [h1, hu]⟩, h4⟩))
 have RC : Hid (listB xs = true → ∀ W, Below w.heap.size w W → Calls Tryz.prog 55 #[v, syV S] W fun e W' => (∃ u, e = .returned u ∧ Rws W.heap.size W' u (rowL xs S)) ∧ Below W.heap.size W W') := hideP (fun hb W hW => l9Row_any S (SRow.below ndStable h hW) hs hcp hb)
 have hsy : ∃ cs : Array Value, syV S = .agg cs ∧ cs.size = 23 := ⟨_, rfl, rfl⟩
 obtain ⟨cs, hcs, hsz⟩ := hsy
 rw [hcs] at SC RC ⊢
 obtain ⟨va, vn, vc, rfl, _⟩ := h
 obtain ⟨sb, hsb⟩ : ∃ sb, sb = syB S := ⟨_, rfl⟩
 rw [← hsb] at SC
 obtain ⟨lb, hlb⟩ : ∃ lb, lb = listB xs := ⟨_, rfl⟩
 rw [← hlb] at LC RC
 have HSB := hideP hsb
 have HLB := hideP hlb
 clear hcs hs hcp hsb hlb
 obtain ⟨W0, hW0⟩ : ∃ W0, W0 = w.alloc (.cells cs 35) := ⟨_, rfl⟩
 have hG0 : W0.heap[w.heap.size]? = some (.cells cs 35 (0, 0)) := by rw [hW0]; exact heap_alloc_new w _
 have hZ0 : W0.heap.size = w.heap.size + 1 := by rw [hW0]; simp
 have B0 : Below w.heap.size w W0 := by rw [hW0]; exact below1 w _
 have hG1 : (W0.alloc (.cells #[] 2)).heap[w.heap.size]? = some (.cells cs 35 (0, 0)) := (Below.heap_alloc _ _ _ (by omega)).trans hG0
 have B1 : Hid (Below w.heap.size w (W0.alloc (.cells #[] 2))) := hideP (B0.alloc B0.size _)
 have O1 : Hid ((W0.alloc (.cells #[] 2)).ownsRow w.heap.size 2 1 (.slice (some ⟨W0.heap.size, 0, none⟩) 0 0) 0 []) := hideP ⟨rfl, .inr ⟨_, _, _, rfl, by omega, heap_alloc_new W0 _, Nat.le_refl _, by unfold maxLen; omega, rfl, rfl⟩⟩
 have hld1 := loadSy hsz hG1
 have HG1 := hideP hG1
 clear hG0 B0
 go_enter Tryz.func20, Tryz.ntmps20
 go_upto_region 1 with fail
 rw [← hW0]
 clear hW0
 go_upto_region 2 with fail
 rw [hZ0] at O1
 obtain ⟨g0, hg0⟩ : ∃ g0, g0 = w.heap.size + 1 := ⟨_, rfl⟩
 rw [← hg0] at O1
 rw [← hg0]
 generalize World.alloc _ _ = W1 at B1 O1 hld1 HG1 ⊢
 clear hZ0 hg0 hG1
 clear hld1
 obtain ⟨nI, hnI⟩ : ∃ nI, nI = (itemsOf xs).length := ⟨_, rfl⟩
 rw [← hnI] at IC
 have HNI := hideP hnI
 have hO1 := O1.out.lt g0 rfl
 clear hnI
 go_cut [23] (fun s23 wc => (∃ t : Bool, s23 = .bool t ∧ (t = false ↔ sb = true ∧ lb = true ∧ nI ≤ 2000)) ∧ Hid (Below W1.heap.size W1 wc))
 case first =>
  go_wp2_with (refine wpList_load_row rfl 35 _ rfl w.heap.size rfl cs 35 (0, 0) HG1.out _ Tryz.underlying35 rfl (by rw [hsz]; kernel_rfl) ?_)
  refine (SC.out W1).mono ?_
  rintro e w2 ⟨rfl, hb2⟩
  have B2 := hideP hb2
  have BB2 : Hid (Below w.heap.size w w2) := hideP (below_more B1.out hb2 B1.out.size)
  clear hb2
  cases sb with
  | false =>
   go_wp2
   go_meet
   case rel => exact ⟨⟨_, rfl, by simp⟩, B2⟩
  | true =>
   go_wp2_with fail
   refine (LC.out w2 BB2.out).mono ?_
   rintro e w3 ⟨rfl, hb3⟩
   have B3 : Hid (Below W1.heap.size W1 w3) := hideP (below_more B2.out hb3 B2.out.size)
   have BB3 : Hid (Below w.heap.size w w3) := hideP (below_more BB2.out hb3 BB2.out.size)
   clear hb3
   cases lb with
   | false =>
    go_wp2
    go_meet
    case rel => exact ⟨⟨_, rfl, by simp⟩, B3⟩
   | true =>
    go_wp2_with fail
    refine (IC.out w3 BB3.out).mono ?_
    rintro e w4 ⟨⟨ia, ic, rfl⟩, hb4⟩
    have B4 : Hid (Below W1.heap.size W1 w4) := hideP (below_more B3.out hb4 B3.out.size)
    clear hb4
    by_cases hn : 2000 < nI
    ·have hni : (2000 : Int) < (nI : Int) := by omega
     have hnd : decide ((2000 : Int) < (nI : Int)) = true := by simp; omega
     go_wp2
     go_meet
     case rel => exact ⟨⟨_, rfl, by simp; omega⟩, B4⟩
    ·have hni : ¬ (2000 : Int) < (nI : Int) := by omega
     have hnd : decide ((2000 : Int) < (nI : Int)) = false := by simp; omega
     go_wp2
     go_meet
     case rel => exact ⟨⟨_, rfl, by simp; omega⟩, B4⟩
 case rest =>
  obtain ⟨⟨t, rfl, ht⟩, BC⟩ := hcut
  have BW : Hid (Below w.heap.size w wc) := hideP (below_more B1.out BC.out B1.out.size)
  have OC : Hid (wc.ownsRow w.heap.size 2 1 (.slice (some ⟨g0, 0, none⟩) 0 0) 0 []) := hideP (own1_below O1.out BC.out)
  have HGC := hideP ((BC.out.block w.heap.size (Array.getElem?_eq_some_iff.1 HG1.out).1).trans HG1.out)
  clear O1 B1 HG1 BC SC LC IC hO1
  cases t with
  | true =>
   have hbl : blL xs S = [] := by
    unfold blL
    rw [if_neg]
    rintro ⟨h1, h2, h3, h4⟩
    have := ht.2 ⟨HSB.out.trans h1, HLB.out.trans h2, by rw [HNI.out, items_its h2]; exact h3⟩
    cases this
   have HBL := hideP hbl
   clear ht hbl
   have OD := hideP (own1_below OC.out (below1 wc (.cells #[] 31)))
   have BD : Hid (Below w.heap.size w (wc.alloc (.cells #[] 31))) := hideP (BW.out.alloc BW.out.size _)
   go_wp2
   refine bodyPost_ret (v := .tuple #[_, _]) (by simp [results, Tryz.results20, go_sem]; exact ⟨rfl, rfl⟩) rfl ?_
   exact ⟨⟨_, _, rfl, by rw [HBL.out]; exact OD.out, fun h => absurd HBL.out h⟩, BD.out⟩
  | false =>
   obtain ⟨rfl, rfl, hn2⟩ := ht.1 rfl
   clear ht
   go_wp2_with (refine wpList_load_row rfl 35 _ rfl w.heap.size rfl cs 35 (0, 0) HGC.out _ Tryz.underlying35 rfl (by rw [hsz]; kernel_rfl) ?_)
   refine (RC.out (by first | rfl | trivial) wc BW.out).mono ?_
   rintro e w5 ⟨⟨u, rfl, hR⟩, hb5⟩
   have hob : listB xs = true := HLB.out.symm
   have hh := heads_row hob hR
   obtain ⟨ys, hys⟩ : ∃ ys, ys = rowI xs S := ⟨_, rfl⟩
   have HBL : Hid (blL xs S = if (flT ys ys.length).length ≤ 300 then flT ys ys.length else []) := hideP (by
    unfold blL
    have e : bl0 xs S = flT ys ys.length := by rw [hys]; rfl
    rw [e]
    by_cases h3 : (flT ys ys.length).length ≤ 300
    ·rw [if_pos ⟨HSB.out.symm, hob, by rw [← items_its hob, ← HNI.out]; exact hn2, h3⟩, if_pos h3]
    ·rw [if_neg (fun h => h3 h.2.2.2), if_neg h3])
   have hN : ys.length ≤ 2003 := by
    rw [hys]
    unfold rowI
    have := trm_le (its xs) (its xs).length
    rw [HNI.out, items_its hob] at hn2
    simp
    omega
   rw [← hys] at hh
   obtain ⟨N, hNN⟩ : ∃ N, N = ys.length := ⟨_, rfl⟩
   rw [← hNN] at hN HBL
   have HN := hideP hNN
   obtain ⟨uu, uc, rfl, _⟩ := hh.is
   rw [← hNN] at hh hR
   have HRW := hideP hR
   have HWZ : Hid (w.heap.size ≤ wc.heap.size) := hideP BW.out.size
   rw [← hNN]
   have HH := hideP hh
   have BW5 : Hid (Below w.heap.size w w5) := hideP (below_more BW.out hb5 BW.out.size)
   have O5 : Hid (w5.ownsRow w.heap.size 2 1 (.slice (some ⟨g0, 0, none⟩) 0 0) (flT ys 0).length ((flT ys 0).map (Value.int .i64))) := hideP (own1_below OC.out hb5)
   have hg0l : g0 < wc.heap.size := (OC.out.lt g0 rfl).2
   clear hb5 hR hob hys hNN hh RC hn2 HGC OC BW
   go_wp2
   go_loopw [6, 8] (fun s6 s8 wr => ∃ (k : Nat) (u : Value), k ≤ N ∧ s8 = .int .i64 k ∧ s6 = u ∧ wr.ownsRow w.heap.size 2 1 u (flT ys k).length ((flT ys k).map (Value.int .i64)) ∧ (∀ gg, u.ownBlock = some gg → gg < wc.heap.size ∨ w5.heap.size ≤ gg) ∧ Abv wc.heap.size w5 wr ∧ Below w.heap.size w wr) (fun _ s _ => N - (intOf s).toNat)
   case atStart => exact ⟨0, _, by omega, rfl, rfl, O5.out, fun gg e => .inl (by have e2 : g0 = gg := (by simpa [Value.ownBlock] using e); omega), Abv.refl _ _, BW5.out⟩
   case round =>
    obtain ⟨k, u, hk, rfl, rfl, ho, hgg, hav, hB⟩ := hrel
    have hhr := HH.out.abv hav
    have HGG := hideP hgg
    have HAV := hideP hav
    by_cases hkN : k < N
    ·have hki : (k : Int) < (N : Int) := by omega
     have BC : Hid (Calls Tryz.prog 56 #[.slice uu N uc, .int .i64 (k : Int)] wr fun e w' => e = .returned (.bool (trnB ys k)) ∧ Below wr.heap.size wr w') := hideP (l9Is_any k hhr HN.out.symm hkN (by omega))
     obtain ⟨pb, hpb⟩ : ∃ b, b = trnB ys k := ⟨_, rfl⟩
     rw [← hpb] at BC
     have hfl := flT_succ ys k
     rw [← hpb] at hfl
     have HFL := hideP hfl
     have hfk := flT_len ys k
     obtain ⟨m, hm⟩ : ∃ m, m = (flT ys k).length := ⟨_, rfl⟩
     rw [← hm] at ho hfk
     have HM := hideP hm
     have HO := hideP ho
     have HHr := hideP hhr
     have HBr := hideP hB
     obtain ⟨ua2, uc2, rfl⟩ := ownG_shape ho
     clear hfl hpb hm ho hhr hB hgg hav
     go_wp2_with fail
     refine BC.out.mono ?_
     rintro e w6 ⟨rfl, hb6⟩
     have O6 := ownG_below HO.out hb6
     have H6 : Abv wc.heap.size w5 w6 := HAV.out.trans (Abv.below hb6)
     have B6 : Below w.heap.size w w6 := below_more HBr.out hb6 HBr.out.size
     have HO6 := hideP O6
     have HH6 := hideP H6
     have HB6 := hideP B6
     have hsz6 : w.heap.size ≤ w6.heap.size := B6.size
     clear hb6 O6 H6 B6
     cases pb with
     | false =>
      go_wp2
      go_roundw
      case rel =>
       refine ⟨k + 1, _, by omega, by go_num, rfl, ?_, HGG.out, HH6.out, HB6.out⟩
       rw [HFL.out]
       simp only [if_neg (show ¬ (false = true) by decide), Bool.false_eq_true, if_false]
       rw [← HM.out]
       exact HO6.out
      case measure => simp [intOf]; omega
     | true =>
      obtain ⟨j0, hj, hy0, hy1, hy2⟩ := info_parts Tryz.info2i
      go_wp2_with (at_builtin; refine wpList_append_at rfl _ _ 27 rfl w.heap.size 2 j0 _ 1 8 Tryz.underlying27 hj hy0 hy1 hy2 rfl (by decide) _ _ _ rfl (World.ownsRow.alloc HO6.out _) ⟨w6.heap.size, 0, none⟩ 1 1 [.int .i64 (k : Int)] rfl rfl (cell_one_new _ _ _) (by simp [Value.oneCell']) (by unfold maxLen; omega) (by omega) (by simp; omega) ?_)
      intro v7 w7 ho7 hg7 hat7
      have hsa : (w6.alloc (.cells #[.int .i64 (k : Int)] 2)).heap.size = w6.heap.size + 1 := by simp
      have hb7 : ∀ q : Nat, q < w6.heap.size → (Value.slice ua2 m uc2).ownBlock ≠ some q → w7.heap[q]? = w6.heap[q]? := fun q hq hn => (hg7.block q (by omega) (fun e => hn e.symm)).trans (Below.heap_alloc _ _ _ hq)
      have hz2 : w5.heap.size ≤ w6.heap.size := HH6.out.size
      have G7 : Hid (∀ gg, v7.ownBlock = some gg → gg < wc.heap.size ∨ w5.heap.size ≤ gg) := hideP (fun gg e => by
       rcases hat7 with h | h
       ·exact HGG.out gg (h.symm.trans e)
       ·have := Option.some.inj (h.symm.trans e)
        omega)
      have A7 : Hid (Abv wc.heap.size w5 w7) := hideP ⟨Nat.le_trans hz2 (Nat.le_trans (by omega) hg7.size), fun q hq1 hq2 => (hb7 q (by omega) (fun e => by rcases HGG.out q e with h | h <;> omega)).trans (HH6.out.block q hq1 hq2)⟩
      have B7 : Hid (Below w.heap.size w w7) := hideP (by
       have b := HB6.out
       refine ⟨hg7.os.trans b.os, hg7.tape.trans b.tape, hg7.output.trans b.output, Nat.le_trans b.size (Nat.le_trans (by omega) hg7.size), fun q hq => (hb7 q (Nat.lt_of_lt_of_le hq hsz6) (fun e => ?_)).trans (b.block q hq)⟩
       have := (World.ownsRow.lt HO6.out q e).1
       omega)
      have O7 : Hid (w7.ownsRow w.heap.size 2 1 v7 (m + 1) ((flT ys k).map (Value.int .i64) ++ [.int .i64 (k : Int)])) := hideP ho7
      clear ho7 hg7 hat7 hb7 hsa
      go_wp2
      go_roundw
      case rel =>
       refine ⟨k + 1, _, by omega, by go_num, rfl, ?_, G7.out, A7.out, B7.out⟩
       rw [HFL.out]
       simp only [if_true]
       rw [List.length_append, List.length_singleton, ← HM.out, List.map_append]
       exact O7.out
      case measure => simp [intOf]; omega
    ·have hki : ¬ (k : Int) < (N : Int) := by omega
     obtain rfl : k = N := by omega
     obtain ⟨m, hm⟩ : ∃ m, m = (flT ys k).length := ⟨_, rfl⟩
     have HM := hideP hm
     rw [← hm] at ho HBL
     obtain ⟨ua2, uc2, rfl⟩ := ownG_shape ho
     have HO := hideP ho
     have HBr := hideP hB
     clear ho hhr hB hgg hav hm
     by_cases h3 : 300 < m
     ·have h3i : (300 : Int) < (m : Int) := by omega
      have HE : Hid (blL xs S = []) := hideP (by rw [HBL.out, if_neg (by omega)])
      have OE : Hid (((wr.alloc (.cells #[] 31)).alloc (.cells #[] 2)).ownsRow w.heap.size 2 1 (.slice (some ⟨wr.heap.size + 1, 0, none⟩) 0 0) 0 []) := hideP ⟨rfl, .inr ⟨_, _, _, rfl, by have := HBr.out.size; omega, by have := heap_alloc_new (wr.alloc (.cells #[] 31)) (.cells #[] 2); simpa using this, Nat.le_refl _, by unfold maxLen; omega, rfl, rfl⟩⟩
      have BE : Hid (Below w.heap.size w ((wr.alloc (.cells #[] 31)).alloc (.cells #[] 2))) := hideP ((HBr.out.alloc HBr.out.size _).alloc (by have := HBr.out.size; simp; omega) _)
      go_wp2
      refine bodyPost_ret (v := .tuple #[_, _]) (by simp [results, Tryz.results20, go_sem]; exact ⟨rfl, rfl⟩) rfl ?_
      exact ⟨⟨_, _, rfl, by rw [HE.out]; exact OE.out, fun h => absurd HE.out h⟩, BE.out⟩
     ·have h3i : ¬ (300 : Int) < (m : Int) := by omega
      have HE : Hid (blL xs S = flT ys k) := hideP (by rw [HBL.out, if_pos (by omega)])
      go_wp2
      refine bodyPost_ret (v := .tuple #[_, _]) (by simp [results, Tryz.results20, go_sem]; exact ⟨rfl, rfl⟩) rfl ?_
      exact ⟨⟨_, _, rfl, by rw [HE.out, ← HM.out]; exact HO.out, fun _ => ⟨HLB.out.symm, (HRW.out.abv HAV.out).mono HWZ.out⟩⟩, HBr.out⟩
theorem endK_succ (xs : List Nd) : ∀ (k i : Nat), endK xs i (k + 1) = endK xs i k + 1 + (xs.getD (endK xs i k) Nd.none).kids.toNat
 | 0, i => rfl
 | k + 1, i => by
  rw [show endK xs i (k + 1 + 1) = endK xs (i + 1 + (xs.getD i Nd.none).kids.toNat) (k + 1) from rfl, endK_succ xs k]
  rfl
theorem starts_endK (xs : List Nd) : ∀ (f i k : Nat) (h : k < (starts xs f i).length), (starts xs f i)[k] = endK xs i k
 | 0, i, k, h => by simp [starts] at h
 | f + 1, i, k, h => by
  have e : starts xs (f + 1) i = if i < xs.length then i :: starts xs f (i + 1 + (xs.getD i Nd.none).kids.toNat) else [] := rfl
  by_cases hi : i < xs.length
  ·rw [if_pos hi] at e
   cases k with
   | zero => simp only [e, List.getElem_cons_zero]; rfl
   | succ k =>
    simp only [e, List.length_cons] at h
    simp only [e, List.getElem_cons_succ]
    rw [starts_endK xs f _ k (by omega)]
    rfl
  ·rw [if_neg hi] at e
   rw [e] at h
   simp at h
def endP (xs : List Nd) : List Nat → Nat
 | [] => 0
 | ps => ps.foldl (fun e p => if (xs.getD p Nd.none).k = 3 then e else p + 1 + (xs.getD p Nd.none).kids.toNat) 0
theorem endP_snoc (xs : List Nd) (ps : List Nat) (p : Nat) : endP xs (ps ++ [p]) = if (xs.getD p Nd.none).k = 3 then endP xs ps else p + 1 + (xs.getD p Nd.none).kids.toNat := by
 have h : ∀ qs, endP xs qs = qs.foldl (fun e p => if (xs.getD p Nd.none).k = 3 then e else p + 1 + (xs.getD p Nd.none).kids.toNat) 0 := fun qs => by cases qs <;> rfl
 rw [h, h, List.foldl_append]
 rfl
theorem its_fst {xs : List Nd} {k : Nat} (h : k < (starts xs (xs.length + 1) 0).length) : ((its xs).getD k It.none).1 = xs.getD ((starts xs (xs.length + 1) 0)[k]) Nd.none := by
 unfold its
 simp [List.getD, List.getElem?_map, List.getElem?_eq_getElem h]
 rfl
theorem endP_take (xs : List Nd) : ∀ k, k ≤ (starts xs (xs.length + 1) 0).length → endP xs ((starts xs (xs.length + 1) 0).take k) = endK xs 0 (trm (its xs) k)
 | 0, _ => by simp [endP, trm, endK]
 | k + 1, h => by
  have hk : k < (starts xs (xs.length + 1) 0).length := h
  rw [List.take_add_one, List.getElem?_eq_getElem hk]
  show endP xs (_ ++ [_]) = _
  rw [endP_snoc, endP_take xs k (by omega), trm, its_fst hk]
  split
  ·rfl
  ·rw [endK_succ, starts_endK]
theorem endP_all (xs : List Nd) : endP xs (starts xs (xs.length + 1) 0) = endK xs 0 (trm (its xs) (its xs).length) := by
 have h := endP_take xs (starts xs (xs.length + 1) 0).length (Nat.le_refl _)
 rw [List.take_length] at h
 rw [h]
 congr 2
 simp [its]
abbrev Tn := Int × Int × Option Addr × Int
abbrev Tn.none : Tn := (0, 0, Option.none, 0)
def Tn.cells (t : Tn) : List Value := [.int .i64 t.1, .int .i64 t.2.1, .pointer t.2.2.1, .int .i64 t.2.2.2]
def flatT : List Tn → List Value
 | [] => []
 | t :: ts => t.cells ++ flatT ts
theorem flatT_at : ∀ (L : List Tn) (i j : Nat), i < L.length → j < 4 → (flatT L)[i * 4 + j]? = (L.getD i Tn.none).cells[j]?
 | t :: ts, 0, j, _, hj => by
  rw [flatT, Nat.zero_mul, Nat.zero_add, List.getElem?_append_left (by simp [Tn.cells]; omega)]
  rfl
 | t :: ts, i + 1, j, hi, hj => by
  rw [flatT, List.getElem?_append_right (by simp [Tn.cells]; omega)]
  have e : (i + 1) * 4 + j - t.cells.length = i * 4 + j := by simp [Tn.cells]; omega
  rw [e, flatT_at ts i j (by simpa using hi) hj]
  simp [List.getD]
theorem flatT_app : ∀ (a b : List Tn), flatT (a ++ b) = flatT a ++ flatT b
 | [], b => rfl
 | t :: a, b => by rw [List.cons_append, flatT, flatT, flatT_app a b, List.append_assoc]
theorem flatT_set : ∀ (L : List Tn) (i : Nat) (t : Tn), i < L.length → flatT (L.set i t) = ((((flatT L).set (i * 4) (.int .i64 t.1)).set (i * 4 + 1) (.int .i64 t.2.1)).set (i * 4 + 2) (.pointer t.2.2.1)).set (i * 4 + 3) (.int .i64 t.2.2.2)
 | x :: xs, 0, t, _ => by
  simp [flatT, Tn.cells]
 | x :: xs, i + 1, t, h => by
  rw [List.set_cons_succ, flatT, flatT_set xs i t (by simpa using h), flatT]
  have e0 : (i + 1) * 4 = x.cells.length + i * 4 := by simp [Tn.cells]; omega
  have e1 : (i + 1) * 4 + 1 = x.cells.length + (i * 4 + 1) := by simp [Tn.cells]; omega
  have e2 : (i + 1) * 4 + 2 = x.cells.length + (i * 4 + 2) := by simp [Tn.cells]; omega
  have e3 : (i + 1) * 4 + 3 = x.cells.length + (i * 4 + 3) := by simp [Tn.cells]; omega
  rw [e3, e2, e1, e0]
  simp only [List.set_append_right _ _ (Nat.le_add_right _ _), Nat.add_sub_cancel_left]
def Rv (L M : List Tn) (k : Nat) : Prop := M.length = L.length ∧ ∀ i, i < L.length → M.getD i Tn.none = if i < k ∨ L.length - 1 - i < k then L.getD (L.length - 1 - i) Tn.none else L.getD i Tn.none
theorem Rv.start (L : List Tn) : Rv L L 0 := ⟨rfl, fun i hi => by simp⟩
theorem Rv.done {L M : List Tn} {k : Nat} (h : Rv L M k) (hk : L.length ≤ 2 * k + 1) : M = L.reverse := by
 refine List.ext_getElem (by simp [h.1]) (fun i h1 h2 => ?_)
 have hi : i < L.length := by rw [← h.1]; exact h1
 have h3 := h.2 i hi
 rw [List.getD_eq_getElem?_getD, List.getElem?_eq_getElem h1] at h3
 simp only [Option.getD_some] at h3
 rw [h3, List.getElem_reverse]
 have e : L.getD (L.length - 1 - i) Tn.none = L[L.length - 1 - i] := by rw [List.getD_eq_getElem?_getD, List.getElem?_eq_getElem (by omega)]; rfl
 split
 ·exact e
 ·have : i = L.length - 1 - i := by omega
  rw [← e]
  exact congrArg (L.getD · Tn.none) this
theorem getT_ne {xs : List Tn} {p q : Nat} (h : q ≠ p) (y : Tn) : (xs.set p y).getD q Tn.none = xs.getD q Tn.none := by
 rw [List.getD_eq_getElem?_getD, List.getD_eq_getElem?_getD, List.getElem?_set_ne (by omega)]
theorem getT_eq {xs : List Tn} {p : Nat} (h : p < xs.length) (y : Tn) : (xs.set p y).getD p Tn.none = y := by
 rw [List.getD_eq_getElem?_getD, List.getElem?_set_self h]
 rfl
theorem Rv.step {L M : List Tn} {k j : Nat} (h : Rv L M k) (hj : j = L.length - 1 - k) (hk : k < j) : Rv L ((M.set k (M.getD j Tn.none)).set j (M.getD k Tn.none)) (k + 1) := by
 refine ⟨by simp [h.1], fun i hi => ?_⟩
 by_cases hij : i = j
 ·subst hij
  rw [getT_eq (by rw [List.length_set, h.1]; exact hi), h.2 k (by omega)]
  have e : L.length - 1 - i = k := by omega
  rw [if_neg (by omega), if_pos (by omega), e]
 ·rw [getT_ne hij]
  by_cases hik : i = k
  ·subst hik
   rw [getT_eq (by rw [h.1]; exact hi), h.2 j (by omega), if_neg (by omega), if_pos (by omega), ← hj]
  ·rw [getT_ne hik, h.2 i hi]
   by_cases hc : i < k ∨ L.length - 1 - i < k
   ·rw [if_pos hc, if_pos (by omega)]
   ·rw [if_neg hc, if_neg (by omega)]
theorem ownT_set {base g n cap : Nat} {w : World} {xs : List Value} (h : w.ownsRow base 85 4 (.slice (some ⟨g, 0, none⟩) n cap) n xs) (j : Nat) (x : Value) : (w.setCell ⟨g, j, none⟩ x).ownsRow base 85 4 (.slice (some ⟨g, 0, none⟩) n cap) n (xs.set j x) := by
 simpa using (World.ownsRow.stored h j x).1
theorem ownT_drew {base n : Nat} {v : Value} {w : World} {xs : List Value} (h : w.ownsRow base 85 4 v n xs) : w.drew.ownsRow base 85 4 v n xs := h
theorem Sole.drew {g : Nat} {w a : World} (h : Sole g w a) : Sole g w a.drew := ⟨Below.drew h.below, h.other⟩
set_option maxRecDepth 20000 in
set_option maxHeartbeats 8000000 in
theorem reverse_any {base g n cap : Nat} {L : List Tn} {w : World} (h : w.ownsRow base 85 4 (.slice (some ⟨g, 0, none⟩) n cap) n (flatT L)) (hL : L.length = n) (hn : n ≤ 100000) :
 Calls Tryz.prog 110 #[.slice (some ⟨g, 0, none⟩) n cap] w fun e w' => (∃ v, e = .returned v) ∧ w'.ownsRow base 85 4 (.slice (some ⟨g, 0, none⟩) n cap) n (flatT L.reverse) ∧ Sole g w w' := by
 have HO := hideP h
 have HL := hideP hL
 clear h hL
 go_enter Tryz.func110, Tryz.ntmps110
 go_wp2
 go_loopw [2, 3] (fun si sj wr => ∃ (k : Nat) (M : List Tn), k ≤ n ∧ si = .int .i64 (k : Int) ∧ sj = .int .i64 ((n : Int) - 1 - (k : Int)) ∧ Hid (Rv L M k) ∧ Hid (wr.ownsRow base 85 4 (.slice (some ⟨g, 0, none⟩) n cap) n (flatT M)) ∧ Hid (Sole g w wr)) (fun si _ _ => n - (intOf si).toNat)
 case atStart => exact ⟨0, L, by omega, rfl, congrArg _ (by omega), hideP (Rv.start L), HO, hideP (Sole.refl _ _)⟩
 case round =>
  obtain ⟨k, M, hk, rfl, rfl, HR, HW, HS⟩ := hrel
  by_cases hkj : (k : Int) < (n : Int) - 1 - (k : Int)
  ·obtain ⟨j, hj⟩ : ∃ j : Nat, j = n - 1 - k := ⟨_, rfl⟩
   have hji : (n : Int) - 1 - (k : Int) = (j : Int) := by omega
   rw [hji] at hkj ⊢
   have hMl : M.length = n := by rw [HR.out.1, HL.out]
   have hkn : (k : Int) < (n : Int) := by omega
   have hjn : (j : Int) < (n : Int) := by omega
   obtain ⟨x, hx⟩ : ∃ x, x = M.getD k Tn.none := ⟨_, rfl⟩
   obtain ⟨y, hy⟩ : ∃ y, y = M.getD j Tn.none := ⟨_, rfl⟩
   have hc : ∀ i c, i < n → c < 4 → wr.cell? ⟨g, i * 4 + c, none⟩ = (M.getD i Tn.none).cells[c]? := fun i c hi hc => by
    rw [World.ownsRow.cellAt HW.out (i * 4 + c) (by omega), flatT_at M i c (by omega) hc]
   have HST : Hid (Rv L ((M.set k y).set j x) (k + 1)) := hideP (by rw [hx, hy]; exact HR.out.step (by rw [HL.out]; exact hj) (by omega))
   have a0 := hc k 0 (by omega) (by omega)
   have a1 := hc k 1 (by omega) (by omega)
   have a2 := hc k 2 (by omega) (by omega)
   have a3 := hc k 3 (by omega) (by omega)
   have b0 := hc j 0 (by omega) (by omega)
   have b1 := hc j 1 (by omega) (by omega)
   have b2 := hc j 2 (by omega) (by omega)
   have b3 := hc j 3 (by omega) (by omega)
   rw [← hx] at a0 a1 a2 a3
   rw [← hy] at b0 b1 b2 b3
   obtain ⟨x0, x1, x2, x3⟩ := x
   obtain ⟨y0, y1, y2, y3⟩ := y
   simp only [Tn.cells, List.getElem?_cons_zero, List.getElem?_cons_succ, Nat.add_zero] at a0 a1 a2 a3 b0 b1 b2 b3
   have fz : ∀ t, wr.frozen? ⟨g, t, none⟩ = false := World.ownsRow.frozenAt HW.out
   have hgw : g < wr.heap.size := (World.ownsRow.lt HW.out g rfl).2
   have HML := hideP hMl
   have HJ := hideP hj
   have hkj2 : ¬ k = j := by omega
   have hd : ∀ p q : Nat, p < 4 → q < 4 → ¬ k * 4 + p = j * 4 + q := fun p q _ _ => by omega
   clear hc hx hy hMl hj hji
   go_wp2
   go_region
   obtain ⟨W8, hW8⟩ : ∃ W8, W8 = (((((((((wr.setCell ⟨g, k * 4, none⟩ (.int .i64 y0)).setCell ⟨g, k * 4 + 1, none⟩ (.int .i64 y1)).setCell ⟨g, k * 4 + 2, none⟩ (.pointer y2)).setCell ⟨g, k * 4 + 3, none⟩ (.int .i64 y3)).setCell ⟨g, j * 4, none⟩ (.int .i64 x0)).setCell ⟨g, j * 4 + 1, none⟩ (.int .i64 x1)).setCell ⟨g, j * 4 + 2, none⟩ (.pointer x2)).setCell ⟨g, j * 4 + 3, none⟩ (.int .i64 x3)).drew) := ⟨_, rfl⟩
   rw [← hW8]
   have O8 : Hid (W8.ownsRow base 85 4 (.slice (some ⟨g, 0, none⟩) n cap) n (flatT ((M.set k (y0, y1, y2, y3)).set j (x0, x1, x2, x3)))) := hideP (by
    rw [flatT_set _ j _ (by rw [List.length_set, HML.out]; omega), flatT_set _ k _ (by rw [HML.out]; omega), hW8]
    exact ownT_drew (ownT_set (ownT_set (ownT_set (ownT_set (ownT_set (ownT_set (ownT_set (ownT_set HW.out _ _) _ _) _ _) _ _) _ _) _ _) _ _) _ _))
   have S8 : Hid (Sole g w W8) := hideP (by
    rw [hW8]
    have hq := (((((((HS.out.set (o := k * 4) (.int .i64 y0)).set (o := k * 4 + 1) (.int .i64 y1)).set (o := k * 4 + 2) (.pointer y2)).set (o := k * 4 + 3) (.int .i64 y3)).set (o := j * 4) (.int .i64 x0)).set (o := j * 4 + 1) (.int .i64 x1)).set (o := j * 4 + 2) (.pointer x2)).set (o := j * 4 + 3) (.int .i64 x3)
    exact hq.drew)
   clear hW8 a0 a1 a2 a3 b0 b1 b2 b3 fz hd
   go_wp2
   go_roundw
   case rel => exact ⟨k + 1, _, by omega, by go_num, congrArg _ (by have := HJ.out; push_cast; omega), HST, O8, S8⟩
   case measure => simp [intOf]; omega
  ·have hkj' : ¬ (k : Int) < (n : Int) - 1 - (k : Int) := hkj
   have HE : Hid (M = L.reverse) := hideP (HR.out.done (by rw [HL.out]; omega))
   go_wp2
   go_end0
   refine ⟨⟨_, rfl⟩, ?_, HS.out⟩
   rw [← HE.out]
   exact HW.out
def syL (x : Sy) : List Value := [.int .i64 x.wd, .int .i64 x.nw, .int .i64 x.hg, .int .i64 x.tl, .int .i64 x.ln, .int .i64 x.hy, .int .i64 x.du, .int .i64 x.ad, .int .i64 x.l0, .int .i64 x.l1, .int .i64 x.l2, .int .i64 x.l3, .int .i64 x.l4, .int .i64 x.r0, .int .i64 x.r1, .int .i64 x.r2, .int .i64 x.r3, .int .i64 x.r4, .int .i64 x.f0, .int .i64 x.f1, .int .i64 x.f2, .int .i64 x.f3, .int .i64 x.f4]
structure PZ where
 S : Sy
 nv : Value
 sv : Value
structure ParA (w : World) (PB : Nat) (z5 : PZ) (items turns : Value) : Prop where
 blk : ∃ cs, w.heap[PB]? = some (.cells cs 89 (0, 0)) ∧ cs.size = 27
 c5 : w.cell? ⟨PB, 5, none⟩ = some (.int .i64 z5.S.hy)
 c24 : w.cell? ⟨PB, 24, none⟩ = some items
 c26 : w.cell? ⟨PB, 26, none⟩ = some turns
 c23 : w.cell? ⟨PB, 23, none⟩ = some z5.nv
 c25 : w.cell? ⟨PB, 25, none⟩ = some z5.sv
 sty : ∀ o, o < 23 → w.cell? ⟨PB, o, none⟩ = (syL z5.S)[o]?
theorem ParA.keep {w w' : World} {PB : Nat} {z5 : PZ} {i t : Value} (h : ParA w PB z5 i t) (hb : w'.heap[PB]? = w.heap[PB]?) : ParA w' PB z5 i t := by
 obtain ⟨⟨cs, h1, h2⟩, c5, c24, c26, c23, c25, sty⟩ := h
 exact ⟨⟨cs, hb.trans h1, h2⟩, (World.cell?_of_block (a := ⟨PB, 5, none⟩) hb).trans c5, (World.cell?_of_block (a := ⟨PB, 24, none⟩) hb).trans c24, (World.cell?_of_block (a := ⟨PB, 26, none⟩) hb).trans c26, (World.cell?_of_block (a := ⟨PB, 23, none⟩) hb).trans c23, (World.cell?_of_block (a := ⟨PB, 25, none⟩) hb).trans c25, fun o ho => (World.cell?_of_block (a := ⟨PB, o, none⟩) hb).trans (sty o ho)⟩
theorem ParA.lt {w : World} {PB : Nat} {z5 : PZ} {i t : Value} (h : ParA w PB z5 i t) : PB < w.heap.size := by
 obtain ⟨⟨cs, h1, h2⟩, _⟩ := h
 exact (Array.getElem?_eq_some_iff.1 h1).1
theorem ParA.free {w : World} {PB : Nat} {z5 : PZ} {i t : Value} (h : ParA w PB z5 i t) (o : Nat) : w.frozen? ⟨PB, o, none⟩ = false := by
 obtain ⟨⟨cs, h1, h2⟩, _⟩ := h
 rw [World.frozen?, h1]
 rfl
theorem ParA.set {w : World} {PB : Nat} {z5 : PZ} {i t t' : Value} (h : ParA w PB z5 i t) : ParA (w.setCell ⟨PB, 26, none⟩ t') PB z5 i t' := by
 obtain ⟨⟨cs, h1, h2⟩, c5, c24, c26, c23, c25, sty⟩ := h
 obtain ⟨cur, q1, q2, q3, q4⟩ := putC_block [t'] 26 w cs h1 (by simp; omega)
 have q1' : (w.setCell ⟨PB, 26, none⟩ t').heap[PB]? = some (.cells cur 89 (0, 0)) := q1
 have hc : ∀ o, o ≠ 26 → (w.setCell ⟨PB, 26, none⟩ t').cell? ⟨PB, o, none⟩ = w.cell? ⟨PB, o, none⟩ := fun o ho => by
  rw [cell_of_row _ _ _ _ _ _ q1', cell_of_row _ _ _ _ _ _ h1, q3 o (by simp; omega)]
 refine ⟨⟨cur, q1', q2.trans h2⟩, (hc 5 (by omega)).trans c5, (hc 24 (by omega)).trans c24, ?_, (hc 23 (by omega)).trans c23, (hc 25 (by omega)).trans c25, fun o ho => (hc o (by omega)).trans (sty o ho)⟩
 rw [cell_of_row _ _ _ _ _ _ q1']
 exact q4 0 (by simp)
theorem par_ne {w : World} {PB base n : Nat} {z5 : PZ} {i t v : Value} {xs : List Value} (h : ParA w PB z5 i t) (ho : w.ownsRow base 85 4 v n xs) : v.ownBlock ≠ some PB := by
 obtain ⟨⟨cs, h1, h2⟩, _⟩ := h
 obtain ⟨_, ⟨rfl, _⟩ | ⟨g, cap, cur, rfl, _, hb, _⟩⟩ := ho
 ·simp [Value.ownBlock]
 ·intro e
  have e2 : g = PB := by simpa [Value.ownBlock] using e
  subst e2
  rw [hb] at h1
  simp at h1
def back (ys : List It) (n k : Nat) : List Int := ((((List.range n).drop k).filter (trnB ys)).reverse).map (fun a : Nat => (a : Int))
theorem back_end (ys : List It) (n : Nat) : back ys n n = [] := by
 unfold back
 rw [List.drop_of_length_le (by simp)]
 rfl
theorem back_step (ys : List It) {n k : Nat} (h : k < n) : back ys n k = if trnB ys k = true then back ys n (k + 1) ++ [(k : Int)] else back ys n (k + 1) := by
 unfold back
 have hd : (List.range n).drop k = k :: (List.range n).drop (k + 1) := by
  rw [List.drop_eq_getElem_cons (by simpa using h)]
  simp
 rw [hd, List.filter_cons]
 split <;> simp
def nxt (ys : List It) (k : Nat) : Nat := k + ((ys.drop k).takeWhile (fun y => discB y.1)).length
theorem nxt_end {ys : List It} {n : Nat} (h : ys.length = n) : nxt ys n = n := by
 unfold nxt
 rw [List.drop_of_length_le (by omega)]
 rfl
theorem nxt_step (ys : List It) {k : Nat} (h : k < ys.length) : nxt ys k = if discB (ys.getD k It.none).1 = true then nxt ys (k + 1) else k := by
 unfold nxt
 rw [List.drop_eq_getElem_cons h, List.takeWhile_cons, show ys.getD k It.none = ys[k] by simp [List.getD, List.getElem?_eq_getElem h]]
 split
 ·simp
  omega
 ·simp
def TurnP (hy : Int) (ys : List It) (t : Tn) (W : World) : Prop := t = (-1, 0, none, (nxt ys 0 : Int)) ∨ ∃ (k : Nat) (q : Option Addr), t = ((k : Int), trnC hy ys k, q, (nxt ys (k + 1) : Int)) ∧ k < ys.length ∧ ShowN (ys.getD k It.none).1 q W
theorem TurnP.keep {hy : Int} {ys : List It} {t : Tn} {w w' : World} (h : TurnP hy ys t w) (hk : KeepH w w') : TurnP hy ys t w' := by
 rcases h with h | ⟨k, q, h1, h2, h3⟩
 ·exact .inl h
 ·exact .inr ⟨k, q, h1, h2, h3.keep hk⟩
theorem KeepH.set {w : World} {PB : Nat} {z5 : PZ} {i t : Value} (h : ParA w PB z5 i t) (o : Nat) (v : Value) : KeepH w (w.setCell ⟨PB, o, none⟩ v) := fun b cs e => by
 obtain ⟨cs2, h1, _⟩ := h.blk
 refine (Below.heap_setCell _ _ _ _ (fun e2 => ?_)).trans e
 subst e2
 rw [h1] at e
 cases e
theorem KeepH.grown {w w' : World} {base n : Nat} {v : Value} {xs : List Value} (h : w.ownsRow base 85 4 v n xs) (hg : ∀ b, b < w.heap.size → some b ≠ v.ownBlock → w'.heap[b]? = w.heap[b]?) : KeepH w w' := fun b cs e => by
 refine (hg b (Array.getElem?_eq_some_iff.1 e).1 (fun e2 => ?_)).trans e
 obtain ⟨_, ⟨rfl, _⟩ | ⟨g, cap, cur, rfl, _, hb, _⟩⟩ := h
 ·simp [Value.ownBlock] at e2
 ·have e3 : b = g := by simpa [Value.ownBlock] using e2
  subst e3
  rw [hb] at e
  cases e
theorem back_len (ys : List It) (n k : Nat) : (back ys n k).length ≤ n := by
 unfold back
 rw [List.length_map, List.length_reverse]
 refine Nat.le_trans (List.length_filter_le _ _) ?_
 simp
theorem flatT_one : ∀ L : List Tn, ∀ u ∈ flatT L, u.oneCell' = true
 | [], u, hu => by simp [flatT] at hu
 | t :: ts, u, hu => by
  rw [flatT] at hu
  rcases List.mem_append.1 hu with h | h
  ·simp only [Tn.cells, List.mem_cons, List.not_mem_nil, or_false] at h
   rcases h with rfl | rfl | rfl | rfl <;> rfl
  ·exact flatT_one ts u h
theorem Tryz.info92t : (Tryz.prog.info? 85).map (fun i => (i.zero, i.size, i.bytes)) = some (some (.agg #[.int .i64 0, .int .i64 0, .pointer none, .int .i64 0]), 4, 32) := by kernel_rfl
set_option maxRecDepth 20000 in
set_option maxHeartbeats 8000000 in
theorem addTurns_any {w : World} {PB B cap n : Nat} {ys : List It} {z5 : PZ} (hP : ParA w PB z5 (.slice (some ⟨B, 0, none⟩) n cap) (.slice none 0 0)) (h : ItR w B ys) (hl : ys.length = n) (hB : B < w.heap.size) (hn : n ≤ 5000) (hne : B ≠ PB) :
 Calls Tryz.prog 70 #[.pointer (some ⟨PB, 0, none⟩)] w fun e w' => (∃ v, e = .returned v) ∧ (∃ (ts : List Tn) (g m c : Nat), ts.length = m ∧ ts.map (fun t => t.1) = -1 :: (back ys n 0).reverse ∧ ParA w' PB z5 (.slice (some ⟨B, 0, none⟩) n cap) (.slice (some ⟨g, 0, none⟩) m c) ∧ w'.ownsRow w.heap.size 85 4 (.slice (some ⟨g, 0, none⟩) m c) m (flatT ts) ∧ (∀ t ∈ ts, TurnP z5.S.hy ys t w')) ∧ Fr PB w w' := by
 have c24 := hP.c24
 have hPl := hP.lt
 have HP := hideP hP
 have HI := hideP h
 have HL := hideP hl
 obtain ⟨i0, hi0, hy0, hy1, hy2⟩ := info_parts Tryz.info92t
 clear hP h hl
 go_enter Tryz.func70, Tryz.ntmps70
 go_wp2
 go_loopw [2, 3] (fun s2 s3 wr => ∃ (j : Nat) (nx : Int) (tv : Value) (ts : List Tn), j ≤ n ∧ s2 = .int .i64 nx ∧ s3 = .int .i64 ((j : Int) - 1) ∧ Hid (ts.map (fun t => t.1) = back ys n j) ∧ Hid (ParA wr PB z5 (.slice (some ⟨B, 0, none⟩) n cap) tv) ∧ Hid (wr.ownsRow w.heap.size 85 4 tv ts.length (flatT ts)) ∧ Hid (Fr PB w wr) ∧ Hid (nx = (nxt ys j : Int)) ∧ Hid (∀ t ∈ ts, TurnP z5.S.hy ys t wr)) (fun _ s _ => (intOf s + 1).toNat)
 case atStart => exact ⟨n, _, _, [], Nat.le_refl _, rfl, rfl, hideP (by rw [back_end]; rfl), HP, hideP ⟨rfl, .inl ⟨rfl, rfl⟩⟩, hideP (Fr.refl _ _), hideP (by rw [nxt_end HL.out]), hideP (fun t h => absurd h (by simp))⟩
 case round =>
  obtain ⟨j, nx, tv, ts, hj, rfl, rfl, HT, HPr, HO, HF, HNX, HTS⟩ := hrel
  by_cases hj0 : 0 < j
  ·obtain ⟨k, rfl⟩ : ∃ k, j = k + 1 := ⟨j - 1, by omega⟩
   have hki : ((k + 1 : Nat) : Int) - 1 = (k : Int) := by omega
   rw [hki]
   have hk0 : (0 : Int) ≤ (k : Int) := by omega
   have hBr : wr.heap[B]? = w.heap[B]? := HF.out.2.2.2.2 B hB hne
   have hBl : B < wr.heap.size := Nat.lt_of_lt_of_le hB HF.out.2.2.2.1
   have TC : Hid (∀ W, Below wr.heap.size wr W → Calls Tryz.prog 109 #[.pointer (some ⟨PB, 0, none⟩), .int .i64 (k : Int)] W fun e w' => (∃ (q : Option Addr), e = .returned (.tuple #[.agg #[.int .i64 (k : Int), .int .i64 (trnC z5.S.hy ys k), .pointer q, .int .i64 0], .bool (trnB ys k)]) ∧ ShowN (ys.getD k It.none).1 q w') ∧ Below W.heap.size W w') := hideP (fun W hW => turnAt_any k (HPr.out.keep (hW.block PB HPr.out.lt)).c24 (HPr.out.keep (hW.block PB HPr.out.lt)).c5 (HI.out.block ((hW.block B hBl).trans hBr)) HL.out (Nat.lt_of_lt_of_le hBl hW.size) (by omega) (by omega) (by omega))
   obtain ⟨c, hc⟩ : ∃ c, c = trnC z5.S.hy ys k := ⟨_, rfl⟩
   rw [← hc] at TC
   have HCC := hideP hc
   clear hc
   obtain ⟨bt, hbt⟩ : ∃ b, b = trnB ys k := ⟨_, rfl⟩
   rw [← hbt] at TC
   have HBT := hideP hbt
   clear c24 hbt
   obtain ⟨ut, ct, rfl⟩ := ownG_shape HO.out
   have hTP : (Value.slice ut ts.length ct).ownBlock ≠ some PB := par_ne HPr.out HO.out
   have HTP := hideP hTP
   obtain ⟨y, hy⟩ : ∃ y, y = ys.getD k It.none := ⟨_, rfl⟩
   have HIT : Hid (∀ W, Fr PB w W → W.cell? ⟨B, k * 3, none⟩ = some (thV y.1) ∧ W.cell? ⟨B, k * 3 + 1, none⟩ = some (.int .i64 y.2.1) ∧ W.cell? ⟨B, k * 3 + 2, none⟩ = some (.int .i64 y.2.2)) := hideP (fun W hW => by
    have hI := HI.out.block (hW.2.2.2.2 B hB hne)
    have hk : k < ys.length := by rw [HL.out]; omega
    rw [hy]
    exact ⟨hI.c0 k hk, hI.c1 k hk, hI.c2 k hk⟩)
   have DC : Hid (∀ W, Calls Tryz.prog 93 #[.agg #[thV y.1, .int .i64 y.2.1, .int .i64 y.2.2]] W fun e w' => e = .returned (.bool (discB y.1)) ∧ Below W.heap.size W w') := hideP (fun W => disc_any y.1 y.2.1 y.2.2 W)
   obtain ⟨db, hdb⟩ : ∃ b, b = discB y.1 := ⟨_, rfl⟩
   rw [← hdb] at DC
   have HNS : Hid (nxt ys k = if db = true then nxt ys (k + 1) else k) := hideP (by rw [hdb, hy]; exact nxt_step ys (by rw [HL.out]; omega))
   have HBS := hideP (back_step ys (n := n) (k := k) (by omega))
   obtain ⟨y0, y1, y2⟩ := y
   simp only at HIT DC
   clear hdb
   clear hTP hy
   go_wp2_with fail
   refine (TC.out _ (Below.refl _ _)).mono ?_
   rintro e w5 ⟨⟨q, rfl, hsh5⟩, hb5⟩
   have HSH := hideP hsh5
   have K5 := hideP (KeepH.below hb5)
   have HTS5 : Hid (∀ t ∈ ts, TurnP z5.S.hy ys t w5) := hideP (fun t h => (HTS.out t h).keep K5.out)
   clear hsh5
   have B5 := hideP hb5
   have P5 : Hid (ParA w5 PB z5 (.slice (some ⟨B, 0, none⟩) n cap) (.slice ut ts.length ct)) := hideP (HPr.out.keep (hb5.block PB HPr.out.lt))
   have O5 : Hid (w5.ownsRow w.heap.size 85 4 (.slice ut ts.length ct) ts.length (flatT ts)) := hideP (ownG_below HO.out hb5)
   have F5 : Hid (Fr PB w w5) := hideP (HF.out.below hb5)
   have hP5l : PB < w5.heap.size := P5.out.lt
   have hB5l : B < w5.heap.size := Nat.lt_of_lt_of_le hBl hb5.size
   clear hb5
   cases bt with
   | false =>
    have c24 := P5.out.c24
    have HT7 : Hid (ts.map (fun t => t.1) = back ys n k) := hideP (by rw [HBS.out, ← HBT.out, if_neg (by simp)]; exact HT.out)
    obtain ⟨W7, hW7⟩ : ∃ W7, W7 = w5.alloc (.cells #[.int .i64 (k : Int), .int .i64 c, .pointer q, .int .i64 0] 85) := ⟨_, rfl⟩
    have P7 : Hid (ParA W7 PB z5 (.slice (some ⟨B, 0, none⟩) n cap) (.slice ut ts.length ct)) := hideP (by rw [hW7]; exact P5.out.keep ((below1 w5 _).block PB hP5l))
    have O7 : Hid (W7.ownsRow w.heap.size 85 4 (.slice ut ts.length ct) ts.length (flatT ts)) := hideP (by rw [hW7]; exact ownG_below O5.out (below1 _ _))
    have F7 : Hid (Fr PB w W7) := hideP (by rw [hW7]; exact F5.out.alloc _)
    have K7 : Hid (KeepH w5 W7) := hideP (by rw [hW7]; exact KeepH.below (below1 _ _))
    have hpre : True := trivial
    have k024 := HIT.out w5 F5.out
    obtain ⟨e0, e1, e2⟩ := k024
    go_wp2_with fail
    rw [← hW7]
    clear hW7 e0 e1 e2 c24
    refine (DC.out _).mono ?_
    rintro e w8 ⟨rfl, hb8⟩
    have P8 := hideP (P7.out.keep (hb8.block PB P7.out.lt))
    have O8 := hideP (ownG_below O7.out hb8)
    have F8 := hideP (F7.out.below hb8)
    have TS8 : Hid (∀ t ∈ ts, TurnP z5.S.hy ys t w8) := hideP (fun t h => ((HTS5.out t h).keep K7.out).keep (KeepH.below hb8))
    clear hb8
    cases db with
    | false =>
     go_wp2
     go_roundw
     case rel => exact ⟨k, _, _, ts, by omega, rfl, rfl, HT7, P8, O8, F8, hideP (by rw [HNS.out]; simp), TS8⟩
     case measure => simp [intOf]
    | true =>
     go_wp2
     go_roundw
     case rel => exact ⟨k, _, _, ts, by omega, rfl, rfl, HT7, P8, O8, F8, hideP (by rw [HNS.out]; simpa using HNX.out), TS8⟩
     case measure => simp [intOf]
   | true =>
    have c26 := P5.out.c26
    have fz := P5.out.free
    go_wp2
    obtain ⟨WA, hWA⟩ : ∃ WA, WA = w5.alloc (.cells #[.int .i64 (k : Int), .int .i64 c, .pointer q, .int .i64 nx] 85) := ⟨_, rfl⟩
    rw [← hWA]
    have hsA : WA.heap.size = w5.heap.size + 1 := by rw [hWA]; simp
    have BA : Hid (Below w5.heap.size w5 WA) := hideP (by rw [hWA]; exact below1 _ _)
    have hq := heap_alloc_new w5 (.cells #[.int .i64 (k : Int), .int .i64 c, .pointer q, .int .i64 nx] 85)
    rw [← hWA] at hq
    have PA : Hid (ParA WA PB z5 (.slice (some ⟨B, 0, none⟩) n cap) (.slice ut ts.length ct)) := hideP (P5.out.keep (BA.out.block PB hP5l))
    have OA : Hid (WA.ownsRow w.heap.size 85 4 (.slice ut ts.length ct) ts.length (flatT ts)) := hideP (ownG_below O5.out BA.out)
    have FA : Hid (Fr PB w WA) := hideP (F5.out.below BA.out)
    have t0 : WA.cell? ⟨w5.heap.size, 0, none⟩ = some (.int .i64 (k : Int)) := by rw [cell_of_row WA _ _ _ _ _ hq]; rfl
    have t1 : WA.cell? ⟨w5.heap.size, 1, none⟩ = some (.int .i64 c) := by rw [cell_of_row WA _ _ _ _ _ hq]; rfl
    have t2 : WA.cell? ⟨w5.heap.size, 2, none⟩ = some (.pointer q) := by rw [cell_of_row WA _ _ _ _ _ hq]; rfl
    have t3 : WA.cell? ⟨w5.heap.size, 3, none⟩ = some (.int .i64 nx) := by rw [cell_of_row WA _ _ _ _ _ hq]; rfl
    have c26A := PA.out.c26
    have fzA := PA.out.free
    have hPAl : PB < WA.heap.size := PA.out.lt
    have hwA : w.heap.size ≤ WA.heap.size := FA.out.2.2.2.1
    have hlen : ts.length ≤ n := by
     have h1 := congrArg List.length HT.out
     rw [List.length_map] at h1
     have h2 := back_len ys n (k + 1)
     omega
    have HSA := hideP hsA
    clear hWA hq c26 fz hsA
    have HTB : Hid (∀ X : World, X.heap[w5.heap.size]? = WA.heap[w5.heap.size]? → X.cell? ⟨w5.heap.size, 0, none⟩ = some (.int .i64 (k : Int)) ∧ X.cell? ⟨w5.heap.size, 1, none⟩ = some (.int .i64 c) ∧ X.cell? ⟨w5.heap.size, 2, none⟩ = some (.pointer q) ∧ X.cell? ⟨w5.heap.size, 3, none⟩ = some (.int .i64 nx)) := hideP (fun X hX => ⟨(World.cell?_of_block (a := ⟨w5.heap.size, 0, none⟩) hX).trans t0, (World.cell?_of_block (a := ⟨w5.heap.size, 1, none⟩) hX).trans t1, (World.cell?_of_block (a := ⟨w5.heap.size, 2, none⟩) hX).trans t2, (World.cell?_of_block (a := ⟨w5.heap.size, 3, none⟩) hX).trans t3⟩)
    have hlt5 : w5.heap.size < WA.heap.size := by have := HSA.out; omega
    have TB : Hid ((WA.alloc (.cells #[.int .i64 (k : Int), .int .i64 c, .pointer q, .int .i64 nx] 85)).drew.cell? ⟨w5.heap.size, 0, none⟩ = some (.int .i64 (k : Int)) ∧ (WA.alloc (.cells #[.int .i64 (k : Int), .int .i64 c, .pointer q, .int .i64 nx] 85)).drew.cell? ⟨w5.heap.size, 1, none⟩ = some (.int .i64 c) ∧ (WA.alloc (.cells #[.int .i64 (k : Int), .int .i64 c, .pointer q, .int .i64 nx] 85)).drew.cell? ⟨w5.heap.size, 2, none⟩ = some (.pointer q) ∧ (WA.alloc (.cells #[.int .i64 (k : Int), .int .i64 c, .pointer q, .int .i64 nx] 85)).drew.cell? ⟨w5.heap.size, 3, none⟩ = some (.int .i64 nx)) := hideP (HTB.out _ ((below1 WA _).block _ hlt5))
    have HNE : Hid ((Value.slice ut ts.length ct).ownBlock ≠ some w5.heap.size) := hideP (fun e => by have := (World.ownsRow.lt O5.out _ e).2; omega)
    have OB : Hid ((WA.alloc (.cells #[.int .i64 (k : Int), .int .i64 c, .pointer q, .int .i64 nx] 85)).drew.ownsRow w.heap.size 85 4 (.slice ut ts.length ct) ts.length (flatT ts)) := hideP (ownT_drew (ownG_below OA.out (below1 _ _)))
    have NB : Hid (∀ j z, (flatT [((k : Int), c, q, nx)])[j]? = some z → (WA.alloc (.cells #[.int .i64 (k : Int), .int .i64 c, .pointer q, .int .i64 nx] 85)).drew.cell? ((⟨WA.heap.size, 0, none⟩ : Addr).add j) = some z) := hideP (fun j z hz => by
     have he : ((⟨WA.heap.size, 0, none⟩ : Addr).add j) = ⟨WA.heap.size, j, none⟩ := by simp only [Addr.add]; split <;> simp_all
     have hh2 : (WA.alloc (.cells #[.int .i64 (k : Int), .int .i64 c, .pointer q, .int .i64 nx] 85)).drew.heap[WA.heap.size]? = some (.cells #[.int .i64 (k : Int), .int .i64 c, .pointer q, .int .i64 nx] 85 (0, 0)) := heap_alloc_new WA (.cells #[.int .i64 (k : Int), .int .i64 c, .pointer q, .int .i64 nx] 85)
     rw [he, cell_of_row _ _ _ _ _ _ hh2, ← hz]
     simp [flatT, Tn.cells])
    have hwB : w.heap.size ≤ (WA.alloc (.cells #[.int .i64 (k : Int), .int .i64 c, .pointer q, .int .i64 nx] 85)).drew.heap.size := show w.heap.size ≤ (WA.alloc (.cells #[.int .i64 (k : Int), .int .i64 c, .pointer q, .int .i64 nx] 85)).heap.size by simp; exact Nat.le_succ_of_le hwA
    have FB : Hid (Fr PB w (WA.alloc (.cells #[.int .i64 (k : Int), .int .i64 c, .pointer q, .int .i64 nx] 85)).drew) := hideP ((FA.out.alloc _).drew)
    have PBk : Hid (ParA (WA.alloc (.cells #[.int .i64 (k : Int), .int .i64 c, .pointer q, .int .i64 nx] 85)).drew PB z5 (.slice (some ⟨B, 0, none⟩) n cap) (.slice ut ts.length ct)) := hideP (PA.out.keep ((below1 WA _).block PB hPAl))
    obtain ⟨WB, hWB⟩ : ∃ WB, WB = (WA.alloc (.cells #[.int .i64 (k : Int), .int .i64 c, .pointer q, .int .i64 nx] 85)).drew := ⟨_, rfl⟩
    have KWB : Hid (KeepH w5 WB) := hideP (by rw [hWB]; exact (KeepH.below BA.out).trans (KeepH.below (Below.drew (below1 WA _))))
    have HLB : Hid (w5.heap.size < WB.heap.size ∧ PB < WB.heap.size ∧ WB.heap[w5.heap.size]? = WA.heap[w5.heap.size]?) := hideP (by
     rw [hWB]
     exact ⟨Nat.lt_of_lt_of_le hlt5 (below1 WA (.cells #[.int .i64 (k : Int), .int .i64 c, .pointer q, .int .i64 nx] 85)).size, Nat.lt_of_lt_of_le hPAl (below1 WA (.cells #[.int .i64 (k : Int), .int .i64 c, .pointer q, .int .i64 nx] 85)).size, (below1 WA (.cells #[.int .i64 (k : Int), .int .i64 c, .pointer q, .int .i64 nx] 85)).block _ hlt5⟩)
    rw [← hWB] at OB NB hwB FB PBk
    refine wp_region_held_drew (S := (fun x => x.cell? ⟨w5.heap.size, 0, none⟩ = some (.int .i64 (k : Int)) ∧ x.cell? ⟨w5.heap.size, 1, none⟩ = some (.int .i64 c) ∧ x.cell? ⟨w5.heap.size, 2, none⟩ = some (.pointer q) ∧ x.cell? ⟨w5.heap.size, 3, none⟩ = some (.int .i64 nx))) (by kernel_rfl) ⟨t0, t1, t2, t3⟩ (fun hS => ?_)
    refine wpAnyH_take (i := 0) (v := .pointer (some ⟨PB, 0, none⟩)) rfl (by kernel_rfl) (by kernel_rfl) (by kernel_rfl) (fun _ _ _ h => h) (Or.inl ⟨by first | rfl | go_simp, fun wx hx => by obtain ⟨hx0, hx1, hx2, hx3⟩ := hx; go_simp⟩) hS ?_
    try simp only [Act.put, List.getElem_toArray, List.getElem_cons_zero, List.getElem_cons_succ, List.setIfInBounds_toArray, List.set_cons_zero, List.set_cons_succ]
    refine wpAnyH_take (i := 1) (v := .pointer (some ⟨PB, 0, none⟩)) rfl (by kernel_rfl) (by kernel_rfl) (by kernel_rfl) (fun _ _ _ h => h) (Or.inl ⟨by first | rfl | go_simp, fun wx hx => by obtain ⟨hx0, hx1, hx2, hx3⟩ := hx; go_simp⟩) hS ?_
    try simp only [Act.put, List.getElem_toArray, List.getElem_cons_zero, List.getElem_cons_succ, List.setIfInBounds_toArray, List.set_cons_zero, List.set_cons_succ]
    refine wpAnyH_take (i := 2) (v := .pointer (some ⟨PB, 0, none⟩)) rfl (by kernel_rfl) (by kernel_rfl) (by kernel_rfl) (fun _ _ _ h => h) (Or.inl ⟨by first | rfl | go_simp, fun wx hx => by obtain ⟨hx0, hx1, hx2, hx3⟩ := hx; go_simp⟩) hS ?_
    try simp only [Act.put, List.getElem_toArray, List.getElem_cons_zero, List.getElem_cons_succ, List.setIfInBounds_toArray, List.set_cons_zero, List.set_cons_succ]
    refine wpAnyH_take (i := 3) (v := .pointer (some ⟨PB, 26, none⟩)) rfl (by kernel_rfl) (by kernel_rfl) (by kernel_rfl) (fun _ _ _ h => h) (Or.inl ⟨by first | rfl | go_simp, fun wx hx => by obtain ⟨hx0, hx1, hx2, hx3⟩ := hx; go_simp⟩) hS ?_
    try simp only [Act.put, List.getElem_toArray, List.getElem_cons_zero, List.getElem_cons_succ, List.setIfInBounds_toArray, List.set_cons_zero, List.set_cons_succ]
    refine wpAnyH_take (i := 5) (v := .agg #[.int .i64 (k : Int), .int .i64 c, .pointer q, .int .i64 nx]) rfl (by kernel_rfl) (by kernel_rfl) (by kernel_rfl) (fun _ _ _ h => h) (Or.inl ⟨by first | rfl | go_simp, fun wx hx => by obtain ⟨hx0, hx1, hx2, hx3⟩ := hx; go_simp⟩) hS ?_
    try simp only [Act.put, List.getElem_toArray, List.getElem_cons_zero, List.getElem_cons_succ, List.setIfInBounds_toArray, List.set_cons_zero, List.set_cons_succ]
    refine wpAnyH_ready (rs := [4, 6]) (by kernel_rfl) (by simp) ?_
    refine AllReadyH.cons rfl (fun K hK => ?_) (AllReadyH.cons rfl (fun K hK => ?_) AllReadyH.nil)
    ·rw [if_pos (by first | rfl | go_simp)]
     go_simp
     refine hK.out _ _ (⟨t0, t1, t2, t3⟩) (fun hS2 => ?_)
     try simp only [Act.put, List.getElem_toArray, List.getElem_cons_zero, List.getElem_cons_succ, List.setIfInBounds_toArray, List.set_cons_zero, List.set_cons_succ]
     clear hK K
     refine wpAnyH_ready (rs := [6]) (by kernel_rfl) (by simp) ?_
     refine AllReadyH.cons rfl (fun K hK => ?_) AllReadyH.nil
     rw [if_pos (by first | rfl | go_simp)]
     go_simp
     refine hK.out _ _ (TB.out) (fun hS3 => ?_)
     try simp only [Act.put, List.getElem_toArray, List.getElem_cons_zero, List.getElem_cons_succ, List.setIfInBounds_toArray, List.set_cons_zero, List.set_cons_succ]
     clear hK K
     refine wpAnyH_ready (rs := [7]) (by kernel_rfl) (by simp) ?_
     refine AllReadyH.cons rfl (fun K hK => ?_) AllReadyH.nil
     rw [if_pos (by first | rfl | go_simp)]
     rw [← hWB]
     refine wp_append_at _ _ 82 rfl w.heap.size 85 i0 (.agg #[.int .i64 0, .int .i64 0, .pointer none, .int .i64 0]) 4 32 Tryz.underlying82 hi0 hy0 hy1 hy2 rfl (by decide) (.slice ut ts.length ct) ts.length (flatT ts) rfl OB.out ⟨WA.heap.size, 0, none⟩ 1 1 (flatT [((k : Int), c, q, nx)]) rfl rfl NB.out (flatT_one _) (by unfold maxLen; omega) (by omega) hwB ?_
     intro v6 w6 ho6 hg6 hn6 hat6
     obtain ⟨u6, d6, rfl⟩ := ownG_shape ho6
     have hb6 : w6.heap[w5.heap.size]? = WA.heap[w5.heap.size]? := (hg6.block _ HLB.out.1 (fun e => HNE.out e.symm)).trans HLB.out.2.2
     have T6 := hideP (HTB.out w6 hb6)
     have P6 : Hid (ParA w6 PB z5 (.slice (some ⟨B, 0, none⟩) n cap) (.slice ut ts.length ct)) := hideP (PBk.out.keep (hg6.block PB HLB.out.2.1 (fun e => HTP.out e.symm)))
     have c26B := P6.out.c26
     have fz6 := P6.out.free
     have O6 : Hid (w6.ownsRow w.heap.size 85 4 (.slice u6 (ts.length + 1) d6) (ts.length + 1) (flatT ts ++ flatT [((k : Int), c, q, nx)])) := hideP ho6
     have T7 := hideP (HTB.out (w6.setCell ⟨PB, 26, none⟩ (.slice u6 (ts.length + 1) d6)) ((Below.heap_setCell _ _ _ _ (by simp; omega)).trans hb6))
     have hP6l : PB < w6.heap.size := P6.out.lt
     have G6 := hideP hg6
     have K6 : Hid (KeepH w5 w6) := hideP (KWB.out.trans (KeepH.grown OB.out (fun b h1 h2 => hg6.block b h1 h2)))
     have A6 := hideP hat6
     clear ho6 hg6 hn6 hat6 hb6
     refine hK.out _ _ T6.out (fun hS6 => ?_)
     try simp only [Act.put, List.getElem_toArray, List.getElem_cons_zero, List.getElem_cons_succ, List.setIfInBounds_toArray, List.set_cons_zero, List.set_cons_succ]
     clear hK K
     refine wpAnyH_take (i := 8) (v := .pointer (some ⟨PB, 0, none⟩)) rfl (by kernel_rfl) (by kernel_rfl) (by kernel_rfl) (fun _ _ _ h => h) (Or.inl ⟨by first | rfl | go_simp, fun wx hx => by obtain ⟨hx0, hx1, hx2, hx3⟩ := hx; go_simp⟩) hS6 ?_
     try simp only [Act.put, List.getElem_toArray, List.getElem_cons_zero, List.getElem_cons_succ, List.setIfInBounds_toArray, List.set_cons_zero, List.set_cons_succ]
     refine wpAnyH_take (i := 9) (v := .pointer (some ⟨PB, 26, none⟩)) rfl (by kernel_rfl) (by kernel_rfl) (by kernel_rfl) (fun _ _ _ h => h) (Or.inl ⟨by first | rfl | go_simp, fun wx hx => by obtain ⟨hx0, hx1, hx2, hx3⟩ := hx; go_simp⟩) hS6 ?_
     try simp only [Act.put, List.getElem_toArray, List.getElem_cons_zero, List.getElem_cons_succ, List.setIfInBounds_toArray, List.set_cons_zero, List.set_cons_succ]
     refine wpAnyH_ready (rs := [10]) (by kernel_rfl) (by simp) ?_
     refine AllReadyH.cons rfl (fun K hK => ?_) AllReadyH.nil
     rw [if_pos (by first | rfl | go_simp)]
     go_simp
     refine hK.out _ _ (T7.out) (fun _ => ?_)
     try simp only [Act.put, List.getElem_toArray, List.getElem_cons_zero, List.getElem_cons_succ, List.setIfInBounds_toArray, List.set_cons_zero, List.set_cons_succ]
     clear hK K
     refine wpAnyH_done (by kernel_rfl) ?_ _
     obtain ⟨W7, hW7⟩ : ∃ W7, W7 = w6.setCell ⟨PB, 26, none⟩ (.slice u6 (ts.length + 1) d6) := ⟨_, rfl⟩
     rw [← hW7]
     have HT7 : Hid ((ts ++ [((k : Int), c, q, nx)]).map (fun t => t.1) = back ys n k) := hideP (by rw [HBS.out, ← HBT.out, if_pos rfl, List.map_append, HT.out]; rfl)
     have P7 : Hid (ParA W7 PB z5 (.slice (some ⟨B, 0, none⟩) n cap) (.slice u6 (ts.length + 1) d6)) := hideP (by rw [hW7]; exact P6.out.set)
     have O7 : Hid (W7.ownsRow w.heap.size 85 4 (.slice u6 (ts.length + 1) d6) (ts ++ [((k : Int), c, q, nx)]).length (flatT (ts ++ [((k : Int), c, q, nx)]))) := hideP (by
      rw [hW7, flatT_app, List.length_append]
      exact ownG_other O6.out (par_ne P6.out O6.out) 26 _)
     have F7 : Hid (Fr PB w W7) := hideP (by
      rw [hW7]
      refine Fr.set ?_ _ _
      refine ⟨G6.out.os.trans FB.out.1, G6.out.tape.trans FB.out.2.1, G6.out.output.trans FB.out.2.2.1, Nat.le_trans FB.out.2.2.2.1 G6.out.size, fun b hb hn => ?_⟩
      exact (G6.out.block b (Nat.lt_of_lt_of_le hb FB.out.2.2.2.1) (fun e => by have := (World.ownsRow.lt OB.out b e.symm).1; omega)).trans (FB.out.2.2.2.2 b hb hn))
     have K7 : Hid (KeepH w5 W7) := hideP (by rw [hW7]; exact K6.out.trans (KeepH.set P6.out 26 _))
     have TS7 : Hid (∀ t ∈ ts ++ [((k : Int), c, q, nx)], TurnP z5.S.hy ys t W7) := hideP (fun t h => by
      rcases List.mem_append.1 h with h | h
      ·exact (HTS5.out t h).keep K7.out
      ·rw [List.mem_singleton.1 h]
       exact .inr ⟨k, q, by rw [HCC.out, HNX.out], by rw [HL.out]; omega, HSH.out.keep K7.out⟩)
     clear hW7 c26B fz6 hS hS2 hS3 hS6 t0 t1 t2 t3 c26A fzA
     have c24 := P7.out.c24
     obtain ⟨k0, k1, k2⟩ := HIT.out W7 F7.out
     have hP7l : PB < W7.heap.size := P7.out.lt
     have hB7l : B < W7.heap.size := Nat.lt_of_lt_of_le hB F7.out.2.2.2.1
     go_wp2_with fail
     refine (DC.out _).mono ?_
     rintro e w8 ⟨rfl, hb8⟩
     have P8 := hideP (P7.out.keep (hb8.block PB hP7l))
     have O8 := hideP (ownG_below O7.out hb8)
     have F8 := hideP (F7.out.below hb8)
     have TS8 : Hid (∀ t ∈ ts ++ [((k : Int), c, q, nx)], TurnP z5.S.hy ys t w8) := hideP (fun t h => (TS7.out t h).keep (KeepH.below hb8))
     clear hb8 c24 k0 k1 k2
     cases db with
     | false =>
      go_wp2
      go_roundw
      case rel => exact ⟨k, _, _, (ts ++ [((k : Int), c, q, nx)]), by omega, rfl, rfl, HT7, P8, O8, F8, hideP (by rw [HNS.out]; simp), TS8⟩
      case measure => simp [intOf]
     | true =>
      go_wp2
      go_roundw
      case rel => exact ⟨k, _, _, (ts ++ [((k : Int), c, q, nx)]), by omega, rfl, rfl, HT7, P8, O8, F8, hideP (by rw [HNS.out]; simpa using HNX.out), TS8⟩
      case measure => simp [intOf]
    ·rw [if_pos (by first | rfl | go_simp)]
     go_simp
     refine hK.out _ _ (TB.out) (fun hS2 => ?_)
     try simp only [Act.put, List.getElem_toArray, List.getElem_cons_zero, List.getElem_cons_succ, List.setIfInBounds_toArray, List.set_cons_zero, List.set_cons_succ]
     clear hK K
     have c26W : (WA.alloc (.cells #[.int .i64 (k : Int), .int .i64 c, .pointer q, .int .i64 nx] 85)).drew.cell? ⟨PB, 26, none⟩ = some (.slice ut ts.length ct) := by rw [← hWB]; exact PBk.out.c26
     refine wpAnyH_ready (rs := [4]) (by kernel_rfl) (by simp) ?_
     refine AllReadyH.cons rfl (fun K hK => ?_) AllReadyH.nil
     rw [if_pos (by first | rfl | go_simp)]
     go_simp
     refine hK.out _ _ (TB.out) (fun hS3 => ?_)
     try simp only [Act.put, List.getElem_toArray, List.getElem_cons_zero, List.getElem_cons_succ, List.setIfInBounds_toArray, List.set_cons_zero, List.set_cons_succ]
     clear hK K
     refine wpAnyH_ready (rs := [7]) (by kernel_rfl) (by simp) ?_
     refine AllReadyH.cons rfl (fun K hK => ?_) AllReadyH.nil
     rw [if_pos (by first | rfl | go_simp)]
     rw [← hWB]
     refine wp_append_at _ _ 82 rfl w.heap.size 85 i0 (.agg #[.int .i64 0, .int .i64 0, .pointer none, .int .i64 0]) 4 32 Tryz.underlying82 hi0 hy0 hy1 hy2 rfl (by decide) (.slice ut ts.length ct) ts.length (flatT ts) rfl OB.out ⟨WA.heap.size, 0, none⟩ 1 1 (flatT [((k : Int), c, q, nx)]) rfl rfl NB.out (flatT_one _) (by unfold maxLen; omega) (by omega) hwB ?_
     intro v6 w6 ho6 hg6 hn6 hat6
     obtain ⟨u6, d6, rfl⟩ := ownG_shape ho6
     have hb6 : w6.heap[w5.heap.size]? = WA.heap[w5.heap.size]? := (hg6.block _ HLB.out.1 (fun e => HNE.out e.symm)).trans HLB.out.2.2
     have T6 := hideP (HTB.out w6 hb6)
     have P6 : Hid (ParA w6 PB z5 (.slice (some ⟨B, 0, none⟩) n cap) (.slice ut ts.length ct)) := hideP (PBk.out.keep (hg6.block PB HLB.out.2.1 (fun e => HTP.out e.symm)))
     have c26B := P6.out.c26
     have fz6 := P6.out.free
     have O6 : Hid (w6.ownsRow w.heap.size 85 4 (.slice u6 (ts.length + 1) d6) (ts.length + 1) (flatT ts ++ flatT [((k : Int), c, q, nx)])) := hideP ho6
     have T7 := hideP (HTB.out (w6.setCell ⟨PB, 26, none⟩ (.slice u6 (ts.length + 1) d6)) ((Below.heap_setCell _ _ _ _ (by simp; omega)).trans hb6))
     have hP6l : PB < w6.heap.size := P6.out.lt
     have G6 := hideP hg6
     have K6 : Hid (KeepH w5 w6) := hideP (KWB.out.trans (KeepH.grown OB.out (fun b h1 h2 => hg6.block b h1 h2)))
     have A6 := hideP hat6
     clear ho6 hg6 hn6 hat6 hb6
     refine hK.out _ _ T6.out (fun hS6 => ?_)
     try simp only [Act.put, List.getElem_toArray, List.getElem_cons_zero, List.getElem_cons_succ, List.setIfInBounds_toArray, List.set_cons_zero, List.set_cons_succ]
     clear hK K
     refine wpAnyH_take (i := 8) (v := .pointer (some ⟨PB, 0, none⟩)) rfl (by kernel_rfl) (by kernel_rfl) (by kernel_rfl) (fun _ _ _ h => h) (Or.inl ⟨by first | rfl | go_simp, fun wx hx => by obtain ⟨hx0, hx1, hx2, hx3⟩ := hx; go_simp⟩) hS6 ?_
     try simp only [Act.put, List.getElem_toArray, List.getElem_cons_zero, List.getElem_cons_succ, List.setIfInBounds_toArray, List.set_cons_zero, List.set_cons_succ]
     refine wpAnyH_take (i := 9) (v := .pointer (some ⟨PB, 26, none⟩)) rfl (by kernel_rfl) (by kernel_rfl) (by kernel_rfl) (fun _ _ _ h => h) (Or.inl ⟨by first | rfl | go_simp, fun wx hx => by obtain ⟨hx0, hx1, hx2, hx3⟩ := hx; go_simp⟩) hS6 ?_
     try simp only [Act.put, List.getElem_toArray, List.getElem_cons_zero, List.getElem_cons_succ, List.setIfInBounds_toArray, List.set_cons_zero, List.set_cons_succ]
     refine wpAnyH_ready (rs := [10]) (by kernel_rfl) (by simp) ?_
     refine AllReadyH.cons rfl (fun K hK => ?_) AllReadyH.nil
     rw [if_pos (by first | rfl | go_simp)]
     go_simp
     refine hK.out _ _ (T7.out) (fun _ => ?_)
     try simp only [Act.put, List.getElem_toArray, List.getElem_cons_zero, List.getElem_cons_succ, List.setIfInBounds_toArray, List.set_cons_zero, List.set_cons_succ]
     clear hK K
     refine wpAnyH_done (by kernel_rfl) ?_ _
     obtain ⟨W7, hW7⟩ : ∃ W7, W7 = w6.setCell ⟨PB, 26, none⟩ (.slice u6 (ts.length + 1) d6) := ⟨_, rfl⟩
     rw [← hW7]
     have HT7 : Hid ((ts ++ [((k : Int), c, q, nx)]).map (fun t => t.1) = back ys n k) := hideP (by rw [HBS.out, ← HBT.out, if_pos rfl, List.map_append, HT.out]; rfl)
     have P7 : Hid (ParA W7 PB z5 (.slice (some ⟨B, 0, none⟩) n cap) (.slice u6 (ts.length + 1) d6)) := hideP (by rw [hW7]; exact P6.out.set)
     have O7 : Hid (W7.ownsRow w.heap.size 85 4 (.slice u6 (ts.length + 1) d6) (ts ++ [((k : Int), c, q, nx)]).length (flatT (ts ++ [((k : Int), c, q, nx)]))) := hideP (by
      rw [hW7, flatT_app, List.length_append]
      exact ownG_other O6.out (par_ne P6.out O6.out) 26 _)
     have F7 : Hid (Fr PB w W7) := hideP (by
      rw [hW7]
      refine Fr.set ?_ _ _
      refine ⟨G6.out.os.trans FB.out.1, G6.out.tape.trans FB.out.2.1, G6.out.output.trans FB.out.2.2.1, Nat.le_trans FB.out.2.2.2.1 G6.out.size, fun b hb hn => ?_⟩
      exact (G6.out.block b (Nat.lt_of_lt_of_le hb FB.out.2.2.2.1) (fun e => by have := (World.ownsRow.lt OB.out b e.symm).1; omega)).trans (FB.out.2.2.2.2 b hb hn))
     have K7 : Hid (KeepH w5 W7) := hideP (by rw [hW7]; exact K6.out.trans (KeepH.set P6.out 26 _))
     have TS7 : Hid (∀ t ∈ ts ++ [((k : Int), c, q, nx)], TurnP z5.S.hy ys t W7) := hideP (fun t h => by
      rcases List.mem_append.1 h with h | h
      ·exact (HTS5.out t h).keep K7.out
      ·rw [List.mem_singleton.1 h]
       exact .inr ⟨k, q, by rw [HCC.out, HNX.out], by rw [HL.out]; omega, HSH.out.keep K7.out⟩)
     clear hW7 c26B fz6 hS hS2 hS3 hS6 t0 t1 t2 t3 c26A fzA
     have c24 := P7.out.c24
     obtain ⟨k0, k1, k2⟩ := HIT.out W7 F7.out
     have hP7l : PB < W7.heap.size := P7.out.lt
     have hB7l : B < W7.heap.size := Nat.lt_of_lt_of_le hB F7.out.2.2.2.1
     go_wp2_with fail
     refine (DC.out _).mono ?_
     rintro e w8 ⟨rfl, hb8⟩
     have P8 := hideP (P7.out.keep (hb8.block PB hP7l))
     have O8 := hideP (ownG_below O7.out hb8)
     have F8 := hideP (F7.out.below hb8)
     have TS8 : Hid (∀ t ∈ ts ++ [((k : Int), c, q, nx)], TurnP z5.S.hy ys t w8) := hideP (fun t h => (TS7.out t h).keep (KeepH.below hb8))
     clear hb8 c24 k0 k1 k2
     cases db with
     | false =>
      go_wp2
      go_roundw
      case rel => exact ⟨k, _, _, (ts ++ [((k : Int), c, q, nx)]), by omega, rfl, rfl, HT7, P8, O8, F8, hideP (by rw [HNS.out]; simp), TS8⟩
      case measure => simp [intOf]
     | true =>
      go_wp2
      go_roundw
      case rel => exact ⟨k, _, _, (ts ++ [((k : Int), c, q, nx)]), by omega, rfl, rfl, HT7, P8, O8, F8, hideP (by rw [HNS.out]; simpa using HNX.out), TS8⟩
      case measure => simp [intOf]
  ·obtain rfl : j = 0 := by omega
   have hjn : ¬ (0 : Int) ≤ ((0 : Nat) : Int) - 1 := by omega
   obtain ⟨ut, ct, rfl⟩ := ownG_shape HO.out
   have HTP := hideP (par_ne HPr.out HO.out)
   have c26 := HPr.out.c26
   have fz := HPr.out.free
   have hPr : PB < wr.heap.size := HPr.out.lt
   have hwr : w.heap.size ≤ wr.heap.size := HF.out.2.2.2.1
   have hlen : ts.length ≤ n := by
    have h1 := congrArg List.length HT.out
    rw [List.length_map] at h1
    have h2 := back_len ys n 0
    omega
   go_wp2_with (at_builtin; refine Hid.out ?_)
   refine hideP ?_
   obtain ⟨WB, hWB⟩ : ∃ WB, WB = wr.alloc (.cells #[.int .i64 (-1), .int .i64 0, .pointer none, .int .i64 nx] 85) := ⟨_, rfl⟩
   rw [← hWB]
   have OB : Hid (WB.ownsRow w.heap.size 85 4 (.slice ut ts.length ct) ts.length (flatT ts)) := hideP (by rw [hWB]; exact ownG_below HO.out (below1 _ _))
   have NB : Hid (∀ j z, (flatT [((-1 : Int), (0 : Int), (none : Option Addr), nx)])[j]? = some z → WB.cell? ((⟨wr.heap.size, 0, none⟩ : Addr).add j) = some z) := hideP (fun j z hz => by
    have he : ((⟨wr.heap.size, 0, none⟩ : Addr).add j) = ⟨wr.heap.size, j, none⟩ := by simp only [Addr.add]; split <;> simp_all
    have hh2 : WB.heap[wr.heap.size]? = some (.cells #[.int .i64 (-1), .int .i64 0, .pointer none, .int .i64 nx] 85 (0, 0)) := by rw [hWB]; exact heap_alloc_new wr (.cells #[.int .i64 (-1), .int .i64 0, .pointer none, .int .i64 nx] 85)
    rw [he, cell_of_row _ _ _ _ _ _ hh2, ← hz]
    simp [flatT, Tn.cells])
   have hwB : w.heap.size ≤ WB.heap.size := by rw [hWB]; exact Nat.le_trans hwr (below1 wr (.cells #[.int .i64 (-1), .int .i64 0, .pointer none, .int .i64 nx] 85)).size
   have FB : Hid (Fr PB w WB) := hideP (by rw [hWB]; exact HF.out.alloc _)
   have PBk : Hid (ParA WB PB z5 (.slice (some ⟨B, 0, none⟩) n cap) (.slice ut ts.length ct)) := hideP (by rw [hWB]; exact HPr.out.keep ((below1 wr _).block PB hPr))
   have KWB : Hid (KeepH wr WB) := hideP (by rw [hWB]; exact KeepH.below (below1 _ _))
   clear hWB
   refine wpList_append_at rfl (.tmp 54) (.tmp 57) 82 rfl w.heap.size 85 i0 (.agg #[.int .i64 0, .int .i64 0, .pointer none, .int .i64 0]) 4 32 Tryz.underlying82 hi0 hy0 hy1 hy2 rfl (by decide) (.slice ut ts.length ct) ts.length (flatT ts) rfl OB.out ⟨wr.heap.size, 0, none⟩ 1 1 (flatT [((-1 : Int), (0 : Int), (none : Option Addr), nx)]) rfl rfl NB.out (flatT_one _) (by unfold maxLen; omega) (by omega) hwB ?_
   intro v6 w6 ho6 hg6 hat6
   obtain ⟨g6, d6, rfl⟩ : ∃ g d, v6 = .slice (some ⟨g, 0, none⟩) (ts.length + 1) d := by
    rcases ho6.2 with ⟨_, h0⟩ | ⟨g', cap', cur, hv, _⟩
    ·omega
    ·exact ⟨g', cap', hv⟩
   have P6 : Hid (ParA w6 PB z5 (.slice (some ⟨B, 0, none⟩) n cap) (.slice ut ts.length ct)) := hideP (PBk.out.keep (hg6.block PB PBk.out.lt (fun e => HTP.out e.symm)))
   have c26B := P6.out.c26
   have fz6 := P6.out.free
   have hP6l : PB < w6.heap.size := P6.out.lt
   have O6 : Hid (w6.ownsRow w.heap.size 85 4 (.slice (some ⟨g6, 0, none⟩) (ts.length + 1) d6) (ts.length + 1) (flatT (ts ++ [((-1 : Int), (0 : Int), (none : Option Addr), nx)]))) := hideP (by rw [flatT_app]; exact ho6)
   have F6 : Hid (Fr PB w w6) := hideP ⟨hg6.os.trans FB.out.1, hg6.tape.trans FB.out.2.1, hg6.output.trans FB.out.2.2.1, Nat.le_trans FB.out.2.2.2.1 hg6.size, fun b hb hn => (hg6.block b (Nat.lt_of_lt_of_le hb FB.out.2.2.2.1) (fun e => by have := (World.ownsRow.lt OB.out b e.symm).1; omega)).trans (FB.out.2.2.2.2 b hb hn)⟩
   have HGP := hideP (par_ne P6.out O6.out)
   have K6 : Hid (KeepH wr w6) := hideP (KWB.out.trans (KeepH.grown OB.out (fun b h1 h2 => hg6.block b h1 h2)))
   clear ho6 hg6 hat6 c26 fz
   obtain ⟨W7, hW7⟩ : ∃ W7, W7 = w6.setCell ⟨PB, 26, none⟩ (.slice (some ⟨g6, 0, none⟩) (ts.length + 1) d6) := ⟨_, rfl⟩
   have P7 : Hid (ParA W7 PB z5 (.slice (some ⟨B, 0, none⟩) n cap) (.slice (some ⟨g6, 0, none⟩) (ts.length + 1) d6)) := hideP (by rw [hW7]; exact P6.out.set)
   have O7 : Hid (W7.ownsRow w.heap.size 85 4 (.slice (some ⟨g6, 0, none⟩) (ts.length + 1) d6) (ts.length + 1) (flatT (ts ++ [((-1 : Int), (0 : Int), (none : Option Addr), nx)]))) := hideP (by rw [hW7]; exact ownG_other O6.out HGP.out 26 _)
   have F7 : Hid (Fr PB w W7) := hideP (by rw [hW7]; exact F6.out.set _ _)
   go_wp2_with fail
   rw [← hW7]
   refine (reverse_any O7.out (by simp) (by omega)).mono ?_
   rintro e w8 ⟨⟨vr, rfl⟩, ho8, hs8⟩
   have hg8 : w.heap.size ≤ g6 := (World.ownsRow.lt O7.out g6 rfl).1
   have P8 := hideP (P7.out.keep (hs8.other PB P7.out.lt (fun e => HGP.out (by rw [e]; rfl))))
   have O8 := hideP ho8
   have F8 : Hid (Fr PB w w8) := hideP ⟨hs8.below.os.trans F7.out.1, hs8.below.tape.trans F7.out.2.1, hs8.below.output.trans F7.out.2.2.1, Nat.le_trans F7.out.2.2.2.1 hs8.below.size, fun b hb hn => (hs8.below.block b (by omega)).trans (F7.out.2.2.2.2 b hb hn)⟩
   have K8 : Hid (KeepH wr w8) := hideP ((K6.out.trans (by rw [hW7]; exact KeepH.set P6.out 26 _ : KeepH w6 W7)).trans (KeepH.grown O7.out (fun b h1 h2 => hs8.other b h1 (fun e => h2 (by rw [e]; rfl)))))
   clear ho8 hs8 hW7 c26B fz6
   go_wp2
   go_end0
   refine ⟨⟨_, rfl⟩, ⟨(ts ++ [((-1 : Int), (0 : Int), (none : Option Addr), nx)]).reverse, g6, ts.length + 1, d6, by simp, ?_, P8.out, O8.out, ?_⟩, F8.out⟩
   ·rw [List.map_reverse, List.map_append, HT.out, List.reverse_append]
    rfl
   ·intro t h
    rcases List.mem_append.1 (List.mem_reverse.1 h) with h | h
    ·exact (HTS.out t h).keep K8.out
    ·rw [List.mem_singleton.1 h, HNX.out]
     exact .inl rfl
end Go.Proofs.YtlohbaoigfaneaaGreat
