import Derived.Test.YtlohbaoigfaneaaGreatSpf
import Derived.Test.YtlohbaoigfaneaaGreatPft
import Derived.Test.YtlohbaoigfaneaaGreatLtm
import Derived.Test.YtlohbaoigfaneaaGreatTrn
import Derived.Test.YtlohbaoigfaneaaGreatItx
import Derived.Test.YtlohbaoigfaneaaGreatLms
import Derived.Test.YtlohbaoigfaneaaGreatLnn
import Derived.Test.YtlohbaoigfaneaaGreatAdl
namespace Go.Proofs.YtlohbaoigfaneaaGreat
open Go.RowKit
set_option linter.unusedVariables false
set_option linter.unusedSimpArgs false
def aS (zs : List It) : List Int × Int := zs.foldl (fun s t => if t.1.k = 11 then s else pAdd t.1 s) ([0, 0, 0, 0, 0, 0, 0, 0, 0], 0)
def nS (zs : List It) : Int := zs.foldl (fun n t => if t.1.k = 11 then wrap64 (n + t.1.ht) else n) 0
theorem aS_snoc (zs : List It) (t : It) : aS (zs ++ [t]) = if t.1.k = 11 then aS zs else pAdd t.1 (aS zs) := by simp [aS]
theorem nS_snoc (zs : List It) (t : It) : nS (zs ++ [t]) = if t.1.k = 11 then wrap64 (nS zs + t.1.ht) else nS zs := by simp [nS]
theorem foldl_len (f : List Int × Int → It → List Int × Int) (hf : ∀ s t, (f s t).1.length = s.1.length) : ∀ (zs : List It) (s : List Int × Int), (zs.foldl f s).1.length = s.1.length
 | [], s => rfl
 | t :: zs, s => by rw [List.foldl_cons, foldl_len f hf zs, hf]
theorem aS_len (zs : List It) : (aS zs).1.length = 9 := by
 unfold aS
 rw [foldl_len]
 ·rfl
 ·intro s t
  by_cases h : t.1.k = 11
  ·simp only [if_pos h]
  ·simp only [if_neg h]
   exact pAdd_len _ _
def nF (ns : List Nd) (ps : List Nat) (s : List Int × Int) : List Int × Int := ps.foldl (fun s p => pAdd (ns.getD p Nd.none) s) s
theorem nF_snoc (ns : List Nd) (ps : List Nat) (p : Nat) (s : List Int × Int) : nF ns (ps ++ [p]) s = pAdd (ns.getD p Nd.none) (nF ns ps s) := by simp [nF]
theorem nF_len (ns : List Nd) : ∀ (ps : List Nat) (s : List Int × Int), (nF ns ps s).1.length = s.1.length
 | [], s => rfl
 | p :: ps, s => by
  show (nF ns ps (pAdd (ns.getD p Nd.none) s)).1.length = _
  rw [nF_len ns ps, pAdd_len]
def wS (xs : List Nd) (gap : Nd) (zs : List It) : List Int × Int :=
 if noteB zs = true then nF (zs.flatMap (segB xs)) (starts (zs.flatMap (segB xs)) ((zs.flatMap (segB xs)).length + 1) 0) (pAdd gap (aS zs)) else aS zs
theorem segB_mem {xs : List Nd} {zs : List It} {x : Nd} (h : x ∈ zs.flatMap (segB xs)) : x ∈ xs := by
 rw [List.mem_flatMap] at h
 obtain ⟨t, _, h⟩ := h
 unfold segB at h
 split at h
 ·exact List.mem_of_mem_drop (List.mem_of_mem_take h)
 ·simp at h
theorem SmT.set4 {c3 c4 c5 : Value} {W : World} {A P M : Nat} {x : Int} {p m : List Int} (h : SmT c3 c4 c5 W A P M x p m) (v : Value) : SmT c3 v c5 (W.setCell ⟨A, 4, none⟩ v) A P M x p m :=
 ⟨heap_setCell_same _ _ 4 _ 104 _ h.hA, (blk_set W A 4 _ h.hP.lt (Ne.symm h.ne.1)).trans h.hP, (blk_set W A 4 _ h.hM.lt (Ne.symm h.ne.2.1)).trans h.hM, h.ne, h.pl, h.ml⟩
theorem SmT.set5 {c3 c4 c5 : Value} {W : World} {A P M : Nat} {x : Int} {p m : List Int} (h : SmT c3 c4 c5 W A P M x p m) (v : Value) : SmT c3 c4 v (W.setCell ⟨A, 5, none⟩ v) A P M x p m :=
 ⟨heap_setCell_same _ _ 5 _ 104 _ h.hA, (blk_set W A 5 _ h.hP.lt (Ne.symm h.ne.1)).trans h.hP, (blk_set W A 5 _ h.hM.lt (Ne.symm h.ne.2.1)).trans h.hM, h.ne, h.pl, h.ml⟩
theorem SmT.grow {c3 c4 c5 : Value} {W X : World} {A P M : Nat} {x : Int} {p m : List Int} {row : Option Nat} (h : SmT c3 c4 c5 W A P M x p m) (hg : GrW row W X) (hn : ∀ q, row = some q → ∃ cur, W.heap[q]? = some (.cells cur 61 (0, 0))) : SmT c3 c4 c5 X A P M x p m := by
 have key : ∀ (k : Nat) (cs : Array Value) (ty : Nat), ty ≠ 61 → W.heap[k]? = some (.cells cs ty (0, 0)) → X.heap[k]? = W.heap[k]? := fun k cs ty ht hk => hg.2.2.2.2 k (Array.getElem?_eq_some_iff.1 hk).1 (fun e => by
  obtain ⟨cur, hc⟩ := hn k e
  rw [hk] at hc
  have h2 := Option.some.inj hc
  simp only [Obj.cells.injEq] at h2
  exact ht h2.2.1)
 exact ⟨(key A _ 104 (by decide) h.hA).trans h.hA, (key P _ 2 (by decide) h.hP).trans h.hP, (key M _ 2 (by decide) h.hM).trans h.hM, h.ne, h.pl, h.ml⟩
theorem own_fr3 {c3 c4 c5 : Value} {W X : World} {A P M base n ty sz : Nat} {x : Int} {p m : List Int} {v : Value} {xs : List Value} (h : W.ownsRow base ty sz v n xs) (hs : SmT c3 c4 c5 W A P M x p m) (hf : Fr3 A P M W X) (ht : ty ≠ 104 ∧ ty ≠ 2 := by decide) : X.ownsRow base ty sz v n xs := by
 have h2 := h.2
 rcases h2 with h0 | ⟨g, cap, cur, rfl, hb, hg, hr⟩
 ·exact ⟨h.1, .inl h0⟩
 ·have key : ∀ (k : Nat) (cs : Array Value) (t2 : Nat), t2 ≠ ty → W.heap[k]? = some (.cells cs t2 (0, 0)) → g ≠ k := fun k cs t2 ht hk e => by
   subst e
   rw [hk] at hg
   have h2 := Option.some.inj hg
   simp only [Obj.cells.injEq] at h2
   exact ht h2.2.1
  exact ⟨h.1, .inr ⟨g, cap, cur, rfl, hb, (hf.2.2.2.2 g (Array.getElem?_eq_some_iff.1 hg).1 (key A _ 104 (Ne.symm ht.1) hs.hA) (key P _ 2 (Ne.symm ht.2) hs.hP) (key M _ 2 (Ne.symm ht.2) hs.hM)).trans hg, hr⟩⟩
theorem own_blk61 {W : World} {base n : Nat} {v : Value} {xs : List Value} (h : W.ownsRow base 61 15 v n xs) : ∀ q, v.ownBlock = some q → ∃ cur, W.heap[q]? = some (.cells cur 61 (0, 0)) := fun q e => by
 rcases h.2 with ⟨rfl, _⟩ | ⟨g, cap, cur, rfl, hb, hg, hr⟩
 ·cases e
 ·cases e
  exact ⟨cur, hg⟩
set_option maxRecDepth 200000 in
set_option maxHeartbeats 16000000 in
theorem l10Sums_any {w : World} {v : Value} {xs : List Nd} {N lo : Nat} (S : Sh) (a b : Nat) (h : HR lo w v xs) (hob : listB xs = true) (hl : (its xs).length = N) (hab : a ≤ b) (hb : b ≤ N) (hN : N ≤ 4000) (hgl : glB S.g0 S.g1 S.g2 S.g3 S.g4 = true) (zs : List It) (hzs : zs = ((its xs).drop (begI (its xs) a b)).take (b - begI (its xs) a b)) :
 Calls Tryz.prog 41 #[v, shV S, .int .i64 (a : Int), .int .i64 (b : Int)] w fun e w' => (∃ P M, e = .returned (.agg #[.int .i64 ((wS xs (gapN S.g0 S.g1 S.g2 S.g3 S.g4) zs).1.getD 0 0), .slice (some ⟨P, 0, none⟩) 4 4, .slice (some ⟨M, 0, none⟩) 4 4, .int .i64 (wS xs (gapN S.g0 S.g1 S.g2 S.g3 S.g4) zs).2, .bool (noteB zs), .int .i64 (nS zs)]) ∧ IntsL w' P 2 (Shr.pl4 (wS xs (gapN S.g0 S.g1 S.g2 S.g3 S.g4) zs).1) ∧ IntsL w' M 2 (Shr.mi4 (wS xs (gapN S.g0 S.g1 S.g2 S.g3 S.g4) zs).1)) ∧ Below w.heap.size w w' := by
 obtain ⟨F, hF⟩ : ∃ F, F = wS xs (gapN S.g0 S.g1 S.g2 S.g3 S.g4) zs := ⟨_, rfl⟩
 obtain ⟨nb, hnb⟩ : ∃ n, n = noteB zs := ⟨_, rfl⟩
 obtain ⟨nt, hnt⟩ : ∃ n, n = nS zs := ⟨_, rfl⟩
 rw [← hF, ← hnb, ← hnt]
 have HFF := hideP hF
 have HNB := hideP hnb
 have HNT := hideP hnt
 clear hF hnb hnt
 have hok := allOk hob
 have HH := hideP h
 have BC : Hid (∀ W, Below w.heap.size w W → Calls Tryz.prog 85 #[v, .int .i64 (a : Int), .int .i64 (b : Int)] W fun e w' => e = .returned (.int .i64 ((begI (its xs) a b : Nat) : Int)) ∧ Below W.heap.size W w') := hideP (fun W hW => specBeg_any a b (HH.out.hd.abv (Abv.below hW)) hl hab hb (by omega))
 obtain ⟨ao, cap, rfl, hcr⟩ := h.rs.is
 have HBW : Hid (∀ b off, ao = some ⟨b, off, none⟩ → 0 < (itemsOf xs).length → b < w.heap.size) := hideP (fun b off e h0 => by
  obtain ⟨b2, off2, e2, _, e3, _⟩ := hcr h0
  rw [e] at e2
  cases e2
  exact e3)
 clear hcr
 have hlen : (itemsOf xs).length = N := by unfold itemsOf; rw [if_pos hob, List.length_map, ← hl]; unfold its; rw [List.length_map]
 rw [hlen] at HH BC HBW ⊢
 obtain ⟨s, hs⟩ : ∃ s, s = begI (its xs) a b := ⟨_, rfl⟩
 rw [← hs] at BC
 have hsr : a ≤ s ∧ s ≤ b := by rw [hs]; exact begI_range _ _ _ hab
 have HZS : Hid (zs = ((its xs).drop s).take (b - s)) := hideP (by rw [hzs, ← hs])
 have hzl : zs.length = b - s := by rw [HZS.out, List.length_take, List.length_drop]; omega
 have HZL := hideP hzl
 have HOB := hideP hob
 have HL := hideP hl
 have hpl : Hid ((zs.flatMap (segB xs)).length ≤ 20000) := hideP (by have := page_len hok s (b - s); rw [← HZS.out] at this; omega)
 have HNSB : Hid (∀ x ∈ zs.flatMap (segB xs), Ord x ∧ 0 ≤ x.kids ∧ x.kids ≤ 20010) := hideP (fun x hx => by
  obtain ⟨i, hi, rfl⟩ := List.mem_iff_getElem.1 (segB_mem hx)
  have e : xs[i] = xs.getD i Nd.none := by simp [List.getD, List.getElem?_eq_getElem hi]
  rw [e]
  have h1 := hok.kids i hi
  have h2 := hok.len
  exact ⟨list_ord hob i hi, h1.1, by omega⟩)
 have HOI : Hid (∀ i, i < N → Ord ((its xs).getD i It.none).1) := hideP (fun i hi => by
  have hi2 : i < (starts xs (xs.length + 1) 0).length := by rw [← hl] at hi; simpa [its] using hi
  have hst := starts_lt xs (xs.length + 1) 0 _ (List.getElem_mem hi2)
  rw [its_fst hi2]
  exact list_ord hob _ hst)
 obtain ⟨i1, hi1, hy0, hy1, hy2⟩ := info_parts Tryz.info60s
 obtain ⟨sht, sdp, g0, g1, g2', g3, g4, snt⟩ := S
 simp only [shV]
 simp only at HFF hgl
 have HGL : Hid (Ord (gapN g0 g1 g2' g3 g4)) := hideP (by
  simp [glB, uptoB] at hgl
  unfold Ord gapN
  simp only
  omega)
 clear h hs hzs hzl hob hl hlen hgl
 go_enter Tryz.func41, Tryz.ntmps41
 go_wp2_with fail
 obtain ⟨W0, hW0⟩ : ∃ X, X = (w.alloc (.cells #[.int .i64 sht, .int .i64 sdp, .int .i64 g0, .int .i64 g1, .int .i64 g2', .int .i64 g3, .int .i64 g4, .int .i64 snt] 45)).alloc (.cells #[.int .i64 0, .slice none 0 0, .slice none 0 0, .int .i64 0, .bool false, .int .i64 0] 104) := ⟨_, rfl⟩
 have B0 : Hid (Below w.heap.size w W0) := hideP (by rw [hW0]; exact below2 _ _ _)
 have E0 : Hid (W0.heap[w.heap.size]? = some (.cells #[.int .i64 sht, .int .i64 sdp, .int .i64 g0, .int .i64 g1, .int .i64 g2', .int .i64 g3, .int .i64 g4, .int .i64 snt] 45 (0, 0))) := hideP (by rw [hW0]; exact (Below.heap_alloc _ _ _ (by simp)).trans (heap_alloc_new w _))
 have R0 : Hid (W0.heap[w.heap.size + 1]? = some (.cells #[.int .i64 0, .slice none 0 0, .slice none 0 0, .int .i64 0, .bool false, .int .i64 0] 104 (0, 0))) := hideP (by rw [hW0]; have := heap_alloc_new (w.alloc (.cells #[.int .i64 sht, .int .i64 sdp, .int .i64 g0, .int .i64 g1, .int .i64 g2', .int .i64 g3, .int .i64 g4, .int .i64 snt] 45)) (.cells #[.int .i64 0, .slice none 0 0, .slice none 0 0, .int .i64 0, .bool false, .int .i64 0] 104); simpa using this)
 have hz0 : W0.heap.size = w.heap.size + 2 := by rw [hW0]; simp
 rw [← hW0]
 clear hW0
 refine (l10New_any W0).mono ?_
 rintro e w1 ⟨⟨P, M, rfl, hP, hM, hPM, hP0, hM0⟩, hb1⟩
 obtain ⟨LO, hLO⟩ : ∃ l, l = W0.heap.size := ⟨_, rfl⟩
 have HLO := hideP hLO
 obtain ⟨SB, hSB⟩ : ∃ l, l = w.heap.size := ⟨_, rfl⟩
 have HSB := hideP hSB
 have E1 : Hid (W0.heap[SB]? = some (.cells #[.int .i64 sht, .int .i64 sdp, .int .i64 g0, .int .i64 g1, .int .i64 g2', .int .i64 g3, .int .i64 g4, .int .i64 snt] 45 (0, 0))) := hideP (by rw [hSB]; exact E0.out)
 have R1 : Hid (W0.heap[SB + 1]? = some (.cells #[.int .i64 0, .slice none 0 0, .slice none 0 0, .int .i64 0, .bool false, .int .i64 0] 104 (0, 0))) := hideP (by rw [hSB]; exact R0.out)
 obtain ⟨W2, hW2⟩ : ∃ X, X = w1.alloc (.cells #[.int .i64 0, .slice (some ⟨P, 0, none⟩) 4 4, .slice (some ⟨M, 0, none⟩) 4 4, .int .i64 0, .bool false, .int .i64 0] 104) := ⟨_, rfl⟩
 obtain ⟨A, hA⟩ : ∃ l, l = w1.heap.size := ⟨_, rfl⟩
 have S2 : Hid (SmT (.int .i64 0) (.bool false) (.int .i64 0) W2 A P M 0 [0, 0, 0, 0] [0, 0, 0, 0]) := hideP (by
  rw [hW2]
  exact ⟨by rw [hA]; exact heap_alloc_new w1 _, hP.alloc _, hM.alloc _, ⟨by have := hP.lt; omega, by have := hM.lt; omega, hPM⟩, rfl, rfl⟩)
 have B2 : Hid (Below LO W0 W2) := hideP (by rw [hLO, hW2]; exact below_more hb1 (below1 _ _) hb1.size)
 have hAPM : LO ≤ A ∧ LO ≤ P ∧ LO ≤ M := by have := hb1.size; omega
 obtain ⟨W3, hW3⟩ : ∃ X, X = W2.alloc (.cells #[] 61) := ⟨_, rfl⟩
 have S3 : Hid (SmT (.int .i64 0) (.bool false) (.int .i64 0) W3 A P M 0 [0, 0, 0, 0] [0, 0, 0, 0]) := hideP (by rw [hW3]; exact S2.out.alloc _)
 have B3 : Hid (Below LO W0 W3) := hideP (by rw [hW3]; exact B2.out.alloc (by have := B2.out.size; omega) _)
 have hW2s : A + 1 = W2.heap.size := by rw [hW2, hA]; simp
 have N3 : Hid (W3.ownsRow LO 61 15 (.slice (some ⟨A + 1, 0, none⟩) 0 0) 0 []) := hideP (by rw [hW3, hW2s]; exact ⟨rfl, .inr ⟨_, _, _, rfl, by have := B2.out.size; omega, heap_alloc_new _ _, Nat.le_refl _, by unfold maxLen; omega, rfl, rfl⟩⟩)
 go_upto_region 3 with fail
 rw [← hA, ← hW2, ← hW3, ← hSB]
 have hLOw : w.heap.size + 2 ≤ LO := by omega
 have HZ0 : Hid (LO ≤ W0.heap.size) := hideP (by omega)
 clear hW2 hW3 hA hW2s hP hM hPM hP0 hM0 hb1 hLO hSB hz0 S2 B2
 have BT : Hid (∀ X, Below LO W0 X → Below w.heap.size w X) := hideP (fun X hX => below_more B0.out (hX.mono (by rw [HLO.out]; exact Nat.le_refl _) : Below W0.heap.size W0 X) B0.out.size)
 have HC0 : Hid (∀ X, Below LO W0 X → X.cell? ⟨SB, 2, none⟩ = some (.int .i64 g0) ∧ X.cell? ⟨SB, 3, none⟩ = some (.int .i64 g1) ∧ X.cell? ⟨SB, 4, none⟩ = some (.int .i64 g2') ∧ X.cell? ⟨SB, 5, none⟩ = some (.int .i64 g3) ∧ X.cell? ⟨SB, 6, none⟩ = some (.int .i64 g4)) := hideP (fun X hX => by
  have hh := (hX.block SB (by have := HSB.out; omega)).trans E1.out
  refine ⟨?_, ?_, ?_, ?_, ?_⟩ <;> (rw [cell_of_row X _ _ _ _ _ hh]; rfl))
 go_wp2_with fail
 refine (BC.out _ (BT.out W3 B3.out)).mono ?_
 rintro e w4 ⟨rfl, hb4⟩
 have S4 := hideP (S3.out.below hb4)
 have N4 := hideP (own_below N3.out hb4)
 have B4 : Hid (Below LO W0 w4) := hideP (below_more B3.out hb4 (by have := B3.out.size; have := HZ0.out; omega))
 clear hb4 S3 N3 B3 BC
 go_wp2_with fail
 go_loopw [10, 11] (fun s10 s11 wr => ∃ (k m : Nat), k ≤ b - s ∧ s11 = .int .i64 ((s + k : Nat) : Int) ∧ Hid (SmT (.int .i64 (aS (zs.take k)).2) (.bool (noteB (zs.take k))) (.int .i64 (nS (zs.take k))) wr A P M ((aS (zs.take k)).1.getD 0 0) (Shr.pl4 (aS (zs.take k)).1) (Shr.mi4 (aS (zs.take k)).1)) ∧ Hid (wr.ownsRow LO 61 15 s10 m (flatN ((zs.take k).flatMap (segB xs)))) ∧ Hid (Below LO W0 wr)) (fun _ s11 _ => b - (intOf s11).toNat)
 case atStart => exact ⟨0, 0, by omega, rfl, S4, N4, B4⟩
 case round =>
  obtain ⟨k, m, hk, rfl, HS, HO, HB⟩ := hrel
  have hO := HO.out
  obtain ⟨ua, uc, rfl⟩ := ownG_shape hO
  have hm : m ≤ 20000 := by
   have h1 := hO.1
   have hzB : (zs.take k).flatMap (segB xs) ++ (zs.drop k).flatMap (segB xs) = zs.flatMap (segB xs) := by rw [← List.flatMap_append, List.take_append_drop]
   have h2 := congrArg List.length hzB
   have h3 := hpl.out
   rw [flatN_len] at h1
   rw [List.length_append] at h2
   omega
  clear hO
  have BTW := hideP (BT.out wr HB.out)
  have hLr : LO ≤ wr.heap.size := Nat.le_trans HZ0.out HB.out.size
  by_cases hkb : k < b - s
  ·have hki : ((s + k : Nat) : Int) < (b : Int) := by omega
   have hidx : s + k < N := by omega
   obtain ⟨ao', cap', bb, off, g, c, x, tl, hv, hao, hlo, hbl, hu, hgl, hgs, hrow, htl, hsa, hsb, hx1⟩ := item_at (HH.out.abv (Abv.below BTW.out)) HOB.out HL.out hidx
   simp only [Value.slice.injEq] at hv
   obtain ⟨rfl, _, rfl⟩ := hv
   subst hao
   have hzk : zs.take (k + 1) = zs.take k ++ [(its xs).getD (s + k) It.none] := by
    rw [take_snoc zs k It.none (by rw [HZL.out]; exact hkb), HZS.out]
    simp [List.getD, List.getElem?_take, List.getElem?_drop, hkb]
   have HF1 : Hid (noteB (zs.take (k + 1)) = (noteB (zs.take k) || (x.k == 11))) := hideP (by rw [hzk]; unfold noteB; rw [List.any_append]; simp only [List.any_cons, List.any_nil, hx1, Bool.or_false])
   have HF3 : Hid ((zs.take (k + 1)).flatMap (segB xs) = (zs.take k).flatMap (segB xs) ++ (if x.k = 11 then tl else [])) := hideP (by rw [hzk, List.flatMap_append, List.flatMap_cons, List.flatMap_nil, List.append_nil, hsb])
   have HF4 : Hid (aS (zs.take (k + 1)) = if x.k = 11 then aS (zs.take k) else pAdd x (aS (zs.take k))) := hideP (by rw [hzk, aS_snoc, hx1])
   have HF5 : Hid (nS (zs.take (k + 1)) = if x.k = 11 then wrap64 (nS (zs.take k) + x.ht) else nS (zs.take k)) := hideP (by rw [hzk, nS_snoc, hx1])
   have HXO : Hid (Ord x) := hideP (by rw [← hx1]; exact HOI.out _ hidx)
   have hrc : Hid (∀ j u, (flatN (x :: tl))[j]? = some u → wr.cell? ⟨g, j, none⟩ = some u) := hideP (fun j u hu => by
    have hj : j < (1 + tl.length) * 15 := by have h := (List.getElem?_eq_some_iff.1 hu).1; rw [hrow.1] at h; exact h
    rw [World.ownsRow.cellAt hrow j hj]
    exact hu)
   have G61 := own_blk61 hrow g rfl
   have hbbw : bb < w.heap.size := HBW.out bb off rfl (by omega)
   have HRG : Hid (wr.rangeAt g 0 x.cells) := hideP (fun j u hj => by
    rw [Nat.zero_add]
    exact hrc.out j u (by rw [flatN, List.getElem?_append_left (by rw [cells_len]; have := (List.getElem?_eq_some_iff.1 hj).1; rw [cells_len] at this; exact this)]; exact hj))
   have n100 : wr.cell? ⟨g, 0, none⟩ = some (.int .i64 x.k) := hrc.out 0 _ rfl
   have n102 : wr.cell? ⟨g, 2, none⟩ = some (.int .i64 x.ht) := hrc.out 2 _ rfl
   have hcap := ownG_cap hrow
   obtain ⟨hcap1, hcap2⟩ := hcap
   have hcap3 : c ≤ 9223372036854775807 := by unfold maxLen at hcap2; exact hcap2
   obtain ⟨r, hr⟩ : ∃ r, r = tl.length := ⟨_, rfl⟩
   have HRL := hideP hr
   rw [← hr] at hu hcap1 htl
   obtain ⟨xk, hxk⟩ : ∃ xk, xk = x.k := ⟨_, rfl⟩
   rw [← hxk] at n100 HF1 HF3 HF4 HF5
   have hni : (0 : Int) < ((1 + r : Nat) : Int) := by omega
   obtain ⟨Q, hQ⟩ : ∃ Q, Q = aS (zs.take k) := ⟨_, rfl⟩
   obtain ⟨nk, hnk⟩ : ∃ Q, Q = nS (zs.take k) := ⟨_, rfl⟩
   obtain ⟨bk, hbk⟩ : ∃ Q, Q = noteB (zs.take k) := ⟨_, rfl⟩
   have HQL : Hid (Q.1.length = 9) := hideP (by rw [hQ]; exact aS_len _)
   rw [← hQ, ← hnk, ← hbk] at HS
   rw [← hQ] at HF4
   rw [← hnk] at HF5
   rw [← hbk] at HF1
   clear hzk hsa hsb hx1 hrow hr hxk hcap2 hlo hgl hQ hnk hbk
   by_cases hx : xk = 11
   ·subst hx
    have hxb : ((11 : Int) == 11) = true := rfl
    simp only [if_true, hxb, Bool.or_true] at HF1 HF3 HF4 HF5
    obtain ⟨c3, c4, c5⟩ := HS.out.cells3
    have fA : ∀ j, wr.frozen? ⟨A, j, none⟩ = false := fun j => frozen_of_row _ _ j _ 104 HS.out.hA
    have hAl := HS.out.alt
    have hgA : g ≠ A := fun e => by
     obtain ⟨cur, hc⟩ := G61
     rw [e, HS.out.hA] at hc
     have h2 := Option.some.inj hc
     simp only [Obj.cells.injEq] at h2
     exact absurd h2.2.1 (by decide)
    have hbA : bb ≠ A := by omega
    have hgl9 : g < wr.heap.size := World.block_lt_of_cell? wr _ n100
    have hbl9 : bb < wr.heap.size := World.block_lt_of_cell? wr _ hu
    go_upto_region 8 with fail
    obtain ⟨W5, hW5⟩ : ∃ X, X = wr.setCell ⟨A, 4, none⟩ (.bool true) := ⟨_, rfl⟩
    have F5 : Fr3 A P M wr W5 := by rw [hW5]; exact (Fr3.refl _ _ _ _).set _ _ (.inl rfl)
    have S5 := hideP (HS.out.set4 (.bool true))
    rw [← hW5] at S5 ⊢
    clear hW5 c3 c4 c5 fA
    obtain ⟨c3, c4, c5⟩ := S5.out.cells3
    have fA : ∀ j, W5.frozen? ⟨A, j, none⟩ = false := fun j => frozen_of_row _ _ j _ 104 S5.out.hA
    have b9 : ∀ q : Nat, q < wr.heap.size → q ≠ A → (∃ cs ty, ty ≠ 2 ∧ wr.heap[q]? = some (.cells cs ty (0, 0))) → W5.heap[q]? = wr.heap[q]? := fun q hq h1 h2 => by
     obtain ⟨cs, ty, h3, h4⟩ := h2
     refine F5.2.2.2.2 q hq h1 (fun e => ?_) (fun e => ?_)
     ·rw [e, show wr.heap[P]? = _ from HS.out.hP] at h4
      have h5 := Option.some.inj h4
      simp only [Obj.cells.injEq] at h5
      exact h3 h5.2.1.symm
     ·rw [e, show wr.heap[M]? = _ from HS.out.hM] at h4
      have h5 := Option.some.inj h4
      simp only [Obj.cells.injEq] at h5
      exact h3 h5.2.1.symm
    have u5 : W5.cell? ⟨bb, off + (s + k), none⟩ = some (.slice (some ⟨g, 0, none⟩) (1 + r) c) := (World.cell?_of_block (a := ⟨bb, off + (s + k), none⟩) (F5.2.2.2.2 bb hbl9 hbA (by omega) (by omega))).trans hu
    have gb : W5.heap[g]? = wr.heap[g]? := b9 g hgl9 hgA (by obtain ⟨cur, hc⟩ := G61; exact ⟨_, _, by decide, hc⟩)
    have m2 : W5.cell? ⟨g, 2, none⟩ = some (.int .i64 x.ht) := (World.cell?_of_block (a := ⟨g, 2, none⟩) gb).trans n102
    obtain ⟨xh, hxh⟩ : ∃ y, y = x.ht := ⟨_, rfl⟩
    rw [← hxh] at m2 HF5
    clear b9 hxh
    go_cut [] (fun wc => Hid (SmT (.int .i64 Q.2) (.bool true) (.int .i64 (wrap64 (nk + xh))) wc A P M (Q.1.getD 0 0) (Shr.pl4 Q.1) (Shr.mi4 Q.1) ∧ Fr A W5 wc))
    case first =>
     go_region
     go_wp2_with fail
     go_meet
     case rel =>
      refine hideP ⟨?_, ?_⟩
      ·have q5 := S5.out
       repeat (first | with_reducible exact q5.set5 _ | with_reducible refine SmT.drew ?_)
      ·repeat (first | with_reducible exact Fr.refl _ _ | with_reducible refine Fr.set ?_ _ _ | with_reducible refine Fr.drew ?_)
    case rest =>
     obtain ⟨hS6, hf6⟩ : Hid (SmT (.int .i64 Q.2) (.bool true) (.int .i64 (wrap64 (nk + xh))) wc A P M (Q.1.getD 0 0) (Shr.pl4 Q.1) (Shr.mi4 Q.1)) ∧ Fr A W5 wc := ⟨hideP hcut.out.1, hcut.out.2⟩
     have F6 : Fr3 A P M wr wc := F5.fr hf6 (.inl rfl)
     have O6 : Hid (wc.ownsRow LO 61 15 (.slice ua m uc) m (flatN ((zs.take k).flatMap (segB xs)))) := hideP (own_fr3 HO.out HS.out F6)
     have B6 : Hid (Below LO W0 wc) := hideP (HB.out.trans (F6.toB hAPM hLr))
     have hL6 : LO ≤ wc.heap.size := Nat.le_trans hLr F6.2.2.2.1
     have u6 : wc.cell? ⟨bb, off + (s + k), none⟩ = some (.slice (some ⟨g, 0, none⟩) (1 + r) c) := (World.cell?_of_block (a := ⟨bb, off + (s + k), none⟩) (hf6.2.2.2.2 bb (World.block_lt_of_cell? W5 _ u5) hbA)).trans u5
     have g6 : wc.heap[g]? = wr.heap[g]? := (hf6.2.2.2.2 g (World.block_lt_of_cell? W5 _ m2) hgA).trans gb
     have hrc6 : Hid (∀ j u, (flatN (x :: tl))[j]? = some u → wc.cell? ⟨g, j, none⟩ = some u) := hideP (fun j u hu => (World.cell?_of_block (a := ⟨g, j, none⟩) g6).trans (hrc.out j u hu))
     clear hcut hf6 F6 F5 u5 gb g6 m2 c3 c4 c5 fA n100 n102 hu S5
     by_cases hc1 : 1 < c
     ·have hc1i : (1 : Int) < (c : Int) := by omega
      go_wp2_with (at_builtin; refine Hid.out ?_)
      refine hideP ?_
      refine wpList_append_at rfl (.tmp 45) (.tmp 50) 31 rfl LO 61 i1 (ndV Nd.none) 15 128 Tryz.underlying31 hi1 hy0 hy1 hy2 rfl (by decide) (.slice ua m uc) m _ rfl O6.out ⟨g, 15, none⟩ r (c - 1) (flatN tl) rfl (by rw [flatN_len, HRL.out]) (fun j z hz => ?nws1) (flatN_one _) (by unfold maxLen; omega) (by omega) hL6 ?_
      case nws1 =>
       have he : ((⟨g, 15, none⟩ : Addr).add j) = ⟨g, 15 + j, none⟩ := by simp only [Addr.add]; split <;> simp_all
       rw [he]
       exact hrc6.out (15 + j) z (by rw [flatN, List.getElem?_append_right (by rw [cells_len]; omega), cells_len, Nat.add_sub_cancel_left]; exact hz)
      intro v5 w7 ho7 hg7 hat7
      have O7 : Hid (w7.ownsRow LO 61 15 v5 (m + r) (flatN ((zs.take (k + 1)).flatMap (segB xs)))) := hideP (by rw [HF3.out, flatN_app]; exact ho7)
      have S7 : Hid (SmT (.int .i64 (aS (zs.take (k + 1))).2) (.bool (noteB (zs.take (k + 1)))) (.int .i64 (nS (zs.take (k + 1)))) w7 A P M ((aS (zs.take (k + 1))).1.getD 0 0) (Shr.pl4 (aS (zs.take (k + 1))).1) (Shr.mi4 (aS (zs.take (k + 1))).1)) := hideP (by rw [HF4.out, HF5.out, HF1.out]; exact hS6.out.grow ⟨hg7.os, hg7.tape, hg7.output, hg7.size, fun q hq hn => hg7.block q hq (fun e => hn e.symm)⟩ (own_blk61 O6.out))
      have B7 : Hid (Below LO W0 w7) := hideP (Below.grown B6.out hg7 hL6 (fun j hj => (World.ownsRow.lt O6.out j hj).1))
      obtain ⟨a5, cc5, rfl⟩ := ownG_shape ho7
      clear ho7 hg7 hat7 u6
      go_wp2
      go_roundw
      case rel => exact ⟨k + 1, _, by omega, congrArg _ (by push_cast; omega), S7, O7, B7⟩
      case measure => simp [intOf]; omega
     ·obtain rfl : c = 1 := by omega
      obtain rfl : r = 0 := by omega
      go_wp2_with (at_builtin; refine Hid.out ?_)
      refine hideP ?_
      refine wpList_append_at rfl (.tmp 45) (.tmp 50) 31 rfl LO 61 i1 (ndV Nd.none) 15 128 Tryz.underlying31 hi1 hy0 hy1 hy2 rfl (by decide) (.slice ua m uc) m _ rfl O6.out ⟨g, 0, none⟩ 0 0 (flatN tl) rfl (by rw [flatN_len, ← HRL.out]) (fun j z hz => ?nws2) (flatN_one _) (by unfold maxLen; omega) (by omega) hL6 ?_
      case nws2 =>
       have h1 := HRL.out
       have h2 : tl = [] := List.eq_nil_of_length_eq_zero (by omega)
       rw [h2] at hz
       simp [flatN] at hz
      intro v5 w7 ho7 hg7 hat7
      have O7 : Hid (w7.ownsRow LO 61 15 v5 (m + 0) (flatN ((zs.take (k + 1)).flatMap (segB xs)))) := hideP (by rw [HF3.out, flatN_app]; exact ho7)
      have S7 : Hid (SmT (.int .i64 (aS (zs.take (k + 1))).2) (.bool (noteB (zs.take (k + 1)))) (.int .i64 (nS (zs.take (k + 1)))) w7 A P M ((aS (zs.take (k + 1))).1.getD 0 0) (Shr.pl4 (aS (zs.take (k + 1))).1) (Shr.mi4 (aS (zs.take (k + 1))).1)) := hideP (by rw [HF4.out, HF5.out, HF1.out]; exact hS6.out.grow ⟨hg7.os, hg7.tape, hg7.output, hg7.size, fun q hq hn => hg7.block q hq (fun e => hn e.symm)⟩ (own_blk61 O6.out))
      have B7 : Hid (Below LO W0 w7) := hideP (Below.grown B6.out hg7 hL6 (fun j hj => (World.ownsRow.lt O6.out j hj).1))
      obtain ⟨a5, cc5, rfl⟩ := ownG_shape ho7
      clear ho7 hg7 hat7 u6
      go_wp2
      go_roundw
      case rel => exact ⟨k + 1, _, by omega, congrArg _ (by push_cast; omega), S7, O7, B7⟩
      case measure => simp [intOf]; omega
   ·have hxb : (xk == 11) = false := by simp [hx]
    simp only [if_neg hx, hxb, Bool.or_false, List.append_nil] at HF1 HF3 HF4 HF5
    go_wp2_with (refine wpList_load_mid rfl 61 _ rfl g 0 rfl x.cells _ HRG.out Tryz.underlying61 rfl (by rw [cells_len]; kernel_rfl) ?_)
    refine (l10Add_any x HS.out HQL.out HXO.out).mono ?_
    rintro e w9 ⟨⟨v9, rfl⟩, hs9, hf9⟩
    have S9 : Hid (SmT (.int .i64 (aS (zs.take (k + 1))).2) (.bool (noteB (zs.take (k + 1)))) (.int .i64 (nS (zs.take (k + 1)))) w9 A P M ((aS (zs.take (k + 1))).1.getD 0 0) (Shr.pl4 (aS (zs.take (k + 1))).1) (Shr.mi4 (aS (zs.take (k + 1))).1)) := hideP (by rw [HF4.out, HF5.out, HF1.out]; exact hs9)
    have O9 : Hid (w9.ownsRow LO 61 15 (.slice ua m uc) m (flatN ((zs.take (k + 1)).flatMap (segB xs)))) := hideP (by rw [HF3.out]; exact own_fr3 HO.out HS.out hf9)
    have B9 : Hid (Below LO W0 w9) := hideP (HB.out.trans (hf9.toB hAPM hLr))
    clear hs9 hf9 n100 n102 hu
    go_wp2_with fail
    go_roundw
    case rel => exact ⟨k + 1, m, by omega, congrArg _ (by push_cast; omega), S9, O9, B9⟩
    case measure => simp [intOf]; omega
  ·have hki : ¬ ((s + k : Nat) : Int) < (b : Int) := by omega
   obtain rfl : k = b - s := by omega
   have hsb9 : s + (b - s) = b := by omega
   rw [hsb9]
   have hzt : zs.take (b - s) = zs := List.take_of_length_le (by rw [HZL.out]; exact Nat.le_refl _)
   rw [hzt] at HS HO
   obtain ⟨ns, hns⟩ : ∃ n, n = zs.flatMap (segB xs) := ⟨_, rfl⟩
   have HNS := hideP hns
   rw [← hns] at HO hpl HNSB
   rw [← HNB.out, ← HNT.out] at HS
   obtain ⟨Q, hQ⟩ : ∃ Q, Q = aS zs := ⟨_, rfl⟩
   rw [← hQ] at HS
   have HQ := hideP hQ
   have HQL : Hid (Q.1.length = 9) := hideP (by rw [hQ]; exact aS_len _)
   have HOm : Hid (wr.ownsRow LO 61 15 (.slice ua m uc) m (flatN ns)) := HO
   have hmn : ns.length = m := by have h1 := HO.out.1; rw [flatN_len] at h1; omega
   clear hzt hns hQ hki hsb9
   have hki : ¬ (b : Int) < (b : Int) := by omega
   obtain ⟨c3, c4, c5⟩ := HS.out.cells3
   have hAl := HS.out.alt
   go_upto_if 60 with fail
   go_cut [] (fun wc => Hid (SmT (.int .i64 F.2) (.bool nb) (.int .i64 nt) wc A P M (F.1.getD 0 0) (Shr.pl4 F.1) (Shr.mi4 F.1) ∧ Below LO W0 wc))
   case first =>
    cases nb with
    | false =>
     have HE : Hid (F = Q) := hideP (by rw [HFF.out, HQ.out]; unfold wS; rw [if_neg (by rw [← HNB.out]; simp)])
     go_wp2_with fail
     go_meet
     case rel => exact hideP ⟨by rw [HE.out]; exact HS.out, HB.out⟩
    | true =>
     have HE : Hid (F = nF ns (starts ns (ns.length + 1) 0) (pAdd (gapN g0 g1 g2' g3 g4) Q)) := hideP (by rw [HFF.out, HQ.out, HNS.out]; unfold wS; rw [if_pos HNB.out.symm])
     obtain ⟨y2, y3, y4, y5, y6⟩ := HC0.out wr HB.out
     have SC : Hid (∀ X, Below w.heap.size w X → X.ownsRow LO 61 15 (.slice ua m uc) m (flatN ns) → Calls Tryz.prog 87 #[.slice ua m uc] X fun e w' => (∃ u, e = .returned u ∧ IR w' X.heap.size u (starts ns (ns.length + 1) 0).length (natI (starts ns (ns.length + 1) 0))) ∧ Below X.heap.size X w') := hideP (fun X hX hO => starts9_any (SRow.mono ndStable (own_NRow hO hmn) (Nat.zero_le _)) (by omega) (fun i hi => (HNSB.out _ (getD_mem hi)).2))
     obtain ⟨q, hq⟩ : ∃ q, q = starts ns (ns.length + 1) 0 := ⟨_, rfl⟩
     rw [← hq] at HE SC
     have HQI : Hid (∀ i, i < q.length → q.getD i 0 < m) := hideP (fun i hi => by
      have h1 := starts_lt ns (ns.length + 1) 0 (q.getD i 0) (by rw [← hq]; exact getD_mem hi)
      omega)
     have hql : q.length ≤ 20000 := by
      have := starts_count (xs := ns) (ns.length + 1) 0
      rw [← hq] at this
      have := hpl.out
      omega
     obtain ⟨n, hn⟩ : ∃ n, n = q.length := ⟨_, rfl⟩
     rw [← hn] at SC HQI hql
     have HNQ := hideP hn
     have HMN := hideP hmn
     clear hq hn hmn
     go_wp2_with fail
     refine (show Calls Tryz.prog 86 #[.pointer (some ⟨A, 0, none⟩), .agg #[.int .i64 3, .int .i64 0, .int .i64 0, .int .i64 0, .int .i64 0, .int .i64 0, .int .i64 0, .int .i64 0, .int .i64 g0, .int .i64 g1, .int .i64 g2', .int .i64 g3, .int .i64 g4, .string ⟨#[]⟩, .int .i64 0]] wr _ from l10Add_any (gapN g0 g1 g2' g3 g4) HS.out HQL.out HGL.out).mono ?_
     rintro e w5 ⟨⟨v5, rfl⟩, hs5, hf5⟩
     obtain ⟨st, hst⟩ : ∃ st, st = pAdd (gapN g0 g1 g2' g3 g4) Q := ⟨_, rfl⟩
     rw [show (Q.1, Q.2) = Q from rfl, ← hst] at hs5
     rw [← hst] at HE
     have hstl : st.1.length = 9 := by rw [hst, pAdd_len]; exact HQL.out
     have S5 := hideP hs5
     have O5 : Hid (w5.ownsRow LO 61 15 (.slice ua m uc) m (flatN ns)) := hideP (own_fr3 HOm.out HS.out hf5)
     have B5 : Hid (Below LO W0 w5) := hideP (HB.out.trans (hf5.toB hAPM hLr))
     have HSTL := hideP hstl
     clear hs5 hf5 hst hstl y2 y3 y4 y5 y6 c3 c4 c5 hAl
     go_wp2_with fail
     refine (SC.out w5 (BT.out w5 B5.out) O5.out).mono ?_
     rintro e w6 ⟨⟨uu, rfl, hi6⟩, hb6⟩
     have S6 := hideP (S5.out.below hb6)
     have O6 := hideP (own_below O5.out hb6)
     have I6 : Hid (w6.ownsRow LO 3 1 uu n ((natI q).map (Value.int .i64))) := hideP (ownG_mono hi6 (by have := B5.out.size; have := HZ0.out; omega))
     have B6 : Hid (Below LO W0 w6) := hideP (below_more B5.out hb6 (by have := B5.out.size; have := HZ0.out; omega))
     obtain ⟨ia, ic, rfl⟩ := ownG_shape hi6
     clear hi6 hb6 S5 O5 B5 SC
     go_wp2_with fail
     go_loopw [13] (fun s13 wr2 => ∃ k : Nat, k ≤ n ∧ s13 = .int .i64 (k : Int) ∧ Hid (SmT (.int .i64 (nF ns (q.take k) st).2) (.bool true) (.int .i64 nt) wr2 A P M ((nF ns (q.take k) st).1.getD 0 0) (Shr.pl4 (nF ns (q.take k) st).1) (Shr.mi4 (nF ns (q.take k) st).1)) ∧ Hid (wr2.ownsRow LO 61 15 (.slice ua m uc) m (flatN ns)) ∧ Hid (wr2.ownsRow LO 3 1 (.slice ia n ic) n ((natI q).map (Value.int .i64))) ∧ Hid (Below LO W0 wr2)) (fun s13 _ => n - (intOf s13).toNat)
     case atStart => exact ⟨0, by omega, rfl, S6, O6, I6, B6⟩
     case round =>
      obtain ⟨k, hk, rfl, HS7, HO7, HI7, HB7⟩ := hrel
      obtain ⟨wv, rfl⟩ : ∃ X, X = wr := ⟨_, rfl⟩
      have hLv : LO ≤ wv.heap.size := Nat.le_trans HZ0.out HB7.out.size
      by_cases hkn : k < n
      ·have hkni : (k : Int) < (n : Int) := by omega
       obtain ⟨p, hp⟩ : ∃ p, p = q.getD k 0 := ⟨_, rfl⟩
       have hpm : p < m := by rw [hp]; exact HQI.out k hkn
       have hpmi : (p : Int) < (m : Int) := by omega
       obtain ⟨ig, rfl⟩ : ∃ ig, ia = some ⟨ig, 0, none⟩ := by
        rcases HI7.out.2 with ⟨e9, h0⟩ | ⟨g', cap', cur, e9, _⟩
        ·simp only [Value.slice.injEq] at e9
         omega
        ·simp only [Value.slice.injEq] at e9
         exact ⟨g', e9.1⟩
       obtain ⟨ug, rfl⟩ : ∃ ig, ua = some ⟨ig, 0, none⟩ := by
        rcases HO7.out.2 with ⟨e9, h0⟩ | ⟨g', cap', cur, e9, _⟩
        ·simp only [Value.slice.injEq] at e9
         omega
        ·simp only [Value.slice.injEq] at e9
         exact ⟨g', e9.1⟩
       have i9 : wv.cell? ⟨ig, k, none⟩ = some (.int .i64 (p : Int)) := by
        rw [World.ownsRow.cellAt HI7.out k (by omega), hp]
        unfold natI
        have hkq : k < q.length := by rw [← HNQ.out]; exact hkn
        simp [List.getElem?_map, List.getD, List.getElem?_eq_getElem hkq]
       obtain ⟨y, hy⟩ : ∃ y, y = ns.getD p Nd.none := ⟨_, rfl⟩
       have HRG : Hid (wv.rangeAt ug (p * 15) y.cells) := hideP (fun j u hj => by
        have hj15 : j < 15 := by have := (List.getElem?_eq_some_iff.1 hj).1; rw [cells_len] at this; exact this
        rw [World.ownsRow.cellAt HO7.out _ (by omega), flatN_get ns p (by rw [HMN.out]; exact hpm) j hj15, ← hy]
        exact hj)
       have HYO : Hid (Ord y) := hideP (by rw [hy]; exact (HNSB.out _ (getD_mem (by rw [HMN.out]; exact hpm))).1)
       obtain ⟨Q7, hQ7⟩ : ∃ z, z = nF ns (q.take k) st := ⟨_, rfl⟩
       have HT7 : Hid (nF ns (q.take (k + 1)) st = pAdd y Q7) := hideP (by rw [take_snoc q k 0 (by rw [← HNQ.out]; exact hkn), nF_snoc, ← hp, ← hy, hQ7])
       have HL7 : Hid (Q7.1.length = 9) := hideP (by rw [hQ7, nF_len]; exact HSTL.out)
       rw [← hQ7] at HS7
       have hig : ig < wv.heap.size := World.block_lt_of_cell? wv _ i9
       clear hp hy hQ7
       go_wp2_with (refine wpList_load_mid rfl 61 _ rfl ug (p * 15) rfl y.cells _ HRG.out Tryz.underlying61 rfl (by rw [cells_len]; kernel_rfl) ?_)
       refine (l10Add_any y HS7.out HL7.out HYO.out).mono ?_
       rintro e w9 ⟨⟨v9, rfl⟩, hs9, hf9⟩
       have S9 : Hid (SmT (.int .i64 (nF ns (q.take (k + 1)) st).2) (.bool true) (.int .i64 nt) w9 A P M ((nF ns (q.take (k + 1)) st).1.getD 0 0) (Shr.pl4 (nF ns (q.take (k + 1)) st).1) (Shr.mi4 (nF ns (q.take (k + 1)) st).1)) := hideP (by rw [HT7.out]; exact hs9)
       have O9 := hideP (own_fr3 HO7.out HS7.out hf9)
       have I9 := hideP (own_fr3 HI7.out HS7.out hf9)
       have B9 : Hid (Below LO W0 w9) := hideP (HB7.out.trans (hf9.toB hAPM hLv))
       clear hs9 hf9 i9
       go_wp2_with fail
       go_roundw
       case rel => exact ⟨k + 1, by omega, by go_num, S9, O9, I9, B9⟩
       case measure => simp [intOf]; omega
      ·obtain rfl : k = n := by omega
       have hkni : ¬ (k : Int) < (k : Int) := by omega
       have hqt : q.take k = q := List.take_of_length_le (by rw [← HNQ.out]; exact Nat.le_refl _)
       rw [hqt, ← HE.out] at HS7
       clear hqt
       go_wp2_with fail
       go_meet
       case rel => exact hideP ⟨HS7.out, HB7.out⟩
   case rest =>
    obtain ⟨SF, BF⟩ : Hid (SmT (.int .i64 F.2) (.bool nb) (.int .i64 nt) wc A P M (F.1.getD 0 0) (Shr.pl4 F.1) (Shr.mi4 F.1)) ∧ Hid (Below LO W0 wc) := ⟨hideP hcut.out.1, hideP hcut.out.2⟩
    clear hcut c3 c4 c5 hAl
    obtain ⟨a0, a1, a2⟩ := SF.out.cells
    obtain ⟨a3, a4, a5⟩ := SF.out.cells3
    obtain ⟨R, hR⟩ : ∃ r, r = SB + 1 := ⟨_, rfl⟩
    have ZR : Hid (wc.heap[R]? = some (.cells #[.int .i64 0, .slice none 0 0, .slice none 0 0, .int .i64 0, .bool false, .int .i64 0] 104 (0, 0))) := hideP (by rw [hR]; exact (BF.out.block (SB + 1) (by have := HSB.out; omega)).trans R1.out)
    have hRA : R ≠ A := by have := HSB.out; omega
    have hAR : A ≠ R := Ne.symm hRA
    have hPR : P ≠ R := by have := HSB.out; omega
    have hMR : M ≠ R := by have := HSB.out; omega
    have hwR : w.heap.size ≤ R := by have := HSB.out; omega
    have hAlc := SF.out.alt
    have BWc := hideP (BT.out wc BF.out)
    rw [← hR]
    clear hR
    have z0 : wc.cell? ⟨R, 0, none⟩ = some (.int .i64 0) := by rw [cell_of_row _ _ _ _ _ _ ZR.out]; rfl
    have z1 : wc.cell? ⟨R, 1, none⟩ = some (.slice none 0 0) := by rw [cell_of_row _ _ _ _ _ _ ZR.out]; rfl
    have z2 : wc.cell? ⟨R, 2, none⟩ = some (.slice none 0 0) := by rw [cell_of_row _ _ _ _ _ _ ZR.out]; rfl
    have z3 : wc.cell? ⟨R, 3, none⟩ = some (.int .i64 0) := by rw [cell_of_row _ _ _ _ _ _ ZR.out]; rfl
    have z4 : wc.cell? ⟨R, 4, none⟩ = some (.bool false) := by rw [cell_of_row _ _ _ _ _ _ ZR.out]; rfl
    have z5 : wc.cell? ⟨R, 5, none⟩ = some (.int .i64 0) := by rw [cell_of_row _ _ _ _ _ _ ZR.out]; rfl
    have fz : ∀ j, wc.frozen? ⟨R, j, none⟩ = false := fun j => frozen_of_row _ _ j _ 104 ZR.out
    obtain ⟨f0, hf0⟩ : ∃ y, y = F.1.getD 0 0 := ⟨_, rfl⟩
    obtain ⟨f2, hf2⟩ : ∃ y, y = F.2 := ⟨_, rfl⟩
    rw [← hf0] at a0
    rw [← hf2] at a3
    have HF0 := hideP hf0
    have HF2 := hideP hf2
    clear hf0 hf2
    go_wp2_with fail
    obtain ⟨X, hX⟩ : ∃ X, X = (((((wc.setCell ⟨R, 0, none⟩ (.int .i64 f0)).setCell ⟨R, 1, none⟩ (.slice (some ⟨P, 0, none⟩) 4 4)).setCell ⟨R, 2, none⟩ (.slice (some ⟨M, 0, none⟩) 4 4)).setCell ⟨R, 3, none⟩ (.int .i64 f2)).setCell ⟨R, 4, none⟩ (.bool nb)).setCell ⟨R, 5, none⟩ (.int .i64 nt) := ⟨_, rfl⟩
    rw [← hX]
    have FX : Fr R wc X := by rw [hX]; exact ((((((Fr.refl R wc).set 0 _).set 1 _).set 2 _).set 3 _).set 4 _).set 5 _
    have RX : X.heap[R]? = some (.cells #[.int .i64 f0, .slice (some ⟨P, 0, none⟩) 4 4, .slice (some ⟨M, 0, none⟩) 4 4, .int .i64 f2, .bool nb, .int .i64 nt] 104 (0, 0)) := by rw [hX]; exact heap_setCell_same _ _ 5 _ 104 _ (heap_setCell_same _ _ 4 _ 104 _ (heap_setCell_same _ _ 3 _ 104 _ (heap_setCell_same _ _ 2 _ 104 _ (heap_setCell_same _ _ 1 _ 104 _ (heap_setCell_same _ _ 0 _ 104 _ ZR.out)))))
    have BX : Below w.heap.size w X := ⟨FX.1.trans BWc.out.os, FX.2.1.trans BWc.out.tape, FX.2.2.1.trans BWc.out.output, Nat.le_trans BWc.out.size FX.2.2.2.1, fun k hk => (FX.2.2.2.2 k (Nat.lt_of_lt_of_le hk BWc.out.size) (by omega)).trans (BWc.out.block k hk)⟩
    clear hX
    exact bodyPost_ret (v := .agg #[.int .i64 f0, .slice (some ⟨P, 0, none⟩) 4 4, .slice (some ⟨M, 0, none⟩) 4 4, .int .i64 f2, .bool nb, .int .i64 nt]) (results_cell_row rfl _ _ R 104 _ (0, 0) _ rfl RX Tryz.underlying104 rfl (by kernel_rfl)) rfl ⟨⟨P, M, by rw [HF0.out, HF2.out]; rfl, (FX.2.2.2.2 P SF.out.hP.lt hPR).trans SF.out.hP, (FX.2.2.2.2 M SF.out.hM.lt hMR).trans SF.out.hM⟩, BX⟩
def pV (x : Nd) (j : Nat) : Int := if x.k = 5 ∨ x.k = 6 ∨ x.k = 7 then (if j = 0 then x.ht else 0) else if x.k = 2 then (if j = 0 then x.wd else 0) else if x.k = 3 then gxv x.gs x.gp x.gpo x.gm x.gmo j else 0
def pD (x : Nd) : Int := if x.k = 5 ∨ x.k = 6 ∨ x.k = 7 then x.dp else 0
structure PIn (x : Nd) : Prop where
 wd : fitI x.wd
 ht : fitI x.ht
 dp : fitI x.dp
 gs : fitI x.gs
 gp : fitI x.gp
 gm : fitI x.gm
 o1 : 0 ≤ x.gpo ∧ x.gpo ≤ 3
 o2 : 0 ≤ x.gmo ∧ x.gmo ≤ 3
theorem good_pin {x : Nd} (h : goodB x = true) : PIn x := by
 obtain ⟨q1, q2, q3, q4, q5, q6, q7, q8⟩ := good_vin h
 have h3 := good_in h
 exact ⟨q1, h3.ht, h3.dp, q2, q3, q4, ⟨q5, q6⟩, ⟨q7, q8⟩⟩
theorem pV_in {x : Nd} (h : PIn x) (j : Nat) : fitI (pV x j) := by
 obtain ⟨h1, h2, h3, h4, h5, h6, h7, h8⟩ := h
 have h9 := gxv_in h4 h5 h6 h7 h8 j
 unfold pV
 unfold fitI at *
 split
 ·split <;> omega
 ·split
  ·split <;> omega
  ·split
   ·exact h9
   ·omega
theorem pD_in {x : Nd} (h : PIn x) : fitI (pD x) := by
 have h3 := h.dp
 unfold pD
 unfold fitI at *
 split <;> omega
theorem set0_at {zs : List Int} (h : zs.length = 9) (y : Int) (j : Nat) : (zs.set 0 y).getD j 0 = if j = 0 then y else zs.getD j 0 := by
 obtain ⟨a, b, c, d, e, f, g, i, k, rfl⟩ := nine_of zs h
 cases j with
 | zero => rfl
 | succ j => rfl
theorem pAdd_get {x : Nd} {s : List Int × Int} {B : Int} (hx : PIn x) (hl : s.1.length = 9) (hB : Big B s.1) (h2 : fitI s.2) (hB2 : B ≤ 900000000000000) (j : Nat) : (pAdd x s).1.getD j 0 = s.1.getD j 0 + (if j = 0 then s.2 else 0) + pV x j ∧ (pAdd x s).2 = pD x := by
 have b0 := hB 0
 obtain ⟨h1, h3, h4, h5, h6, h7, h8, h9⟩ := hx
 unfold fitI at h1 h2 h3 h4
 have w1 : wrap64 (s.1.getD 0 0 + s.2) = s.1.getD 0 0 + s.2 := wrap_in (by omega) (by omega)
 unfold pAdd pV pD
 by_cases k5 : x.k = 5 ∨ x.k = 6 ∨ x.k = 7
 ·simp only [if_pos k5]
  refine ⟨?_, trivial⟩
  rw [set0_at hl, w1, wrap_in (by omega) (by omega)]
  split
  ·rename_i e; subst e; omega
  ·omega
 ·simp only [if_neg k5]
  by_cases k2 : x.k = 2
  ·simp only [if_pos k2]
   refine ⟨?_, trivial⟩
   rw [set0_at hl, w1, wrap_in (by omega) (by omega)]
   split
   ·rename_i e; subst e; omega
   ·omega
  ·simp only [if_neg k2]
   by_cases k3 : x.k = 3
   ·simp only [if_pos k3]
    refine ⟨?_, trivial⟩
    have hl2 : (s.1.set 0 (wrap64 (s.1.getD 0 0 + s.2))).length = 9 := by rw [List.length_set]; exact hl
    have hB3 : Big (B + 1073741823) (s.1.set 0 (wrap64 (s.1.getD 0 0 + s.2))) := fun i => by
     rw [set0_at hl, w1]
     have := hB i
     split <;> omega
    rw [glA_get hl2 h5 h6 h7 h8 h9 hB3 (by omega) j, set0_at hl, w1]
    split
    ·rename_i e; subst e; omega
    ·omega
   ·simp only [if_neg k3]
    refine ⟨?_, trivial⟩
    rw [set0_at hl, w1]
    split
    ·rename_i e; subst e; omega
    ·omega
theorem pAdd_big {x : Nd} {s : List Int × Int} {B : Int} (hx : PIn x) (hl : s.1.length = 9) (hB : Big B s.1) (h2 : fitI s.2) (hB2 : B ≤ 900000000000000) : Big (B + 2147483646) (pAdd x s).1 ∧ fitI (pAdd x s).2 := by
 refine ⟨fun j => ?_, ?_⟩
 ·have h1 := (pAdd_get hx hl hB h2 hB2 j).1
  have h3 := pV_in hx j
  have h4 := hB j
  rw [h1]
  unfold fitI at h2 h3
  split <;> omega
 ·rw [(pAdd_get hx hl hB h2 hB2 0).2]
  exact pD_in hx
def tot (s : List Int × Int) (j : Nat) : Int := s.1.getD j 0 + if j = 0 then s.2 else 0
theorem pAdd_tot {x : Nd} {s : List Int × Int} {B : Int} (hx : PIn x) (hl : s.1.length = 9) (hB : Big B s.1) (h2 : fitI s.2) (hB2 : B ≤ 900000000000000) (j : Nat) : tot (pAdd x s) j = tot s j + pV x j + if j = 0 then pD x else 0 := by
 obtain ⟨h1, h3⟩ := pAdd_get hx hl hB h2 hB2 j
 unfold tot
 rw [h1, h3]
theorem nF_all {ns : List Nd} (hns : ∀ p, p < ns.length → PIn (ns.getD p Nd.none)) : ∀ (ps : List Nat) (s : List Int × Int) (B : Int), (∀ p ∈ ps, p < ns.length) → s.1.length = 9 → Big B s.1 → fitI s.2 → B + 2147483646 * (ps.length : Int) ≤ 900000000000000 → Big (B + 2147483646 * (ps.length : Int)) (nF ns ps s).1 ∧ fitI (nF ns ps s).2 ∧ ∀ j, tot (nF ns ps s) j = tot s j + (ps.map (fun p => pV (ns.getD p Nd.none) j + if j = 0 then pD (ns.getD p Nd.none) else 0)).sum
 | [], s, B, _, hl, hB, h2, _ => by
  refine ⟨fun j => ?_, h2, fun j => ?_⟩
  ·have := hB j
   simp only [List.length_nil]
   show _ ≤ s.1.getD j 0 ∧ s.1.getD j 0 ≤ _
   omega
  ·simp [nF]
 | p :: ps, s, B, hp, hl, hB, h2, hle => by
  have hx := hns p (hp p (List.mem_cons_self ..))
  simp only [List.length_cons] at hle ⊢
  obtain ⟨g1, g2⟩ := pAdd_big hx hl hB h2 (by omega)
  have ih := nF_all hns ps (pAdd (ns.getD p Nd.none) s) (B + 2147483646) (fun q hq => hp q (List.mem_cons_of_mem _ hq)) (by rw [pAdd_len]; exact hl) g1 g2 (by push_cast at hle; omega)
  obtain ⟨i1, i2, i3⟩ := ih
  refine ⟨fun j => ?_, i2, fun j => ?_⟩
  ·have := i1 j
   show _ ≤ (nF ns ps (pAdd (ns.getD p Nd.none) s)).1.getD j 0 ∧ (nF ns ps (pAdd (ns.getD p Nd.none) s)).1.getD j 0 ≤ _
   push_cast
   omega
  ·show tot (nF ns ps (pAdd (ns.getD p Nd.none) s)) j = _
   rw [i3 j, pAdd_tot hx hl hB h2 (by omega) j, List.map_cons, List.sum_cons]
   omega
theorem aS_all : ∀ (n : Nat) (zs : List It), zs.length = n → (∀ t ∈ zs, PIn t.1) → n ≤ 4000 → Big (2147483646 * (n : Int)) (aS zs).1 ∧ fitI (aS zs).2 ∧ ∀ j, tot (aS zs) j = (zs.map (fun t => if t.1.k = 11 then 0 else pV t.1 j + if j = 0 then pD t.1 else 0)).sum
 | 0, zs, hl, _, _ => by
  obtain rfl : zs = [] := List.eq_nil_of_length_eq_zero hl
  have hz : ∀ j, ([0, 0, 0, 0, 0, 0, 0, 0, 0] : List Int).getD j 0 = 0 := fun j => by
   match j with
   | 0 | 1 | 2 | 3 | 4 | 5 | 6 | 7 | 8 => rfl
   | j + 9 => rfl
  have hz2 : ∀ j, (aS []).1.getD j 0 = 0 := hz
  refine ⟨fun j => by rw [hz2]; omega, ?_, fun j => ?_⟩
  ·show fitI 0
   unfold fitI
   omega
  ·unfold tot
   rw [hz2]
   show (0 : Int) + (if j = 0 then 0 else 0) = 0
   split <;> rfl
 | n + 1, zs, hl, hz, hn => by
  obtain ⟨ys, t, rfl⟩ : ∃ ys t, zs = ys ++ [t] := by
   have hne : zs ≠ [] := by intro e; subst e; simp at hl
   exact ⟨zs.dropLast, zs.getLast hne, (List.dropLast_concat_getLast hne).symm⟩
  have hyl : ys.length = n := by simpa using hl
  obtain ⟨i1, i2, i3⟩ := aS_all n ys hyl (fun q hq => hz q (List.mem_append_left _ hq)) (by omega)
  have ht := hz t (List.mem_append_right _ (List.mem_singleton.2 rfl))
  rw [aS_snoc]
  by_cases h11 : t.1.k = 11
  ·simp only [if_pos h11]
   refine ⟨fun j => by have := i1 j; push_cast; omega, i2, fun j => ?_⟩
   rw [i3 j, List.map_append, List.sum_append]
   simp [h11]
  ·simp only [if_neg h11]
   obtain ⟨g1, g2⟩ := pAdd_big ht (aS_len ys) i1 i2 (by omega)
   refine ⟨fun j => by have := g1 j; push_cast; omega, g2, fun j => ?_⟩
   rw [pAdd_tot ht (aS_len ys) i1 i2 (by omega) j, i3 j, List.map_append, List.sum_append]
   simp only [List.map_cons, List.map_nil, List.sum_cons, List.sum_nil, if_neg h11]
   omega
def tallX (x : Nd) : Bool := x.k == 2 || x.k == 5 || x.k == 6 || x.k == 7
def rH (x : Nd) : Int := if x.k = 2 then x.wd else x.ht
def rD (x : Nd) : Int := if x.k = 2 then 0 else x.dp
def pAdI (o : Nat) (x : Nd) (zs : List Int) : List Int :=
 if x.k = 3 then glA o x.gpo.toNat x.gmo.toNat x.gs x.gp x.gm (zs.set (o + 9) 0)
 else if tallX x = true then ((zs.set (o + 9) 0).set o (wrap64 (zs.getD o 0 + wrap64 (rH x + rD x)))).set (o + 9) (rD x)
 else zs.set (o + 9) 0
theorem pAdI_len (o : Nat) (x : Nd) (zs : List Int) : (pAdI o x zs).length = zs.length := by
 unfold pAdI
 split
 ·rw [glA_len]; simp
 ·split <;> simp
theorem reach_kern (a : Int) (w : World) : Calls Tryz.prog 193 #[.agg #[.int .i64 a]] w fun e w' => e = .returned (.tuple #[.int .i64 a, .int .i64 0]) ∧ Below w.heap.size w w' := by
 go_enter Tryz.func193, Tryz.ntmps193
 go_wp2
 refine bodyPost_ret (v := .tuple #[.int .i64 a, .int .i64 0]) (by simp [results, Tryz.results193, go_sem]) rfl ⟨rfl, ?_⟩
 first | exact below1 _ _ | exact Below.drew (below1 _ _)
theorem reach_rule (a b c : Int) (w : World) : Calls Tryz.prog 197 #[.agg #[.int .i64 a, .int .i64 b, .int .i64 c]] w fun e w' => e = .returned (.tuple #[.int .i64 b, .int .i64 c]) ∧ Below w.heap.size w w' := by
 go_enter Tryz.func197, Tryz.ntmps197
 go_wp2
 go_region
 go_wp2
 refine bodyPost_ret (v := .tuple #[.int .i64 b, .int .i64 c]) (by simp [results, Tryz.results197, go_sem]) rfl ⟨rfl, ?_⟩
 exact Below.drew (below1 _ _)
theorem reach_box (k a b c d e : Int) (w : World) : Calls Tryz.prog 202 #[.agg #[.int .i64 k, .int .i64 a, .int .i64 b, .int .i64 c, .int .i64 d, .int .i64 e]] w fun e' w' => e' = .returned (.tuple #[.int .i64 b, .int .i64 c]) ∧ Below w.heap.size w w' := by
 go_enter Tryz.func202, Tryz.ntmps202
 go_wp2
 go_region
 go_wp2
 refine bodyPost_ret (v := .tuple #[.int .i64 b, .int .i64 c]) (by simp [results, Tryz.results202, go_sem]) rfl ⟨rfl, ?_⟩
 exact Below.drew (below1 _ _)
structure TallY (v : Value) (X : Nat) (p : Value) (K : Nat) (h d : Int) : Prop where
 is : v = .iface X p
 ta : ∀ W : World, (Instr.typeAssert (.iface X p) 150 220 true).run Tryz.prog W = .ok (.tuple #[.iface X p, .bool true]) W
 mh : ∀ W : World, (method 393 X p "loop.example/g00014/impl.reach").run Tryz.prog W = .ok (K, p) W
 fh : ∀ W : World, (callFunc K #[p]).run Tryz.prog W = .ok (.enter K #[p]) W
 ch : ∀ W : World, Calls Tryz.prog K #[p] W fun e w' => e = .returned (.tuple #[.int .i64 h, .int .i64 d]) ∧ Below W.heap.size W w'
structure TallN (v : Value) : Prop where
 ta : ∀ W : World, (Instr.typeAssert v 150 220 true).run Tryz.prog W = .ok (.tuple #[.nilIface, .bool false]) W
 sh : v = .nilIface ∨ ∃ X p, v = .iface X p
theorem tallL_any (x : Nd) : (tallX x = true ∧ ∃ X p K, TallY (thV x) X p K (rH x) (rD x)) ∨ (tallX x = false ∧ TallN (thV x)) := by
 obtain ⟨k, wd, ht, dp, sh, fo, ch, nn, gs, gp, gpo, gm, gmo, tx, kids⟩ := x
 by_cases hk : 1 ≤ k ∧ k ≤ 11
 ·rcases kinds hk.1 hk.2 with rfl | rfl | rfl | rfl | rfl | rfl | rfl | rfl | rfl | rfl | rfl
  ·exact .inr ⟨rfl, fun W => run_typeAssert_lacksB Tryz.underlying220 (by kernel_rfl) (by kernel_rfl) _ 150 W, .inr ⟨_, _, rfl⟩⟩
  ·exact .inl ⟨rfl, 224, .agg #[.int .i64 wd], 193, ⟨rfl, fun W => run_typeAssert_hasB Tryz.underlying220 (by kernel_rfl) _ 150 W, fun _ => by kernel_rfl, fun _ => by kernel_rfl, fun W => reach_kern wd W⟩⟩
  ·exact .inr ⟨rfl, fun W => run_typeAssert_lacksB Tryz.underlying220 (by kernel_rfl) (by kernel_rfl) _ 150 W, .inr ⟨_, _, rfl⟩⟩
  ·exact .inr ⟨rfl, fun W => run_typeAssert_lacksB Tryz.underlying220 (by kernel_rfl) (by kernel_rfl) _ 150 W, .inr ⟨_, _, rfl⟩⟩
  ·exact .inl ⟨rfl, 237, .agg #[.int .i64 wd, .int .i64 ht, .int .i64 dp], 197, ⟨rfl, fun W => run_typeAssert_hasB Tryz.underlying220 (by kernel_rfl) _ 150 W, fun _ => by kernel_rfl, fun _ => by kernel_rfl, fun W => reach_rule wd ht dp W⟩⟩
  ·exact .inl ⟨rfl, 239, .agg #[.int .i64 6, .int .i64 wd, .int .i64 ht, .int .i64 dp, .int .i64 sh, .int .i64 kids], 202, ⟨rfl, fun W => run_typeAssert_hasB Tryz.underlying220 (by kernel_rfl) _ 150 W, fun _ => by kernel_rfl, fun _ => by kernel_rfl, fun W => reach_box 6 wd ht dp sh kids W⟩⟩
  ·exact .inl ⟨rfl, 239, .agg #[.int .i64 7, .int .i64 wd, .int .i64 ht, .int .i64 dp, .int .i64 sh, .int .i64 kids], 202, ⟨rfl, fun W => run_typeAssert_hasB Tryz.underlying220 (by kernel_rfl) _ 150 W, fun _ => by kernel_rfl, fun _ => by kernel_rfl, fun W => reach_box 7 wd ht dp sh kids W⟩⟩
  ·exact .inr ⟨rfl, fun W => run_typeAssert_lacksB Tryz.underlying220 (by kernel_rfl) (by kernel_rfl) _ 150 W, .inr ⟨_, _, rfl⟩⟩
  ·exact .inr ⟨rfl, fun W => run_typeAssert_lacksB Tryz.underlying220 (by kernel_rfl) (by kernel_rfl) _ 150 W, .inr ⟨_, _, rfl⟩⟩
  ·exact .inr ⟨rfl, fun W => run_typeAssert_lacksB Tryz.underlying220 (by kernel_rfl) (by kernel_rfl) _ 150 W, .inr ⟨_, _, rfl⟩⟩
  ·exact .inr ⟨rfl, fun W => run_typeAssert_lacksB Tryz.underlying220 (by kernel_rfl) (by kernel_rfl) _ 150 W, .inr ⟨_, _, rfl⟩⟩
 ·rw [thV_0 _ hk]
  refine .inr ⟨?_, fun W => by kernel_rfl, .inl rfl⟩
  unfold tallX
  simp
  omega
set_option maxRecDepth 20000 in
set_option maxHeartbeats 8000000 in
theorem paddL_any {w : World} {B T : Nat} {zs : List Int} (o : Nat) (x : Nd) (h : IntsL w B T zs) (ho : o + 10 ≤ zs.length) (hx : Ord x) :
 Calls Tryz.prog 90 #[.pointer (some ⟨B, o, none⟩), thV x] w fun e w' => (∃ v, e = .returned v) ∧ IntsL w' B T (pAdI o x zs) ∧ Fr B w w' := by
 obtain ⟨s0, s1, s2, s3, s4, s5, hs, hse⟩ := ask_space x
 have hsh := thV_shape x
 have hta := tallL_any x
 have HMA := hideP (show pAdI o x zs = (if x.k = 3 then glA o x.gpo.toNat x.gmo.toNat x.gs x.gp x.gm (zs.set (o + 9) 0) else if tallX x = true then ((zs.set (o + 9) 0).set o (wrap64 (zs.getD o 0 + wrap64 (rH x + rD x)))).set (o + 9) (rD x) else zs.set (o + 9) 0) from rfl)
 obtain ⟨R, hR⟩ : ∃ R, R = pAdI o x zs := ⟨_, rfl⟩
 rw [← hR] at HMA ⊢
 clear hR
 have c9 := h.cell (o + 9) (by omega)
 have c0 := h.cell o (by omega)
 obtain ⟨z0, hz0⟩ : ∃ z, z = zs.getD o 0 := ⟨_, rfl⟩
 obtain ⟨z9, hz9⟩ : ∃ z, z = zs.getD (o + 9) 0 := ⟨_, rfl⟩
 rw [← hz0] at c0 HMA
 rw [← hz9] at c9
 clear hz0 hz9
 have fz := h.free
 have hB := h.lt
 have e1 : ¬ o + 9 = o := by omega
 have e2 : ¬ o = o + 9 := by omega
 have HI := hideP h
 clear h
 obtain ⟨v, hv⟩ : ∃ v, v = thV x := ⟨_, rfl⟩
 rw [← hv] at hs hsh hta ⊢
 clear hv
 by_cases h3 : x.k = 3
 ·rw [show (x.k == 3) = true by simp [h3]] at hs
  obtain ⟨rfl, rfl, rfl, rfl, rfl, rfl⟩ := hse h3
  obtain ⟨x1, x2, x3, x4⟩ := hx
  obtain ⟨pn, hpn⟩ : ∃ pn : Nat, x.gpo = (pn : Int) := ⟨x.gpo.toNat, by omega⟩
  obtain ⟨mn, hmn⟩ : ∃ mn : Nat, x.gmo = (mn : Int) := ⟨x.gmo.toNat, by omega⟩
  have HR : Hid (R = glA o pn mn x.gs x.gp x.gm (zs.set (o + 9) 0)) := hideP (by rw [HMA.out, if_pos h3, hpn, hmn]; rfl)
  clear HMA
  rw [hpn, hmn] at hs
  have GC : Hid (∀ W, IntsL W B T (zs.set (o + 9) 0) → Calls Tryz.prog 77 #[.pointer (some ⟨B, o, none⟩), .agg #[.int .i64 x.gs, .int .i64 x.gp, .int .i64 (pn : Int), .int .i64 x.gm, .int .i64 (mn : Int)]] W fun e w' => (∃ v, e = .returned v) ∧ IntsL w' B T R ∧ Fr B W w') := hideP (fun W hW => by rw [HR.out]; exact addGlueL_any o pn mn x.gs x.gp x.gm hW (by rw [List.length_set]; omega) (by omega) (by omega))
  clear hta hpn hmn x1 x2 x3 x4 h3 hse
  rcases hsh with rfl | ⟨X, q, rfl⟩
  all_goals
   go_enter Tryz.func90, Tryz.ntmps90
   go_wp2
   go_region_with (go_at_call 77; refine (GC.out _ (IntsL.drew ((HI.out.set (o + 9) 0).alloc _))).mono ?_; rintro e w5 ⟨⟨vr, rfl⟩, hi5, hf5⟩; have HI5 := hideP hi5; have HF5 := hideP (Fr.trans (Fr.drew (((Fr.refl B w).set (o + 9) (.int .i64 0)).alloc _)) hf5); clear hi5 hf5)
   go_wp2
   go_end0
   exact ⟨⟨_, rfl⟩, HI5.out, HF5.out⟩
 ·rw [show (x.k == 3) = false by simp [h3]] at hs
  rcases hta with ⟨htl, X, p, K, TY⟩ | ⟨htl, TN⟩
  ·have HR : Hid (R = ((zs.set (o + 9) 0).set o (wrap64 (z0 + wrap64 (rH x + rD x)))).set (o + 9) (rD x)) := hideP (by rw [HMA.out, if_neg h3, if_pos htl])
   obtain ⟨hh, hhh⟩ : ∃ y, y = rH x := ⟨_, rfl⟩
   obtain ⟨dd, hdd⟩ : ∃ y, y = rD x := ⟨_, rfl⟩
   rw [← hhh, ← hdd] at TY HR
   clear hhh hdd HMA htl
   obtain ⟨rfl, ta, mh, fh, ch⟩ := TY
   have CH := hideP ch
   clear ch hsh h3 hse
   go_enter Tryz.func90, Tryz.ntmps90
   go_wp2_with fail
   refine (CH.out _).mono ?_
   rintro e w5 ⟨rfl, hb5⟩
   have I5 : IntsL w5 B T (zs.set (o + 9) 0) := (HI.out.set (o + 9) 0).below hb5
   have HF5 : Hid (Fr B w w5) := hideP (((Fr.refl B w).set (o + 9) (.int .i64 0)).below hb5)
   have q9 : w5.cell? ⟨B, o + 9, none⟩ = some (.int .i64 0) := by
    rw [I5.cell (o + 9) (by rw [List.length_set]; omega)]
    simp [List.getD, List.getElem?_set, show o + 9 < zs.length by omega]
   have q0 : w5.cell? ⟨B, o, none⟩ = some (.int .i64 z0) := by
    have h1 := HI.out.cell o (by omega)
    rw [c0] at h1
    rw [I5.cell o (by rw [List.length_set]; omega)]
    have h2 := Option.some.inj h1
    simp only [Value.int.injEq, true_and] at h2
    rw [h2]
    simp [List.getD, List.getElem?_set, show ¬ o + 9 = o by omega]
   clear c0 c9 fz hb5
   have fz := I5.free
   have hB5 := I5.lt
   have HI5 := hideP I5
   clear I5
   go_wp2
   go_end0
   refine ⟨⟨_, rfl⟩, ?_, ?_⟩
   ·have HI2 := HI5.out
    rw [HR.out]
    simp only [show ∀ y : Int, wrap64 y = IntKind.i64.wrap y from fun y => by simp only [IntKind.wrap_i64, wrap64]]
    repeat (first | with_reducible exact HI2 | with_reducible refine IntsL.set ?_ _ _ | with_reducible refine IntsL.alloc ?_ _ | with_reducible refine IntsL.drew ?_)
   ·have HF2 := HF5.out
    repeat (first | with_reducible exact HF2 | with_reducible refine Fr.set ?_ _ _ | with_reducible refine Fr.alloc ?_ _ | with_reducible refine Fr.drew ?_)
  ·obtain ⟨ta, _⟩ := TN
   have HR : Hid (R = zs.set (o + 9) 0) := hideP (by rw [HMA.out, if_neg h3, if_neg (by rw [htl]; decide)])
   clear h3 hse HMA htl
   rcases hsh with rfl | ⟨X, q, rfl⟩
   all_goals
    go_enter Tryz.func90, Tryz.ntmps90
    go_wp2
    go_end0
    refine ⟨⟨_, rfl⟩, ?_, ?_⟩
    ·have HI2 := HI.out
     rw [HR.out]
     repeat (first | with_reducible exact HI2 | with_reducible refine IntsL.set ?_ _ _ | with_reducible refine IntsL.alloc ?_ _ | with_reducible refine IntsL.drew ?_)
    ·repeat (first | with_reducible exact Fr.refl _ _ | with_reducible refine Fr.set ?_ _ _ | with_reducible refine Fr.alloc ?_ _ | with_reducible refine Fr.drew ?_)
def IntsV (w : World) (B T o : Nat) (pre : List Value) (zs : List Int) (post : List Value) : Prop := pre.length = o ∧ w.heap[B]? = some (.cells (pre ++ zs.map (Value.int .i64) ++ post).toArray T (0, 0))
section
variable {w : World} {B T o : Nat} {pre post : List Value} {zs : List Int}
theorem IntsV.lt (h : IntsV w B T o pre zs post) : B < w.heap.size := (Array.getElem?_eq_some_iff.1 h.2).1
theorem IntsV.cell (h : IntsV w B T o pre zs post) (j : Nat) (hj : j < zs.length) {a : Nat} (ha : a = o + j) : w.cell? ⟨B, a, none⟩ = some (.int .i64 (zs.getD j 0)) := by
 obtain ⟨rfl, h⟩ := h
 subst ha
 rw [cell_of_row _ _ _ _ T _ h]
 simp only [List.getElem?_toArray]
 rw [List.append_assoc, List.getElem?_append_right (by omega), Nat.add_sub_cancel_left, List.getElem?_append_left (by rw [List.length_map]; exact hj), List.getElem?_map, List.getD_eq_getElem?_getD, List.getElem?_eq_getElem hj]
 rfl
theorem IntsV.cell0 (h : IntsV w B T o pre zs post) (hj : 0 < zs.length) : w.cell? ⟨B, o, none⟩ = some (.int .i64 (zs.getD 0 0)) := h.cell 0 hj (by omega)
theorem IntsV.free (h : IntsV w B T o pre zs post) (a : Nat) : w.frozen? ⟨B, a, none⟩ = false := frozen_of_row _ _ a _ T h.2
theorem IntsV.set (h : IntsV w B T o pre zs post) (j : Nat) (z : Int) {a : Nat} (ha : a = o + j) (hj : j < zs.length := by first | omega | (simp only [List.length_set]; omega)) : IntsV (w.setCell ⟨B, a, none⟩ (.int .i64 z)) B T o pre (zs.set j z) post := by
 obtain ⟨rfl, h⟩ := h
 subst ha
 refine ⟨rfl, ?_⟩
 rw [heap_setCell_same w B _ _ T (.int .i64 z) h, List.setIfInBounds_toArray]
 congr 3
 rw [List.append_assoc, List.append_assoc, List.set_append_right _ _ (by omega), Nat.add_sub_cancel_left, List.set_append_left _ _ (by rw [List.length_map]; exact hj), List.map_set]
theorem IntsV.alloc (h : IntsV w B T o pre zs post) (x : Obj) : IntsV (w.alloc x) B T o pre zs post := ⟨h.1, (Below.heap_alloc _ _ _ h.lt).trans h.2⟩
theorem IntsV.drew (h : IntsV w B T o pre zs post) : IntsV w.drew B T o pre zs post := h
theorem IntsV.below {w' : World} (h : IntsV w B T o pre zs post) (hb : Below w.heap.size w w') : IntsV w' B T o pre zs post := ⟨h.1, (hb.block _ h.lt).trans h.2⟩
end
set_option maxRecDepth 20000 in
set_option maxHeartbeats 8000000 in
theorem addGlueV_any {w : World} {B T : Nat} {pre post : List Value} {zs : List Int} (o pn mn : Nat) (s p q : Int) (h : IntsV w B T o pre zs post) (ho : 9 ≤ zs.length) (hp : pn < 4) (hm : mn < 4) :
 Calls Tryz.prog 77 #[.pointer (some ⟨B, o, none⟩), glueV s p (pn : Int) q (mn : Int)] w fun e w' => (∃ v, e = .returned v) ∧ IntsV w' B T o pre (glA 0 pn mn s p q zs) post ∧ Fr B w w' := by
 have c0 := h.cell0 (by omega)
 obtain ⟨z0, hz0⟩ : ∃ z, z = zs.getD 0 0 := ⟨_, rfl⟩
 rw [← hz0] at c0
 have HZ0 := hideP hz0
 clear hz0
 have c1 := h.cell (1 + pn) (by omega) (show o + 1 + pn = o + (1 + pn) by omega)
 obtain ⟨z1, hz1⟩ : ∃ z, z = zs.getD (1 + pn) 0 := ⟨_, rfl⟩
 rw [← hz1] at c1
 have HZ1 := hideP hz1
 clear hz1
 have c2 := h.cell (5 + mn) (by omega) (show o + 5 + mn = o + (5 + mn) by omega)
 obtain ⟨z2, hz2⟩ : ∃ z, z = zs.getD (5 + mn) 0 := ⟨_, rfl⟩
 rw [← hz2] at c2
 have HZ2 := hideP hz2
 clear hz2
 have fz := h.free
 have hB := h.lt
 have hpi : (pn : Int) < 4 := by omega
 have hmi : (mn : Int) < 4 := by omega
 have e1 : ¬ o + 1 + pn = o := by omega
 have e2 : ¬ o = o + 1 + pn := by omega
 have e3 : ¬ o + 5 + mn = o := by omega
 have e4 : ¬ o = o + 5 + mn := by omega
 have e5 : ¬ o + 5 + mn = o + 1 + pn := by omega
 have e6 : ¬ o + 1 + pn = o + 5 + mn := by omega
 have HI := hideP h
 clear h
 simp only [glueV]
 go_enter Tryz.func77, Tryz.ntmps77
 go_wp2
 go_region
 go_wp2
 go_region
 go_wp2
 go_region
 go_wp2
 go_end0
 refine ⟨⟨_, rfl⟩, ?_, ?_⟩
 ·have HI2 := HI.out
  unfold glA
  simp only [Nat.zero_add]
  rw [← HZ0.out, ← HZ1.out, ← HZ2.out]
  repeat (first | with_reducible exact HI2 | with_reducible refine IntsV.set ?_ _ _ (by omega) | with_reducible refine IntsV.alloc ?_ _ | with_reducible refine IntsV.drew ?_)
 ·repeat (first | with_reducible exact Fr.refl _ _ | with_reducible refine Fr.set ?_ _ _ | with_reducible refine Fr.alloc ?_ _ | with_reducible refine Fr.drew ?_)
set_option maxRecDepth 20000 in
set_option maxHeartbeats 8000000 in
theorem paddV_any {w : World} {B T : Nat} {pre post : List Value} {zs : List Int} (o : Nat) (x : Nd) (h : IntsV w B T o pre zs post) (ho : 10 ≤ zs.length) (hx : Ord x) :
 Calls Tryz.prog 90 #[.pointer (some ⟨B, o, none⟩), thV x] w fun e w' => (∃ v, e = .returned v) ∧ IntsV w' B T o pre (pAdI 0 x zs) post ∧ Fr B w w' := by
 obtain ⟨s0, s1, s2, s3, s4, s5, hs, hse⟩ := ask_space x
 have hsh := thV_shape x
 have hta := tallL_any x
 have HMA := hideP (show pAdI 0 x zs = (if x.k = 3 then glA 0 x.gpo.toNat x.gmo.toNat x.gs x.gp x.gm (zs.set 9 0) else if tallX x = true then ((zs.set 9 0).set 0 (wrap64 (zs.getD 0 0 + wrap64 (rH x + rD x)))).set 9 (rD x) else zs.set 9 0) from rfl)
 obtain ⟨R, hR⟩ : ∃ R, R = pAdI 0 x zs := ⟨_, rfl⟩
 rw [← hR] at HMA ⊢
 clear hR
 have c9 := h.cell 9 (by omega) (show o + 9 = o + 9 from rfl)
 have c0 := h.cell0 (by omega)
 obtain ⟨z0, hz0⟩ : ∃ z, z = zs.getD 0 0 := ⟨_, rfl⟩
 obtain ⟨z9, hz9⟩ : ∃ z, z = zs.getD 9 0 := ⟨_, rfl⟩
 rw [← hz0] at c0 HMA
 rw [← hz9] at c9
 clear hz0 hz9
 have fz := h.free
 have hB := h.lt
 have e1 : ¬ o + 9 = o := by omega
 have e2 : ¬ o = o + 9 := by omega
 have HI := hideP h
 clear h
 obtain ⟨v, hv⟩ : ∃ v, v = thV x := ⟨_, rfl⟩
 rw [← hv] at hs hsh hta ⊢
 clear hv
 by_cases h3 : x.k = 3
 ·rw [show (x.k == 3) = true by simp [h3]] at hs
  obtain ⟨rfl, rfl, rfl, rfl, rfl, rfl⟩ := hse h3
  obtain ⟨x1, x2, x3, x4⟩ := hx
  obtain ⟨pn, hpn⟩ : ∃ pn : Nat, x.gpo = (pn : Int) := ⟨x.gpo.toNat, by omega⟩
  obtain ⟨mn, hmn⟩ : ∃ mn : Nat, x.gmo = (mn : Int) := ⟨x.gmo.toNat, by omega⟩
  have HR : Hid (R = glA 0 pn mn x.gs x.gp x.gm (zs.set 9 0)) := hideP (by rw [HMA.out, if_pos h3, hpn, hmn]; rfl)
  clear HMA
  rw [hpn, hmn] at hs
  have GC : Hid (∀ W, IntsV W B T o pre (zs.set 9 0) post → Calls Tryz.prog 77 #[.pointer (some ⟨B, o, none⟩), .agg #[.int .i64 x.gs, .int .i64 x.gp, .int .i64 (pn : Int), .int .i64 x.gm, .int .i64 (mn : Int)]] W fun e w' => (∃ v, e = .returned v) ∧ IntsV w' B T o pre R post ∧ Fr B W w') := hideP (fun W hW => by rw [HR.out]; exact addGlueV_any o pn mn x.gs x.gp x.gm hW (by rw [List.length_set]; omega) (by omega) (by omega))
  clear hta hpn hmn x1 x2 x3 x4 h3 hse
  rcases hsh with rfl | ⟨X, q, rfl⟩
  all_goals
   go_enter Tryz.func90, Tryz.ntmps90
   go_wp2
   go_region_with (go_at_call 77; refine (GC.out _ (IntsV.drew ((HI.out.set 9 0 (show o + 9 = o + 9 from rfl)).alloc _))).mono ?_; rintro e w5 ⟨⟨vr, rfl⟩, hi5, hf5⟩; have HI5 := hideP hi5; have HF5 := hideP (Fr.trans (Fr.drew (((Fr.refl B w).set (o + 9) (.int .i64 0)).alloc _)) hf5); clear hi5 hf5)
   go_wp2
   go_end0
   exact ⟨⟨_, rfl⟩, HI5.out, HF5.out⟩
 ·rw [show (x.k == 3) = false by simp [h3]] at hs
  rcases hta with ⟨htl, X, p, K, TY⟩ | ⟨htl, TN⟩
  ·have HR : Hid (R = ((zs.set 9 0).set 0 (wrap64 (z0 + wrap64 (rH x + rD x)))).set 9 (rD x)) := hideP (by rw [HMA.out, if_neg h3, if_pos htl])
   obtain ⟨hh, hhh⟩ : ∃ y, y = rH x := ⟨_, rfl⟩
   obtain ⟨dd, hdd⟩ : ∃ y, y = rD x := ⟨_, rfl⟩
   rw [← hhh, ← hdd] at TY HR
   clear hhh hdd HMA htl
   obtain ⟨rfl, ta, mh, fh, ch⟩ := TY
   have CH := hideP ch
   clear ch hsh h3 hse
   go_enter Tryz.func90, Tryz.ntmps90
   go_wp2_with fail
   refine (CH.out _).mono ?_
   rintro e w5 ⟨rfl, hb5⟩
   have I5 : IntsV w5 B T o pre (zs.set 9 0) post := (HI.out.set 9 0 (show o + 9 = o + 9 from rfl)).below hb5
   have HF5 : Hid (Fr B w w5) := hideP (((Fr.refl B w).set (o + 9) (.int .i64 0)).below hb5)
   have q9 : w5.cell? ⟨B, o + 9, none⟩ = some (.int .i64 0) := by
    rw [I5.cell 9 (by rw [List.length_set]; omega) (show o + 9 = o + 9 from rfl)]
    simp [List.getD, List.getElem?_set, show 9 < zs.length by omega]
   have q0 : w5.cell? ⟨B, o, none⟩ = some (.int .i64 z0) := by
    have h1 := HI.out.cell0 (by omega)
    rw [c0] at h1
    rw [I5.cell0 (by rw [List.length_set]; omega)]
    have h2 := Option.some.inj h1
    simp only [Value.int.injEq, true_and] at h2
    rw [h2]
    simp [List.getD, List.getElem?_set, show ¬ (9 : Nat) = 0 by omega]
   clear c0 c9 fz hb5
   have fz := I5.free
   have hB5 := I5.lt
   have HI5 := hideP I5
   clear I5
   go_wp2
   go_end0
   refine ⟨⟨_, rfl⟩, ?_, ?_⟩
   ·have HI2 := HI5.out
    rw [HR.out]
    simp only [show ∀ y : Int, wrap64 y = IntKind.i64.wrap y from fun y => by simp only [IntKind.wrap_i64, wrap64]]
    repeat (first | with_reducible exact HI2 | with_reducible refine IntsV.set ?_ _ _ (by omega) | with_reducible refine IntsV.alloc ?_ _ | with_reducible refine IntsV.drew ?_)
   ·have HF2 := HF5.out
    repeat (first | with_reducible exact HF2 | with_reducible refine Fr.set ?_ _ _ | with_reducible refine Fr.alloc ?_ _ | with_reducible refine Fr.drew ?_)
  ·obtain ⟨ta, _⟩ := TN
   have HR : Hid (R = zs.set 9 0) := hideP (by rw [HMA.out, if_neg h3, if_neg (by rw [htl]; decide)])
   clear h3 hse HMA htl
   rcases hsh with rfl | ⟨X, q, rfl⟩
   all_goals
    go_enter Tryz.func90, Tryz.ntmps90
    go_wp2
    go_end0
    refine ⟨⟨_, rfl⟩, ?_, ?_⟩
    ·have HI2 := HI.out
     rw [HR.out]
     repeat (first | with_reducible exact HI2 | with_reducible refine IntsV.set ?_ _ _ (by omega) | with_reducible refine IntsV.alloc ?_ _ | with_reducible refine IntsV.drew ?_)
    ·repeat (first | with_reducible exact Fr.refl _ _ | with_reducible refine Fr.set ?_ _ _ | with_reducible refine Fr.alloc ?_ _ | with_reducible refine Fr.drew ?_)
end Go.Proofs.YtlohbaoigfaneaaGreat
