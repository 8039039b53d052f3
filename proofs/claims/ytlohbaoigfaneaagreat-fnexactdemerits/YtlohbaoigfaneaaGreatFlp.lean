import Derived.Test.YtlohbaoigfaneaaGreatLnn
import Derived.Test.YtlohbaoigfaneaaGreatOld
import Derived.Test.YtlohbaoigfaneaaGreatLgr
import Derived.Test.YtlohbaoigfaneaaGreatApl
import Derived.Test.YtlohbaoigfaneaaGreatPay
import Derived.Deep.DeepCutAuto
import Derived.Deep.RegionHeld3
namespace Go.Proofs.YtlohbaoigfaneaaGreat
open Go.RowKit
set_option linter.unusedVariables false
set_option linter.unusedSimpArgs false
def fcB (ts : List Tn) (a n : Nat) : Bool := (List.range n).any (fun p => (ts.getD (a + p) Tn.none).2.1 == -10000)
theorem fcB_succ (ts : List Tn) (a n : Nat) : fcB ts a (n + 1) = (fcB ts a n || ((ts.getD (a + n) Tn.none).2.1 == -10000)) := by
 unfold fcB
 rw [List.range_succ, List.any_append]
 simp
theorem fcB_iff {ts : List Tn} {a n : Nat} : fcB ts a n = true ↔ ∃ p, p < n ∧ (ts.getD (a + p) Tn.none).2.1 = -10000 := by
 unfold fcB
 simp [List.any_eq_true]
theorem fcB_mono {ts : List Tn} {a k n : Nat} (h : fcB ts a k = true) (hk : k ≤ n) : fcB ts a n = true := by
 obtain ⟨p, hp, he⟩ := fcB_iff.1 h
 exact fcB_iff.2 ⟨p, by omega, he⟩
set_option maxRecDepth 20000 in
set_option maxHeartbeats 4000000 in
theorem indexF_any {w : World} {lo g m c cp : Nat} {ts : List Tn} (a n : Nat) (h : w.ownsRow lo 85 4 (.slice (some ⟨g, 0, none⟩) m c) m (flatT ts)) (hl : ts.length = m) (hm : m ≤ 5001) (hn : a + n ≤ m) (h0 : 0 < m) :
 Calls Tryz.prog 74 #[.slice (some ⟨g, a * 4, none⟩) n cp, .func (.func 34) #[] #[]] w fun e w' => (∃ r : Int, e = .returned (.int .i64 r) ∧ (decide (0 ≤ r)) = fcB ts a n) ∧ Below w.heap.size w w' := by
 have hgl : g < w.heap.size := World.block_lt_of_cell? w _ (turn_cells h hl h0).1
 have TC : Hid (∀ X, Below w.heap.size w X → ∀ k, k < n → ∃ (t : Tn), t = ts.getD (a + k) Tn.none ∧ X.cell? ⟨g, a * 4 + k * 4, none⟩ = some (.int .i64 t.1) ∧ X.cell? ⟨g, a * 4 + k * 4 + 1, none⟩ = some (.int .i64 t.2.1) ∧ X.cell? ⟨g, a * 4 + k * 4 + 2, none⟩ = some (.pointer t.2.2.1) ∧ X.cell? ⟨g, a * 4 + k * 4 + 3, none⟩ = some (.int .i64 t.2.2.2)) := hideP (fun X hX k hk => by
  have ht : ∀ j, j < 4 → X.cell? ⟨g, a * 4 + k * 4 + j, none⟩ = (ts.getD (a + k) Tn.none).cells[j]? := fun j hj => by
   rw [World.cell?_of_block (w := w) (a := ⟨g, a * 4 + k * 4 + j, none⟩) (hX.block g hgl), h.cellAt _ (by omega), show a * 4 + k * 4 + j = (a + k) * 4 + j by omega]
   exact flatT_at ts (a + k) j (by omega) hj
  exact ⟨_, rfl, ht 0 (by omega), ht 1 (by omega), ht 2 (by omega), ht 3 (by omega)⟩)
 have hn5 : n ≤ 5001 := by omega
 clear h hl hm hn h0
 go_enter Tryz.func74, Tryz.ntmps74
 go_wp2
 go_loopw [8] (fun s wr => ∃ k : Nat, k ≤ n ∧ s = .int .i64 (k : Int) ∧ fcB ts a k = false ∧ Hid (Below w.heap.size w wr)) (fun s wr => n - (intOf s).toNat)
 case atStart => exact ⟨0, by omega, rfl, rfl, hideP (Below.refl _ _)⟩
 case round =>
  obtain ⟨k, hk, rfl, hf, HB⟩ := hrel
  have HF := hideP hf
  clear hf
  by_cases hkn : k < n
  ·have hki : (k : Int) < (n : Int) := by omega
   obtain ⟨t, ht, t0, t1, t2, t3⟩ := TC.out wr HB.out k hkn
   have HT := hideP ht
   clear ht
   obtain ⟨u0, u1, u2, u3⟩ := t
   simp only at t0 t1 t2 t3
   have hw1 : w.heap.size ≤ wr.heap.size := HB.out.size
   go_wp2_with fail
   refine (isForced_any u0 u1 u3 u2 _).mono ?_
   rintro e w1 ⟨rfl, hb1⟩
   have HB1 : Hid (Below w.heap.size w w1) := hideP (below_more HB.out hb1 hw1)
   by_cases hu : u1 = -10000
   ·have hub : (u1 == -10000) = true := by rw [hu]; rfl
    have HG : Hid (fcB ts a n = true) := hideP (fcB_mono (k := k + 1) (by rw [fcB_succ, ← HT.out]; simp [hu]) (by omega))
    rw [hub]
    clear hub hu hb1
    go_wp2
    go_ret
    exact ⟨⟨_, rfl, by rw [HG.out]; simp⟩, HB1.out⟩
   ·have hub : (u1 == -10000) = false := by simpa using hu
    have HG : Hid (fcB ts a (k + 1) = false) := hideP (by rw [fcB_succ, HF.out, ← HT.out]; simpa using hu)
    rw [hub]
    clear hub hu hb1
    go_wp2
    go_roundw
    case rel => exact ⟨k + 1, by omega, by go_num, HG.out, HB1⟩
    case measure => simp [intOf]; omega
  ·obtain rfl : k = n := by omega
   have hki : ¬ (k : Int) < (k : Int) := by omega
   go_wp2
   go_ret
   exact ⟨⟨_, rfl, by rw [HF.out]; decide⟩, HB.out⟩
set_option maxRecDepth 20000 in
set_option maxHeartbeats 4000000 in
theorem containsF_any {w : World} {lo g m c cp : Nat} {ts : List Tn} (a n : Nat) (h : w.ownsRow lo 85 4 (.slice (some ⟨g, 0, none⟩) m c) m (flatT ts)) (hl : ts.length = m) (hm : m ≤ 5001) (hn : a + n ≤ m) (h0 : 0 < m) :
 Calls Tryz.prog 33 #[.slice (some ⟨g, a * 4, none⟩) n cp, .func (.func 34) #[] #[]] w fun e w' => e = .returned (.bool (fcB ts a n)) ∧ Below w.heap.size w w' := by
 have IC := hideP (indexF_any (cp := cp) a n h hl hm hn h0)
 obtain ⟨R, hR⟩ : ∃ R, R = fcB ts a n := ⟨_, rfl⟩
 rw [← hR] at IC ⊢
 clear h hl hm hn h0 hR
 go_enter Tryz.func33, Tryz.ntmps33
 go_wp2_with fail
 refine IC.out.mono ?_
 rintro e w1 ⟨⟨r, rfl, hr⟩, hb1⟩
 have HB := hideP hb1
 clear hb1
 subst hr
 by_cases h0 : (0 : Int) ≤ r
 ·have h1 : r ≥ 0 := h0
  go_wp2
  go_ret
  exact ⟨by simp [h0], HB.out⟩
 ·have h1 : ¬ r ≥ 0 := h0
  go_wp2
  go_ret
  exact ⟨by simp [h0], HB.out⟩
theorem ParO.bel {xs : List Nd} {S : Sy} {lo : Nat} {w1 W : World} {PB : Nat} {L : List Nd} {ts : List Tn} {nv : Value} {B ic : Nat} {sv : Value} {g m c : Nat} (h : ParO xs S lo w1 PB L ts nv B ic sv g m c) (hW : Below w1.heap.size w1 W) : ParO xs S lo W PB L ts nv B ic sv g m c :=
 ⟨h.ok, h.lst, h.hd, h.ok3, h.few, h.par.keep (hW.block PB h.par.lt), ownG_below h.nds hW, ownG_below h.itm hW, h.tl, h.tf, ownG_below h.trn hW, fun t ht => (h.shw t ht).keep (KeepH.below hW), ownG_below h.sms hW, h.cnd⟩
theorem ts_mem {ts : List Tn} {F : List Int} {m : Nat} {x : Int} (h : ts.map (fun t => t.1) = F) (hl : ts.length = m) : (∀ p, p < m → (ts.getD p Tn.none).1 ≠ x) → x ∉ F := fun hn hx => by
 obtain ⟨p, hp, hpe⟩ := List.mem_iff_getElem.1 hx
 have hpl : p < ts.length := by have := congrArg List.length h; rw [List.length_map] at this; omega
 refine hn p (by omega) ?_
 rw [ts_get h hpl]
 simp [List.getD, List.getElem?_eq_getElem hp, hpe]
theorem ts_in {ts : List Tn} {F : List Int} {m : Nat} {k : Nat} {x : Int} (h : ts.map (fun t => t.1) = F) (hl : ts.length = m) (hk : k < m) (hx : (ts.getD k Tn.none).1 = x) : x ∈ F := by
 rw [← h, ← hx, show ts.getD k Tn.none = ts[k]'(by omega) by simp [List.getD, List.getElem?_eq_getElem (show k < ts.length by omega)]]
 exact List.mem_map_of_mem (List.getElem_mem _)
theorem ts_at {ts : List Tn} {F : List Int} {m : Nat} {x : Int} (h : ts.map (fun t => t.1) = F) (hl : ts.length = m) (hx : x ∈ F) : ∃ p, p < m ∧ (ts.getD p Tn.none).1 = x := by
 obtain ⟨p, hp, hpe⟩ := List.mem_iff_getElem.1 hx
 have hpl : p < ts.length := by have := congrArg List.length h; rw [List.length_map] at this; omega
 refine ⟨p, by omega, ?_⟩
 rw [ts_get h hpl]
 simp [List.getD, List.getElem?_eq_getElem hp, hpe]
theorem tn_mem {ts : List Tn} {k : Nat} (h : k < ts.length) : ts.getD k Tn.none ∈ ts := by
 rw [show ts.getD k Tn.none = ts[k] by simp [List.getD, List.getElem?_eq_getElem h]]
 exact List.getElem_mem _
theorem turn_says {S : Sy} {ys : List It} {t : Tn} {W : World} (h : TurnP S.hy ys t W) : (0 ≤ t.1 → t.2.1 = prT S ys t.1) ∧ t.2.2.1.isSome = hyI ys t.1 := by
 rcases h with rfl | ⟨k, q, rfl, h2, h3⟩
 ·exact ⟨fun h => by have h2 : (0 : Int) ≤ -1 := h; omega, rfl⟩
 ·refine ⟨fun _ => ?_, ?_⟩
  ·show trnC S.hy ys k = prT S ys (k : Int)
   unfold prT trnC prcI brkC
   rw [Int.toNat_natCast]
   by_cases h8 : (ys.getD k It.none).1.k = 8
   ·rw [if_pos h8, if_neg (by omega), if_pos h8]
   ·rw [if_neg h8]
    by_cases h4 : (ys.getD k It.none).1.k = 4
    ·rw [if_pos h4, if_pos h4]
    ·rw [if_neg h4, if_neg h4, if_neg h8]
  ·show q.isSome = hyI ys (k : Int)
   unfold hyI
   rw [decide_eq_true (by omega), Bool.true_and, Int.toNat_natCast]
   unfold ShowN at h3
   by_cases h8 : (ys.getD k It.none).1.k = 8
   ·rw [if_pos h8] at h3
    obtain ⟨b, rfl, _⟩ := h3
    rw [h8]; rfl
   ·rw [if_neg h8] at h3
    subst h3
    simpa using h8
section
variable {xs : List Nd} {S : Sy} {ys : List It} {ts : List Tn} {m : Nat} {W : World}
theorem turn_cost (hf : ts.map (fun t => t.1) = -1 :: blL xs S) (hl : ts.length = m) (hT : ∀ t ∈ ts, TurnP S.hy ys t W) {p : Nat} (hp : p < m) (h0 : 0 < p) : (ts.getD p Tn.none).2.1 = prT S ys (ts.getD p Tn.none).1 ∧ (ts.getD p Tn.none).1 ∈ blL xs S := by
 have h1 := (turn_says (hT _ (tn_mem (by omega : p < ts.length)))).1
 have h2 := ts_sorted hf 0 p h0 (by omega)
 have h3 := ts_get hf (show 0 < ts.length by omega)
 have h4 : (-1 :: blL xs S).getD 0 0 = -1 := rfl
 refine ⟨h1 (by omega), ?_⟩
 have h5 := ts_in hf hl hp rfl
 rcases List.mem_cons.1 h5 with e | e
 ·omega
 ·exact e
theorem ok_no (hf : ts.map (fun t => t.1) = -1 :: blL xs S) (hl : ts.length = m) {f t : Int} (h : ∀ p, p < m → (ts.getD p Tn.none).1 ≠ t) : okI S ys (blL xs S) f t = false := by
 have h1 := ts_mem hf hl h
 by_cases ho : okI S ys (blL xs S) f t = true
 ·exact absurd (List.mem_cons_of_mem _ (okI_iff.1 ho).2.1) h1
 ·simpa using ho
theorem ok_low (hf : ts.map (fun t => t.1) = -1 :: blL xs S) (hl : ts.length = m) {k k2 : Nat} (hk : k < m) (h2 : k2 ≤ k) : okI S ys (blL xs S) (ts.getD k Tn.none).1 (ts.getD k2 Tn.none).1 = false := by
 by_cases ho : okI S ys (blL xs S) (ts.getD k Tn.none).1 (ts.getD k2 Tn.none).1 = true
 ·have h3 := (okI_iff.1 ho).1
  by_cases e : k2 = k
  ·subst e; omega
  ·have := ts_sorted hf k2 k (by omega) (by omega)
   omega
 ·simpa using ho
theorem ok_is (hf : ts.map (fun t => t.1) = -1 :: blL xs S) (hl : ts.length = m) (hT : ∀ t ∈ ts, TurnP S.hy ys t W) {k k2 : Nat} (hk : k < k2) (hk2 : k2 < m) : okI S ys (blL xs S) (ts.getD k Tn.none).1 (ts.getD k2 Tn.none).1 = !(fcB ts (k + 1) (k2 - (k + 1))) := by
 have hs := fun p q h1 h2 => ts_sorted hf p q h1 (by rw [hl]; exact h2)
 by_cases hb : fcB ts (k + 1) (k2 - (k + 1)) = true
 ·rw [hb]
  obtain ⟨p, hp, he⟩ := fcB_iff.1 hb
  obtain ⟨c1, c2⟩ := turn_cost hf hl hT (show k + 1 + p < m by omega) (by omega)
  by_cases ho : okI S ys (blL xs S) (ts.getD k Tn.none).1 (ts.getD k2 Tn.none).1 = true
  ·exact absurd (c1.symm.trans he) ((okI_iff.1 ho).2.2 _ c2 (hs _ _ (by omega) (by omega)) (hs _ _ (by omega) (by omega)))
  ·simpa using ho
 ·rw [show fcB ts (k + 1) (k2 - (k + 1)) = false by simpa using hb]
  refine okI_iff.2 ⟨hs _ _ hk hk2, (turn_cost hf hl hT hk2 (by omega)).2, fun b hbm h1 h2 he => hb ?_⟩
  obtain ⟨p, hp, hpe⟩ := ts_at hf hl (List.mem_cons_of_mem (-1) hbm)
  subst hpe
  have hp1 : k < p := by
   by_cases h : p ≤ k
   ·by_cases e : p = k
    ·subst e; omega
    ·have := hs p k (by omega) (by omega); omega
   ·omega
  have hp2 : p < k2 := by
   by_cases h : k2 ≤ p
   ·by_cases e : p = k2
    ·subst e; omega
    ·have := hs k2 p (by omega) hp; omega
   ·omega
  obtain ⟨c1, _⟩ := turn_cost hf hl hT hp (by omega)
  exact fcB_iff.2 ⟨p - (k + 1), by omega, by rw [show k + 1 + (p - (k + 1)) = p by omega, c1, he]⟩
end
def hgI (S : Sy) (i : Nat) : Int := if (i : Int) < S.hg then S.hg - (i : Int) else 0
theorem hgI_zero {S : Sy} (h : syB S = true) : hgI S 0 = S.hg := by
 have : 0 ≤ S.hg ∧ S.hg ≤ 4 := by
  unfold syB uptoB at h
  simp only [Bool.and_eq_true, decide_eq_true_eq] at h
  omega
 unfold hgI
 split <;> omega
theorem hgI_succ {S : Sy} (h : syB S = true) (i : Nat) : mxZ (wrap64 (hgI S i - 1)) = hgI S (i + 1) := by
 have : 0 ≤ S.hg ∧ S.hg ≤ 4 := by
  unfold syB uptoB at h
  simp only [Bool.and_eq_true, decide_eq_true_eq] at h
  omega
 unfold hgI
 by_cases h1 : (i : Int) < S.hg
 ·rw [if_pos h1, wrap_in (by omega) (by omega)]
  unfold mxZ
  by_cases h2 : ((i + 1 : Nat) : Int) < S.hg
  ·rw [if_pos h2, if_pos (by push_cast at h2; omega)]
   push_cast
   omega
  ·rw [if_neg h2, if_neg (by push_cast at h2; omega)]
 ·rw [if_neg h1, if_neg (by push_cast; omega), wrap_in (by omega) (by omega)]
  unfold mxZ
  rw [if_neg (by omega)]
theorem hgI_pos {S : Sy} (i : Nat) : 0 < hgI S i ↔ (i : Int) < S.hg := by
 unfold hgI
 split <;> omega
theorem sy_wd {S : Sy} (h : syB S = true) : (0 ≤ S.wd ∧ S.wd ≤ 1073741823) ∧ (0 ≤ S.nw ∧ S.nw ≤ 1073741823) ∧ 0 ≤ S.hy := by
 unfold syB uptoB at h
 simp only [Bool.and_eq_true, decide_eq_true_eq] at h
 omega
theorem prT_low {xs : List Nd} {S : Sy} {ys : List It} (h : listB xs = true) (hS : syB S = true) (hy : ys.map Prod.fst = (rowI xs S).map Prod.fst) (t : Int) (ht : t.toNat < ys.length) : -10000 ≤ prT S ys t := by
 have hl : ys.length = (rowI xs S).length := by simpa using congrArg List.length hy
 obtain ⟨_, q, _⟩ := row_get h hS (k := t.toNat) (by omega)
 have h3 := (sy_wd hS).2.2
 unfold prT prcI
 rw [fst_get hy]
 split
 ·rename_i h4
  unfold goodB specB penB at q
  simp only [Bool.and_eq_true, h4] at q
  have := q.1.1.1.2
  simp at this
  exact this.1
 ·split <;> omega
theorem flatM_len (ys : List It) : ∀ i, (flatM ys i).length = i * 9
 | 0 => rfl
 | i + 1 => by rw [flatM_succ, List.length_append, flatM_len ys i, List.length_map, mTo_len]; omega
theorem flatM_at (ys : List It) (k j : Nat) (hj : j < 9) : ∀ n, k < n → (flatM ys n)[k * 9 + j]? = some (.int .i64 ((mTo ys k).getD j 0))
 | 0, h => by omega
 | n + 1, h => by
  rw [flatM_succ]
  by_cases hk : k < n
  ·rw [List.getElem?_append_left (by rw [flatM_len]; omega)]
   exact flatM_at ys k j hj n hk
  ·obtain rfl : k = n := by omega
   rw [List.getElem?_append_right (by rw [flatM_len]; omega), flatM_len, show k * 9 + j - k * 9 = j by omega, List.getElem?_map]
   have hl := mTo_len ys k
   simp [List.getD, List.getElem?_eq_getElem (show j < (mTo ys k).length by omega)]
theorem sums_at {w : World} {lo N B c : Nat} {ys : List It} (h : w.ownsRow lo 116 9 (.slice (some ⟨B, 0, none⟩) N c) N (flatM ys N)) (k : Nat) (hk : k < N) : ∀ j, j < 9 → w.cell? ⟨B, k * 9 + j, none⟩ = some (.int .i64 ((mTo ys k).getD j 0)) := fun j hj => by
 rw [h.cellAt _ (by omega)]
 exact flatM_at ys k j hj N hk
theorem glV_any {w : World} {B : Nat} {s p o q r : Int} {zs : List Int} (h : IntsL w B 116 zs) (hl : zs.length = 9) (hg : glB s p o q r = true) :
 Calls Tryz.prog 77 #[.pointer (some ⟨B, 0, none⟩), .agg #[.int .i64 s, .int .i64 p, .int .i64 o, .int .i64 q, .int .i64 r]] w fun e w' => (∃ v, e = .returned v) ∧ IntsL w' B 116 (glA 0 o.toNat r.toNat s p q zs) ∧ Fr B w w' := by
 have h1 : 0 ≤ o ∧ o ≤ 3 ∧ 0 ≤ r ∧ r ≤ 3 := by
  simp [glB, uptoB] at hg
  omega
 obtain ⟨pn, hpn⟩ : ∃ n : Nat, o = (n : Int) := ⟨o.toNat, by omega⟩
 obtain ⟨mn, hmn⟩ : ∃ n : Nat, r = (n : Int) := ⟨r.toNat, by omega⟩
 subst hpn hmn
 rw [show ((pn : Int)).toNat = pn by omega, show ((mn : Int)).toNat = mn by omega]
 exact addGlueL_any 0 pn mn s p q h (by omega) (by omega) (by omega)
set_option maxRecDepth 20000 in
set_option maxHeartbeats 8000000 in
theorem fills_any {w : World} {lo g m c PB N : Nat} {S : Sy} {ts : List Tn} {ys : List It} {nv it sv : Value} (i j : Nat) (hP : ParB w PB S nv it sv (.slice (some ⟨g, 0, none⟩) m c)) (h : w.ownsRow lo 85 4 (.slice (some ⟨g, 0, none⟩) m c) m (flatT ts)) (hl : ts.length = m) (hm : m ≤ 5001) (hN : ys.length = N) (hN5 : N ≤ 5000) (hs : w.ownsRow lo 116 9 sv N (flatM ys N)) (hij : i < j) (hj : j < m) (hT : ∀ t ∈ ts, TurnP S.hy ys t w) (a b : Nat) (ha : (ts.getD i Tn.none).1 + 1 = (a : Int)) (hb : (ts.getD j Tn.none).1 = (b : Int)) (hab : a ≤ b)
 (hS : syB S = true) (hm1 : Shr.MeaIn (linH S ys a b) S.wd) (hm2 : Shr.MeaIn (linH S ys a b) S.nw) :
 Calls Tryz.prog 36 #[.pointer (some ⟨PB, 0, none⟩), .int .i64 (i : Int), .int .i64 (j : Int)] w fun e w' => e = .returned (.agg #[.int .i64 (fB (linH S ys a b) S.wd), .int .i64 (fC (linH S ys a b) S.wd), .int .i64 (fB (linH S ys a b) S.nw), .int .i64 (fC (linH S ys a b) S.nw)]) ∧ Below w.heap.size w w' := by
 have hbN : b < N := by
  have hmj : ts.getD j Tn.none ∈ ts := by
   rw [show ts.getD j Tn.none = ts[j]'(by omega) by simp [List.getD, List.getElem?_eq_getElem (show j < ts.length by omega)]]
   exact List.getElem_mem _
  have := turn_low (hT _ hmj)
  omega
 obtain ⟨B, sc, rfl⟩ : ∃ B sc, sv = .slice (some ⟨B, 0, none⟩) N sc := by
  rcases hs.2 with ⟨_, h0⟩ | ⟨g', cap', cur, hv, _⟩
  ·omega
  ·exact ⟨g', cap', hv⟩
 have EC : Hid (∀ W, Below w.heap.size w W → Calls Tryz.prog 75 #[.pointer (some ⟨PB, 0, none⟩), .int .i64 (i : Int), .int .i64 (j : Int)] W fun e w' => e = .returned (.tuple #[.int .i64 ((begI ys a b : Nat) : Int), .int .i64 (b : Int)]) ∧ w' = W) := hideP (fun W hW => ends_any i j ((hP.keep (hW.block PB hP.lt)).c26) (ownG_below h hW) hl hm (by omega) hij hj (fun t ht => (hT t ht).keep (KeepH.below hW)) a b ha hb hab)
 have hsr : begI ys a b ≤ b := (begI_range _ _ _ hab).2
 have LM : Hid (linM S ys a b = glA 0 S.r2.toNat S.r4.toNat S.r0 S.r1 S.r3 (glA 0 S.l2.toNat S.l4.toNat S.l0 S.l1 S.l3 (lesTo (mTo ys b) (mTo ys (begI ys a b)) 4))) := hideP rfl
 obtain ⟨s, hs0⟩ : ∃ s, s = begI ys a b := ⟨_, rfl⟩
 rw [← hs0] at EC hsr LM
 have cb := sums_at hs b hbN
 have cs := sums_at hs s (by omega)
 have hSB : B < w.heap.size := World.block_lt_of_cell? w _ (cb 0 (by omega))
 have hgl : g < w.heap.size := World.block_lt_of_cell? w _ (turn_cells h hl hj).1
 have hPl := hP.lt
 -- the turn's hyphen
 obtain ⟨q, hq1, hq2⟩ : ∃ q, (ts.getD j Tn.none).2.2.1 = q ∧ ShowN (ys.getD b It.none).1 q w := by
  have hmj : ts.getD j Tn.none ∈ ts := by
   rw [show ts.getD j Tn.none = ts[j]'(by omega) by simp [List.getD, List.getElem?_eq_getElem (show j < ts.length by omega)]]
   exact List.getElem_mem _
  rcases hT _ hmj with e | ⟨k, q, e, hk, hq⟩
  ·rw [e] at hb
   simp at hb
  ·rw [e] at hb
   have hb' : (k : Int) = (b : Int) := hb
   obtain rfl : k = b := by omega
   exact ⟨q, by rw [e], hq⟩
 have tq := (turn_cells h hl hj).2.2.1
 rw [hq1] at tq
 obtain ⟨ZB, hZB⟩ : ∃ Z, Z = mTo ys b := ⟨_, rfl⟩
 obtain ⟨ZS, hZS⟩ : ∃ Z, Z = mTo ys s := ⟨_, rfl⟩
 have lB : ZB.length = 9 := by rw [hZB]; exact mTo_len _ _
 have lS : ZS.length = 9 := by rw [hZS]; exact mTo_len _ _
 rw [← hZB] at cb
 rw [← hZS] at cs
 obtain ⟨Z0, hZ0⟩ : ∃ Z, Z = lesTo ZB ZS 4 := ⟨_, rfl⟩
 have l0 : Z0.length = 9 := by rw [hZ0, lesTo_len]; exact lB
 have LC0 : ∀ W, Calls Tryz.prog 76 #[Shr.mea ZB, Shr.mea ZS] W fun e w' => e = .returned (Shr.mea Z0) ∧ Below W.heap.size W w' := fun W => by rw [hZ0]; exact less_any ZB ZS lB lS W
 obtain ⟨Z, hZ⟩ : ∃ Z, Z = linH S ys a b := ⟨_, rfl⟩
 rw [← hZ] at hm1 hm2 ⊢
 have HZL : Hid (Z = linH S ys a b) := hideP hZ
 have lZ : Z.length = 9 := by rw [hZ]; exact linH_len _ _ _ _
 have HLZ := hideP lZ
 clear hZ lZ
 have HZ0 := hideP hZ0
 have HZB := hideP hZB
 have HZS := hideP hZS
 have L0 := hideP l0
 obtain ⟨p0, p1, p2, p3, p4, p5, p6, p7, p8, hpe⟩ := mea_nine ZB lB
 obtain ⟨r0, r1, r2, r3, r4, r5, r6, r7, r8, hre⟩ := mea_nine ZS lS
 obtain ⟨y0, y1, y2, y3, y4, y5, y6, y7, y8, hye⟩ := mea_nine Z0 l0
 have LC : Hid (∀ W, Calls Tryz.prog 76 #[.agg #[.int .i64 p0, .int .i64 p1, .int .i64 p2, .int .i64 p3, .int .i64 p4, .int .i64 p5, .int .i64 p6, .int .i64 p7, .int .i64 p8], .agg #[.int .i64 r0, .int .i64 r1, .int .i64 r2, .int .i64 r3, .int .i64 r4, .int .i64 r5, .int .i64 r6, .int .i64 r7, .int .i64 r8]] W fun e w' => e = .returned (.agg #[.int .i64 y0, .int .i64 y1, .int .i64 y2, .int .i64 y3, .int .i64 y4, .int .i64 y5, .int .i64 y6, .int .i64 y7, .int .i64 y8]) ∧ Below W.heap.size W w') := hideP (fun W => by
  have := LC0 W
  rw [hpe, hre, hye] at this
  exact this)
 have HY0 := hideP hye
 rw [hpe] at cb
 rw [hre] at cs
 have OLD : Hid (∀ W : World, (∀ k, k < w.heap.size → W.heap[k]? = w.heap[k]?) → (∀ k, k < 9 → W.cell? ⟨B, b * 9 + k, none⟩ = some (.int .i64 (([p0, p1, p2, p3, p4, p5, p6, p7, p8] : List Int).getD k 0))) ∧ (∀ k, k < 9 → W.cell? ⟨B, s * 9 + k, none⟩ = some (.int .i64 (([r0, r1, r2, r3, r4, r5, r6, r7, r8] : List Int).getD k 0))) ∧ W.cell? ⟨g, j * 4 + 2, none⟩ = some (.pointer q) ∧ ParB W PB S nv it (.slice (some ⟨B, 0, none⟩) N sc) (.slice (some ⟨g, 0, none⟩) m c)) := hideP (fun W hW =>
  ⟨fun k hk => (World.cell?_of_block (a := ⟨B, b * 9 + k, none⟩) (hW B hSB)).trans (cb k hk), fun k hk => (World.cell?_of_block (a := ⟨B, s * 9 + k, none⟩) (hW B hSB)).trans (cs k hk), (World.cell?_of_block (a := ⟨g, j * 4 + 2, none⟩) (hW g hgl)).trans tq, hP.keep (hW PB hPl)⟩)
 have HQ := hideP hq2
 clear cb cs tq hq1 hq2 LC0 hpe hre hye hZ0 hZB hZS hP h hs hT l0 lB lS
 have hbi : (b : Int) < (N : Int) := by omega
 have hsi : (s : Int) < (N : Int) := by omega
 have hji : (j : Int) < (m : Int) := by omega
 have hlen := hs0
 clear hs0 ha hb hN hlen
 go_enter Tryz.func36, Tryz.ntmps36
 go_wp2_with fail
 refine (EC.out _ (below1 _ _)).mono ?_
 rintro e w1 ⟨rfl, hw1⟩
 subst hw1
 obtain ⟨W1, hW1⟩ : ∃ W, W = w.alloc (.cells #[.int .i64 0, .int .i64 0, .int .i64 0, .int .i64 0] 96) := ⟨_, rfl⟩
 have B1 : Hid (Below w.heap.size w W1) := hideP (by rw [hW1]; exact below1 w _)
 have R1 : Hid (W1.heap[w.heap.size]? = some (.cells #[.int .i64 0, .int .i64 0, .int .i64 0, .int .i64 0] 96 (0, 0))) := hideP (by rw [hW1]; exact heap_alloc_new w _)
 rw [← hW1]
 have hz1 : w.heap.size < W1.heap.size := by rw [hW1]; simp
 clear hW1
 go_wp2_with fail
 obtain ⟨ob, os, oq, oP⟩ := OLD.out W1 B1.out.block
 have b0 := ob 0 (by omega)
 have b1 := ob 1 (by omega)
 have b2 := ob 2 (by omega)
 have b3 := ob 3 (by omega)
 have b4 := ob 4 (by omega)
 have b5 := ob 5 (by omega)
 have b6 := ob 6 (by omega)
 have b7 := ob 7 (by omega)
 have b8 := ob 8 (by omega)
 have s0 := os 0 (by omega)
 have s1 := os 1 (by omega)
 have s2 := os 2 (by omega)
 have s3 := os 3 (by omega)
 have s4 := os 4 (by omega)
 have s5 := os 5 (by omega)
 have s6 := os 6 (by omega)
 have s7 := os 7 (by omega)
 have s8 := os 8 (by omega)
 simp only [List.getD_cons_zero, List.getD_cons_succ] at b0 b1 b2 b3 b4 b5 b6 b7 b8 s0 s1 s2 s3 s4 s5 s6 s7 s8
 have o25 := oP.c25
 have oPl := oP.lt
 clear ob os oq oP
 have SK : Hid (∀ x : World, OldW W1 x → x.cell? ⟨PB, 25, none⟩ = some (.slice (some ⟨B, 0, none⟩) N sc) ∧ x.cell? ⟨B, b * 9, none⟩ = some (.int .i64 p0) ∧ x.cell? ⟨B, b * 9 + 1, none⟩ = some (.int .i64 p1) ∧ x.cell? ⟨B, b * 9 + 2, none⟩ = some (.int .i64 p2) ∧ x.cell? ⟨B, b * 9 + 3, none⟩ = some (.int .i64 p3) ∧ x.cell? ⟨B, b * 9 + 4, none⟩ = some (.int .i64 p4) ∧ x.cell? ⟨B, b * 9 + 5, none⟩ = some (.int .i64 p5) ∧ x.cell? ⟨B, b * 9 + 6, none⟩ = some (.int .i64 p6) ∧ x.cell? ⟨B, b * 9 + 7, none⟩ = some (.int .i64 p7) ∧ x.cell? ⟨B, b * 9 + 8, none⟩ = some (.int .i64 p8) ∧ x.cell? ⟨B, s * 9, none⟩ = some (.int .i64 r0) ∧ x.cell? ⟨B, s * 9 + 1, none⟩ = some (.int .i64 r1) ∧ x.cell? ⟨B, s * 9 + 2, none⟩ = some (.int .i64 r2) ∧ x.cell? ⟨B, s * 9 + 3, none⟩ = some (.int .i64 r3) ∧ x.cell? ⟨B, s * 9 + 4, none⟩ = some (.int .i64 r4) ∧ x.cell? ⟨B, s * 9 + 5, none⟩ = some (.int .i64 r5) ∧ x.cell? ⟨B, s * 9 + 6, none⟩ = some (.int .i64 r6) ∧ x.cell? ⟨B, s * 9 + 7, none⟩ = some (.int .i64 r7) ∧ x.cell? ⟨B, s * 9 + 8, none⟩ = some (.int .i64 r8)) := hideP (fun x hx => by
  have e1 : ∀ o, x.cell? ⟨PB, o, none⟩ = W1.cell? ⟨PB, o, none⟩ := fun o => World.cell?_of_block (a := ⟨PB, o, none⟩) (hx.2.2.2.2 PB oPl)
  have e2 : ∀ o, x.cell? ⟨B, o, none⟩ = W1.cell? ⟨B, o, none⟩ := fun o => World.cell?_of_block (a := ⟨B, o, none⟩) (hx.2.2.2.2 B (by omega))
  simp only [e1, e2]
  exact ⟨o25, b0, b1, b2, b3, b4, b5, b6, b7, b8, s0, s1, s2, s3, s4, s5, s6, s7, s8⟩)
 have FX : Hid (∀ X : World, OldW W1 X → ParB X PB S nv it (.slice (some ⟨B, 0, none⟩) N sc) (.slice (some ⟨g, 0, none⟩) m c) ∧ X.cell? ⟨g, j * 4 + 2, none⟩ = some (.pointer q) ∧ X.heap[w.heap.size]? = some (.cells #[.int .i64 0, .int .i64 0, .int .i64 0, .int .i64 0] 96 (0, 0)) ∧ (∀ k, k < w.heap.size → X.heap[k]? = w.heap[k]?)) := hideP (fun X hX => by
  have hk : ∀ k, k < w.heap.size → X.heap[k]? = w.heap[k]? := fun k hk => (hX.2.2.2.2 k (by omega)).trans (B1.out.block k hk)
  obtain ⟨_, _, hq, hp⟩ := OLD.out X hk
  exact ⟨hp, hq, (hX.2.2.2.2 _ hz1).trans R1.out, hk⟩)
 have GL : Hid (glB S.l0 S.l1 S.l2 S.l3 S.l4 = true ∧ glB S.r0 S.r1 S.r2 S.r3 S.r4 = true) := hideP (by
  unfold syB at hS
  simp only [Bool.and_eq_true] at hS
  exact ⟨hS.1.1.2, hS.1.2⟩)
 go_cut [9] (fun s9 wc => ∃ T, s9 = .pointer (some ⟨T, 0, none⟩) ∧ Hid (W1.heap.size ≤ T ∧ IntsL wc T 116 Z0 ∧ OldW W1 wc))
 case first =>
  go_region_held3 (fun x => x.cell? ⟨PB, 25, none⟩ = some (.slice (some ⟨B, 0, none⟩) N sc) ∧ x.cell? ⟨B, b * 9, none⟩ = some (.int .i64 p0) ∧ x.cell? ⟨B, b * 9 + 1, none⟩ = some (.int .i64 p1) ∧ x.cell? ⟨B, b * 9 + 2, none⟩ = some (.int .i64 p2) ∧ x.cell? ⟨B, b * 9 + 3, none⟩ = some (.int .i64 p3) ∧ x.cell? ⟨B, b * 9 + 4, none⟩ = some (.int .i64 p4) ∧ x.cell? ⟨B, b * 9 + 5, none⟩ = some (.int .i64 p5) ∧ x.cell? ⟨B, b * 9 + 6, none⟩ = some (.int .i64 p6) ∧ x.cell? ⟨B, b * 9 + 7, none⟩ = some (.int .i64 p7) ∧ x.cell? ⟨B, b * 9 + 8, none⟩ = some (.int .i64 p8) ∧ x.cell? ⟨B, s * 9, none⟩ = some (.int .i64 r0) ∧ x.cell? ⟨B, s * 9 + 1, none⟩ = some (.int .i64 r1) ∧ x.cell? ⟨B, s * 9 + 2, none⟩ = some (.int .i64 r2) ∧ x.cell? ⟨B, s * 9 + 3, none⟩ = some (.int .i64 r3) ∧ x.cell? ⟨B, s * 9 + 4, none⟩ = some (.int .i64 r4) ∧ x.cell? ⟨B, s * 9 + 5, none⟩ = some (.int .i64 r5) ∧ x.cell? ⟨B, s * 9 + 6, none⟩ = some (.int .i64 r6) ∧ x.cell? ⟨B, s * 9 + 7, none⟩ = some (.int .i64 r7) ∧ x.cell? ⟨B, s * 9 + 8, none⟩ = some (.int .i64 r8))
   (first | with_reducible exact ⟨o25, b0, b1, b2, b3, b4, b5, b6, b7, b8, s0, s1, s2, s3, s4, s5, s6, s7, s8⟩ | (refine SK.out _ ?_; repeat (first | with_reducible exact OldW.refl _ | with_reducible refine OldW.drew ?_ | with_reducible refine OldW.alloc ?_ _ | with_reducible refine OldW.set ?_ (by first | exact Nat.le_refl _ | (have := hb2.size; simp at this; omega)) _ _ | with_reducible refine OldW.bel ?_ hb2)))
   (first | (go_at_call 76; refine (LC.out _).mono ?_; rintro e w2 ⟨rfl, hb2⟩; first | (have q9 := hb2.block W1.heap.size (by simp; done); have k8 := q9.trans (heap_alloc_new W1 (.cells #[.int .i64 0, .int .i64 0, .int .i64 0, .int .i64 0, .int .i64 0, .int .i64 0, .int .i64 0, .int .i64 0, .int .i64 0] 116)); clear q9; have k9 : ∀ o, o < 9 → w2.cell? ⟨W1.heap.size, o, none⟩ = some (.int .i64 0) := zero9 k8; have f9 : ∀ o, w2.frozen? ⟨W1.heap.size, o, none⟩ = false := fun o => frozen_of_row w2 _ o _ 116 k8; have z0 := k9 0 (by omega); have z1 := k9 1 (by omega); have z2 := k9 2 (by omega); have z3 := k9 3 (by omega); have z4 := k9 4 (by omega); have z5 := k9 5 (by omega); have z6 := k9 6 (by omega); have z7 := k9 7 (by omega); have z8 := k9 8 (by omega); have I9 : Hid (IntsL w2 W1.heap.size 116 [0, 0, 0, 0, 0, 0, 0, 0, 0]) := hideP k8; clear k8 k9) | skip))
  ·go_wp2_with fail
   go_meet
   case rel =>
    refine ⟨_, rfl, hideP ⟨by have := hb2.size; simp at this; omega, ?_, ?_⟩⟩
    ·rw [HY0.out]
     exact heap_alloc_new w2 _
    ·(repeat (first | with_reducible exact OldW.refl _ | with_reducible refine OldW.drew ?_ | with_reducible refine OldW.alloc ?_ _ | with_reducible refine OldW.set ?_ (by first | exact Nat.le_refl _ | (have := hb2.size; simp at this; omega)) _ _ | with_reducible refine OldW.bel ?_ hb2))
  ·go_wp2_with fail
   go_meet
   case rel =>
    refine ⟨_, rfl, hideP ⟨Nat.le_refl _, ?_, ?_⟩⟩
    ·have e8 := ((((((((I9.out.set 0 y0).set 1 y1).set 2 y2).set 3 y3).set 4 y4).set 5 y5).set 6 y6).set 7 y7).set 8 y8
     simp only [List.set_cons_zero, List.set_cons_succ] at e8
     rw [HY0.out]
     exact e8
    ·(repeat (first | with_reducible exact OldW.refl _ | with_reducible refine OldW.drew ?_ | with_reducible refine OldW.alloc ?_ _ | with_reducible refine OldW.set ?_ (by first | exact Nat.le_refl _ | (have := hb2.size; simp at this; omega)) _ _ | with_reducible refine OldW.bel ?_ hb2))
 case rest =>
  obtain ⟨T, rfl, HT⟩ := hcut
  clear o25
  have hT1 := HT.out.1
  obtain ⟨hp3, hq3, hr3, _⟩ := FX.out wc HT.out.2.2
  have m8 : wc.cell? ⟨PB, 8, none⟩ = some (.int .i64 S.l0) := hp3.sty 8 (by omega)
  have m9 : wc.cell? ⟨PB, 9, none⟩ = some (.int .i64 S.l1) := hp3.sty 9 (by omega)
  have m10 : wc.cell? ⟨PB, 10, none⟩ = some (.int .i64 S.l2) := hp3.sty 10 (by omega)
  have m11 : wc.cell? ⟨PB, 11, none⟩ = some (.int .i64 S.l3) := hp3.sty 11 (by omega)
  have m12 : wc.cell? ⟨PB, 12, none⟩ = some (.int .i64 S.l4) := hp3.sty 12 (by omega)
  have hl3 := hp3.lt
  clear hp3 hq3 hr3
  go_wp2_with fail
  refine (glV_any HT.out.2.1 L0.out GL.out.1).mono ?_
  rintro e w3 ⟨⟨v3, rfl⟩, hi3, hf3⟩
  have O3 : Hid (OldW W1 w3) := hideP (HT.out.2.2.fr hf3 hT1)
  have I3 := hideP hi3
  obtain ⟨Z1, hZ1⟩ : ∃ Z, Z = glA 0 S.l2.toNat S.l4.toNat S.l0 S.l1 S.l3 Z0 := ⟨_, rfl⟩
  have l1 : Z1.length = 9 := by rw [hZ1, glA_len]; exact L0.out
  rw [← hZ1] at I3
  obtain ⟨hp3, hq3, hr3, _⟩ := FX.out w3 O3.out
  have n8 : w3.cell? ⟨PB, 13, none⟩ = some (.int .i64 S.r0) := hp3.sty 13 (by omega)
  have n9 : w3.cell? ⟨PB, 14, none⟩ = some (.int .i64 S.r1) := hp3.sty 14 (by omega)
  have n10 : w3.cell? ⟨PB, 15, none⟩ = some (.int .i64 S.r2) := hp3.sty 15 (by omega)
  have n11 : w3.cell? ⟨PB, 16, none⟩ = some (.int .i64 S.r3) := hp3.sty 16 (by omega)
  have n12 : w3.cell? ⟨PB, 17, none⟩ = some (.int .i64 S.r4) := hp3.sty 17 (by omega)
  have hl4 := hp3.lt
  clear hp3 hq3 hr3 hi3 hf3 m8 m9 m10 m11 m12
  go_wp2_with fail
  refine (glV_any I3.out l1 GL.out.2).mono ?_
  rintro e w4 ⟨⟨v4, rfl⟩, hi4, hf4⟩
  have O4 : Hid (OldW W1 w4) := hideP (O3.out.fr hf4 hT1)
  obtain ⟨Z2, hZ2⟩ : ∃ Z, Z = glA 0 S.r2.toNat S.r4.toNat S.r0 S.r1 S.r3 Z1 := ⟨_, rfl⟩
  have l2 : Z2.length = 9 := by rw [hZ2, glA_len]; exact l1
  rw [← hZ2] at hi4
  have I4 := hideP hi4
  have HZ2 : Hid (linM S ys a b = Z2) := hideP (by rw [LM.out, ← HZB.out, ← HZS.out, ← HZ0.out, ← hZ1, ← hZ2])
  obtain ⟨hp4, hq4, hr4, hk4⟩ := FX.out w4 O4.out
  have t26 := hp4.c26
  have hl5 := hp4.lt
  clear hp4 hr4 hi4 hf4 n8 n9 n10 n11 n12 hZ1 hZ2
  have lZ2 : Hid (Z2.length = 9) := hideP l2
  have HPq := hideP hPl
  go_upto_if 55 with fail
  go_cut [] (fun wc => Hid (IntsL wc T 116 Z ∧ OldW W1 wc))
  case first =>
   by_cases h8 : (ys.getD b It.none).1.k = 8
   ·obtain ⟨bq, hbq, hq8⟩ : ∃ b', q = some ⟨b', 0, none⟩ ∧ w.heap[b']? = some (.cells #[.int .i64 (ys.getD b It.none).1.fo, .int .i64 (ys.getD b It.none).1.ch, .int .i64 (ys.getD b It.none).1.wd, .int .i64 (ys.getD b It.none).1.ht, .int .i64 (ys.getD b It.none).1.dp] 241 (0, 0)) := by
     have := HQ.out
     unfold ShowN at this
     rw [if_pos h8] at this
     exact this
    subst hbq
    obtain ⟨x, hx⟩ : ∃ x, x = (ys.getD b It.none).1 := ⟨_, rfl⟩
    have HLH : Hid (Z = Z2.set 0 (wrap64 (Z2.getD 0 0 + x.wd))) := hideP (by rw [HZL.out]; unfold linH; rw [if_pos h8, HZ2.out, hx])
    rw [← hx] at hq8
    have hc8 : w4.heap[bq]? = some (.cells #[.int .i64 x.fo, .int .i64 x.ch, .int .i64 x.wd, .int .i64 x.ht, .int .i64 x.dp] 241 (0, 0)) := (hk4 bq (Array.getElem?_eq_some_iff.1 hq8).1).trans hq8
    have u0 : w4.cell? ⟨bq, 0, none⟩ = some (.int .i64 x.fo) := by rw [cell_of_row _ _ _ _ _ _ hc8]; rfl
    have u1 : w4.cell? ⟨bq, 1, none⟩ = some (.int .i64 x.ch) := by rw [cell_of_row _ _ _ _ _ _ hc8]; rfl
    have u2 : w4.cell? ⟨bq, 2, none⟩ = some (.int .i64 x.wd) := by rw [cell_of_row _ _ _ _ _ _ hc8]; rfl
    have u3 : w4.cell? ⟨bq, 3, none⟩ = some (.int .i64 x.ht) := by rw [cell_of_row _ _ _ _ _ _ hc8]; rfl
    have u4 : w4.cell? ⟨bq, 4, none⟩ = some (.int .i64 x.dp) := by rw [cell_of_row _ _ _ _ _ _ hc8]; rfl
    clear hc8 hq8 hx hk4 h8
    go_wp2_with fail
    refine (show Calls Tryz.prog 78 #[.pointer (some ⟨T, 0, none⟩), .iface 171 (.agg #[.int .i64 x.fo, .int .i64 x.ch, .int .i64 x.wd, .int .i64 x.ht, .int .i64 x.dp])] w4 _ from maddL_any 0 ⟨1, x.wd, x.ht, x.dp, 0, x.fo, x.ch, 0, 0, 0, 0, 0, 0, ⟨#[]⟩, 0⟩ I4.out (by have := lZ2.out; omega) ⟨Int.le_refl 0, (by show (0 : Int) ≤ 3; decide), Int.le_refl 0, (by show (0 : Int) ≤ 3; decide)⟩).mono ?_
    rintro e w5 ⟨⟨v5, rfl⟩, hi5, hf5⟩
    have O5 : Hid (OldW W1 w5) := hideP (O4.out.fr hf5 hT1)
    have I5 : Hid (IntsL w5 T 116 Z) := hideP (by rw [HLH.out]; exact hi5)
    clear hi5 hf5
    go_wp2_with fail
    go_meet
    case rel => exact hideP ⟨I5.out, O5.out⟩
   ·have hq0 : q = none := by have := HQ.out; unfold ShowN at this; rw [if_neg h8] at this; exact this
    subst hq0
    have HLH : Hid (Z = Z2) := hideP (by rw [HZL.out]; unfold linH; rw [if_neg h8]; exact HZ2.out)
    clear hk4
    go_wp2_with fail
    go_meet
    case rel => exact hideP ⟨by rw [HLH.out]; exact I4.out, O4.out⟩
  case rest =>
   clear hk4 t26 hl5 I4 HZ2 lZ2 LM OLD
   have FC : Hid (∀ X, OldW wc X → ∀ t, Shr.MeaIn Z t → Calls Tryz.prog 79 #[.int .i64 t, .pointer (some ⟨T, 0, none⟩)] X fun e w' => e = .returned (.agg #[.int .i64 (fB Z t), .int .i64 (fC Z t)]) ∧ Below X.heap.size X w') := hideP (fun X hX t ht => Shr.fills1_any t (show IntsL X T 116 Z from (hX.2.2.2.2 T hcut.out.1.lt).trans hcut.out.1) HLZ.out ht)
   have HM1 := hideP hm1
   have HM2 := hideP hm2
   obtain ⟨hp6, _, hr6, _⟩ := FX.out wc hcut.out.2
   have k0 : wc.cell? ⟨PB, 0, none⟩ = some (.int .i64 S.wd) := hp6.sty 0 (by omega)
   have k1 : wc.cell? ⟨PB, 1, none⟩ = some (.int .i64 S.nw) := hp6.sty 1 (by omega)
   have hl6 := hp6.lt
   have HR6 := hideP hr6
   have OW : Hid (OldW w wc) := hideP (((OldW.refl w).bel B1.out).trans hcut.out.2)
   clear hp6 hm1 hm2 hr6
   go_upto_region 9 with fail
   have hS : (fun x : World => x.cell? ⟨PB, 0, none⟩ = some (.int .i64 S.wd) ∧ x.cell? ⟨PB, 1, none⟩ = some (.int .i64 S.nw)) wc.drew := ⟨k0, k1⟩
   refine wp_noPanic ?_
   refine wp_region_held_drew (S := fun x : World => x.cell? ⟨PB, 0, none⟩ = some (.int .i64 S.wd) ∧ x.cell? ⟨PB, 1, none⟩ = some (.int .i64 S.nw)) (by kernel_rfl) hS (fun hS => ?_)
   refine tkS (i := 0) (v := .func (.func 79) #[] #[.pointer (some ⟨T, 0, none⟩)]) rfl hS ?_
   try simp only [Act.put, List.getElem_toArray, List.getElem_cons_zero, List.getElem_cons_succ, List.setIfInBounds_toArray, List.set_cons_zero, List.set_cons_succ]
   refine tkS (i := 1) (v := .pointer (some ⟨PB, 0, none⟩)) rfl hS ?_
   try simp only [Act.put, List.getElem_toArray, List.getElem_cons_zero, List.getElem_cons_succ, List.setIfInBounds_toArray, List.set_cons_zero, List.set_cons_succ]
   refine tkS (i := 2) (v := .pointer (some ⟨PB, 0, none⟩)) rfl hS ?_
   try simp only [Act.put, List.getElem_toArray, List.getElem_cons_zero, List.getElem_cons_succ, List.setIfInBounds_toArray, List.set_cons_zero, List.set_cons_succ]
   refine tkS (i := 3) (v := .pointer (some ⟨PB, 0, none⟩)) rfl hS ?_
   try simp only [Act.put, List.getElem_toArray, List.getElem_cons_zero, List.getElem_cons_succ, List.setIfInBounds_toArray, List.set_cons_zero, List.set_cons_succ]
   refine tkS (i := 4) (v := .pointer (some ⟨PB, 0, none⟩)) rfl hS ?_
   try simp only [Act.put, List.getElem_toArray, List.getElem_cons_zero, List.getElem_cons_succ, List.setIfInBounds_toArray, List.set_cons_zero, List.set_cons_succ]
   refine tkS (i := 5) (v := .int .i64 S.wd) rfl hS ?_
   try simp only [Act.put, List.getElem_toArray, List.getElem_cons_zero, List.getElem_cons_succ, List.setIfInBounds_toArray, List.set_cons_zero, List.set_cons_succ]
   refine tkS (i := 7) (v := .func (.func 79) #[] #[.pointer (some ⟨T, 0, none⟩)]) rfl hS ?_
   try simp only [Act.put, List.getElem_toArray, List.getElem_cons_zero, List.getElem_cons_succ, List.setIfInBounds_toArray, List.set_cons_zero, List.set_cons_succ]
   refine tkS (i := 8) (v := .pointer (some ⟨PB, 0, none⟩)) rfl hS ?_
   try simp only [Act.put, List.getElem_toArray, List.getElem_cons_zero, List.getElem_cons_succ, List.setIfInBounds_toArray, List.set_cons_zero, List.set_cons_succ]
   refine tkS (i := 9) (v := .pointer (some ⟨PB, 0, none⟩)) rfl hS ?_
   try simp only [Act.put, List.getElem_toArray, List.getElem_cons_zero, List.getElem_cons_succ, List.setIfInBounds_toArray, List.set_cons_zero, List.set_cons_succ]
   refine tkS (i := 10) (v := .pointer (some ⟨PB, 0, none⟩)) rfl hS ?_
   try simp only [Act.put, List.getElem_toArray, List.getElem_cons_zero, List.getElem_cons_succ, List.setIfInBounds_toArray, List.set_cons_zero, List.set_cons_succ]
   refine tkS (i := 11) (v := .pointer (some ⟨PB, 1, none⟩)) rfl hS ?_
   try simp only [Act.put, List.getElem_toArray, List.getElem_cons_zero, List.getElem_cons_succ, List.setIfInBounds_toArray, List.set_cons_zero, List.set_cons_succ]
   refine tkS (i := 12) (v := .int .i64 S.nw) rfl hS ?_
   try simp only [Act.put, List.getElem_toArray, List.getElem_cons_zero, List.getElem_cons_succ, List.setIfInBounds_toArray, List.set_cons_zero, List.set_cons_succ]
   refine rdS (i := 6) rfl (fun K hK => ?_)
   go_simp
   go_at_call 79
   refine (FC.out _ (show OldW wc wc.drew from OldW.refl wc) S.wd HM1.out).mono ?_
   rintro e w5 ⟨rfl, hb5⟩
   have o5 : OldW wc w5 := OldW.bel (OldW.drew (OldW.refl wc)) hb5
   have hS5 : (fun x : World => x.cell? ⟨PB, 0, none⟩ = some (.int .i64 S.wd) ∧ x.cell? ⟨PB, 1, none⟩ = some (.int .i64 S.nw)) w5 := ⟨(hb5.cell (p := ⟨PB, 0, none⟩) hl6).trans k0, (hb5.cell (p := ⟨PB, 1, none⟩) hl6).trans k1⟩
   refine hK.out _ _ hS5 (fun _ => ?_)
   try simp only [Act.put, List.getElem_toArray, List.getElem_cons_zero, List.getElem_cons_succ, List.setIfInBounds_toArray, List.set_cons_zero, List.set_cons_succ]
   clear hK K hb5
   refine rdS (i := 13) rfl (fun K hK => ?_)
   go_simp
   go_at_call 79
   refine (FC.out _ o5 S.nw HM2.out).mono ?_
   rintro e w6 ⟨rfl, hb6⟩
   have o6 : OldW wc w6 := OldW.bel o5 hb6
   have hS6 : (fun x : World => x.cell? ⟨PB, 0, none⟩ = some (.int .i64 S.wd) ∧ x.cell? ⟨PB, 1, none⟩ = some (.int .i64 S.nw)) w6 := ⟨(hb6.cell (p := ⟨PB, 0, none⟩) (Nat.lt_of_lt_of_le hl6 o5.2.2.2.1)).trans hS5.1, (hb6.cell (p := ⟨PB, 1, none⟩) (Nat.lt_of_lt_of_le hl6 o5.2.2.2.1)).trans hS5.2⟩
   refine hK.out _ _ hS6 (fun _ => ?_)
   try simp only [Act.put, List.getElem_toArray, List.getElem_cons_zero, List.getElem_cons_succ, List.setIfInBounds_toArray, List.set_cons_zero, List.set_cons_succ]
   clear hK K hb6
   refine tkS (i := 14) (v := .agg #[.int .i64 (fB Z S.wd), .int .i64 (fC Z S.wd), .int .i64 (fB Z S.nw), .int .i64 (fC Z S.nw)]) rfl hS6 ?_ (hr := fun wx hx => by refine build_flop (p := .tmp 68) (q := .tmp 75) rfl ?_ ?_ wx <;> rfl)
   try simp only [Act.put, List.getElem_toArray, List.getElem_cons_zero, List.getElem_cons_succ, List.setIfInBounds_toArray, List.set_cons_zero, List.set_cons_succ]
   obtain ⟨_, _, r6, _⟩ := FX.out w6 (hcut.out.2.trans o6)
   have R6 := hideP r6
   have q0 := cell_of_row w6 w.heap.size 0 _ 96 _ r6
   have q1 := cell_of_row w6 w.heap.size 1 _ 96 _ r6
   have q2 := cell_of_row w6 w.heap.size 2 _ 96 _ r6
   have q3 := cell_of_row w6 w.heap.size 3 _ 96 _ r6
   have fz6 : ∀ j, w6.frozen? ⟨w.heap.size, j, none⟩ = false := fun j => frozen_of_row w6 _ j _ 96 r6
   have hPw : PB ≠ w.heap.size := by have := HPq.out; omega
   clear r6
   refine rdS (i := 15) rfl (fun K hK => ?_)
   go_simp
   obtain ⟨X, hX⟩ : ∃ X, X = ((((w6.setCell ⟨w.heap.size, 0, none⟩ (.int .i64 (fB Z S.wd))).setCell ⟨w.heap.size, 1, none⟩ (.int .i64 (fC Z S.wd))).setCell ⟨w.heap.size, 2, none⟩ (.int .i64 (fB Z S.nw))).setCell ⟨w.heap.size, 3, none⟩ (.int .i64 (fC Z S.nw))) := ⟨_, rfl⟩
   have RX : Hid (X.heap[w.heap.size]? = some (.cells #[.int .i64 (fB Z S.wd), .int .i64 (fC Z S.wd), .int .i64 (fB Z S.nw), .int .i64 (fC Z S.nw)] 96 (0, 0))) := hideP (by rw [hX]; exact heap_setCell_same _ _ 3 _ 96 _ (heap_setCell_same _ _ 2 _ 96 _ (heap_setCell_same _ _ 1 _ 96 _ (heap_setCell_same _ _ 0 _ 96 _ R6.out))))
   have OX : Hid (OldW w X) := hideP (by rw [hX]; exact ((((OW.out.trans o6).set (Nat.le_refl _) 0 _).set (Nat.le_refl _) 1 _).set (Nat.le_refl _) 2 _).set (Nat.le_refl _) 3 _)
   have hS7 : (fun x : World => x.cell? ⟨PB, 0, none⟩ = some (.int .i64 S.wd) ∧ x.cell? ⟨PB, 1, none⟩ = some (.int .i64 S.nw)) X := by
    have e : ∀ o, X.cell? ⟨PB, o, none⟩ = w6.cell? ⟨PB, o, none⟩ := fun o => World.cell?_of_block (a := ⟨PB, o, none⟩) ((OX.out.2.2.2.2 PB HPq.out).trans ((OW.out.trans o6).2.2.2.2 PB HPq.out).symm)
    exact ⟨(e 0).trans hS6.1, (e 1).trans hS6.2⟩
   rw [← hX]
   clear hX q0 q1 q2 q3 fz6
   refine hK.out _ _ hS7 (fun _ => ?_)
   try simp only [Act.put, List.getElem_toArray, List.getElem_cons_zero, List.getElem_cons_succ, List.setIfInBounds_toArray, List.set_cons_zero, List.set_cons_succ]
   clear hK K
   refine wpAnyH_done (by kernel_rfl) ?_ _
   go_wp2
   exact bodyPost_ret (v := .agg #[.int .i64 (fB Z S.wd), .int .i64 (fC Z S.wd), .int .i64 (fB Z S.nw), .int .i64 (fC Z S.nw)]) (results_cell_row rfl _ _ w.heap.size 96 _ (0, 0) _ rfl RX.out Tryz.underlying96 rfl (by kernel_rfl)) rfl ⟨rfl, OX.out.toB⟩
end Go.Proofs.YtlohbaoigfaneaaGreat
