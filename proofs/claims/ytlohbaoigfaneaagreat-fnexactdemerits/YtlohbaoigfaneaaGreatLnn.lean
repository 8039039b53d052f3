import Derived.Test.YtlohbaoigfaneaaGreatSln
import Derived.Test.YtlohbaoigfaneaaGreatApl
import Derived.Test.YtlohbaoigfaneaaGreatFlo
import Derived.Test.YtlohbaoigfaneaaGreatHls
namespace Go.Proofs.YtlohbaoigfaneaaGreat
open Go.RowKit
set_option linter.unusedVariables false
set_option linter.unusedSimpArgs false
theorem bl_mem {xs : List Nd} {S : Sy} {t : Int} (h : t ∈ blL xs S) : listB xs = true ∧ syB S = true ∧ (its xs).length ≤ 2000 ∧ ∃ b : Nat, t = (b : Int) ∧ b < (rowI xs S).length ∧ trnB (rowI xs S) b = true := by
 unfold blL at h
 split at h
 ·rename_i hh
  unfold bl0 at h
  rw [List.mem_map] at h
  obtain ⟨b, hb, rfl⟩ := h
  rw [List.mem_filter, List.mem_range] at hb
  exact ⟨hh.2.1, hh.1, hh.2.2.1, b, rfl, hb.1, hb.2⟩
 ·simp at h
theorem rowI_few {xs : List Nd} {S : Sy} (h : (its xs).length ≤ 2000) : (rowI xs S).length ≤ 2003 := by
 unfold rowI
 have := trm_le (its xs) (its xs).length
 simp
 omega
theorem bl_len5 (xs : List Nd) (S : Sy) : (blL xs S).length ≤ 5000 := by
 unfold blL
 split
 ·rename_i hh
  have := hh.2.2.2
  omega
 ·simp
theorem isNan_any (x : Int) (w : World) : Calls Tryz.prog 111 #[.int .i64 x] w fun e w' => e = .returned (.bool false) ∧ w' = w := by
 have h0 : (x != x) = false := by simp
 go_enter Tryz.func111, Tryz.ntmps111
 go_wp2
 go_ret
 exact ⟨rfl, rfl⟩
def cmpI (x y : Int) : Int := if x < y then -1 else if x > y then 1 else 0
theorem compare_any (x y : Int) (w : World) : Calls Tryz.prog 73 #[.int .i64 x, .int .i64 y] w fun e w' => e = .returned (.int .i64 (cmpI x y)) ∧ w' = w := by
 go_enter Tryz.func73, Tryz.ntmps73
 go_wp2_with fail
 refine (isNan_any x w).mono ?_
 rintro e w1 ⟨rfl, hw⟩
 subst hw
 go_wp2_with fail
 refine (isNan_any y w1).mono ?_
 rintro e w2 ⟨rfl, hw⟩
 subst hw
 by_cases h1 : x < y
 ·have h1b : decide (x < y) = true := decide_eq_true h1
  have HE : Hid (cmpI x y = -1) := hideP (by unfold cmpI; rw [if_pos h1])
  go_wp2
  go_ret
  exact ⟨by rw [HE.out]; rfl, rfl⟩
 ·have h1b : decide (x < y) = false := decide_eq_false h1
  by_cases h2 : x > y
  ·have h2b : decide (x > y) = true := decide_eq_true h2
   have HE : Hid (cmpI x y = 1) := hideP (by unfold cmpI; rw [if_neg h1, if_pos h2])
   go_wp2
   go_ret
   exact ⟨by rw [HE.out]; rfl, rfl⟩
  ·have h2b : decide (x > y) = false := decide_eq_false h2
   have HE : Hid (cmpI x y = 0) := hideP (by unfold cmpI; rw [if_neg h1, if_neg h2])
   go_wp2
   go_ret
   exact ⟨by rw [HE.out]; rfl, rfl⟩
theorem turnCmp_any (i c nx y : Int) (q : Option Addr) (w : World) : Calls Tryz.prog 72 #[.agg #[.int .i64 i, .int .i64 c, .pointer q, .int .i64 nx], .int .i64 y] w fun e w' => e = .returned (.int .i64 (cmpI i y)) ∧ Below w.heap.size w w' := by
 have CC : Hid (∀ W, Calls Tryz.prog 73 #[.int .i64 i, .int .i64 y] W fun e w' => e = .returned (.int .i64 (cmpI i y)) ∧ w' = W) := hideP (fun W => compare_any i y W)
 obtain ⟨r, hr⟩ : ∃ r, r = cmpI i y := ⟨_, rfl⟩
 rw [← hr] at CC ⊢
 clear hr
 go_enter Tryz.func72, Tryz.ntmps72
 go_wp2_with fail
 refine (CC.out _).mono ?_
 rintro e w1 ⟨rfl, hw⟩
 subst hw
 go_wp2
 go_ret
 exact ⟨rfl, below1 _ _⟩
theorem cmpI_neg {x y : Int} : cmpI x y < 0 ↔ x < y := by
 unfold cmpI
 split
 ·omega
 ·split <;> omega
theorem cmpI_eq {x y : Int} : cmpI x y = 0 ↔ x = y := by
 unfold cmpI
 split
 ·omega
 ·split <;> omega
def FndP (ts : List Tn) (m : Nat) (x : Int) (e : Ending) : Prop := ∃ (k : Nat) (ok : Bool), e = .returned (.tuple #[.int .i64 (k : Int), .bool ok]) ∧ (ok = true → k < m ∧ (ts.getD k Tn.none).1 = x) ∧ (ok = false → ∀ p, p < m → (ts.getD p Tn.none).1 ≠ x)
set_option maxRecDepth 20000 in
set_option maxHeartbeats 4000000 in
theorem bsearch_any {w : World} {lo g m c : Nat} {ts : List Tn} (x : Int) (h : w.ownsRow lo 85 4 (.slice (some ⟨g, 0, none⟩) m c) m (flatT ts)) (hl : ts.length = m) (hm : m ≤ 5001) (hs : ∀ p q, p < q → q < m → (ts.getD p Tn.none).1 < (ts.getD q Tn.none).1) :
 Calls Tryz.prog 71 #[.slice (some ⟨g, 0, none⟩) m c, .int .i64 x, .func (.func 72) #[] #[]] w fun e w' => FndP ts m x e ∧ Below w.heap.size w w' := by
 have hgl : g < w.heap.size := (World.ownsRow.lt h g rfl).2
 have TC : Hid (∀ X, Below w.heap.size w X → ∀ k, k < m → ∃ (t : Tn), t = ts.getD k Tn.none ∧ X.cell? ⟨g, k * 4, none⟩ = some (.int .i64 t.1) ∧ X.cell? ⟨g, k * 4 + 1, none⟩ = some (.int .i64 t.2.1) ∧ X.cell? ⟨g, k * 4 + 2, none⟩ = some (.pointer t.2.2.1) ∧ X.cell? ⟨g, k * 4 + 3, none⟩ = some (.int .i64 t.2.2.2)) := hideP (fun X hX k hk => by
  have ht : ∀ j, j < 4 → X.cell? ⟨g, k * 4 + j, none⟩ = (ts.getD k Tn.none).cells[j]? := fun j hj => by
   rw [World.cell?_of_block (w := w) (a := ⟨g, k * 4 + j, none⟩) (hX.block g hgl), h.cellAt _ (by omega)]
   exact flatT_at ts k j (by omega) hj
  exact ⟨_, rfl, ht 0 (by omega), ht 1 (by omega), ht 2 (by omega), ht 3 (by omega)⟩)
 have HS := hideP hs
 clear h hs
 go_enter Tryz.func71, Tryz.ntmps71
 go_wp2
 go_loopw [9, 10, 11] (fun s9 s10 _ wr => ∃ (i j : Nat), i ≤ j ∧ j ≤ m ∧ s9 = .int .i64 (i : Int) ∧ s10 = .int .i64 (j : Int) ∧ Hid (∀ p, p < i → (ts.getD p Tn.none).1 < x) ∧ Hid (∀ p, j ≤ p → p < m → x ≤ (ts.getD p Tn.none).1) ∧ Hid (Below w.heap.size w wr)) (fun s9 s10 _ _ => (intOf s10).toNat - (intOf s9).toNat)
 case atStart => exact ⟨0, m, by omega, by omega, rfl, rfl, hideP (fun p hp => by omega), hideP (fun p h1 h2 => by omega), hideP (Below.refl _ _)⟩
 case round =>
  obtain ⟨i, j, hij, hjm, rfl, rfl, HA, HB, HBr⟩ := hrel
  by_cases hlt : i < j
  ·have hki : (i : Int) < (j : Int) := by omega
   obtain ⟨d, hd⟩ : ∃ d : Nat, d = (i + j) / 2 := ⟨_, rfl⟩
   have hmi : ((i : Int) + (j : Int)) / 2 = (d : Int) := by omega
   have hd1 : i ≤ d := by omega
   have hd2 : d < j := by omega
   have hdm : (d : Int) < (m : Int) := by omega
   obtain ⟨t, ht, t0, t1, t2, t3⟩ := TC.out wr HBr.out d (by omega)
   obtain ⟨ti, tc, tq, tn⟩ := t
   dsimp only at t0 t1 t2 t3
   have CC : Hid (∀ W, Calls Tryz.prog 72 #[.agg #[.int .i64 ti, .int .i64 tc, .pointer tq, .int .i64 tn], .int .i64 x] W fun e w' => e = .returned (.int .i64 (cmpI ti x)) ∧ Below W.heap.size W w') := hideP (fun W => turnCmp_any ti tc tn x tq W)
   obtain ⟨r, hr⟩ : ∃ r, r = cmpI ti x := ⟨_, rfl⟩
   rw [← hr] at CC
   have HR : Hid ((r < 0 ↔ (ts.getD d Tn.none).1 < x)) := hideP (by rw [hr, ← ht]; exact cmpI_neg)
   clear hd hr ht
   go_wp2_with fail
   refine (CC.out wr).mono ?_
   rintro e w2 ⟨rfl, hb2⟩
   have B2 : Hid (Below w.heap.size w w2) := hideP (below_more HBr.out hb2 HBr.out.size)
   clear hb2 t0 t1 t2 t3 CC
   by_cases hr0 : r < 0
   ·have hrb : decide (r < 0) = true := decide_eq_true hr0
    have HA2 : Hid (∀ p, p < d + 1 → (ts.getD p Tn.none).1 < x) := hideP (fun p hp => by
     have h1 := HR.out.1 hr0
     by_cases hpd : p = d
     ·rw [hpd]; exact h1
     ·have h2 := HS.out p d (by omega) (by omega)
      omega)
    clear HR
    go_wp2
    go_roundw
    case rel => exact ⟨d + 1, j, by omega, hjm, by go_num, rfl, HA2, HB, B2⟩
    case measure => simp [intOf]; omega
   ·have hrb : decide (r < 0) = false := decide_eq_false hr0
    have HB2 : Hid (∀ p, d ≤ p → p < m → x ≤ (ts.getD p Tn.none).1) := hideP (fun p h1 h2 => by
     have h3 : ¬ (ts.getD d Tn.none).1 < x := fun h => hr0 (HR.out.2 h)
     by_cases hpd : p = d
     ·rw [hpd]; omega
     ·have h4 := HS.out d p (by omega) h2
      omega)
    clear HR
    go_wp2
    go_roundw
    case rel => exact ⟨i, d, by omega, by omega, rfl, rfl, HA, HB2, B2⟩
    case measure => simp [intOf]; omega
  ·obtain rfl : i = j := by omega
   have hki : ¬ (i : Int) < (i : Int) := by omega
   by_cases him : i < m
   ·have hni : (i : Int) < (m : Int) := by omega
    obtain ⟨t, ht, t0, t1, t2, t3⟩ := TC.out wr HBr.out i him
    obtain ⟨ti, tc, tq, tn⟩ := t
    dsimp only at t0 t1 t2 t3
    have CC : Hid (∀ W, Calls Tryz.prog 72 #[.agg #[.int .i64 ti, .int .i64 tc, .pointer tq, .int .i64 tn], .int .i64 x] W fun e w' => e = .returned (.int .i64 (cmpI ti x)) ∧ Below W.heap.size W w') := hideP (fun W => turnCmp_any ti tc tn x tq W)
    obtain ⟨r, hr⟩ : ∃ r, r = cmpI ti x := ⟨_, rfl⟩
    rw [← hr] at CC
    have HR : Hid ((r = 0 ↔ (ts.getD i Tn.none).1 = x)) := hideP (by rw [hr, ← ht]; exact cmpI_eq)
    clear hr ht
    go_wp2_with fail
    refine (CC.out wr).mono ?_
    rintro e w2 ⟨rfl, hb2⟩
    have B2 : Hid (Below w.heap.size w w2) := hideP (below_more HBr.out hb2 HBr.out.size)
    clear hb2 t0 t1 t2 t3 CC
    by_cases hr0 : r = 0
    ·have hrb : (r == 0) = true := by simp [hr0]
     go_wp2
     refine bodyPost_ret (v := .tuple #[.int .i64 (i : Int), .bool true]) (by simp [results, Tryz.results71, go_sem, hrb]) rfl ⟨⟨i, true, rfl, fun _ => ⟨him, HR.out.1 hr0⟩, (fun h => by cases h)⟩, B2.out⟩
    ·have hrb : (r == 0) = false := by simp [hr0]
     go_wp2
     refine bodyPost_ret (v := .tuple #[.int .i64 (i : Int), .bool false]) (by simp [results, Tryz.results71, go_sem, hrb]) rfl ⟨⟨i, false, rfl, (fun h => by cases h), fun _ p hp e => ?_⟩, B2.out⟩
     have h1 : ¬ (ts.getD i Tn.none).1 = x := fun h => hr0 (HR.out.2 h)
     by_cases hpi : p < i
     ·have := HA.out p hpi
      omega
     ·have h2 := HB.out i (Nat.le_refl _) him
      by_cases hpe : p = i
      ·rw [hpe] at e; exact h1 e
      ·have h3 := HS.out i p (by omega) hp
       omega
   ·have hni : ¬ (i : Int) < (m : Int) := by omega
    go_wp2
    refine bodyPost_ret (v := .tuple #[.int .i64 (i : Int), .bool false]) (by simp [results, Tryz.results71, go_sem]) rfl ⟨⟨i, false, rfl, (fun h => by cases h), fun _ p hp e => ?_⟩, HBr.out⟩
    have := HA.out p (by omega)
    omega
set_option maxRecDepth 20000 in
set_option maxHeartbeats 4000000 in
theorem turnNumbered_any {w : World} {lo g m c PB : Nat} {ts : List Tn} (x : Int) (hP : w.cell? ⟨PB, 26, none⟩ = some (.slice (some ⟨g, 0, none⟩) m c)) (h : w.ownsRow lo 85 4 (.slice (some ⟨g, 0, none⟩) m c) m (flatT ts)) (hl : ts.length = m) (hm : m ≤ 5001) (hs : ∀ p q, p < q → q < m → (ts.getD p Tn.none).1 < (ts.getD q Tn.none).1) :
 Calls Tryz.prog 32 #[.pointer (some ⟨PB, 0, none⟩), .int .i64 x] w fun e w' => FndP ts m x e ∧ Below w.heap.size w w' := by
 have BC := hideP (bsearch_any x h hl hm hs)
 have hPl : PB < w.heap.size := World.block_lt_of_cell? w _ hP
 clear h hl hs
 go_enter Tryz.func32, Tryz.ntmps32
 go_wp2_with fail
 refine BC.out.mono ?_
 rintro e w2 ⟨⟨k, ok, rfl, h1, h2⟩, hb2⟩
 have H1 := hideP h1
 have H2 := hideP h2
 have B2 := hideP hb2
 clear h1 h2 hb2
 go_wp2
 refine bodyPost_ret (v := .tuple #[.int .i64 (k : Int), .bool ok]) (by simp [results, Tryz.results32, go_sem]) rfl ⟨⟨k, ok, rfl, H1.out, H2.out⟩, B2.out⟩
theorem bl_sorted (xs : List Nd) (S : Sy) : List.Pairwise (· < ·) (-1 :: blL xs S) := by
 unfold blL
 split
 ·rw [List.pairwise_cons]
  unfold bl0
  refine ⟨fun a ha => ?_, ?_⟩
  ·rw [List.mem_map] at ha
   obtain ⟨b, _, rfl⟩ := ha
   omega
  ·rw [List.pairwise_map]
   refine List.Pairwise.imp (fun {a b} (h : a < b) => by omega) ?_
   exact List.Pairwise.filter _ List.pairwise_lt_range
 ·simp
theorem ts_get {ts : List Tn} {F : List Int} (h : ts.map (fun t => t.1) = F) {p : Nat} (hp : p < ts.length) : (ts.getD p Tn.none).1 = F.getD p 0 := by
 rw [← h]
 simp [List.getD, List.getElem?_eq_getElem hp]
theorem ts_sorted {ts : List Tn} {xs : List Nd} {S : Sy} (h : ts.map (fun t => t.1) = -1 :: blL xs S) : ∀ p q, p < q → q < ts.length → (ts.getD p Tn.none).1 < (ts.getD q Tn.none).1 := fun p q hpq hq => by
 have hl := congrArg List.length h
 rw [List.length_map] at hl
 rw [ts_get h (by omega), ts_get h hq]
 have h1 := List.pairwise_iff_getElem.1 (bl_sorted xs S) p q (by omega) (by omega) hpq
 rw [show (-1 :: blL xs S).getD p 0 = (-1 :: blL xs S)[p]'(by omega) by simp only [List.getD, List.getElem?_eq_getElem (show p < (-1 :: blL xs S).length by omega), Option.getD_some], show (-1 :: blL xs S).getD q 0 = (-1 :: blL xs S)[q]'(by omega) by simp only [List.getD, List.getElem?_eq_getElem (show q < (-1 :: blL xs S).length by omega), Option.getD_some]]
 exact h1
theorem turn_next {hy : Int} {ys : List It} {t : Tn} {W : World} (h : TurnP hy ys t W) : t.2.2.2 = (nxt ys (t.1 + 1).toNat : Int) := by
 rcases h with rfl | ⟨k, q, rfl, _⟩
 ·rfl
 ·show (nxt ys (k + 1) : Int) = _
  rw [show ((k : Int) + 1).toNat = k + 1 by omega]
theorem turn_low {hy : Int} {ys : List It} {t : Tn} {W : World} (h : TurnP hy ys t W) : -1 ≤ t.1 ∧ t.1 < ys.length := by
 rcases h with rfl | ⟨k, q, rfl, h2, _⟩
 ·exact ⟨Int.le_refl _, by show (-1 : Int) < _; omega⟩
 ·exact ⟨by show (-1 : Int) ≤ (k : Int); omega, by show (k : Int) < _; omega⟩
theorem turn_cells {w : World} {lo g m c : Nat} {ts : List Tn} (h : w.ownsRow lo 85 4 (.slice (some ⟨g, 0, none⟩) m c) m (flatT ts)) (hl : ts.length = m) {k : Nat} (hk : k < m) : w.cell? ⟨g, k * 4, none⟩ = some (.int .i64 (ts.getD k Tn.none).1) ∧ w.cell? ⟨g, k * 4 + 1, none⟩ = some (.int .i64 (ts.getD k Tn.none).2.1) ∧ w.cell? ⟨g, k * 4 + 2, none⟩ = some (.pointer (ts.getD k Tn.none).2.2.1) ∧ w.cell? ⟨g, k * 4 + 3, none⟩ = some (.int .i64 (ts.getD k Tn.none).2.2.2) := by
 have ht : ∀ j, j < 4 → w.cell? ⟨g, k * 4 + j, none⟩ = (ts.getD k Tn.none).cells[j]? := fun j hj => by
  rw [h.cellAt _ (by omega)]
  exact flatT_at ts k j (by omega) hj
 exact ⟨ht 0 (by omega), ht 1 (by omega), ht 2 (by omega), ht 3 (by omega)⟩
set_option maxRecDepth 20000 in
set_option maxHeartbeats 4000000 in
theorem ends_any {w : World} {lo g m c PB : Nat} {ts : List Tn} {ys : List It} {hy : Int} (i j : Nat) (hP : w.cell? ⟨PB, 26, none⟩ = some (.slice (some ⟨g, 0, none⟩) m c)) (h : w.ownsRow lo 85 4 (.slice (some ⟨g, 0, none⟩) m c) m (flatT ts)) (hl : ts.length = m) (hm : m ≤ 5001) (hy5 : ys.length ≤ 5000) (hij : i < j) (hj : j < m) (hT : ∀ t ∈ ts, TurnP hy ys t w) (a b : Nat) (ha : (ts.getD i Tn.none).1 + 1 = (a : Int)) (hb : (ts.getD j Tn.none).1 = (b : Int)) (hab : a ≤ b) :
 Calls Tryz.prog 75 #[.pointer (some ⟨PB, 0, none⟩), .int .i64 (i : Int), .int .i64 (j : Int)] w fun e w' => e = .returned (.tuple #[.int .i64 ((begI ys a b : Nat) : Int), .int .i64 (b : Int)]) ∧ w' = w := by
 have hPl : PB < w.heap.size := World.block_lt_of_cell? w _ hP
 obtain ⟨i0, i1, i2, i3⟩ := turn_cells h hl (show i < m by omega)
 obtain ⟨j0, j1, j2, j3⟩ := turn_cells h hl hj
 have hmi : ts.getD i Tn.none ∈ ts := by
  rw [show ts.getD i Tn.none = ts[i]'(by omega) by simp [List.getD, List.getElem?_eq_getElem (show i < ts.length by omega)]]
  exact List.getElem_mem _
 have hmj : ts.getD j Tn.none ∈ ts := by
  rw [show ts.getD j Tn.none = ts[j]'(by omega) by simp [List.getD, List.getElem?_eq_getElem (show j < ts.length by omega)]]
  exact List.getElem_mem _
 have hn := turn_next (hT _ hmi)
 have hlo := turn_low (hT _ hmj)
 rw [ha, show ((a : Int)).toNat = a by omega] at hn
 rw [hn] at i3
 rw [hb] at j0 hlo
 have hbl : b < ys.length := by omega
 have hmin := nxt_beg ys b (by omega) (b - a) a hab rfl
 obtain ⟨n, hnn⟩ : ∃ n, n = nxt ys a := ⟨_, rfl⟩
 obtain ⟨s, hss⟩ : ∃ s, s = begI ys a b := ⟨_, rfl⟩
 rw [← hnn, ← hss] at hmin
 rw [← hnn] at i3
 rw [← hss]
 have hji : (j : Int) < (m : Int) := by omega
 have hii : (i : Int) < (m : Int) := by omega
 have hmn : min (n : Int) (b : Int) = (s : Int) := by omega
 clear hnn hss hn hlo hmi hmj hT h hl ha hb hmin hab
 go_enter Tryz.func75, Tryz.ntmps75
 go_wp2
 refine bodyPost_ret (v := .tuple #[.int .i64 (s : Int), .int .i64 (b : Int)]) ?_ rfl ⟨rfl, rfl⟩
 simp [results, Tryz.results75, go_sem, hmn]
def lesTo (a b : List Int) : Nat → List Int
 | 0 => a.set 0 (wrap64 (a.getD 0 0 - b.getD 0 0))
 | k + 1 => ((lesTo a b k).set (1 + k) (wrap64 ((lesTo a b k).getD (1 + k) 0 - b.getD (1 + k) 0))).set (5 + k) (wrap64 ((lesTo a b k).getD (5 + k) 0 - b.getD (5 + k) 0))
theorem lesTo_len (a b : List Int) : ∀ k, (lesTo a b k).length = a.length
 | 0 => by simp [lesTo]
 | k + 1 => by simp [lesTo, lesTo_len a b k]
theorem mea_nine (zs : List Int) (h : zs.length = 9) : ∃ z0 z1 z2 z3 z4 z5 z6 z7 z8, zs = [z0, z1, z2, z3, z4, z5, z6, z7, z8] := by
 match zs, h with
 | [a, b, c, d, e, f, g, i, j], _ => exact ⟨_, _, _, _, _, _, _, _, _, rfl⟩
theorem IntsL.far {w : World} {B C T : Nat} {zs : List Int} (hne : B ≠ C) (h : IntsL w B T zs) (o : Nat) (v : Value) : IntsL (w.setCell ⟨C, o, none⟩ v) B T zs := (Below.heap_setCell _ _ _ _ (show B ≠ C from hne)).trans h
set_option maxRecDepth 20000 in
set_option maxHeartbeats 4000000 in
theorem less_any (a b : List Int) (ha : a.length = 9) (hb : b.length = 9) (w : World) :
 Calls Tryz.prog 76 #[Shr.mea a, Shr.mea b] w fun e w' => e = .returned (Shr.mea (lesTo a b 4)) ∧ Below w.heap.size w w' := by
 obtain ⟨R, hR⟩ : ∃ R, R = w.heap.size := ⟨_, rfl⟩
 obtain ⟨W1, hW1⟩ : ∃ W, W = ((w.alloc (.cells (a.map (Value.int .i64)).toArray 116)).alloc (.cells (b.map (Value.int .i64)).toArray 116)).alloc (.cells #[.int .i64 0, .int .i64 0, .int .i64 0, .int .i64 0, .int .i64 0, .int .i64 0, .int .i64 0, .int .i64 0, .int .i64 0] 116) := ⟨_, rfl⟩
 have I0 : Hid (IntsL W1 R 116 a ∧ IntsL W1 (R + 1) 116 b ∧ IntsL W1 (R + 1 + 1) 116 [0, 0, 0, 0, 0, 0, 0, 0, 0] ∧ Below w.heap.size w W1) := hideP (by
  rw [hW1, hR]
  have e1 : IntsL (w.alloc (.cells (a.map (Value.int .i64)).toArray 116)) w.heap.size 116 a := heap_alloc_new w _
  have e2 : IntsL ((w.alloc (.cells (a.map (Value.int .i64)).toArray 116)).alloc (.cells (b.map (Value.int .i64)).toArray 116)) (w.heap.size + 1) 116 b := by
   have := heap_alloc_new (w.alloc (.cells (a.map (Value.int .i64)).toArray 116)) (.cells (b.map (Value.int .i64)).toArray 116)
   unfold IntsL
   simpa using this
  have e3 : IntsL (((w.alloc (.cells (a.map (Value.int .i64)).toArray 116)).alloc (.cells (b.map (Value.int .i64)).toArray 116)).alloc (.cells #[.int .i64 0, .int .i64 0, .int .i64 0, .int .i64 0, .int .i64 0, .int .i64 0, .int .i64 0, .int .i64 0, .int .i64 0] 116)) (w.heap.size + 1 + 1) 116 [0, 0, 0, 0, 0, 0, 0, 0, 0] := by
   have := heap_alloc_new ((w.alloc (.cells (a.map (Value.int .i64)).toArray 116)).alloc (.cells (b.map (Value.int .i64)).toArray 116)) (.cells #[.int .i64 0, .int .i64 0, .int .i64 0, .int .i64 0, .int .i64 0, .int .i64 0, .int .i64 0, .int .i64 0, .int .i64 0] 116)
   unfold IntsL
   simpa using this
  exact ⟨(e1.alloc _).alloc _, e2.alloc _, e3, (((Below.refl _ _).alloc (Nat.le_refl _) _).alloc (by simp) _).alloc (by simp; omega) _⟩)
 have HA := hideP ha
 have HB := hideP hb
 have a0 := I0.out.1.cell 0 (by omega)
 have b0 := I0.out.2.1.cell 0 (by omega)
 obtain ⟨x0, hx0⟩ : ∃ x, x = a.getD 0 0 := ⟨_, rfl⟩
 obtain ⟨y0, hy0⟩ : ∃ x, x = b.getD 0 0 := ⟨_, rfl⟩
 rw [← hx0] at a0
 rw [← hy0] at b0
 have HXY : Hid (lesTo a b 0 = a.set 0 (wrap64 (x0 - y0))) := hideP (by rw [lesTo, hx0, hy0])
 have fa : ∀ j, W1.frozen? ⟨R, j, none⟩ = false := I0.out.1.free
 have HRL : Hid (R = w.heap.size) := hideP hR
 have AC : Hid (∀ (X : World) (ty : Nat), True) := hideP (fun _ _ => trivial)
 clear hx0 hy0
 have hAl : ∃ z0 z1 z2 z3 z4 z5 z6 z7 z8, a = [z0, z1, z2, z3, z4, z5, z6, z7, z8] := mea_nine a ha
 have hBl : ∃ z0 z1 z2 z3 z4 z5 z6 z7 z8, b = [z0, z1, z2, z3, z4, z5, z6, z7, z8] := mea_nine b hb
 obtain ⟨p0, p1, p2, p3, p4, p5, p6, p7, p8, hp⟩ := hAl
 obtain ⟨r0, r1, r2, r3, r4, r5, r6, r7, r8, hr⟩ := hBl
 have hma : Shr.mea a = .agg #[.int .i64 p0, .int .i64 p1, .int .i64 p2, .int .i64 p3, .int .i64 p4, .int .i64 p5, .int .i64 p6, .int .i64 p7, .int .i64 p8] := by rw [hp]; rfl
 have hmb : Shr.mea b = .agg #[.int .i64 r0, .int .i64 r1, .int .i64 r2, .int .i64 r3, .int .i64 r4, .int .i64 r5, .int .i64 r6, .int .i64 r7, .int .i64 r8] := by rw [hr]; rfl
 have hW2 : W1 = ((w.alloc (.cells #[.int .i64 p0, .int .i64 p1, .int .i64 p2, .int .i64 p3, .int .i64 p4, .int .i64 p5, .int .i64 p6, .int .i64 p7, .int .i64 p8] 116)).alloc (.cells #[.int .i64 r0, .int .i64 r1, .int .i64 r2, .int .i64 r3, .int .i64 r4, .int .i64 r5, .int .i64 r6, .int .i64 r7, .int .i64 r8] 116)).alloc (.cells #[.int .i64 0, .int .i64 0, .int .i64 0, .int .i64 0, .int .i64 0, .int .i64 0, .int .i64 0, .int .i64 0, .int .i64 0] 116) := by rw [hW1, hp, hr]; rfl
 rw [hma, hmb]
 have HP : Hid (a = [p0, p1, p2, p3, p4, p5, p6, p7, p8] ∧ b = [r0, r1, r2, r3, r4, r5, r6, r7, r8]) := hideP ⟨hp, hr⟩
 clear hma hmb hp hr hW1 ha hb AC
 go_enter Tryz.func76, Tryz.ntmps76
 go_upto_region 1 with fail
 rw [← hW2, ← hR]
 clear hW2 hR
 go_upto_region 2 with fail
 obtain ⟨W2, hW2⟩ : ∃ W, W = W1.setCell ⟨R, 0, none⟩ (.int .i64 (wrap64 (x0 - y0))) := ⟨_, rfl⟩
 rw [← hW2]
 have J0 : Hid (IntsL W2 R 116 (lesTo a b 0) ∧ IntsL W2 (R + 1) 116 b ∧ Fr R W1 W2) := hideP (by
  rw [hW2, HXY.out]
  refine ⟨I0.out.1.set 0 _, ?_, (Fr.refl _ _).set _ _⟩
  exact (Below.heap_setCell _ _ _ _ (by simp)).trans I0.out.2.1)
 clear hW2 a0 b0 fa
 go_wp2
 go_loopw [12] (fun s wr => ∃ (k : Nat), k ≤ 4 ∧ s = .int .i64 (k : Int) ∧ Hid (IntsL wr R 116 (lesTo a b k) ∧ IntsL wr (R + 1) 116 b ∧ Fr R W1 wr)) (fun s wr => (4 - (intOf s)).toNat)
 case atStart => exact ⟨0, by omega, rfl, J0⟩
 case round =>
  obtain ⟨k, hk, rfl, HJ⟩ := hrel
  by_cases hk4 : k < 4
  ·have hki : (k : Int) < 4 := by omega
   obtain ⟨h1, h2, h3⟩ := HJ.out
   obtain ⟨Z, hZ⟩ : ∃ Z, Z = lesTo a b k := ⟨_, rfl⟩
   have hZl : Z.length = 9 := by rw [hZ, lesTo_len]; exact HA.out
   rw [← hZ] at h1
   have za := h1.cell (1 + k) (by omega)
   have zb := h1.cell (5 + k) (by omega)
   have ba := h2.cell (1 + k) (by have := HB.out; omega)
   have bb := h2.cell (5 + k) (by have := HB.out; omega)
   obtain ⟨xa, hxa⟩ : ∃ x, x = Z.getD (1 + k) 0 := ⟨_, rfl⟩
   obtain ⟨xb, hxb⟩ : ∃ x, x = Z.getD (5 + k) 0 := ⟨_, rfl⟩
   obtain ⟨ya, hya⟩ : ∃ x, x = b.getD (1 + k) 0 := ⟨_, rfl⟩
   obtain ⟨yb, hyb⟩ : ∃ x, x = b.getD (5 + k) 0 := ⟨_, rfl⟩
   rw [← hxa] at za
   rw [← hxb] at zb
   rw [← hya] at ba
   rw [← hyb] at bb
   have HN : Hid (lesTo a b (k + 1) = (Z.set (1 + k) (wrap64 (xa - ya))).set (5 + k) (wrap64 (xb - yb))) := hideP (by
    rw [lesTo, ← hZ, ← hxa, ← hya, ← hyb, ← hxb])
   have fz := h1.free
   have H1 := hideP h1
   have H2 := hideP h2
   have H3 := hideP h3
   have n1 : ¬ 5 + k = 1 + k := by omega
   have n2 : ¬ 1 + k = 5 + k := by omega
   clear h1 h2 h3 hZ hxa hxb hya hyb
   go_wp2
   go_region
   go_wp2
   go_region
   go_wp2
   go_roundw
   case rel =>
    refine ⟨k + 1, by omega, by simp, hideP ⟨?_, ?_, ?_⟩⟩
    ·rw [HN.out]
     have HI2 := H1.out
     repeat (first | with_reducible exact HI2 | with_reducible refine IntsL.set ?_ _ _ | with_reducible refine IntsL.alloc ?_ _ | with_reducible refine IntsL.drew ?_)
    ·have HI2 := H2.out
     repeat (first | with_reducible exact HI2 | with_reducible refine IntsL.far (by omega) ?_ _ _ | with_reducible refine IntsL.drew ?_)
    ·have HF2 := H3.out
     repeat (first | with_reducible exact HF2 | with_reducible refine Fr.set ?_ _ _ | with_reducible refine Fr.alloc ?_ _ | with_reducible refine Fr.drew ?_)
   case measure => simp [intOf]; omega
  ·obtain rfl : k = 4 := by omega
   obtain ⟨h1, h2, h3⟩ := HJ.out
   have hk2 : wr.heap[R + 1 + 1]? = some (.cells #[.int .i64 0, .int .i64 0, .int .i64 0, .int .i64 0, .int .i64 0, .int .i64 0, .int .i64 0, .int .i64 0, .int .i64 0] 116 (0, 0)) := (h3.2.2.2.2 _ I0.out.2.2.1.lt (by omega)).trans I0.out.2.2.1
   obtain ⟨Z, hZ⟩ : ∃ Z, Z = lesTo a b 4 := ⟨_, rfl⟩
   have hZl : Z.length = 9 := by rw [hZ, lesTo_len]; exact HA.out
   obtain ⟨z0, z1, z2, z3, z4, z5, z6, z7, z8, hz⟩ := mea_nine Z hZl
   rw [← hZ, hz] at h1
   have HZ9 := hideP (hZ.symm.trans hz)
   have q0 := h1.cell 0 (by simp)
   have q1 := h1.cell 1 (by simp)
   have q2 := h1.cell 2 (by simp)
   have q3 := h1.cell 3 (by simp)
   have q4 := h1.cell 4 (by simp)
   have q5 := h1.cell 5 (by simp)
   have q6 := h1.cell 6 (by simp)
   have q7 := h1.cell 7 (by simp)
   have q8 := h1.cell 8 (by simp)
   simp only [List.getD_cons_zero, List.getD_cons_succ] at q0 q1 q2 q3 q4 q5 q6 q7 q8
   have fz : ∀ j, wr.frozen? ⟨R + 1 + 1, j, none⟩ = false := fun j => frozen_of_row wr _ j _ 116 hk2
   have hcs : ∀ j, j < 9 → wr.cell? ⟨R + 1 + 1, j, none⟩ = some (.int .i64 0) := fun j hj => by
    rw [cell_of_row wr _ j _ 116 _ hk2]
    rcases (show j = 0 ∨ j = 1 ∨ j = 2 ∨ j = 3 ∨ j = 4 ∨ j = 5 ∨ j = 6 ∨ j = 7 ∨ j = 8 by omega) with rfl | rfl | rfl | rfl | rfl | rfl | rfl | rfl | rfl <;> rfl
   have r0 := hcs 0 (by omega)
   have r1 := hcs 1 (by omega)
   have r2 := hcs 2 (by omega)
   have r3 := hcs 3 (by omega)
   have r4 := hcs 4 (by omega)
   have r5 := hcs 5 (by omega)
   have r6 := hcs 6 (by omega)
   have r7 := hcs 7 (by omega)
   have r8 := hcs 8 (by omega)
   have H3 := hideP h3
   have K2 := hideP hk2
   clear h1 h2 h3 hk2 hZ hz hZl hcs
   go_wp2
   obtain ⟨X, hX⟩ : ∃ X, X = ((((((((wr.setCell ⟨R + 1 + 1, 0, none⟩ (.int .i64 z0)).setCell ⟨R + 1 + 1, 1, none⟩ (.int .i64 z1)).setCell ⟨R + 1 + 1, 2, none⟩ (.int .i64 z2)).setCell ⟨R + 1 + 1, 3, none⟩ (.int .i64 z3)).setCell ⟨R + 1 + 1, 4, none⟩ (.int .i64 z4)).setCell ⟨R + 1 + 1, 5, none⟩ (.int .i64 z5)).setCell ⟨R + 1 + 1, 6, none⟩ (.int .i64 z6)).setCell ⟨R + 1 + 1, 7, none⟩ (.int .i64 z7)).setCell ⟨R + 1 + 1, 8, none⟩ (.int .i64 z8) := ⟨_, rfl⟩
   have RX : X.heap[R + 1 + 1]? = some (.cells #[.int .i64 z0, .int .i64 z1, .int .i64 z2, .int .i64 z3, .int .i64 z4, .int .i64 z5, .int .i64 z6, .int .i64 z7, .int .i64 z8] 116 (0, 0)) := by
    rw [hX]
    have i0 : IntsL wr (R + 1 + 1) 116 [0, 0, 0, 0, 0, 0, 0, 0, 0] := K2.out
    have e8 := ((((((((i0.set 0 z0).set 1 z1).set 2 z2).set 3 z3).set 4 z4).set 5 z5).set 6 z6).set 7 z7).set 8 z8
    simp only [List.set_cons_zero, List.set_cons_succ] at e8
    exact e8
   have BX : Below w.heap.size w X := by
    have hb := I0.out.2.2.2
    have e := HRL.out
    have hf : Shr.Fr R w wr := ⟨H3.out.1.trans hb.os, H3.out.2.1.trans hb.tape, H3.out.2.2.1.trans hb.output, Nat.le_trans hb.size H3.out.2.2.2.1, fun k hk hne => (H3.out.2.2.2.2 k (Nat.lt_of_lt_of_le hk hb.size) hne).trans (hb.block k hk)⟩
    rw [hX]
    have s : ∀ {A : World} (j : Nat) (v : Value), Shr.Fr R w A → Shr.Fr R w (A.setCell ⟨R + 1 + 1, j, none⟩ v) := fun j v h => h.set (.inr (by show w.heap.size ≤ R + 1 + 1; omega)) v
    exact (s 8 _ (s 7 _ (s 6 _ (s 5 _ (s 4 _ (s 3 _ (s 2 _ (s 1 _ (s 0 _ hf))))))))).toBelow (by omega) (Nat.le_refl _)
   rw [← hX, HZ9.out]
   exact bodyPost_ret (v := .agg #[.int .i64 z0, .int .i64 z1, .int .i64 z2, .int .i64 z3, .int .i64 z4, .int .i64 z5, .int .i64 z6, .int .i64 z7, .int .i64 z8]) (results_cell_row rfl _ _ (R + 1 + 1) 116 _ (0, 0) _ rfl RX Tryz.underlying116 rfl (by kernel_rfl)) rfl ⟨rfl, BX⟩
set_option maxRecDepth 20000 in
set_option maxHeartbeats 4000000 in
theorem isForced_any (i c nx : Int) (q : Option Addr) (w : World) : Calls Tryz.prog 34 #[.agg #[.int .i64 i, .int .i64 c, .pointer q, .int .i64 nx]] w fun e w' => e = .returned (.bool (c == -10000)) ∧ Below w.heap.size w w' := by
 go_enter Tryz.func34, Tryz.ntmps34
 go_wp2
 go_ret
 exact ⟨rfl, below1 _ _⟩
set_option maxRecDepth 20000 in
set_option maxHeartbeats 4000000 in
theorem behind_any (b0 c0 b1 c1 n : Int) (p : Addr) (g : Nat) (w : World) (hp : p = ⟨g, 0, none⟩) (h : w.cell? ⟨g, 3, none⟩ = some (.int .i64 n)) :
 Calls Tryz.prog 37 #[.agg #[.int .i64 b0, .int .i64 c0, .int .i64 b1, .int .i64 c1], .pointer (some p)] w fun e w' => e = .returned (if 0 < n then Shr.fillV b1 c1 else Shr.fillV b0 c0) ∧ Below w.heap.size w w' := by
 subst hp
 have hg : g < w.heap.size := World.block_lt_of_cell? w _ h
 by_cases hn : 0 < n
 ·have hn1 : n > 0 := hn
  go_enter Tryz.func37, Tryz.ntmps37
  go_wp2
  obtain ⟨W3, hW3⟩ : ∃ W, W = (w.alloc (.cells #[.int .i64 b0, .int .i64 c0, .int .i64 b1, .int .i64 c1] 96)).alloc (.cells #[.int .i64 b1, .int .i64 c1] 94) := ⟨_, rfl⟩
  have R2 : W3.heap[w.heap.size + 1]? = some (.cells #[.int .i64 b1, .int .i64 c1] 94 (0, 0)) := by rw [hW3]; have := heap_alloc_new (w.alloc (.cells #[.int .i64 b0, .int .i64 c0, .int .i64 b1, .int .i64 c1] 96)) (.cells #[.int .i64 b1, .int .i64 c1] 94); simpa using this
  have B2 : Below w.heap.size w W3 := by rw [hW3]; exact ((Below.refl _ _).alloc (Nat.le_refl _) _).alloc (by simp) _
  rw [← hW3]
  exact bodyPost_ret (v := Shr.fillV b1 c1) (results_cell_row rfl _ _ (w.heap.size + 1) 94 _ (0, 0) _ rfl R2 Tryz.underlying94 rfl (by kernel_rfl)) rfl ⟨rfl, B2⟩
 ·have hn1 : ¬ n > 0 := hn
  go_enter Tryz.func37, Tryz.ntmps37
  go_wp2
  obtain ⟨W3, hW3⟩ : ∃ W, W = (w.alloc (.cells #[.int .i64 b0, .int .i64 c0, .int .i64 b1, .int .i64 c1] 96)).alloc (.cells #[.int .i64 b0, .int .i64 c0] 94) := ⟨_, rfl⟩
  have R2 : W3.heap[w.heap.size + 1]? = some (.cells #[.int .i64 b0, .int .i64 c0] 94 (0, 0)) := by rw [hW3]; have := heap_alloc_new (w.alloc (.cells #[.int .i64 b0, .int .i64 c0, .int .i64 b1, .int .i64 c1] 96)) (.cells #[.int .i64 b0, .int .i64 c0] 94); simpa using this
  have B2 : Below w.heap.size w W3 := by rw [hW3]; exact ((Below.refl _ _).alloc (Nat.le_refl _) _).alloc (by simp) _
  rw [← hW3]
  exact bodyPost_ret (v := Shr.fillV b0 c0) (results_cell_row rfl _ _ (w.heap.size + 1) 94 _ (0, 0) _ rfl R2 Tryz.underlying94 rfl (by kernel_rfl)) rfl ⟨rfl, B2⟩
set_option maxRecDepth 20000 in
set_option maxHeartbeats 4000000 in
theorem beginning_any (n : Int) (g : Nat) (w : World) (h : w.cell? ⟨g, 2, none⟩ = some (.int .i64 n)) :
 Calls Tryz.prog 31 #[.pointer (some ⟨g, 0, none⟩)] w fun e w' => e = .returned (.agg #[.int .i64 0, .pointer none, .int .i64 0, .int .i64 n, .int .i64 2, .int .i64 0]) ∧ Below w.heap.size w w' := by
 have hg : g < w.heap.size := World.block_lt_of_cell? w _ h
 go_enter Tryz.func31, Tryz.ntmps31
 go_wp2
 have R2 := heap_alloc_new w (.cells #[.int .i64 0, .pointer none, .int .i64 0, .int .i64 n, .int .i64 2, .int .i64 0] 77)
 exact bodyPost_ret (v := .agg #[.int .i64 0, .pointer none, .int .i64 0, .int .i64 n, .int .i64 2, .int .i64 0]) (results_cell_row rfl _ _ w.heap.size 77 _ (0, 0) _ rfl R2 Tryz.underlying77 rfl (by kernel_rfl)) rfl ⟨rfl, below1 _ _⟩
def linM (S : Sy) (ys : List It) (a b : Nat) : List Int := glA 0 S.r2.toNat S.r4.toNat S.r0 S.r1 S.r3 (glA 0 S.l2.toNat S.l4.toNat S.l0 S.l1 S.l3 (lesTo (mTo ys b) (mTo ys (begI ys a b)) 4))
def linH (S : Sy) (ys : List It) (a b : Nat) : List Int := if (ys.getD b It.none).1.k = 8 then (linM S ys a b).set 0 (wrap64 ((linM S ys a b).getD 0 0 + (ys.getD b It.none).1.wd)) else linM S ys a b
theorem glA_len (o pn mn : Nat) (s p q : Int) (zs : List Int) : (glA o pn mn s p q zs).length = zs.length := by simp [glA]
theorem linM_len (S : Sy) (ys : List It) (a b : Nat) : (linM S ys a b).length = 9 := by unfold linM; rw [glA_len, glA_len, lesTo_len, mTo_len]
theorem linH_len (S : Sy) (ys : List It) (a b : Nat) : (linH S ys a b).length = 9 := by
 unfold linH
 split
 ·simp [linM_len]
 ·exact linM_len _ _ _ _
def fB (zs : List Int) (t : Int) : Int := Shr.badT (t - zs.getD 0 0) (Shr.pl4 zs) (Shr.mi4 zs)
def fC (zs : List Int) (t : Int) : Int := Shr.clsT (t - zs.getD 0 0) (fB zs t)
theorem wrap_in {z : Int} (h1 : -9223372036854775808 ≤ z) (h2 : z ≤ 9223372036854775807) : wrap64 z = z := by unfold wrap64; omega
theorem getD_set (l : List Int) (i j : Nat) (v : Int) (hi : i < l.length) : (l.set i v).getD j 0 = if j = i then v else l.getD j 0 := by
 simp only [List.getD_eq_getElem?_getD, List.getElem?_set]
 by_cases h : i = j
 ·subst h; simp [hi]
 ·rw [if_neg h, if_neg (fun e => h e.symm)]
def gxv (s p po m mo : Int) (j : Nat) : Int := (if j = 0 then s else 0) + (if j = 1 + po.toNat then p else 0) + (if j = 5 + mo.toNat then m else 0)
def vx (x : Nd) (j : Nat) : Int :=
 if x.k = 3 then gxv x.gs x.gp x.gpo x.gm x.gmo j
 else if solB x = true then (if j = 0 then x.wd else 0) else 0
def fitI (x : Int) : Prop := -1073741823 ≤ x ∧ x ≤ 1073741823
structure VIn (x : Nd) : Prop where
 wd : fitI x.wd
 gs : fitI x.gs
 gp : fitI x.gp
 gm : fitI x.gm
 o : Ord x
theorem gxv_in {s p po m mo : Int} (hs : fitI s) (hp : fitI p) (hm : fitI m) (h1 : 0 ≤ po ∧ po ≤ 3) (h2 : 0 ≤ mo ∧ mo ≤ 3) (j : Nat) : fitI (gxv s p po m mo j) := by
 unfold gxv fitI at *
 by_cases a : j = 0
 ·subst a
  rw [if_pos rfl, if_neg (by omega), if_neg (by omega)]; omega
 ·rw [if_neg a]
  by_cases b : j = 1 + po.toNat
  ·rw [if_pos b, if_neg (by omega)]; omega
  ·rw [if_neg b]
   split <;> omega
theorem vx_in {x : Nd} (h : VIn x) (j : Nat) : fitI (vx x j) := by
 unfold vx
 split
 ·exact gxv_in h.gs h.gp h.gm ⟨h.o.1, h.o.2.1⟩ ⟨h.o.2.2.1, h.o.2.2.2⟩ j
 ·have := h.wd
  split
  ·split
   ·exact this
   ·simp [fitI]
  ·simp [fitI]
def Big (B : Int) (zs : List Int) : Prop := ∀ j, -B ≤ zs.getD j 0 ∧ zs.getD j 0 ≤ B
theorem glA_get {zs : List Int} {s p po m mo B : Int} (hl : zs.length = 9) (hs : fitI s) (hp : fitI p) (hm : fitI m) (h1 : 0 ≤ po ∧ po ≤ 3) (h2 : 0 ≤ mo ∧ mo ≤ 3) (hB : Big B zs) (hB2 : B ≤ 1000000000000000) (j : Nat) :
 (glA 0 po.toNat mo.toNat s p m zs).getD j 0 = zs.getD j 0 + gxv s p po m mo j := by
 unfold glA gxv
 have q0 := hB 0
 have q1 := hB (0 + 1 + po.toNat)
 have q2 := hB (0 + 5 + mo.toNat)
 unfold fitI at hs hp hm
 rw [getD_set _ _ _ _ (by simp [hl]; omega), getD_set _ _ _ _ (by simp [hl]; omega), getD_set _ _ _ _ (by omega)]
 rw [wrap_in (by omega) (by omega), wrap_in (by omega) (by omega), wrap_in (by omega) (by omega)]
 by_cases a : j = 0
 ·subst a
  rw [if_neg (by omega), if_neg (by omega), if_pos rfl, if_pos rfl, if_neg (by omega), if_neg (by omega)]; omega
 ·by_cases b : j = 0 + 1 + po.toNat
  ·subst b
   rw [if_neg (by omega), if_pos rfl, if_neg (by omega), if_pos (by omega), if_neg (by omega)]; omega
  ·by_cases c : j = 0 + 5 + mo.toNat
   ·subst c
    rw [if_pos rfl, if_neg (by omega), if_neg (by omega), if_pos (by omega)]; omega
   ·rw [if_neg c, if_neg b, if_neg a, if_neg a, if_neg (by omega), if_neg (by omega)]; omega
theorem mAd_get {zs : List Int} {x : Nd} {B : Int} (hl : zs.length = 9) (hx : VIn x) (hB : Big B zs) (hB2 : B ≤ 1000000000000000) (j : Nat) :
 (mAd 0 x zs).getD j 0 = zs.getD j 0 + vx x j := by
 unfold mAd vx
 split
 ·exact glA_get hl hx.gs hx.gp hx.gm ⟨hx.o.1, hx.o.2.1⟩ ⟨hx.o.2.2.1, hx.o.2.2.2⟩ hB hB2 j
 ·split
  ·have q0 := hB 0
   have := hx.wd
   unfold fitI at this
   rw [getD_set _ _ _ _ (by omega), wrap_in (by omega) (by omega)]
   split
   ·rename_i e; subst e; rfl
   ·omega
  ·omega
def sX (ys : List It) (s : Nat) (j : Nat) : Nat → Int
 | 0 => 0
 | m + 1 => sX ys s j m + vx (ys.getD (s + m) It.none).1 j
theorem sX_add (ys : List It) (s j m : Nat) : ∀ n, sX ys s j (m + n) = sX ys s j m + sX ys (s + m) j n
 | 0 => by simp [sX]
 | n + 1 => by
  rw [← Nat.add_assoc, sX, sX_add ys s j m n, sX, Nat.add_assoc s m n]
  omega
theorem sX_in {ys : List It} {N : Nat} (h : ∀ k, k < N → VIn (ys.getD k It.none).1) (s j : Nat) : ∀ m, s + m ≤ N → -(1073741823 * (m : Int)) ≤ sX ys s j m ∧ sX ys s j m ≤ 1073741823 * (m : Int)
 | 0, _ => by simp [sX]
 | m + 1, hm => by
  have h1 := sX_in h s j m (by omega)
  have h2 := vx_in (h (s + m) (by omega)) j
  unfold fitI at h2
  rw [sX]
  push_cast
  omega
theorem mTo_get {ys : List It} {N : Nat} (h : ∀ k, k < N → VIn (ys.getD k It.none).1) (hN : N ≤ 5000) : ∀ i, i ≤ N → ∀ j, (mTo ys i).getD j 0 = sX ys 0 j i
 | 0, _, j => by
  show (([0, 0, 0, 0, 0, 0, 0, 0, 0] : List Int)).getD j 0 = 0
  match j with
  | 0 | 1 | 2 | 3 | 4 | 5 | 6 | 7 | 8 => rfl
  | n + 9 => rfl
 | i + 1, hi, j => by
  have ih := mTo_get h hN i (by omega)
  rw [mTo, mAd_get (B := 1073741823 * (i : Int)) (mTo_len _ _) (h i (by omega)) (fun j => by rw [ih j]; exact sX_in h 0 j i (by omega)) (by omega) j, ih j, sX, Nat.zero_add]
theorem les_get {a b : List Int} (ha : a.length = 9) (hb : b.length = 9) (j : Nat) (hj : j < 9) : (lesTo a b 4).getD j 0 = wrap64 (a.getD j 0 - b.getD j 0) := by
 obtain ⟨p0, p1, p2, p3, p4, p5, p6, p7, p8, rfl⟩ := mea_nine a ha
 obtain ⟨r0, r1, r2, r3, r4, r5, r6, r7, r8, rfl⟩ := mea_nine b hb
 rcases (show j = 0 ∨ j = 1 ∨ j = 2 ∨ j = 3 ∨ j = 4 ∨ j = 5 ∨ j = 6 ∨ j = 7 ∨ j = 8 by omega) with rfl | rfl | rfl | rfl | rfl | rfl | rfl | rfl | rfl <;> rfl
def lineX (S : Sy) (ys : List It) (a b : Nat) (j : Nat) : Int := sX ys (begI ys a b) j (b - begI ys a b) + gxv S.l0 S.l1 S.l2 S.l3 S.l4 j + gxv S.r0 S.r1 S.r2 S.r3 S.r4 j + (if (ys.getD b It.none).1.k = 8 then (if j = 0 then (ys.getD b It.none).1.wd else 0) else 0)
theorem glB_parts {s p po m mo : Int} (h : glB s p po m mo = true) : fitI s ∧ fitI p ∧ fitI m ∧ (0 ≤ po ∧ po ≤ 3) ∧ (0 ≤ mo ∧ mo ≤ 3) := by
 unfold glB fitsB uptoB at h
 simp only [Bool.and_eq_true, decide_eq_true_eq] at h
 unfold fitI
 omega
theorem sy_glues {S : Sy} (h : syB S = true) : glB S.l0 S.l1 S.l2 S.l3 S.l4 = true ∧ glB S.r0 S.r1 S.r2 S.r3 S.r4 = true := by
 unfold syB at h
 simp only [Bool.and_eq_true] at h
 exact ⟨h.1.1.2, h.1.2⟩
theorem linH_get {S : Sy} {ys : List It} {N a b : Nat} (hS : syB S = true) (h : ∀ k, k < N → VIn (ys.getD k It.none).1) (hN : N ≤ 5000) (hb : b < N) (hab : a ≤ b) (j : Nat) (hj : j < 9) : (linH S ys a b).getD j 0 = lineX S ys a b j := by
 obtain ⟨l1, l2, l3, l4, l5⟩ := glB_parts (sy_glues hS).1
 obtain ⟨r1, r2, r3, r4, r5⟩ := glB_parts (sy_glues hS).2
 obtain ⟨s, hs⟩ : ∃ s, s = begI ys a b := ⟨_, rfl⟩
 have hsb : s ≤ b := by rw [hs]; exact (begI_range _ _ _ hab).2
 have base : ∀ i, i < 9 → (lesTo (mTo ys b) (mTo ys s) 4).getD i 0 = sX ys s i (b - s) := fun i hi => by
  rw [les_get (mTo_len _ _) (mTo_len _ _) i hi, mTo_get h hN b (by omega), mTo_get h hN s (by omega)]
  have e := sX_add ys 0 i s (b - s)
  rw [show s + (b - s) = b by omega, Nat.zero_add] at e
  have := sX_in h s i (b - s) (by omega)
  rw [e, show sX ys 0 i s + sX ys s i (b - s) - sX ys 0 i s = sX ys s i (b - s) by omega]
  exact wrap_in (by omega) (by omega)
 have l0 : (lesTo (mTo ys b) (mTo ys s) 4).length = 9 := by rw [lesTo_len]; exact mTo_len _ _
 have big0 : Big 5368709115000 (lesTo (mTo ys b) (mTo ys s) 4) := fun i => by
  by_cases hi : i < 9
  ·have := sX_in h s i (b - s) (by omega)
   rw [base i hi]
   omega
  ·rw [List.getD_eq_getElem?_getD, List.getElem?_eq_none (by omega)]
   simp
 have g1 := glA_get l0 l1 l2 l3 l4 l5 big0 (by omega)
 have lg1 : (glA 0 S.l2.toNat S.l4.toNat S.l0 S.l1 S.l3 (lesTo (mTo ys b) (mTo ys s) 4)).length = 9 := by rw [glA_len]; exact l0
 have big1 : Big 5369782856823 (glA 0 S.l2.toNat S.l4.toNat S.l0 S.l1 S.l3 (lesTo (mTo ys b) (mTo ys s) 4)) := fun i => by
  rw [g1 i]
  have := big0 i
  have h2 := gxv_in l1 l2 l3 l4 l5 i
  unfold fitI at h2
  omega
 have g2 := glA_get lg1 r1 r2 r3 r4 r5 big1 (by omega)
 have hM : ∀ i, i < 9 → (linM S ys a b).getD i 0 = sX ys s i (b - s) + gxv S.l0 S.l1 S.l2 S.l3 S.l4 i + gxv S.r0 S.r1 S.r2 S.r3 S.r4 i := fun i hi => by
  unfold linM
  rw [← hs, g2 i, g1 i, base i hi]
 unfold linH lineX
 rw [← hs]
 by_cases h8 : (ys.getD b It.none).1.k = 8
 ·rw [if_pos h8, if_pos h8, getD_set _ _ _ _ (by rw [linM_len]; omega)]
  by_cases h0 : j = 0
  ·subst h0
   have hw := (h b hb).wd
   have h2 := gxv_in l1 l2 l3 l4 l5 0
   have h3 := gxv_in r1 r2 r3 r4 r5 0
   have h4 := sX_in h s 0 (b - s) (by omega)
   unfold fitI at hw h2 h3
   rw [if_pos rfl, if_pos rfl, hM 0 (by omega), wrap_in (by omega) (by omega)]
  ·rw [if_neg h0, if_neg h0, hM j hj]
   omega
 ·rw [if_neg h8, if_neg h8, hM j hj]
  omega
theorem linX_in {S : Sy} {ys : List It} {N a b : Nat} (hS : syB S = true) (h : ∀ k, k < N → VIn (ys.getD k It.none).1) (hN : N ≤ 5000) (hb : b < N) (hab : a ≤ b) (j : Nat) : -6000000000000 ≤ lineX S ys a b j ∧ lineX S ys a b j ≤ 6000000000000 := by
 obtain ⟨l1, l2, l3, l4, l5⟩ := glB_parts (sy_glues hS).1
 obtain ⟨r1, r2, r3, r4, r5⟩ := glB_parts (sy_glues hS).2
 have h2 := gxv_in l1 l2 l3 l4 l5 j
 have h3 := gxv_in r1 r2 r3 r4 r5 j
 have h4 := sX_in h (begI ys a b) j (b - begI ys a b) (by have := (begI_range ys a b hab).2; omega)
 have hw := (h b hb).wd
 unfold fitI at h2 h3 hw
 unfold lineX
 split
 ·split <;> omega
 ·omega
theorem mea_in {S : Sy} {ys : List It} {N a b : Nat} (hS : syB S = true) (h : ∀ k, k < N → VIn (ys.getD k It.none).1) (hN : N ≤ 5000) (hb : b < N) (hab : a ≤ b) (t : Int) (ht : 0 ≤ t ∧ t ≤ 1073741823) : Shr.MeaIn (linH S ys a b) t := by
 have key : ∀ j, j < 9 → -6000000000000 ≤ (linH S ys a b).getD j 0 ∧ (linH S ys a b).getD j 0 ≤ 6000000000000 := fun j hj => by
  rw [linH_get hS h hN hb hab j hj]
  exact linX_in hS h hN hb hab j
 have k0 := key 0 (by omega)
 have kp : ∀ i, -6000000000000 ≤ (Shr.pl4 (linH S ys a b)).getD i 0 ∧ (Shr.pl4 (linH S ys a b)).getD i 0 ≤ 6000000000000 := fun i => by
  unfold Shr.pl4
  match i with
  | 0 => exact key 1 (by omega)
  | 1 => exact key 2 (by omega)
  | 2 => exact key 3 (by omega)
  | 3 => exact key 4 (by omega)
  | n + 4 => simp
 have km : ∀ i, -6000000000000 ≤ (Shr.mi4 (linH S ys a b)).getD i 0 ∧ (Shr.mi4 (linH S ys a b)).getD i 0 ≤ 6000000000000 := fun i => by
  unfold Shr.mi4
  match i with
  | 0 => exact key 5 (by omega)
  | 1 => exact key 6 (by omega)
  | 2 => exact key 7 (by omega)
  | 3 => exact key 8 (by omega)
  | n + 4 => simp
 have a1 := kp (Shr.top (Shr.pl4 (linH S ys a b)))
 have a2 := km (Shr.top (Shr.mi4 (linH S ys a b)))
 exact ⟨by omega, by omega, by omega, by omega, by omega⟩
-- what a row of a line's own items sums to
def glX (g : Shr.Gl) (j : Nat) : Int := gxv g.s g.p g.po g.m g.mo j
def meaR (s : RS) (j : Nat) : Int := (if j = 0 then s.w else 0) + (s.gs.map (fun g => glX g j)).sum
theorem meaR_step (s : RS) (x : Nd) (j : Nat) : meaR (rowStep s x) j = meaR s j + vx x j := by
 by_cases h3 : x.k = 3
 ·rw [rowStep_3 h3, show vx x j = gxv x.gs x.gp x.gpo x.gm x.gmo j by unfold vx; rw [if_pos h3]]
  show (if j = 0 then s.w else 0) + ((s.gs ++ [glOf x]).map (fun g => glX g j)).sum = (if j = 0 then s.w else 0) + (s.gs.map (fun g => glX g j)).sum + _
  rw [List.map_append, List.sum_append]
  simp only [List.map_cons, List.map_nil, List.sum_cons, List.sum_nil, glX, glOf]
  omega
 ·have hv : vx x j = if solB x = true then (if j = 0 then x.wd else 0) else 0 := by unfold vx; rw [if_neg h3]
  by_cases h1 : tallB x = true
  ·have h2 : solB x = true := by
    unfold tallB at h1
    unfold solB
    simp only [Bool.or_eq_true, beq_iff_eq] at h1 ⊢
    omega
   rw [hv, if_pos h2, show rowStep s x = s.tall x by unfold rowStep; rw [if_pos h1]]
   show (if j = 0 then s.w + x.wd else 0) + (s.gs.map (fun g => glX g j)).sum = (if j = 0 then s.w else 0) + (s.gs.map (fun g => glX g j)).sum + (if j = 0 then x.wd else 0)
   split <;> omega
  ·by_cases h2 : x.k = 2
   ·have h4 : solB x = true := by unfold solB; rw [h2]; rfl
    rw [hv, if_pos h4, rowStep_2 h2]
    show (if j = 0 then s.w + x.wd else 0) + (s.gs.map (fun g => glX g j)).sum = (if j = 0 then s.w else 0) + (s.gs.map (fun g => glX g j)).sum + (if j = 0 then x.wd else 0)
    split <;> omega
   ·have h4 : ¬ solB x = true := by
     unfold tallB at h1
     unfold solB
     simp only [Bool.or_eq_true, beq_iff_eq] at h1 ⊢
     omega
    rw [hv, if_neg h4, show rowStep s x = s by unfold rowStep; rw [if_neg h1, if_neg h2, if_neg h3], Int.add_zero]
theorem meaR_fold (xs : List Nd) (j : Nat) : ∀ (Z : List Nat) (s : RS), meaR (Z.foldl (fun s p => rowStep s (xs.getD p Nd.none)) s) j = meaR s j + (Z.map (fun p => vx (xs.getD p Nd.none) j)).sum
 | [], s => by simp
 | p :: Z, s => by
  rw [List.foldl_cons, meaR_fold xs j Z, meaR_step, List.map_cons, List.sum_cons]
  omega
def bgs (xs : List Nd) : List Nat := starts xs (xs.length + 1) 0
def mL (xs : List Nd) (j : Nat) : Int := ((bgs xs).map (fun p => vx (xs.getD p Nd.none) j)).sum
theorem mL_row (xs : List Nd) (j : Nat) : meaR (rowTo xs (starts xs (xs.length + 1) 0)) j = mL xs j := by
 have h := meaR_fold xs j (bgs xs) RS.nil
 have h0 : meaR RS.nil j = 0 := by unfold meaR RS.nil; simp
 rw [h0, Int.zero_add] at h
 exact h
def okL (a : List Nd) : Prop := okFrom a.length 0 [] a = true
theorem okL_app {a b : List Nd} (ha : okL a) (hb : okL b) : okL (a ++ b) := by
 unfold okL at *
 have h2 := ok_shift (b.length : Int) (a.length : Int) b 0 []
 rw [List.map_nil, Int.zero_add] at h2
 refine ok_app (L := ((a ++ b).length : Int)) (len := (a.length : Int)) b (by rw [List.length_append]; omega) ?_ a 0 [] (by omega) (fun y hy => by simp at hy) List.Pairwise.nil (fun y hy => by simp at hy) ha
 rw [show (((a ++ b).length : Nat) : Int) = (b.length : Int) + (a.length : Int) by rw [List.length_append]; push_cast; omega, h2]
 exact hb
theorem bgs_app {a b : List Nd} (ha : okL a) : bgs (a ++ b) = bgs a ++ (bgs b).map (· + a.length) :=
 starts_app (a := a) (b := b) ((a ++ b).length + 1) 0 (Nat.zero_le _) (by rw [List.drop_zero]; exact ha) (by rw [List.length_append]; omega)
theorem bgs_lt {a : List Nd} {p : Nat} (h : p ∈ bgs a) : p < a.length := starts_lt a _ _ p h
theorem getL {a b : List Nd} {p : Nat} (h : p < a.length) : (a ++ b).getD p Nd.none = a.getD p Nd.none := by
 rw [List.getD_eq_getElem?_getD, List.getElem?_append_left h, ← List.getD_eq_getElem?_getD]
theorem getR {a b : List Nd} (p : Nat) : (a ++ b).getD (p + a.length) Nd.none = b.getD p Nd.none := by
 rw [List.getD_eq_getElem?_getD, List.getElem?_append_right (by omega), Nat.add_sub_cancel, ← List.getD_eq_getElem?_getD]
theorem mL_app {a b : List Nd} (ha : okL a) (j : Nat) : mL (a ++ b) j = mL a j + mL b j := by
 unfold mL
 rw [bgs_app ha, List.map_append, List.sum_append, List.map_map]
 congr 2
 ·exact List.map_congr_left fun p hp => by rw [getL (bgs_lt hp)]
 ·exact List.map_congr_left fun p hp => by show vx ((a ++ b).getD (p + a.length) Nd.none) j = _; rw [getR]
theorem mL_one {b : Nd} {t : List Nd} (hk : b.kids = (t.length : Int)) (j : Nat) : mL (b :: t) j = vx b j := by
 unfold mL bgs
 rw [List.length_cons, starts, if_pos (by rw [List.length_cons]; omega)]
 have e : (b :: t).getD 0 Nd.none = b := rfl
 rw [e, hk, starts, if_neg (by rw [List.length_cons]; omega)]
 simp [e]
def itL (t : List Nd) : Prop := okL t ∧ ∃ b r, t = b :: r ∧ b.kids = (r.length : Int)
theorem items_itL {xs : List Nd} (h : listB xs = true) : ∀ t ∈ itemsOf xs, itL t := fun t ht => by
 unfold itemsOf at ht
 rw [if_pos h, List.mem_map] at ht
 obtain ⟨p, hp, rfl⟩ := ht
 obtain ⟨h1, h2, h3⟩ := (starts_ok (xs := xs) (xs.length + 1) 0 (Nat.zero_le _) (listB_iff.1 h).2 (by omega)).2 p hp
 refine ⟨h2, ?_⟩
 rw [itemAt_drop h1] at h2 h3 ⊢
 refine ⟨_, _, rfl, ?_⟩
 have hk : 0 ≤ (xs.getD p Nd.none).kids := by
  unfold okFrom at h2
  simp only [Bool.and_eq_true] at h2
  have := h2.1.1.1
  unfold goodB at this
  simp only [Bool.and_eq_true, decide_eq_true_eq] at this
  exact this.2
 rw [List.length_cons] at h3
 omega
theorem one_okL {x : Nd} (h : goodB x = true) (hd : deepB x = false) (hk : x.kids = 0) : itL [x] := by
 refine ⟨?_, x, [], rfl, by rw [hk]; rfl⟩
 unfold okL
 simp [okFrom, h, hd, hk]
theorem good_in {x : Nd} (h : goodB x = true) : NdIn x := by
 unfold goodB specB at h
 simp only [Bool.and_eq_true] at h
 obtain ⟨⟨⟨⟨⟨⟨h1, h2⟩, ⟨⟨⟨⟨h3, h4⟩, h5⟩, h6⟩, h7⟩⟩, h8⟩, h9⟩, h10⟩, h11⟩ := h
 exact ⟨of_decide_eq_true h3, of_decide_eq_true h4, of_decide_eq_true h5, of_decide_eq_true h6, h7⟩
theorem good_vin {x : Nd} (h : goodB x = true) : VIn x := by
 unfold goodB specB at h
 simp only [Bool.and_eq_true] at h
 obtain ⟨⟨⟨⟨⟨⟨h1, h2⟩, ⟨⟨⟨⟨h3, h4⟩, h5⟩, h6⟩, h7⟩⟩, h8⟩, h9⟩, h10⟩, h11⟩ := h
 obtain ⟨q1, q2, q3, q4, q5⟩ := glB_parts h7
 have hw : fitI x.wd := by simpa [fitsB, fitI] using h3
 exact ⟨hw, q1, q2, q3, q4.1, q4.2, q5.1, q5.2⟩
theorem good_chr {x : Nd} (h : goodB x = true) (h8 : x.k = 8) : goodB (chrN x) = true := by
 rw [good_hyph h h8]
 unfold goodB specB at h
 simp only [Bool.and_eq_true] at h
 obtain ⟨⟨⟨⟨⟨⟨h1, h2⟩, ⟨⟨⟨⟨h3, h4⟩, h5⟩, h6⟩, h7⟩⟩, h8⟩, ⟨h9, h9b⟩⟩, h10⟩, h11⟩ := h
 unfold goodB specB
 have e : eqNd ⟨1, x.wd, x.ht, x.dp, 0, x.fo, x.ch, 0, 0, 0, 0, 0, 0, ⟨#[]⟩, 0⟩ (Nd.used ⟨1, x.wd, x.ht, x.dp, 0, x.fo, x.ch, 0, 0, 0, 0, 0, 0, ⟨#[]⟩, 0⟩) = true := by rw [eqNd_iff]; rfl
 rw [e]
 simp only [h3, h4, h5, h9, h9b]
 rfl
theorem gap_good {gs gp gpo gm gmo : Int} (h : glB gs gp gpo gm gmo = true) : goodB (gapN gs gp gpo gm gmo) = true := by
 unfold goodB specB gapN
 have h0 : fitsB 0 = true := by decide
 have h2 : uptoB 0 15 = true := by decide
 have h3 : uptoB 0 255 = true := by decide
 have hu : eqNd ⟨3, 0, 0, 0, 0, 0, 0, 0, gs, gp, gpo, gm, gmo, ⟨#[]⟩, 0⟩ (Nd.used ⟨3, 0, 0, 0, 0, 0, 0, 0, gs, gp, gpo, gm, gmo, ⟨#[]⟩, 0⟩) = true := by rw [eqNd_iff]; rfl
 rw [hu]
 simp [h0, h, h2, h3, penB, ByteArray.size]
theorem pen_good {n : Int} (h1 : -10000 ≤ n) (h2 : n ≤ 10000) : goodB (penN n) = true := by
 unfold goodB specB penN
 have h0 : fitsB 0 = true := by decide
 have h3 : uptoB 0 15 = true := by decide
 have h4 : uptoB 0 255 = true := by decide
 have h5 : glB 0 0 0 0 0 = true := by decide
 have hu : eqNd ⟨4, 0, 0, 0, 0, 0, 0, n, 0, 0, 0, 0, 0, ⟨#[]⟩, 0⟩ (Nd.used ⟨4, 0, 0, 0, 0, 0, 0, n, 0, 0, 0, 0, 0, ⟨#[]⟩, 0⟩) = true := by rw [eqNd_iff]; rfl
 rw [hu]
 simp [h0, h1, h2, h3, h4, h5, penB, ByteArray.size]
theorem sy_fill {S : Sy} (h : syB S = true) : glB S.f0 S.f1 S.f2 S.f3 S.f4 = true := by
 unfold syB at h
 simp only [Bool.and_eq_true] at h
 exact h.2
theorem row_itL {xs : List Nd} {S : Sy} (h : listB xs = true) (hS : syB S = true) : ∀ t ∈ rowL xs S, itL t := fun t ht => by
 unfold rowL at ht
 rcases List.mem_append.1 ht with ht | ht
 ·exact items_itL h t (List.mem_of_mem_take ht)
 ·simp only [List.mem_cons, List.not_mem_nil, or_false] at ht
  rcases ht with rfl | rfl | rfl
  ·exact one_okL (pen_good (by omega) (by omega)) rfl rfl
  ·exact one_okL (gap_good (sy_fill hS)) rfl rfl
  ·exact one_okL (pen_good (by omega) (by omega)) rfl rfl
theorem getD_mem {α : Type} {l : List α} {d : α} {k : Nat} (hk : k < l.length) : l.getD k d ∈ l := by
 rw [List.getD_eq_getElem?_getD, List.getElem?_eq_getElem hk]
 exact List.getElem_mem _
theorem okL_good {a : List Nd} (h : okL a) : ∀ x ∈ a, goodB x = true := fun x hx => (ok_all a 0 [] (by omega) (by simp) h x hx).1
theorem row_get {xs : List Nd} {S : Sy} (h : listB xs = true) (hS : syB S = true) {k : Nat} (hk : k < (rowI xs S).length) : okL ((rowL xs S).getD k []) ∧ goodB ((rowI xs S).getD k It.none).1 = true ∧ ∀ j, mL ((rowL xs S).getD k []) j = vx ((rowI xs S).getD k It.none).1 j := by
 have hm : (rowL xs S).getD k [] ∈ rowL xs S := getD_mem (by rw [rowI_len S h]; exact hk)
 obtain ⟨h1, b, r, h2, h3⟩ := row_itL h hS _ hm
 obtain ⟨rest, h4⟩ := row_item S h hk
 have h5 : b = ((rowI xs S).getD k It.none).1 := by rw [h2] at h4; exact (List.cons.inj h4).1
 refine ⟨h1, ?_, fun j => ?_⟩
 ·rw [← h5]
  exact okL_good h1 b (by rw [h2]; exact List.mem_cons_self ..)
 ·rw [h2, mL_one h3, h5]
theorem vx_hyph {x : Nd} (h : x.k = 8) (j : Nat) : vx x j = 0 := by
 unfold vx solB
 rw [h]
 rfl
theorem okL_nil : okL [] := rfl
theorem part_ok {xs : List Nd} {S : Sy} {ys : List It} (h : listB xs = true) (hS : syB S = true) (hy : ys.map Prod.fst = (rowI xs S).map Prod.fst) (s : Nat) : ∀ m, s + m ≤ (rowI xs S).length → okL (partL ys (rowL xs S) s m) ∧ ∀ j, mL (partL ys (rowL xs S) s m) j = sX ys s j m
 | 0, _ => ⟨okL_nil, fun j => by rw [partL_zero]; rfl⟩
 | m + 1, hm => by
  obtain ⟨h1, h2⟩ := part_ok h hS hy s m (by omega)
  obtain ⟨q1, q2, q3⟩ := row_get h hS (k := s + m) (by omega)
  have hf := fst_get hy (s + m)
  rw [partL_succ]
  by_cases h8 : (ys.getD (s + m) It.none).1.k = 8
  ·rw [if_pos h8, List.append_nil]
   refine ⟨h1, fun j => ?_⟩
   rw [h2 j, sX, vx_hyph h8]
   omega
  ·rw [if_neg h8]
   refine ⟨okL_app h1 q1, fun j => ?_⟩
   rw [mL_app h1, h2 j, sX, q3 j, hf]
theorem line_ok {xs : List Nd} {S : Sy} {ys : List It} {a b : Nat} (h : listB xs = true) (hS : syB S = true) (hy : ys.map Prod.fst = (rowI xs S).map Prod.fst) (hb : b < (rowI xs S).length) (hab : a ≤ b) : okL (lineZ S ys (rowL xs S) a b) ∧ ∀ j, mL (lineZ S ys (rowL xs S) a b) j = lineX S ys a b j := by
 have hs := (begI_range ys a b hab).2
 obtain ⟨p1, p2⟩ := part_ok h hS hy (begI ys a b) (b - begI ys a b) (by omega)
 have g1 : itL [gapN S.l0 S.l1 S.l2 S.l3 S.l4] := one_okL (gap_good (sy_glues hS).1) rfl rfl
 have g2 : itL [gapN S.r0 S.r1 S.r2 S.r3 S.r4] := one_okL (gap_good (sy_glues hS).2) rfl rfl
 have m1 : ∀ j, mL [gapN S.l0 S.l1 S.l2 S.l3 S.l4] j = gxv S.l0 S.l1 S.l2 S.l3 S.l4 j := fun j => mL_one (t := []) rfl j
 have m2 : ∀ j, mL [gapN S.r0 S.r1 S.r2 S.r3 S.r4] j = gxv S.r0 S.r1 S.r2 S.r3 S.r4 j := fun j => mL_one (t := []) rfl j
 have hf := fst_get hy b
 obtain ⟨_, q2, _⟩ := row_get h hS hb
 have ht : okL (tailL ys b) ∧ ∀ j, mL (tailL ys b) j = (if (ys.getD b It.none).1.k = 8 then (if j = 0 then (ys.getD b It.none).1.wd else 0) else 0) := by
  unfold tailL
  by_cases h8 : (ys.getD b It.none).1.k = 8
  ·rw [if_pos h8]
   refine ⟨(one_okL (good_chr (by rw [hf]; exact q2) h8) rfl ?_).1, fun j => ?_⟩
   ·have := good_hyph (x := (ys.getD b It.none).1) (by rw [hf]; exact q2) h8
    rw [this]
   ·rw [if_pos h8, mL_one (t := [])]
    ·rfl
    ·have := good_hyph (x := (ys.getD b It.none).1) (by rw [hf]; exact q2) h8
     rw [this]
     rfl
  ·rw [if_neg h8]
   exact ⟨okL_nil, fun j => by rw [if_neg h8]; rfl⟩
 unfold lineZ
 rw [show gapN S.l0 S.l1 S.l2 S.l3 S.l4 :: partL ys (rowL xs S) (begI ys a b) (b - begI ys a b) = [gapN S.l0 S.l1 S.l2 S.l3 S.l4] ++ partL ys (rowL xs S) (begI ys a b) (b - begI ys a b) from rfl]
 have o1 := okL_app g1.1 p1
 have o2 := okL_app o1 ht.1
 refine ⟨okL_app o2 g2.1, fun j => ?_⟩
 rw [mL_app o2, mL_app o1, mL_app g1.1, m1, m2, p2, ht.2]
 unfold lineX
 omega
structure AllOk9 (xs : List Nd) : Prop where
 len : xs.length ≤ 20010
 kids : ∀ i, i < xs.length → 0 ≤ (xs.getD i Nd.none).kids ∧ (i : Int) + 1 + (xs.getD i Nd.none).kids ≤ xs.length
 text : ∀ i, i < xs.length → (xs.getD i Nd.none).tx.size ≤ 1000
theorem allOk9 {xs : List Nd} (h1 : xs.length ≤ 20010) (h2 : okL xs) : AllOk9 xs := by
 have hmem : ∀ i, i < xs.length → xs.getD i Nd.none ∈ xs := fun i hi => getD_mem hi
 have hall := ok_all xs 0 [] (by omega) (by simp) h2
 refine ⟨h1, fun i hi => ⟨good_kids (hall _ (hmem i hi)).1, ?_⟩, fun i hi => good_text (hall _ (hmem i hi)).1⟩
 have := ok_end xs 0 [] (by omega) (by simp) h2 i hi
 omega
theorem AllOk9.weak {xs : List Nd} (h : AllOk9 xs) : ∀ i, i < xs.length → 0 ≤ (xs.getD i Nd.none).kids ∧ (xs.getD i Nd.none).kids ≤ 20010 := fun i hi => by
 have h1 := h.kids i hi
 have h2 := h.len
 omega
theorem row_vin {xs : List Nd} {S : Sy} {ys : List It} (h : listB xs = true) (hS : syB S = true) (hy : ys.map Prod.fst = (rowI xs S).map Prod.fst) : ∀ k, k < ys.length → VIn (ys.getD k It.none).1 := fun k hk => by
 have hl : ys.length = (rowI xs S).length := by simpa using congrArg List.length hy
 rw [fst_get hy k]
 exact good_vin (row_get h hS (by omega)).2.1
theorem line_sums {xs : List Nd} {S : Sy} {ys : List It} {a b : Nat} (h : listB xs = true) (hS : syB S = true) (hy : ys.map Prod.fst = (rowI xs S).map Prod.fst) (hN : ys.length ≤ 5000) (hb : b < ys.length) (hab : a ≤ b) (j : Nat) (hj : j < 9) :
 meaR (rowTo (lineZ S ys (rowL xs S) a b) (starts (lineZ S ys (rowL xs S) a b) ((lineZ S ys (rowL xs S) a b).length + 1) 0)) j = (linH S ys a b).getD j 0 := by
 have hl : ys.length = (rowI xs S).length := by simpa using congrArg List.length hy
 rw [mL_row, (line_ok h hS hy (by omega) hab).2 j, linH_get hS (row_vin h hS hy) hN hb hab j hj]
end Go.Proofs.YtlohbaoigfaneaaGreat
