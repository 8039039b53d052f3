import Derived.Test.YtlohbaoigfaneaaGreatFlo
import Derived.Test.YtlohbaoigfaneaaGreatSln
import Derived.Test.YtlohbaoigfaneaaGreatLnn
import Derived.Test.YtlohbaoigfaneaaGreatLis
namespace Go.Proofs.YtlohbaoigfaneaaGreat
open Go.RowKit
set_option linter.unusedVariables false
set_option linter.unusedSimpArgs false
def tgtI (S : Sy) (k : Int) : Int := if k < S.hg then S.nw else S.wd
set_option maxRecDepth 20000 in
set_option maxHeartbeats 4000000 in
theorem l9Target_any (S : Sy) (k : Int) (w : World) : Calls Tryz.prog 26 #[syV S, .int .i64 k] w fun e w' => e = .returned (.int .i64 (tgtI S k)) ∧ Below w.heap.size w w' := by
 obtain ⟨cs, hcs, hsz, hget⟩ := sy_cells S
 rw [hcs]
 obtain ⟨W0, hW0⟩ : ∃ W0, W0 = w.alloc (.cells cs 35) := ⟨_, rfl⟩
 have hG0 : W0.heap[w.heap.size]? = some (.cells cs 35 (0, 0)) := by rw [hW0]; exact heap_alloc_new w _
 have B0 : Hid (Below w.heap.size w W0) := hideP (by rw [hW0]; exact below1 w _)
 have q0 : W0.cell? ⟨w.heap.size, 0, none⟩ = some (.int .i64 S.wd) := hget W0 w.heap.size 35 hG0 0 (by omega)
 have q1 : W0.cell? ⟨w.heap.size, 1, none⟩ = some (.int .i64 S.nw) := hget W0 w.heap.size 35 hG0 1 (by omega)
 have q2 : W0.cell? ⟨w.heap.size, 2, none⟩ = some (.int .i64 S.hg) := hget W0 w.heap.size 35 hG0 2 (by omega)
 clear hcs hget hG0
 by_cases hk : k < S.hg
 ·have HE : Hid (tgtI S k = S.nw) := hideP (by unfold tgtI; rw [if_pos hk])
  go_enter Tryz.func26, Tryz.ntmps26
  go_upto_region 1 with fail
  rw [← hW0]
  clear hW0
  go_wp2
  go_ret
  exact ⟨by rw [HE.out]; rfl, B0.out⟩
 ·have HE : Hid (tgtI S k = S.wd) := hideP (by unfold tgtI; rw [if_neg hk])
  go_enter Tryz.func26, Tryz.ntmps26
  go_upto_region 1 with fail
  rw [← hW0]
  clear hW0
  go_wp2
  go_ret
  exact ⟨by rw [HE.out]; rfl, B0.out⟩
def demI (S : Sy) (bd pr : Int) (hh : Bool) (c0 c1 : Int) : Int :=
 let d0 := wrap64 (wrap64 (S.ln + bd) * wrap64 (S.ln + bd))
 let d1 := if 0 < pr then wrap64 (d0 + wrap64 (pr * pr)) else if -10000 < pr then wrap64 (d0 - wrap64 (pr * pr)) else d0
 let d2 := if hh = true then wrap64 (d1 + S.du) else d1
 if 1 < wrap64 (c0 - c1) ∨ 1 < wrap64 (c1 - c0) then wrap64 (d2 + S.ad) else d2
def prcI (hy : Int) (x : Nd) : Int := if x.k = 4 then x.nn else if x.k = 8 then hy else 0
set_option maxRecDepth 20000 in
set_option maxHeartbeats 4000000 in
theorem l9Price_any (S : Sy) (x : Nd) (w : World) : Calls Tryz.prog 22 #[.agg x.cells.toArray, syV S] w fun e w' => e = .returned (.int .i64 (prcI S.hy x)) ∧ Below w.heap.size w w' := by
 obtain ⟨cs, hcs, hsz, hget⟩ := sy_cells S
 rw [hcs]
 obtain ⟨ds, hds⟩ : ∃ ds, ds = x.cells.toArray := ⟨_, rfl⟩
 rw [← hds]
 obtain ⟨W0, hW0⟩ : ∃ W0, W0 = (w.alloc (.cells ds 61)).alloc (.cells cs 35) := ⟨_, rfl⟩
 have hG0 : W0.heap[w.heap.size + 1]? = some (.cells cs 35 (0, 0)) := by rw [hW0]; have := heap_alloc_new (w.alloc (.cells ds 61)) (.cells cs 35); simpa using this
 have hG1 : W0.heap[w.heap.size]? = some (.cells ds 61 (0, 0)) := by rw [hW0]; exact (Below.heap_alloc _ _ _ (by simp)).trans (heap_alloc_new w _)
 have B0 : Hid (Below w.heap.size w W0) := hideP (by rw [hW0]; exact ((Below.refl _ _).alloc (Nat.le_refl _) _).alloc (by simp) _)
 have q5 : W0.cell? ⟨w.heap.size + 1, 5, none⟩ = some (.int .i64 S.hy) := hget W0 (w.heap.size + 1) 35 hG0 5 (by omega)
 have k0 : W0.cell? ⟨w.heap.size, 0, none⟩ = some (.int .i64 x.k) := by rw [cell_of_row W0 w.heap.size 0 _ 61 _ hG1, hds]; rfl
 have k7 : W0.cell? ⟨w.heap.size, 7, none⟩ = some (.int .i64 x.nn) := by rw [cell_of_row W0 w.heap.size 7 _ 61 _ hG1, hds]; rfl
 have HP : Hid (prcI S.hy x = if x.k = 4 then x.nn else if x.k = 8 then S.hy else 0) := hideP rfl
 obtain ⟨R, hR⟩ : ∃ R, R = prcI S.hy x := ⟨_, rfl⟩
 rw [← hR] at HP ⊢
 obtain ⟨k, hk⟩ : ∃ k, k = x.k := ⟨_, rfl⟩
 obtain ⟨nn, hnn⟩ : ∃ k, k = x.nn := ⟨_, rfl⟩
 rw [← hk] at k0 HP
 rw [← hnn] at k7 HP
 clear hcs hget hG0 hG1 hds hR hk hnn
 by_cases h4 : k = 4
 ·have HE : Hid (R = nn) := hideP (by rw [HP.out, if_pos h4])
  clear HP
  subst h4
  go_enter Tryz.func22, Tryz.ntmps22
  go_upto_region 1 with fail
  rw [← hW0]
  clear hW0
  go_wp2
  go_ret
  exact ⟨by rw [HE.out]; rfl, B0.out⟩
 ·by_cases h8 : k = 8
  ·have HE : Hid (R = S.hy) := hideP (by rw [HP.out, if_neg h4, if_pos h8])
   clear HP
   subst h8
   go_enter Tryz.func22, Tryz.ntmps22
   go_upto_region 1 with fail
   rw [← hW0]
   clear hW0
   go_wp2
   go_ret
   exact ⟨by rw [HE.out]; rfl, B0.out⟩
  ·have HE : Hid (R = 0) := hideP (by rw [HP.out, if_neg h4, if_neg h8])
   clear HP
   have h4b : (k == 4) = false := by simpa using h4
   have h8b : (k == 8) = false := by simpa using h8
   go_enter Tryz.func22, Tryz.ntmps22
   go_upto_region 1 with fail
   rw [← hW0]
   clear hW0
   go_wp2
   go_ret
   exact ⟨by rw [HE.out]; rfl, B0.out⟩
set_option maxRecDepth 20000 in
set_option maxHeartbeats 8000000 in
theorem l9Dem_any (S : Sy) (bd pr c0 c1 : Int) (hh : Bool) (w : World) : Calls Tryz.prog 63 #[syV S, .int .i64 bd, .int .i64 pr, .bool hh, .int .i64 c0, .int .i64 c1] w fun e w' => e = .returned (.int .i64 (demI S bd pr hh c0 c1)) ∧ Below w.heap.size w w' := by
 obtain ⟨cs, hcs, hsz, hget⟩ := sy_cells S
 rw [hcs]
 obtain ⟨W0, hW0⟩ : ∃ W0, W0 = w.alloc (.cells cs 35) := ⟨_, rfl⟩
 have hG0 : W0.heap[w.heap.size]? = some (.cells cs 35 (0, 0)) := by rw [hW0]; exact heap_alloc_new w _
 have B0 : Hid (Below w.heap.size w W0) := hideP (by rw [hW0]; exact below1 w _)
 have q4 : W0.cell? ⟨w.heap.size, 4, none⟩ = some (.int .i64 S.ln) := hget W0 w.heap.size 35 hG0 4 (by omega)
 have q6 : W0.cell? ⟨w.heap.size, 6, none⟩ = some (.int .i64 S.du) := hget W0 w.heap.size 35 hG0 6 (by omega)
 have q7 : W0.cell? ⟨w.heap.size, 7, none⟩ = some (.int .i64 S.ad) := hget W0 w.heap.size 35 hG0 7 (by omega)
 clear hcs hget hG0
 have HE : Hid (demI S bd pr hh c0 c1 = let d0 := wrap64 (wrap64 (S.ln + bd) * wrap64 (S.ln + bd)); let d1 := if 0 < pr then wrap64 (d0 + wrap64 (pr * pr)) else if -10000 < pr then wrap64 (d0 - wrap64 (pr * pr)) else d0; let d2 := if hh = true then wrap64 (d1 + S.du) else d1; if 1 < wrap64 (c0 - c1) ∨ 1 < wrap64 (c1 - c0) then wrap64 (d2 + S.ad) else d2) := hideP rfl
 obtain ⟨R, hR⟩ : ∃ R, R = demI S bd pr hh c0 c1 := ⟨_, rfl⟩
 rw [← hR] at HE ⊢
 clear hR
 have go1 : ∀ (x1 x2 : Bool), (decide (0 < pr) = x1) → (decide (-10000 < pr) = x2) → ∀ (y1 y2 : Bool), decide (1 < wrap64 (c0 - c1)) = y1 → decide (1 < wrap64 (c1 - c0)) = y2 → R = (let d0 := wrap64 (wrap64 (S.ln + bd) * wrap64 (S.ln + bd)); let d1 := if x1 = true then wrap64 (d0 + wrap64 (pr * pr)) else if x2 = true then wrap64 (d0 - wrap64 (pr * pr)) else d0; let d2 := if hh = true then wrap64 (d1 + S.du) else d1; if y1 = true ∨ y2 = true then wrap64 (d2 + S.ad) else d2) := by
  intro x1 x2 hx1 hx2 y1 y2 hy1 hy2
  subst hx1 hx2 hy1 hy2
  rw [HE.out]
  simp only [decide_eq_true_eq]
 have GO := hideP go1
 clear go1 HE
 obtain ⟨e1, he1⟩ : ∃ e, e = wrap64 (c0 - c1) := ⟨_, rfl⟩
 obtain ⟨e2, he2⟩ : ∃ e, e = wrap64 (c1 - c0) := ⟨_, rfl⟩
 rw [← he1, ← he2] at GO
 have w1 : wrap64 (c0 - c1) = e1 := he1.symm
 have w2 : wrap64 (c1 - c0) = e2 := he2.symm
 clear he1 he2
 have P : (0 < pr ∧ -10000 < pr) ∨ (¬ 0 < pr ∧ -10000 < pr) ∨ (¬ 0 < pr ∧ ¬ -10000 < pr) := by omega
 have Q : (1 < e1 ∧ 1 < e2) ∨ (1 < e1 ∧ ¬ 1 < e2) ∨ (¬ 1 < e1 ∧ 1 < e2) ∨ (¬ 1 < e1 ∧ ¬ 1 < e2) := by omega
 rcases P with ⟨p1, p2⟩ | ⟨p1, p2⟩ | ⟨p1, p2⟩ <;> rcases Q with ⟨u1, u2⟩ | ⟨u1, u2⟩ | ⟨u1, u2⟩ | ⟨u1, u2⟩ <;> cases hh
 all_goals
  have HR := hideP (GO.out _ _ rfl rfl _ _ rfl rfl)
  clear GO
  simp only [p1, p2, u1, u2, decide_true, decide_false, if_true, if_false, or_true, true_or, or_false, Bool.false_eq_true] at HR
  go_enter Tryz.func63, Tryz.ntmps63
  go_upto_region 1 with fail
  rw [← hW0]
  clear hW0
  go_wp2
  go_ret
  exact ⟨by rw [HR.out]; rfl, B0.out⟩
theorem mTo_fst {ys zs : List It} (h : ∀ i, (ys.getD i It.none).1 = (zs.getD i It.none).1) : ∀ i, mTo ys i = mTo zs i
 | 0 => rfl
 | i + 1 => by rw [mTo, mTo, h i, mTo_fst h i]
theorem linH_fst {ys zs : List It} (h : ys.map Prod.fst = zs.map Prod.fst) (S : Sy) (a b : Nat) : linH S ys a b = linH S zs a b := by
 have hg := fst_get h
 unfold linH linM
 rw [show begI ys a b = begI zs a b from begF_fst hg _ _, mTo_fst hg, mTo_fst hg, hg b]
def lbI (S : Sy) (ys : List It) (f t : Int) (i : Nat) : Int := fB (linH S ys (f + 1).toNat t.toNat) (tgtI S (i : Int))
def lcI (S : Sy) (ys : List It) (f t : Int) (i : Nat) : Int := fC (linH S ys (f + 1).toNat t.toNat) (tgtI S (i : Int))
def hyI (ys : List It) (f : Int) : Bool := decide (0 ≤ f) && ((ys.getD f.toNat It.none).1.k == 8)
def prT (S : Sy) (ys : List It) (t : Int) : Int := prcI S.hy (ys.getD t.toNat It.none).1
def okI (S : Sy) (ys : List It) (B : List Int) (f t : Int) : Bool := decide (f < t) && decide (t ∈ B) && !(B.any (fun k => decide (f < k) && decide (k < t) && (prT S ys k == -10000)))
def nxD (S : Sy) (ys : List It) (f t : Int) (i : Nat) (c d : Int) : Int := wrap64 (d + demI S (lbI S ys f t i) (prT S ys t) (hyI ys f && hyI ys t) (lcI S ys f t i) c)
def demL (S : Sy) (ys : List It) (B : List Int) : List Int → Int → Nat → Int → Int → Option (Int × Int)
 | [], f, _, _, d => some (f, d)
 | t :: bs, f, i, c, d => if okI S ys B f t = true then demL S ys B bs t (i + 1) (lcI S ys f t i) (nxD S ys f t i c d) else none
def demR (S : Sy) (ys : List It) (B bs : List Int) : Int × Bool :=
 match demL S ys B bs (-1) 0 2 0 with
 | some (f, d) => if B ≠ [] ∧ f = B.getLastD 0 then (d, true) else (0, false)
 | none => (0, false)
theorem demL_ok {S : Sy} {ys : List It} {B : List Int} {t f : Int} {bs : List Int} {i : Nat} {c d : Int} (h : okI S ys B f t = true) : demL S ys B (t :: bs) f i c d = demL S ys B bs t (i + 1) (lcI S ys f t i) (nxD S ys f t i c d) := by
 rw [demL, if_pos h]
theorem demL_no {S : Sy} {ys : List It} {B : List Int} {t f : Int} {bs : List Int} {i : Nat} {c d : Int} (h : okI S ys B f t = false) : demL S ys B (t :: bs) f i c d = none := by
 rw [demL, if_neg (by rw [h]; decide)]
theorem okI_iff {S : Sy} {ys : List It} {B : List Int} {f t : Int} : okI S ys B f t = true ↔ f < t ∧ t ∈ B ∧ ∀ k ∈ B, f < k → k < t → prT S ys k ≠ -10000 := by
 unfold okI
 simp only [Bool.and_eq_true, decide_eq_true_eq, Bool.not_eq_true', List.any_eq_false, beq_iff_eq, not_and]
 constructor
 ·rintro ⟨⟨h1, h2⟩, h3⟩
  exact ⟨h1, h2, fun k hk a b => h3 k hk ⟨a, b⟩⟩
 ·rintro ⟨h1, h2, h3⟩
  exact ⟨⟨h1, h2⟩, fun k hk a => h3 k hk a.1 a.2⟩
theorem demL_sorted {S : Sy} {ys : List It} {B : List Int} : ∀ {bs : List Int} {f : Int} {i : Nat} {c d g e : Int}, demL S ys B bs f i c d = some (g, e) → (f :: bs).Pairwise (· < ·) ∧ (∀ t ∈ bs, t ∈ B) ∧ g = bs.getLastD f
 | [], f, i, c, d, g, e, h => by
  simp only [demL, Option.some.injEq, Prod.mk.injEq] at h
  exact ⟨by simp, by simp, h.1.symm⟩
 | t :: bs, f, i, c, d, g, e, h => by
  by_cases ho : okI S ys B f t = true
  ·rw [demL_ok ho] at h
   obtain ⟨h1, h2, h3⟩ := demL_sorted h
   obtain ⟨q1, q2, _⟩ := okI_iff.1 ho
   refine ⟨?_, ?_, ?_⟩
   ·rw [List.pairwise_cons]
    refine ⟨fun a ha => ?_, h1⟩
    rcases List.mem_cons.1 ha with rfl | ha
    ·exact q1
    ·exact Int.lt_trans q1 ((List.pairwise_cons.1 h1).1 a ha)
   ·intro a ha
    rcases List.mem_cons.1 ha with rfl | ha
    ·exact q2
    ·exact h2 a ha
   ·rw [h3]
    cases bs <;> simp [List.getLastD]
  ·rw [demL_no (by simpa using ho)] at h
   cases h
theorem sub_len : ∀ {B bs : List Int}, B.Pairwise (· < ·) → bs.Pairwise (· < ·) → (∀ t ∈ bs, t ∈ B) → bs.length ≤ B.length
 | _, [], _, _, _ => by simp
 | [], t :: bs, _, _, h => by simpa using h t (List.mem_cons_self ..)
 | b :: B, t :: bs, hB, hb, h => by
  obtain ⟨b1, b2⟩ := List.pairwise_cons.1 hB
  obtain ⟨t1, t2⟩ := List.pairwise_cons.1 hb
  rcases List.mem_cons.1 (h t (List.mem_cons_self ..)) with e | e
  ·have := sub_len (B := B) (bs := bs) b2 t2 (fun a ha => by
    rcases List.mem_cons.1 (h a (List.mem_cons_of_mem _ ha)) with e2 | e2
    ·have := t1 a ha; omega
    ·exact e2)
   simp only [List.length_cons]
   omega
  ·have hbt := b1 t e
   have := sub_len (B := B) (bs := t :: bs) b2 hb (fun a ha => by
    rcases List.mem_cons.1 (h a ha) with e2 | e2
    ·rcases List.mem_cons.1 ha with e3 | e3
     ·omega
     ·have := t1 a e3; omega
    ·exact e2)
   simp only [List.length_cons] at this ⊢
   omega
theorem last_mem : ∀ {B : List Int} {d : Int}, B ≠ [] → B.getLastD d ∈ B
 | [], _, h => absurd rfl h
 | [b], _, _ => by simp
 | a :: b :: B, d, _ => by
  have := last_mem (B := b :: B) (d := a) (by simp)
  rw [List.getLastD_cons]
  exact List.mem_cons_of_mem _ this
theorem last_get (B : List Int) (d : Int) (h : B ≠ []) : B.getLastD d = B.getD (B.length - 1) 0 := by
 rw [List.getLastD_eq_getLast?, List.getLast?_eq_getElem?, List.getD_eq_getElem?_getD]
 have : B.length - 1 < B.length := by have := List.length_pos_iff.2 h; omega
 rw [List.getElem?_eq_getElem this]
 rfl
theorem demR_pre {S : Sy} {ys : List It} {B bs : List Int} (hB : ((-1 : Int) :: B).Pairwise (· < ·)) (h : B = [] ∨ bs = [] ∨ B.length < bs.length ∨ bs.getD (bs.length - 1) 0 ≠ B.getD (B.length - 1) 0) : demR S ys B bs = (0, false) := by
 unfold demR
 cases hd : demL S ys B bs (-1) 0 2 0 with
 | none => rfl
 | some p =>
  obtain ⟨g, e⟩ := p
  obtain ⟨h1, h2, h3⟩ := demL_sorted hd
  simp only
  rw [if_neg]
  rintro ⟨hne, hl⟩
  rcases h with h | h | h | h
  ·exact hne h
  ·subst h
   have := (List.pairwise_cons.1 hB).1 _ (last_mem (d := 0) hne)
   simp at h3
   omega
  ·have := sub_len (List.pairwise_cons.1 hB).2 (List.pairwise_cons.1 h1).2 h2
   omega
  ·by_cases hb : bs = []
   ·subst hb
    have := (List.pairwise_cons.1 hB).1 _ (last_mem (d := 0) hne)
    simp at h3
    omega
   ·rw [last_get _ _ hb] at h3
    rw [last_get _ _ hne] at hl
    exact h (by rw [← h3, hl])
theorem demR_none {S : Sy} {ys : List It} {B bs : List Int} (h : demL S ys B bs (-1) 0 2 0 = none) : demR S ys B bs = (0, false) := by
 unfold demR
 rw [h]
theorem demR_some {S : Sy} {ys : List It} {B bs : List Int} {f d : Int} (h : demL S ys B bs (-1) 0 2 0 = some (f, d)) : demR S ys B bs = if B ≠ [] ∧ f = B.getLastD 0 then (d, true) else (0, false) := by
 unfold demR
 rw [h]
theorem drop_get {bs : List Int} {i : Nat} (h : i < bs.length) : bs.drop i = bs.getD i 0 :: bs.drop (i + 1) := by
 rw [List.drop_eq_getElem_cons h, List.getD_eq_getElem?_getD, List.getElem?_eq_getElem h]
 rfl
theorem demL_fst {S : Sy} {ys zs : List It} (h : ys.map Prod.fst = zs.map Prod.fst) (B : List Int) : ∀ (bs : List Int) (f : Int) (i : Nat) (c d : Int), demL S ys B bs f i c d = demL S zs B bs f i c d
 | [], _, _, _, _ => rfl
 | t :: bs, f, i, c, d => by
  have hp : ∀ k, prT S ys k = prT S zs k := fun k => by unfold prT; rw [fst_get h]
  have ho : okI S ys B f t = okI S zs B f t := by
   unfold okI
   congr 3
   exact funext fun k => by rw [hp]
  have hb : lbI S ys f t i = lbI S zs f t i := by unfold lbI; rw [linH_fst h]
  have hc : lcI S ys f t i = lcI S zs f t i := by unfold lcI; rw [linH_fst h]
  have hh : ∀ k, hyI ys k = hyI zs k := fun k => by unfold hyI; rw [fst_get h]
  have hn : nxD S ys f t i c d = nxD S zs f t i c d := by unfold nxD; rw [hb, hc, hh, hh, hp]
  rw [demL, demL, ho, hc, hn, demL_fst h B bs]
theorem demR_fst {S : Sy} {ys zs : List It} (h : ys.map Prod.fst = zs.map Prod.fst) (B bs : List Int) : demR S ys B bs = demR S zs B bs := by
 unfold demR
 rw [demL_fst h]
set_option maxRecDepth 20000 in
set_option maxHeartbeats 4000000 in
theorem l9Hyph_any {w : World} {v : Value} {ys : List It} {N lo : Nat} (f : Int) (h : Heads lo w v ys) (hl : ys.length = N) (hf : f < (N : Int)) (hN : N ≤ 20003) :
 Calls Tryz.prog 64 #[v, .int .i64 f] w fun e w' => e = .returned (.bool (hyI ys f)) ∧ w' = w := by
 obtain ⟨ao, cap, rfl, hc⟩ := h.is
 rw [hl] at hc ⊢
 by_cases h0 : f < 0
 ·have HE : Hid (hyI ys f = false) := hideP (by unfold hyI; rw [decide_eq_false (by omega)]; rfl)
  have h0n : ¬ (f ≥ 0) := by omega
  rw [HE.out]
  clear hc HE
  go_enter Tryz.func64, Tryz.ntmps64
  go_wp2
  go_ret
  exact ⟨rfl, rfl⟩
 ·obtain ⟨a, rfl⟩ : ∃ a : Nat, f = (a : Int) := ⟨f.toNat, by omega⟩
  have ha : a < N := by omega
  have hai : (a : Int) < (N : Int) := by omega
  obtain ⟨b, off, rfl, _, hbl, hcell⟩ := hc (by omega)
  obtain ⟨u, rest, hu, hrow⟩ := hcell a (by omega)
  obtain ⟨x, hx⟩ : ∃ x, x = (ys.getD a It.none).1 := ⟨_, rfl⟩
  rw [← hx] at hrow
  obtain ⟨b2, off2, n2, cap2, rfl, hn2, hb2, hcs⟩ := head_cells hrow
  have HE : Hid (hyI ys (a : Int) = (x.k == 8)) := hideP (by unfold hyI; rw [decide_eq_true (by omega), Bool.true_and, Int.toNat_natCast, ← hx])
  rw [HE.out]
  have hn2i : (0 : Int) < (n2 : Int) := by omega
  obtain ⟨k, wd, ht, dp, sh, fo, ch, nn, gs, gp, gpo, gm, gmo, tx, kids⟩ := x
  simp only [Nd.cells] at hcs
  have n100 : w.cell? ⟨b2, off2, none⟩ = some (.int .i64 k) := hcs 0 (by omega)
  have h0n : (a : Int) ≥ 0 := by omega
  clear hcs hx hcell hc HE h0
  by_cases h8 : k = 8
  ·subst h8
   go_enter Tryz.func64, Tryz.ntmps64
   go_wp2
   go_ret
   exact ⟨rfl, rfl⟩
  ·have h8b : (k == 8) = false := by simpa using h8
   rw [h8b]
   go_enter Tryz.func64, Tryz.ntmps64
   go_wp2
   go_ret
   exact ⟨by simp [h8b], rfl⟩
theorem zero9 {w : World} {T : Nat} (h : w.heap[T]? = some (.cells #[.int .i64 0, .int .i64 0, .int .i64 0, .int .i64 0, .int .i64 0, .int .i64 0, .int .i64 0, .int .i64 0, .int .i64 0] 116 (0, 0))) : ∀ o, o < 9 → w.cell? ⟨T, o, none⟩ = some (.int .i64 0) := fun j hj => by
 rw [cell_of_row w _ j _ 116 _ h]
 rcases (show j = 0 ∨ j = 1 ∨ j = 2 ∨ j = 3 ∨ j = 4 ∨ j = 5 ∨ j = 6 ∨ j = 7 ∨ j = 8 by omega) with rfl | rfl | rfl | rfl | rfl | rfl | rfl | rfl | rfl <;> rfl
def OldW (w W : World) : Prop := w.os = W.os ∧ w.tape = W.tape ∧ w.output = W.output ∧ w.heap.size ≤ W.heap.size ∧ ∀ k, k < w.heap.size → W.heap[k]? = w.heap[k]?
theorem OldW.refl (w : World) : OldW w w := ⟨rfl, rfl, rfl, Nat.le_refl _, fun _ _ => rfl⟩
theorem OldW.bel {w A X : World} (h : OldW w A) (hb : Below A.heap.size A X) : OldW w X := ⟨h.1.trans hb.os.symm, h.2.1.trans hb.tape.symm, h.2.2.1.trans hb.output.symm, Nat.le_trans h.2.2.2.1 hb.size, fun k hk => (hb.block k (Nat.lt_of_lt_of_le hk h.2.2.2.1)).trans (h.2.2.2.2 k hk)⟩
theorem OldW.trans {w A X : World} (h : OldW w A) (g : OldW A X) : OldW w X := ⟨h.1.trans g.1, h.2.1.trans g.2.1, h.2.2.1.trans g.2.2.1, Nat.le_trans h.2.2.2.1 g.2.2.2.1, fun k hk => (g.2.2.2.2 k (Nat.lt_of_lt_of_le hk h.2.2.2.1)).trans (h.2.2.2.2 k hk)⟩
theorem OldW.alloc {w A : World} (h : OldW w A) (o : Obj) : OldW w (A.alloc o) := h.bel (below1 _ _)
theorem OldW.drew {w A : World} (h : OldW w A) : OldW w A.drew := h
theorem OldW.fr {w A X : World} {T : Nat} (h : OldW w A) (hf : Fr T A X) (hT : w.heap.size ≤ T) : OldW w X := ⟨h.1.trans hf.1.symm, h.2.1.trans hf.2.1.symm, h.2.2.1.trans hf.2.2.1.symm, Nat.le_trans h.2.2.2.1 hf.2.2.2.1, fun k hk => (hf.2.2.2.2 k (Nat.lt_of_lt_of_le hk h.2.2.2.1) (by omega)).trans (h.2.2.2.2 k hk)⟩
theorem OldW.set {w A : World} (h : OldW w A) {T : Nat} (hT : w.heap.size ≤ T) (o : Nat) (v : Value) : OldW w (A.setCell ⟨T, o, none⟩ v) := h.fr ((Fr.refl T A).set _ _) hT
theorem OldW.toB {w A : World} (h : OldW w A) : Below w.heap.size w A := ⟨h.1.symm, h.2.1.symm, h.2.2.1.symm, h.2.2.2.1, fun k hk => h.2.2.2.2 k hk⟩
theorem build_fl (a b c d : Int) (W : World) : (Instr.build 96 #[(0, .agg #[.int .i64 a, .int .i64 b]), (1, .agg #[.int .i64 c, .int .i64 d])]).run Tryz.prog W = .ok (.agg #[.int .i64 a, .int .i64 b, .int .i64 c, .int .i64 d]) W := by kernel_rfl
theorem build_flop {e : Act} {oi : Oper} {p q : Operand} {a b c d : Int} (ho : oi.op = Op.build 96 #[(0, p), (1, q)]) (hp : e.eval p = .agg #[.int .i64 a, .int .i64 b]) (hq : e.eval q = .agg #[.int .i64 c, .int .i64 d]) (W : World) : (execOp e.eval oi).run Tryz.prog W = .ok (.value (.agg #[.int .i64 a, .int .i64 b, .int .i64 c, .int .i64 d])) W := by
 unfold execOp
 simp only [ho, List.map_toArray, List.map_cons, List.map_nil, hp, hq, Sem.run_bind, build_fl, Result.andThen_ok, Sem.run_pure]
end Go.Proofs.YtlohbaoigfaneaaGreat
