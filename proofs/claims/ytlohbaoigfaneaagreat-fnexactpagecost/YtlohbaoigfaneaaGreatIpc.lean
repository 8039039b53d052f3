import Derived.Test.YtlohbaoigfaneaaGreatTrl
import Derived.Test.YtlohbaoigfaneaaGreatTrn
import Derived.Test.YtlohbaoigfaneaaGreatItv
import Derived.Test.YtlohbaoigfaneaaGreatPft
import Derived.Test.YtlohbaoigfaneaaGreatScx
import Derived.Test.YtlohbaoigfaneaaGreatPay
import Derived.Test.YtlohbaoigfaneaaGreatTrk
namespace Go.Proofs.YtlohbaoigfaneaaGreat
open Go.RowKit
set_option linter.unusedVariables false
set_option linter.unusedSimpArgs false
set_option maxRecDepth 20000 in
set_option maxHeartbeats 4000000 in
theorem endsX_any {w : World} {C N uc base : Nat} {ua : Option Addr} {ys : List It} (a b : Int) (hC : w.cell? ⟨C, 9, none⟩ = some (.slice ua N uc)) (hr : w.ownsRow base 186 3 (.slice ua N uc) N (flatI ys)) (hl : ys.length = N) (hN : N ≤ 20000) :
 Calls Tryz.prog 44 #[.pointer (some ⟨C, 0, none⟩), .int .i64 a, .int .i64 b] w fun e w' => e = .returned (.bool (endsB ys a b)) ∧ Below w.heap.size w w' := by
 have hCl : C < w.heap.size := World.block_lt_of_cell? w _ hC
 by_cases h0 : a < 0
 ·have HE : Hid (endsB ys a b = false) := hideP (by unfold endsB; rw [decide_eq_false (by omega)]; rfl)
  rw [HE.out]
  clear hr HE
  go_enter Tryz.func44, Tryz.ntmps44
  go_wp2
  go_ret
  exact ⟨rfl, Below.refl _ _⟩
 ·have h0b : decide (a < 0) = false := decide_eq_false h0
  by_cases h1 : b < a
  ·have HE : Hid (endsB ys a b = false) := hideP (by unfold endsB; rw [decide_eq_false (by omega)]; rfl)
   rw [HE.out]
   clear hr HE
   go_enter Tryz.func44, Tryz.ntmps44
   go_wp2
   go_ret
   exact ⟨rfl, Below.refl _ _⟩
  ·have h1b : decide (b < a) = false := decide_eq_false h1
   by_cases h2 : (N : Int) < b
   ·have HE : Hid (endsB ys a b = false) := hideP (by unfold endsB; rw [decide_eq_false (by omega)]; rfl)
    rw [HE.out]
    clear hr HE
    go_enter Tryz.func44, Tryz.ntmps44
    go_wp2
    go_ret
    exact ⟨rfl, Below.refl _ _⟩
   ·have h2b : decide ((N : Int) < b) = false := decide_eq_false h2
    obtain ⟨bn, rfl⟩ : ∃ bn : Nat, b = (bn : Int) := ⟨b.toNat, by omega⟩
    have HE : Hid (endsB ys a (bn : Int) = pbB ys bn) := hideP (by unfold endsB; rw [decide_eq_true (by omega), Bool.true_and, Int.toNat_natCast])
    rw [HE.out]
    have BC : Hid (Calls Tryz.prog 91 #[.pointer (some ⟨C, 0, none⟩), .int .i64 (bn : Int)] w fun e w' => e = .returned (.tuple #[.int .i64 (ppI ys bn), .bool (pbB ys bn)]) ∧ Below w.heap.size w w') := hideP (brkX_any bn hC hr hl (by omega) hN)
    clear hr HE
    go_enter Tryz.func44, Tryz.ntmps44
    go_wp2_with fail
    refine BC.out.mono ?_
    rintro e w2 ⟨rfl, hb2⟩
    have B2 := hideP hb2
    clear hb2
    go_wp2
    go_ret
    exact ⟨rfl, B2.out⟩
def gapS (S : Sh) : Nd := gapN S.g0 S.g1 S.g2 S.g3 S.g4
def zsI (xs : List Nd) (a b : Nat) : List It := ((its xs).drop (begI (its xs) a b)).take (b - begI (its xs) a b)
def pageI (xs : List Nd) (S : Sh) (a b : Nat) : Int := costP S (badP S (wS xs (gapS S) (zsI xs a b)).1 (wS xs (gapS S) (zsI xs a b)).2) (nS (zsI xs a b)) (ppI (its xs) b)
def pcI (xs : List Nd) (S : Sh) (f t : Int) : Int := if fitB xs S f t = true then pageI xs S f.toNat t.toNat else 1000000000
theorem xs_pin {xs : List Nd} (h : listB xs = true) : ∀ x ∈ xs, PIn x := fun x hx => good_pin (okL_good (okL_of h) x hx)
theorem its_mem {xs : List Nd} {t : It} (h : t ∈ its xs) : t.1 ∈ xs := by
 unfold its at h
 rw [List.mem_map] at h
 obtain ⟨p, hp, rfl⟩ := h
 have h1 := starts_lt xs _ _ p hp
 show xs.getD p Nd.none ∈ xs
 exact getD_mem h1
theorem zs_pin {xs : List Nd} (h : listB xs = true) (a b : Nat) : ∀ t ∈ zsI xs a b, PIn t.1 := fun t ht => xs_pin h _ (its_mem (List.mem_of_mem_drop (List.mem_of_mem_take ht)))
theorem zs_few {xs : List Nd} (a b : Nat) (h : (its xs).length ≤ 4000) : (zsI xs a b).length ≤ 4000 := by
 unfold zsI
 rw [List.length_take, List.length_drop]
 omega
theorem gap_pin {S : Sh} (h : shB S = true) : PIn (gapS S) := by
 have h1 : glB S.g0 S.g1 S.g2 S.g3 S.g4 = true := by
  unfold shB at h
  simp only [Bool.and_eq_true] at h
  exact h.2
 obtain ⟨q1, q2, q3, q4, q5⟩ := glB_parts h1
 have h0 : fitI 0 := by unfold fitI; omega
 exact ⟨h0, h0, h0, q1, q2, q3, q4, q5⟩
theorem segB_few {xs : List Nd} (h : listB xs = true) (a b : Nat) : ((zsI xs a b).flatMap (segB xs)).length ≤ 20000 := by
 have := page_len (allOk h) (begI (its xs) a b) (b - begI (its xs) a b)
 unfold zsI
 omega
theorem wS_in {xs : List Nd} {S : Sh} {a b : Nat} (h : listB xs = true) (hS : shB S = true) (hN : (its xs).length ≤ 4000) : Big 60000000000000 (wS xs (gapS S) (zsI xs a b)).1 ∧ fitI (wS xs (gapS S) (zsI xs a b)).2 := by
 have hzl := zs_few a b hN
 obtain ⟨a1, a2, _⟩ := aS_all _ (zsI xs a b) rfl (zs_pin h a b) hzl
 unfold wS
 split
 ·obtain ⟨g1, g2⟩ := pAdd_big (gap_pin hS) (aS_len _) a1 a2 (by omega)
  have hns := segB_few h a b
  have hcnt := starts_count (xs := (zsI xs a b).flatMap (segB xs)) (((zsI xs a b).flatMap (segB xs)).length + 1) 0
  obtain ⟨i1, i2, _⟩ := nF_all (ns := (zsI xs a b).flatMap (segB xs)) (fun p hp => xs_pin h _ (segB_mem (getD_mem hp))) (starts ((zsI xs a b).flatMap (segB xs)) (((zsI xs a b).flatMap (segB xs)).length + 1) 0) _ _ (fun p hp => starts_lt _ _ _ p hp) (by rw [pAdd_len]; exact aS_len _) g1 g2 (by omega)
  exact ⟨fun j => by have := i1 j; omega, i2⟩
 ·exact ⟨fun j => by have := a1 j; omega, a2⟩
theorem load_sh {e : Act} {oi : Oper} {p : Operand} {G : Nat} {S : Sh} (ho : oi.op = Op.load 45 p) (hp : e.eval p = .pointer (some ⟨G, 0, none⟩)) (W : World) (h : W.heap[G]? = some (.cells #[.int .i64 S.ht, .int .i64 S.dp, .int .i64 S.g0, .int .i64 S.g1, .int .i64 S.g2, .int .i64 S.g3, .int .i64 S.g4, .int .i64 S.nt] 45 (0, 0))) : (execOp e.eval oi).run Tryz.prog W = .ok (.value (shV S)) W := by
 have hr : (loadVar 45 ⟨G, 0, none⟩).run Tryz.prog W = .ok (shV S) W := run_loadVar_row _ _ 45 45 _ (0, 0) _ h Tryz.underlying45 rfl (by kernel_rfl)
 unfold execOp
 simp only [ho, hp, Instr.loadAt, Instr.sureAddr, Sem.run_bind, Sem.run_pure, Result.andThen_ok, hr]
set_option maxRecDepth 20000 in
set_option maxHeartbeats 8000000 in
theorem specPC_any {v : Value} {xs : List Nd} {w : World} (S : Sh) (f t : Int) (h : NRow 0 w v xs) (hs : xs.length ≤ 1048576) (hcp : ∀ a n c, v = .slice a n c → n ≤ c ∧ c ≤ 9223372036854775807) :
 Calls Tryz.prog 14 #[v, shV S, .int .i64 f, .int .i64 t] w fun e w' => e = .returned (.int .i64 (pcI xs S f t)) ∧ Below w.heap.size w w' := by
 have FC : Hid (∀ W, Below w.heap.size w W → Calls Tryz.prog 39 #[v, shV S, .int .i64 f, .int .i64 t] W fun e W' => (fitB xs S f t = false → ∃ u, e = .returned (.tuple #[u, .bool false])) ∧ (fitB xs S f t = true → ∃ u, e = .returned (.tuple #[u, .bool true]) ∧ HR W.heap.size W' u xs) ∧ Below W.heap.size W W') := hideP (fun W hW => specPFits_any S f t (SRow.below ndStable h hW) hs hcp)
 obtain ⟨va, vn, vc, rfl, _⟩ := h
 obtain ⟨R, hR⟩ : ∃ R, R = pcI xs S f t := ⟨_, rfl⟩
 rw [← hR]
 have HR0 := hideP hR
 clear hR hs hcp
 have HSV : Hid (shV S = .agg #[.int .i64 S.ht, .int .i64 S.dp, .int .i64 S.g0, .int .i64 S.g1, .int .i64 S.g2, .int .i64 S.g3, .int .i64 S.g4, .int .i64 S.nt]) := hideP rfl
 go_enter Tryz.func14, Tryz.ntmps14
 go_upto_region 1 with fail
 obtain ⟨W0, hW0⟩ : ∃ X, X = w.alloc (.cells #[.int .i64 S.ht, .int .i64 S.dp, .int .i64 S.g0, .int .i64 S.g1, .int .i64 S.g2, .int .i64 S.g3, .int .i64 S.g4, .int .i64 S.nt] 45) := ⟨_, rfl⟩
 have B0 : Hid (Below w.heap.size w W0) := hideP (by rw [hW0]; exact below1 _ _)
 have E0 : Hid (W0.heap[w.heap.size]? = some (.cells #[.int .i64 S.ht, .int .i64 S.dp, .int .i64 S.g0, .int .i64 S.g1, .int .i64 S.g2, .int .i64 S.g3, .int .i64 S.g4, .int .i64 S.nt] 45 (0, 0))) := hideP (by rw [hW0]; exact heap_alloc_new w _)
 have hz0 : w.heap.size < W0.heap.size := by rw [hW0]; simp
 rw [← hW0]
 clear hW0
 go_wp2_with (refine wpList_load_row rfl 45 _ rfl w.heap.size rfl _ 45 (0, 0) E0.out _ Tryz.underlying45 rfl (by kernel_rfl) ?_)
 refine (FC.out W0 B0.out).mono ?_
 rintro e w1 ⟨h0, h1, hb1⟩
 have B1 : Hid (Below w.heap.size w w1) := hideP (below_more B0.out hb1 B0.out.size)
 cases hfit : fitB xs S f t with
 | false =>
  obtain ⟨u, rfl⟩ := h0 hfit
  have HE : Hid (R = 1000000000) := hideP (by rw [HR0.out]; unfold pcI; rw [if_neg (by rw [hfit]; decide)])
  clear h0 h1 hb1 FC hfit
  go_wp2
  go_ret
  exact ⟨by rw [HE.out]; rfl, B1.out⟩
 | true =>
  obtain ⟨u, rfl, hHR⟩ := h1 hfit
  have E1 : Hid (w1.heap[w.heap.size]? = some (.cells #[.int .i64 S.ht, .int .i64 S.dp, .int .i64 S.g0, .int .i64 S.g1, .int .i64 S.g2, .int .i64 S.g3, .int .i64 S.g4, .int .i64 S.nt] 45 (0, 0))) := hideP ((hb1.block _ hz0).trans E0.out)
  have hz1 : w.heap.size < w1.heap.size := Nat.lt_of_lt_of_le hz0 hb1.size
  have OFX : Hid (∀ X, Below w1.heap.size w1 X → X.heap[w.heap.size]? = some (.cells #[.int .i64 S.ht, .int .i64 S.dp, .int .i64 S.g0, .int .i64 S.g1, .int .i64 S.g2, .int .i64 S.g3, .int .i64 S.g4, .int .i64 S.nt] 45 (0, 0))) := hideP (fun X hX => (hX.block _ hz1).trans E1.out)
  have hf := hfit
  unfold fitB endsB at hf
  simp only [Bool.and_eq_true, decide_eq_true_eq] at hf
  obtain ⟨⟨⟨hob, hfew⟩, hsh⟩, ⟨hf0, hft, htN⟩, hpb⟩ := hf
  obtain ⟨a, rfl⟩ : ∃ a : Nat, f = (a : Int) := ⟨f.toNat, by omega⟩
  obtain ⟨b, rfl⟩ : ∃ b : Nat, t = (b : Int) := ⟨t.toNat, by omega⟩
  have hab : a ≤ b := by omega
  obtain ⟨N, hN⟩ : ∃ N, N = (its xs).length := ⟨_, rfl⟩
  have hbN : b ≤ N := by omega
  have hgl : glB S.g0 S.g1 S.g2 S.g3 S.g4 = true := by
   have h9 := hsh
   unfold shB at h9
   simp only [Bool.and_eq_true] at h9
   exact h9.2
  have hht : 0 ≤ S.ht ∧ S.ht ≤ 1073741823 := by
   have h9 := hsh
   unfold shB uptoB at h9
   simp only [Bool.and_eq_true, decide_eq_true_eq] at h9
   omega
  have hdp : 0 ≤ S.dp ∧ S.dp ≤ 1073741823 := by
   have h9 := hsh
   unfold shB uptoB at h9
   simp only [Bool.and_eq_true, decide_eq_true_eq] at h9
   omega
  have HRX : Hid (∀ X, Below w1.heap.size w1 X → HR W0.heap.size X u xs) := hideP (fun X hX => hHR.abv ⟨hX.size, fun b _ hb => hX.block b hb⟩)
  obtain ⟨Z, hZ⟩ : ∃ Z, Z = wS xs (gapS S) (zsI xs a b) := ⟨_, rfl⟩
  obtain ⟨nb, hnb⟩ : ∃ Z, Z = noteB (zsI xs a b) := ⟨_, rfl⟩
  obtain ⟨nt, hnt⟩ : ∃ Z, Z = nS (zsI xs a b) := ⟨_, rfl⟩
  obtain ⟨pp, hpp⟩ : ∃ Z, Z = ppI (its xs) b := ⟨_, rfl⟩
  have HRE : Hid (R = costP S (badP S Z.1 Z.2) nt pp) := hideP (by rw [HR0.out]; unfold pcI; rw [if_pos hfit, hZ, hnt, hpp, Int.toNat_natCast, Int.toNat_natCast]; rfl)
  have SC : Hid (∀ X, Below w1.heap.size w1 X → Calls Tryz.prog 41 #[u, shV S, .int .i64 (a : Int), .int .i64 (b : Int)] X fun e w' => (∃ P M, e = .returned (.agg #[.int .i64 (Z.1.getD 0 0), .slice (some ⟨P, 0, none⟩) 4 4, .slice (some ⟨M, 0, none⟩) 4 4, .int .i64 Z.2, .bool nb, .int .i64 nt]) ∧ IntsL w' P 2 (Shr.pl4 Z.1) ∧ IntsL w' M 2 (Shr.mi4 Z.1)) ∧ Below X.heap.size X w') := hideP (fun X hX => by
   rw [hZ, hnb, hnt]
   exact l10Sums_any S a b (HRX.out X hX) hob hN.symm hab hbN (by omega) hgl _ rfl)
  have PR : Hid (∀ X, Below w1.heap.size w1 X → Calls Tryz.prog 42 #[u, .int .i64 (b : Int)] X fun e w' => e = .returned (.int .i64 pp) ∧ w' = X) := hideP (fun X hX => by rw [hpp]; exact l10Price_any b (HRX.out X hX).hd hN.symm hbN (by omega))
  have CC : Hid (∀ X P M, IntsL X P 2 (Shr.pl4 Z.1) → IntsL X M 2 (Shr.mi4 Z.1) → Calls Tryz.prog 40 #[.agg #[.int .i64 (Z.1.getD 0 0), .slice (some ⟨P, 0, none⟩) 4 4, .slice (some ⟨M, 0, none⟩) 4 4, .int .i64 Z.2, .bool nb, .int .i64 nt], shV S, .int .i64 pp] X fun e w' => e = .returned (.int .i64 (costP S (badP S Z.1 Z.2) nt pp)) ∧ Below X.heap.size X w') := hideP (fun X P M hP hM => by
   obtain ⟨g1, g2⟩ := wS_in (a := a) (b := b) hob hsh (by omega)
   rw [← hZ] at g1 g2
   have k0 := g1 0
   have kp : ∀ i, (Shr.pl4 Z.1).getD i 0 ≤ 9223372036854775807 := fun i => by
    unfold Shr.pl4
    have q1 := g1 1; have q2 := g1 2; have q3 := g1 3; have q4 := g1 4
    match i with
    | 0 => show Z.1.getD 1 0 ≤ _; omega
    | 1 => show Z.1.getD 2 0 ≤ _; omega
    | 2 => show Z.1.getD 3 0 ≤ _; omega
    | 3 => show Z.1.getD 4 0 ≤ _; omega
    | i + 4 => show (0 : Int) ≤ _; omega
   have km : ∀ i, (Shr.mi4 Z.1).getD i 0 ≤ 9223372036854775807 := fun i => by
    unfold Shr.mi4
    have q1 := g1 5; have q2 := g1 6; have q3 := g1 7; have q4 := g1 8
    match i with
    | 0 => show Z.1.getD 5 0 ≤ _; omega
    | 1 => show Z.1.getD 6 0 ≤ _; omega
    | 2 => show Z.1.getD 7 0 ≤ _; omega
    | 3 => show Z.1.getD 8 0 ≤ _; omega
    | i + 4 => show (0 : Int) ≤ _; omega
   have hde : -1073741823 ≤ deepI S Z.2 ∧ deepI S Z.2 ≤ 1073741823 := by
    unfold deepI
    unfold fitI at g2
    split <;> omega
   unfold fitI at g2
   refine l10Cost_any S Z.2 nt pp nb hP hM hht ?_ (kp _) (km _)
   rw [wrap_in (z := Z.1.getD 0 0 + Z.2) (by omega) (by omega), wrap_in (by omega) (by omega)]
   omega)
  obtain ⟨ra, rc, rfl⟩ : ∃ ra rc, u = .slice ra N rc := by
   obtain ⟨ao, cap, e9, _⟩ := hHR.hd.is
   exact ⟨ao, cap, by rw [e9, hN]⟩
  have HNN := hideP hN
  clear h0 h1 hb1 FC hfit hHR hf0 hft htN hpb hob hfew hsh hZ hnb hnt hpp hgl hht hdp hN hz0 E0
  go_wp2_with fail
  refine wp_noPanic ?_
  refine wp_region_held_drew (S := fun X => Below w1.heap.size w1 X) (by kernel_rfl) (Below.drew (Below.refl _ _)) (fun hS => ?_)
  obtain ⟨v0, hv0⟩ : ∃ X, X = w1.drew := ⟨_, rfl⟩
  rw [← hv0] at hS ⊢
  clear hv0
  refine tkS (i := 0) (v := .slice ra N rc) rfl hS ?_
  try simp only [Act.put, List.getElem_toArray, List.getElem_cons_zero, List.getElem_cons_succ, List.setIfInBounds_toArray, List.set_cons_zero, List.set_cons_succ]
  refine tkS (i := 1) (v := shV S) rfl hS ?_ (hr := fun wx hx => load_sh rfl rfl wx (OFX.out wx hx))
  try simp only [Act.put, List.getElem_toArray, List.getElem_cons_zero, List.getElem_cons_succ, List.setIfInBounds_toArray, List.set_cons_zero, List.set_cons_succ]
  refine tkS (i := 2) (v := .int .i64 (a : Int)) rfl hS ?_
  try simp only [Act.put, List.getElem_toArray, List.getElem_cons_zero, List.getElem_cons_succ, List.setIfInBounds_toArray, List.set_cons_zero, List.set_cons_succ]
  refine tkS (i := 3) (v := .int .i64 (b : Int)) rfl hS ?_
  try simp only [Act.put, List.getElem_toArray, List.getElem_cons_zero, List.getElem_cons_succ, List.setIfInBounds_toArray, List.set_cons_zero, List.set_cons_succ]
  refine tkS (i := 5) (v := shV S) rfl hS ?_ (hr := fun wx hx => load_sh rfl rfl wx (OFX.out wx hx))
  try simp only [Act.put, List.getElem_toArray, List.getElem_cons_zero, List.getElem_cons_succ, List.setIfInBounds_toArray, List.set_cons_zero, List.set_cons_succ]
  refine tkS (i := 6) (v := .slice ra N rc) rfl hS ?_
  try simp only [Act.put, List.getElem_toArray, List.getElem_cons_zero, List.getElem_cons_succ, List.setIfInBounds_toArray, List.set_cons_zero, List.set_cons_succ]
  refine tkS (i := 7) (v := .int .i64 (b : Int)) rfl hS ?_
  try simp only [Act.put, List.getElem_toArray, List.getElem_cons_zero, List.getElem_cons_succ, List.setIfInBounds_toArray, List.set_cons_zero, List.set_cons_succ]
  refine rdS (i := 4) rfl (fun K hK => ?_)
  go_simp
  go_at_call 41
  refine (show Calls Tryz.prog 41 #[.slice ra N rc, shV S, .int .i64 (a : Int), .int .i64 (b : Int)] v0 _ from SC.out v0 hS).mono ?_
  rintro e v1 ⟨⟨P, M, rfl, hP, hM⟩, hb⟩
  have p1 : Below w1.heap.size w1 v1 := below_more hS hb hS.size
  clear hb
  refine hK.out _ _ p1 (fun _ => ?_)
  try simp only [Act.put, List.getElem_toArray, List.getElem_cons_zero, List.getElem_cons_succ, List.setIfInBounds_toArray, List.set_cons_zero, List.set_cons_succ]
  clear hK K
  refine rdS (i := 8) rfl (fun K hK => ?_)
  go_simp
  go_at_call 42
  refine (PR.out v1 p1).mono ?_
  rintro e v2 ⟨rfl, hw2⟩
  have hw3 := hw2.symm
  subst hw3
  refine hK.out _ _ p1 (fun _ => ?_)
  try simp only [Act.put, List.getElem_toArray, List.getElem_cons_zero, List.getElem_cons_succ, List.setIfInBounds_toArray, List.set_cons_zero, List.set_cons_succ]
  clear hK K
  refine rdS (i := 9) rfl (fun K hK => ?_)
  go_simp
  go_at_call 40
  refine (show Calls Tryz.prog 40 #[.agg #[.int .i64 (Z.1.getD 0 0), .slice (some ⟨P, 0, none⟩) 4 4, .slice (some ⟨M, 0, none⟩) 4 4, .int .i64 Z.2, .bool nb, .int .i64 nt], shV S, .int .i64 pp] v1 _ from CC.out v1 P M hP hM).mono ?_
  rintro e v3 ⟨rfl, hb⟩
  have p3 : Below w1.heap.size w1 v3 := below_more p1 hb p1.size
  clear hb hP hM
  refine hK.out _ _ p3 (fun _ => ?_)
  try simp only [Act.put, List.getElem_toArray, List.getElem_cons_zero, List.getElem_cons_succ, List.setIfInBounds_toArray, List.set_cons_zero, List.set_cons_succ]
  clear hK K
  refine tkS (i := 10) (v := .int .i64 (costP S (badP S Z.1 Z.2) nt pp)) rfl p3 ?_
  try simp only [Act.put, List.getElem_toArray, List.getElem_cons_zero, List.getElem_cons_succ, List.setIfInBounds_toArray, List.set_cons_zero, List.set_cons_succ]
  refine wpAnyH_done (by kernel_rfl) ?_ _
  go_wp2
  go_ret
  exact ⟨by rw [HRE.out]; rfl, below_more B1.out p3 B1.out.size⟩
theorem ok_out {e : Int} : ∀ (xs : List Nd) (i : Int) (T : List Int), i + xs.length ≤ e → okFrom e i (T ++ [e]) xs = true → okFrom e i T xs = true
 | [], _, _, _, _ => rfl
 | x :: xs, i, T, hl, h => by
  have hdr : (T ++ [e]).dropWhile (· == i) = T.dropWhile (· == i) ++ [e] := by
   clear h
   induction T with
   | nil => rw [List.nil_append, List.dropWhile_cons_of_neg (by simp at hl ⊢; omega)]; rfl
   | cons a T ih =>
    rw [List.cons_append]
    by_cases ha : a = i
    ·rw [List.dropWhile_cons_of_pos (by simpa using ha), List.dropWhile_cons_of_pos (by simpa using ha)]
     exact ih
    ·rw [List.dropWhile_cons_of_neg (by simpa using ha), List.dropWhile_cons_of_neg (by simpa using ha), List.cons_append]
  have hh : (T.dropWhile (· == i) ++ [e]).headD e = (T.dropWhile (· == i)).headD e := by cases T.dropWhile (· == i) <;> rfl
  simp only [okFrom, Bool.and_eq_true, hdr, hh] at h ⊢
  obtain ⟨⟨⟨hg, hk⟩, hd⟩, hr⟩ := h
  refine ⟨⟨⟨hg, hk⟩, ?_⟩, ?_⟩
  ·cases hdp : deepB x with
   | false => rfl
   | true =>
    rw [hdp] at hd
    simp at hd ⊢
    omega
  ·cases hdp : deepB x with
   | true =>
    rw [hdp] at hr
    simp only [if_true] at hr ⊢
    exact ok_out xs _ (_ :: _) (by simp at hl; omega) hr
   | false =>
    rw [hdp] at hr
    simp only [Bool.false_eq_true, if_false] at hr ⊢
    exact ok_out xs _ _ (by simp at hl; omega) hr
theorem okL_tail {x : Nd} {rest : List Nd} (h : okL (x :: rest)) (hk : x.kids.toNat = rest.length) : okL rest := by
 unfold okL at *
 simp only [okFrom, List.dropWhile_nil, List.headD_nil, Bool.and_eq_true] at h
 obtain ⟨⟨⟨hg, hk'⟩, hd⟩, hr⟩ := h
 have hkn := good_kids hg
 cases hdp : deepB x with
 | false =>
  have hk0 := flat_kids hg hdp
  have : rest = [] := List.eq_nil_of_length_eq_zero (by omega)
  subst this
  rfl
 | true =>
  rw [hdp] at hr
  simp only [if_true] at hr
  have e : (0 : Int) + 1 + x.kids = (((x :: rest).length : Nat) : Int) := by rw [List.length_cons]; push_cast; omega
  rw [e] at hr
  have h2 := ok_out (e := (((x :: rest).length : Nat) : Int)) rest (0 + 1) [] (by rw [List.length_cons]; push_cast; omega) (by rw [List.nil_append]; exact hr)
  have h3 := ok_shift (rest.length : Int) 1 rest 0 []
  rw [List.map_nil] at h3
  rw [← h3, show (rest.length : Int) + 1 = (((x :: rest).length : Nat) : Int) by rw [List.length_cons]; push_cast; omega]
  exact h2
theorem its_seg {xs : List Nd} (h : listB xs = true) {t : It} (ht : t ∈ its xs) : okL (segB xs t) ∧ (t.1.k = 11 → t.1.kids.toNat = (segB xs t).length) ∧ (¬ t.1.k = 11 → segB xs t = []) := by
 unfold its at ht
 obtain ⟨p, hp, rfl⟩ := List.mem_map.1 ht
 have hlt := starts_lt xs _ _ p hp
 have hok := (listB_iff.1 h).2
 obtain ⟨_, h2⟩ := starts_ok (xs := xs) (xs.length + 1) 0 (Nat.zero_le _) (by simpa using hok) (by omega)
 obtain ⟨_, h4, h5⟩ := h2 p hp
 have h6 := (seg_of (allOk h) hlt).2
 have h7 := itemAt_drop hlt
 have e1 : (itAt xs p).1 = xs.getD p Nd.none := rfl
 rw [e1]
 refine ⟨?_, fun h11 => ?_, fun h11 => ?_⟩
 ·rw [h6]
  split
  ·rw [h7, List.tail_cons]
   rw [h7] at h4 h5
   refine okL_tail (x := xs.getD p Nd.none) h4 ?_
   rw [h5]
   simp
  ·rfl
 ·rw [h6, if_pos h11, List.length_tail]
  exact h5
 ·rw [h6, if_neg h11]
def mB (a : List Nd) (j : Nat) : Int := ((bgs a).map (fun p => pV (a.getD p Nd.none) j + if j = 0 then pD (a.getD p Nd.none) else 0)).sum
def dB (a : List Nd) (d : Int) : Int := (bgs a).foldl (fun _ p => pD (a.getD p Nd.none)) d
theorem mB_app {a b : List Nd} (ha : okL a) (j : Nat) : mB (a ++ b) j = mB a j + mB b j := by
 unfold mB
 rw [bgs_app ha, List.map_append, List.sum_append, List.map_map]
 congr 2
 ·exact List.map_congr_left fun p hp => by rw [getL (bgs_lt hp)]
 ·exact List.map_congr_left fun p hp => by show pV ((a ++ b).getD (p + a.length) Nd.none) j + (if j = 0 then pD ((a ++ b).getD (p + a.length) Nd.none) else 0) = _; rw [getR]
theorem fold_same {f g : Int → Nat → Int} : ∀ (l : List Nat) (d : Int), (∀ p ∈ l, ∀ d, f d p = g d p) → l.foldl f d = l.foldl g d
 | [], _, _ => rfl
 | p :: l, d, h => by
  rw [List.foldl_cons, List.foldl_cons, h p (List.mem_cons_self ..)]
  exact fold_same l _ (fun q hq => h q (List.mem_cons_of_mem _ hq))
theorem dB_app {a b : List Nd} (ha : okL a) (d : Int) : dB (a ++ b) d = dB b (dB a d) := by
 unfold dB
 rw [bgs_app ha, List.foldl_append, List.foldl_map]
 rw [fold_same (f := fun _ p => pD ((a ++ b).getD p Nd.none)) (g := fun _ p => pD (a.getD p Nd.none)) (bgs a) d (fun p hp d => by simp only [getL (bgs_lt hp)])]
 exact fold_same _ _ (fun p hp d => by simp only [getR])
theorem bgs_nil : bgs [] = [] := by unfold bgs; simp [starts]
theorem bgs_some {a : List Nd} (h : 0 < a.length) : bgs a ≠ [] := by
 unfold bgs
 simp only [starts]
 rw [if_pos h]
 simp
theorem dB_some {a : List Nd} (h : 0 < a.length) (d : Int) : dB a d = dB a 0 := by
 unfold dB
 have h2 := bgs_some h
 cases e : bgs a with
 | nil => exact absurd e h2
 | cons p l => rfl
theorem pAdd_snd (x : Nd) (s : List Int × Int) : (pAdd x s).2 = pD x := by
 unfold pAdd pD
 by_cases h5 : x.k = 5 ∨ x.k = 6 ∨ x.k = 7
 ·simp only [if_pos h5]
 ·simp only [if_neg h5]
  split
  ·rfl
  ·split <;> rfl
theorem nF_snd (ns : List Nd) : ∀ (ps : List Nat) (s : List Int × Int), (nF ns ps s).2 = ps.foldl (fun _ p => pD (ns.getD p Nd.none)) s.2
 | [], _ => rfl
 | p :: ps, s => by
  show (nF ns ps (pAdd (ns.getD p Nd.none) s)).2 = _
  rw [nF_snd ns ps, pAdd_snd, List.foldl_cons]
def Lk (P : List Int) (s : List Int × Int) : Prop := P = s.1.set 0 (s.1.getD 0 0 + s.2) ++ [s.2]
theorem Lk.len {P : List Int} {s : List Int × Int} (h : Lk P s) (hl : s.1.length = 9) : P.length = 10 := by
 rw [h]
 simp [hl]
theorem Lk.get {P : List Int} {s : List Int × Int} (h : Lk P s) (hl : s.1.length = 9) : (∀ j, j < 9 → P.getD j 0 = tot s j) ∧ P.getD 9 0 = s.2 := by
 obtain ⟨z, la⟩ := s
 obtain ⟨a, b, c, d, e, f, g, i, k, rfl⟩ := nine_of z hl
 unfold Lk at h
 subst h
 refine ⟨fun j hj => ?_, rfl⟩
 match j, hj with
 | 0, _ => rfl
 | 1, _ | 2, _ | 3, _ | 4, _ | 5, _ | 6, _ | 7, _ | 8, _ => simp [tot]
theorem Lk.of {P : List Int} {s : List Int × Int} (hP : P.length = 10) (hl : s.1.length = 9) (h : ∀ j, j < 9 → P.getD j 0 = tot s j) (h9 : P.getD 9 0 = s.2) : Lk P s := by
 obtain ⟨z, la⟩ := s
 obtain ⟨a, b, c, d, e, f, g, i, k, rfl⟩ := nine_of z hl
 obtain ⟨p0, p1, p2, p3, p4, p5, p6, p7, p8, p9, rfl⟩ := ten_of P hP
 have q0 : p0 = a + la := h 0 (by omega)
 have q1 : p1 = b := by simpa [tot] using h 1 (by omega)
 have q2 : p2 = c := by simpa [tot] using h 2 (by omega)
 have q3 : p3 = d := by simpa [tot] using h 3 (by omega)
 have q4 : p4 = e := by simpa [tot] using h 4 (by omega)
 have q5 : p5 = f := by simpa [tot] using h 5 (by omega)
 have q6 : p6 = g := by simpa [tot] using h 6 (by omega)
 have q7 : p7 = i := by simpa [tot] using h 7 (by omega)
 have q8 : p8 = k := by simpa [tot] using h 8 (by omega)
 have q9 : p9 = la := h9
 subst q0 q1 q2 q3 q4 q5 q6 q7 q8 q9
 rfl
theorem glA_end (pn mn : Nat) (hp : pn < 4) (hm : mn < 4) (Q : List Int) (hQ : Q.length = 9) (d s p q : Int) : glA 0 pn mn s p q (Q ++ [d]) = glA 0 pn mn s p q Q ++ [d] := by
 obtain ⟨a, b, c, e, f, g, i, j, k, rfl⟩ := nine_of Q hQ
 match pn, hp with
 | 0, _ | 1, _ | 2, _ | 3, _ =>
  match mn, hm with
  | 0, _ | 1, _ | 2, _ | 3, _ => rfl
theorem set_self {zs : List Int} (h : zs.length = 9) : zs.set 0 (zs.getD 0 0) = zs := by
 obtain ⟨a, b, c, e, f, g, i, j, k, rfl⟩ := nine_of zs h
 rfl
theorem Lk.add {P : List Int} {s : List Int × Int} {x : Nd} {B : Int} (h : Lk P s) (hl : s.1.length = 9) (hx : PIn x) (hB : Big B s.1) (h2 : fitI s.2) (hB2 : B ≤ 900000000000000) : Lk (pAdI 0 x P) (pAdd x s) := by
 obtain ⟨z, la⟩ := s
 obtain ⟨a, b, c, d, e, f, g, i, k, rfl⟩ := nine_of z hl
 have hP : P = [a + la, b, c, d, e, f, g, i, k, la] := h
 obtain ⟨h1, h3, h4, h5, h6, h7, h8, h9⟩ := hx
 unfold fitI at h1 h2 h3 h4
 have b0 : -B ≤ a ∧ a ≤ B := hB 0
 simp only at h2
 have w1 : wrap64 (a + la) = a + la := wrap_in (by omega) (by omega)
 subst hP
 unfold Lk pAdI pAdd
 by_cases k3 : x.k = 3
 ·have n5 : ¬ (x.k = 5 ∨ x.k = 6 ∨ x.k = 7) := by omega
  have n2 : ¬ x.k = 2 := by omega
  simp only [if_pos k3, if_neg n5, if_neg n2]
  rw [show ([a, b, c, d, e, f, g, i, k] : List Int).set 0 (wrap64 (([a, b, c, d, e, f, g, i, k] : List Int).getD 0 0 + la)) = [a + la, b, c, d, e, f, g, i, k] from by show [wrap64 (a + la), b, c, d, e, f, g, i, k] = _; rw [w1]]
  rw [Int.add_zero, set_self (by rw [glA_len]; rfl)]
  exact glA_end _ _ (by omega) (by omega) [a + la, b, c, d, e, f, g, i, k] rfl 0 _ _ _
 ·simp only [if_neg k3]
  by_cases k5 : x.k = 5 ∨ x.k = 6 ∨ x.k = 7
  ·have ht : tallX x = true := by
    unfold tallX
    rcases k5 with k5 | k5 | k5 <;> simp [k5]
   have n2 : ¬ x.k = 2 := by omega
   have e1 : rH x = x.ht := by unfold rH; rw [if_neg n2]
   have e2 : rD x = x.dp := by unfold rD; rw [if_neg n2]
   simp only [if_pos k5, ht, if_true, e1, e2]
   show [wrap64 (a + la + wrap64 (x.ht + x.dp)), b, c, d, e, f, g, i, k, x.dp] = [wrap64 (wrap64 (a + la) + x.ht) + x.dp, b, c, d, e, f, g, i, k, x.dp]
   rw [w1, wrap_in (z := x.ht + x.dp) (by omega) (by omega), wrap_in (by omega) (by omega), wrap_in (by omega) (by omega), show a + la + (x.ht + x.dp) = a + la + x.ht + x.dp by omega]
  ·simp only [if_neg k5]
   by_cases k2 : x.k = 2
   ·have ht : tallX x = true := by
     unfold tallX
     simp [k2]
    have e1 : rH x = x.wd := by unfold rH; rw [if_pos k2]
    have e2 : rD x = 0 := by unfold rD; rw [if_pos k2]
    simp only [if_pos k2, ht, if_true, e1, e2]
    show [wrap64 (a + la + wrap64 (x.wd + 0)), b, c, d, e, f, g, i, k, 0] = [wrap64 (wrap64 (a + la) + x.wd) + 0, b, c, d, e, f, g, i, k, 0]
    rw [w1, Int.add_zero, Int.add_zero, wrap_in (z := x.wd) (by omega) (by omega)]
   ·have ht : ¬ tallX x = true := by
     unfold tallX
     simp
     omega
    simp only [if_neg k2, if_neg ht]
    show [a + la, b, c, d, e, f, g, i, k, 0] = [wrap64 (a + la) + 0, b, c, d, e, f, g, i, k, 0]
    rw [w1, Int.add_zero]
theorem Lk.pad {ns : List Nd} (hns : ∀ p, p < ns.length → PIn (ns.getD p Nd.none)) : ∀ (ps : List Nat) (P : List Int) (s : List Int × Int) (B : Int), (∀ p ∈ ps, p < ns.length) → Lk P s → s.1.length = 9 → Big B s.1 → fitI s.2 → B + 2147483646 * (ps.length : Int) ≤ 900000000000000 → Lk (padF 0 ns ps P) (nF ns ps s)
 | [], P, s, B, _, h, _, _, _, _ => h
 | p :: ps, P, s, B, hp, h, hl, hB, h2, hle => by
  have hx := hns p (hp p (List.mem_cons_self ..))
  simp only [List.length_cons] at hle
  obtain ⟨g1, g2⟩ := pAdd_big hx hl hB h2 (by omega)
  exact Lk.pad hns ps (pAdI 0 (ns.getD p Nd.none) P) (pAdd (ns.getD p Nd.none) s) (B + 2147483646) (fun q hq => hp q (List.mem_cons_of_mem _ hq)) (Lk.add h hl hx hB h2 (by omega)) (by rw [pAdd_len]; exact hl) g1 g2 (by push_cast at hle; omega)
def zeroS : List Int × Int := ([0, 0, 0, 0, 0, 0, 0, 0, 0], 0)
def zeroP : List Int := [0, 0, 0, 0, 0, 0, 0, 0, 0, 0]
theorem zero_get : ∀ j, zeroS.1.getD j 0 = 0 := fun j => by
 match j with
 | 0 | 1 | 2 | 3 | 4 | 5 | 6 | 7 | 8 => rfl
 | j + 9 => rfl
theorem pad_note {a : List Nd} (hns : ∀ p, p < a.length → PIn (a.getD p Nd.none)) (hl : a.length ≤ 20000) : (padF 0 a (bgs a) zeroP).length = 10 ∧ (∀ j, j < 9 → (padF 0 a (bgs a) zeroP).getD j 0 = mB a j) ∧ (padF 0 a (bgs a) zeroP).getD 9 0 = dB a 0 := by
 have hz : Big 0 zeroS.1 := fun j => by rw [zero_get]; omega
 have h0 : fitI zeroS.2 := by show fitI 0; unfold fitI; omega
 have hc : (bgs a).length ≤ a.length := starts_count (xs := a) (a.length + 1) 0
 have hp : ∀ p ∈ bgs a, p < a.length := fun p hp => bgs_lt hp
 have h1 := Lk.pad hns (bgs a) zeroP zeroS 0 hp rfl rfl hz h0 (by omega)
 obtain ⟨_, _, h2⟩ := nF_all hns (bgs a) zeroS 0 hp rfl hz h0 (by omega)
 have hln : (nF a (bgs a) zeroS).1.length = 9 := by rw [nF_len]; rfl
 obtain ⟨h3, h4⟩ := Lk.get h1 hln
 refine ⟨Lk.len h1 hln, fun j hj => ?_, ?_⟩
 ·rw [h3 j hj, h2 j]
  have : tot zeroS j = 0 := by
   unfold tot
   rw [zero_get]
   show (0 : Int) + (if j = 0 then 0 else 0) = 0
   split <;> rfl
  rw [this, Int.zero_add]
  rfl
 ·rw [h4, nF_snd]
  rfl
theorem mB_big {a : List Nd} (hns : ∀ p, p < a.length → PIn (a.getD p Nd.none)) (hl : a.length ≤ 20000) (j : Nat) : -43000000000000 ≤ mB a j ∧ mB a j ≤ 43000000000000 := by
 have hz : Big 0 zeroS.1 := fun j => by rw [zero_get]; omega
 have h0 : fitI zeroS.2 := by show fitI 0; unfold fitI; omega
 have hc : (bgs a).length ≤ a.length := starts_count (xs := a) (a.length + 1) 0
 have hp : ∀ p ∈ bgs a, p < a.length := fun p hp => bgs_lt hp
 obtain ⟨h1, h3, h2⟩ := nF_all hns (bgs a) zeroS 0 hp rfl hz h0 (by omega)
 have h4 := h2 j
 have ht : tot zeroS j = 0 := by
  unfold tot
  rw [zero_get]
  show (0 : Int) + (if j = 0 then 0 else 0) = 0
  split <;> rfl
 rw [ht, Int.zero_add] at h4
 have h5 : mB a j = tot (nF a (bgs a) zeroS) j := h4.symm
 rw [h5]
 unfold tot
 have h6 := h1 j
 unfold fitI at h3
 split <;> omega
theorem inI_set_in {Z : List Int} {k i : Nat} (v : Int) : inI (Z.set (k * 10 + i) v) k = (inI Z k).set i v := by
 unfold inI
 rw [List.drop_set, if_neg (by omega), List.take_set, show k * 10 + i - k * 10 = i by omega]
theorem inI_set_out {Z : List Int} {k q i : Nat} (v : Int) (hi : i < 10) (h : k ≠ q) : inI (Z.set (k * 10 + i) v) q = inI Z q := by
 unfold inI
 rw [List.drop_set]
 split
 ·rfl
 ·rw [List.take_set, List.set_eq_of_length_le (by rw [List.length_take]; omega)]
theorem inI_get {Z : List Int} {k i : Nat} (hi : i < 10) : Z.getD (k * 10 + i) 0 = (inI Z k).getD i 0 := by
 unfold inI
 rw [List.getD_eq_getElem?_getD, List.getD_eq_getElem?_getD, List.getElem?_take, if_pos hi, List.getElem?_drop]
theorem inI_add {Z : List Int} {k : Nat} {x : Nd} (hx : Ord x) : inI (pAdI (k * 10) x Z) k = pAdI 0 x (inI Z k) := by
 obtain ⟨h1, h2, h3, h4⟩ := hx
 obtain ⟨pn, hpn⟩ : ∃ n, n = x.gpo.toNat := ⟨_, rfl⟩
 obtain ⟨mn, hmn⟩ : ∃ n, n = x.gmo.toNat := ⟨_, rfl⟩
 have s0 : ∀ (Z : List Int) (v : Int), inI (Z.set (k * 10) v) k = (inI Z k).set 0 v := fun Z v => inI_set_in (i := 0) v
 have s1 : ∀ (Z : List Int) (v : Int), inI (Z.set (k * 10 + 1 + pn) v) k = (inI Z k).set (0 + 1 + pn) v := fun Z v => by rw [Nat.add_assoc, inI_set_in, Nat.zero_add]
 have s5 : ∀ (Z : List Int) (v : Int), inI (Z.set (k * 10 + 5 + mn) v) k = (inI Z k).set (0 + 5 + mn) v := fun Z v => by rw [Nat.add_assoc, inI_set_in, Nat.zero_add]
 have s9 : ∀ (Z : List Int) (v : Int), inI (Z.set (k * 10 + 9) v) k = (inI Z k).set (0 + 9) v := fun Z v => by rw [inI_set_in]
 have g0 : ∀ (Z : List Int), Z.getD (k * 10) 0 = (inI Z k).getD 0 0 := fun Z => inI_get (i := 0) (by omega)
 have g1 : ∀ (Z : List Int), Z.getD (k * 10 + 1 + pn) 0 = (inI Z k).getD (0 + 1 + pn) 0 := fun Z => by rw [Nat.add_assoc, inI_get (by omega), Nat.zero_add]
 have g5 : ∀ (Z : List Int), Z.getD (k * 10 + 5 + mn) 0 = (inI Z k).getD (0 + 5 + mn) 0 := fun Z => by rw [Nat.add_assoc, inI_get (by omega), Nat.zero_add]
 unfold pAdI
 rw [← hpn, ← hmn]
 split
 ·unfold glA
  rw [s5, s1, s0, g0, g1, g5, s9]
 ·split
  ·rw [s9, s0, s9, g0]
  ·rw [s9]
theorem inI_add_out {Z : List Int} {k q : Nat} {x : Nd} (hx : Ord x) (h : k ≠ q) : inI (pAdI (k * 10) x Z) q = inI Z q := by
 obtain ⟨h1, h2, h3, h4⟩ := hx
 obtain ⟨pn, hpn⟩ : ∃ n, n = x.gpo.toNat := ⟨_, rfl⟩
 obtain ⟨mn, hmn⟩ : ∃ n, n = x.gmo.toNat := ⟨_, rfl⟩
 have s0 : ∀ (Z : List Int) (v : Int), inI (Z.set (k * 10) v) q = inI Z q := fun Z v => inI_set_out (i := 0) v (by omega) h
 have s1 : ∀ (Z : List Int) (v : Int), inI (Z.set (k * 10 + 1 + pn) v) q = inI Z q := fun Z v => by rw [Nat.add_assoc, inI_set_out _ (by omega) h]
 have s5 : ∀ (Z : List Int) (v : Int), inI (Z.set (k * 10 + 5 + mn) v) q = inI Z q := fun Z v => by rw [Nat.add_assoc, inI_set_out _ (by omega) h]
 have s9 : ∀ (Z : List Int) (v : Int), inI (Z.set (k * 10 + 9) v) q = inI Z q := fun Z v => by rw [inI_set_out _ (by omega) h]
 unfold pAdI
 rw [← hpn, ← hmn]
 split
 ·unfold glA
  rw [s5, s1, s0, s9]
 ·split
  ·rw [s9, s0, s9]
  ·rw [s9]
theorem inI_pad {ns : List Nd} {k : Nat} : ∀ (ps : List Nat) (Z : List Int), (∀ p ∈ ps, Ord (ns.getD p Nd.none)) → inI (padF (k * 10) ns ps Z) k = padF 0 ns ps (inI Z k)
 | [], _, _ => rfl
 | p :: ps, Z, h => by
  show inI (padF (k * 10) ns ps (pAdI (k * 10) (ns.getD p Nd.none) Z)) k = padF 0 ns ps (pAdI 0 (ns.getD p Nd.none) (inI Z k))
  rw [inI_pad ps _ (fun q hq => h q (List.mem_cons_of_mem _ hq)), inI_add (h p (List.mem_cons_self ..))]
theorem inI_pad_out {ns : List Nd} {k q : Nat} (hn : k ≠ q) : ∀ (ps : List Nat) (Z : List Int), (∀ p ∈ ps, Ord (ns.getD p Nd.none)) → inI (padF (k * 10) ns ps Z) q = inI Z q
 | [], _, _ => rfl
 | p :: ps, Z, h => by
  show inI (padF (k * 10) ns ps (pAdI (k * 10) (ns.getD p Nd.none) Z)) q = inI Z q
  rw [inI_pad_out hn ps _ (fun q hq => h q (List.mem_cons_of_mem _ hq)), inI_add_out (h p (List.mem_cons_self ..)) hn]
theorem inI_zero {N k : Nat} (hk : k < N) : inI (List.replicate (N * 10) 0) k = zeroP := by
 unfold inI
 rw [List.drop_replicate, List.take_replicate, show min 10 (N * 10 - k * 10) = 10 by omega]
 rfl
theorem insZ_in {xs : List Nd} {ys : List It} {N k : Nat} (hk : k < N) (ho : ∀ x ∈ xs, Ord x) : ∀ m, inI (insZ xs ys N m) k = if k < m ∧ (ys.getD k It.none).1.k = 11 then padF 0 (segB xs (ys.getD k It.none)) (bgs (segB xs (ys.getD k It.none))) zeroP else zeroP
 | 0 => by
  rw [if_neg (by omega)]
  exact inI_zero hk
 | m + 1 => by
  have ih := insZ_in (xs := xs) (ys := ys) hk ho m
  have hord : ∀ t : It, ∀ p ∈ bgs (segB xs t), Ord ((segB xs t).getD p Nd.none) := fun t p hp => ho _ (by
   have hm := getD_mem (d := Nd.none) (bgs_lt hp)
   exact segB_mem (zs := [t]) (by simpa using hm))
  by_cases h11 : (ys.getD m It.none).1.k = 11
  ·have e := insZ_note (xs := xs) (N := N) h11 rfl
   rw [e]
   by_cases hmk : m = k
   ·subst hmk
    rw [if_pos ⟨by omega, h11⟩]
    have h2 := inI_pad (k := m) (bgs (segB xs (ys.getD m It.none))) (insZ xs ys N m) (hord _)
    rw [ih, if_neg (by omega)] at h2
    exact h2
   ·have h2 := inI_pad_out (k := m) (q := k) hmk (bgs (segB xs (ys.getD m It.none))) (insZ xs ys N m) (hord _)
    refine Eq.trans h2 ?_
    rw [ih]
    by_cases hc : k < m ∧ (ys.getD k It.none).1.k = 11
    ·rw [if_pos hc, if_pos ⟨by omega, hc.2⟩]
    ·rw [if_neg hc, if_neg (by omega)]
  ·rw [insZ_skip h11, ih]
   by_cases hmk : m = k
   ·subst hmk
    rw [if_neg (by omega), if_neg (by omega)]
   ·by_cases hc : k < m ∧ (ys.getD k It.none).1.k = 11
    ·rw [if_pos hc, if_pos ⟨by omega, hc.2⟩]
    ·rw [if_neg hc, if_neg (by omega)]
theorem begF_up (ys : List It) : ∀ (n a : Nat), begF ys (n + 1) a = if begF ys n a = a + n then (if discB (ys.getD (a + n) It.none).1 = true then a + n + 1 else a + n) else begF ys n a
 | 0, a => by
  simp only [begF, Nat.add_zero, if_true]
 | n + 1, a => by
  by_cases h : discB (ys.getD a It.none).1 = true
  ·have ih := begF_up ys n (a + 1)
   have e1 : begF ys (n + 1 + 1) a = begF ys (n + 1) (a + 1) := by rw [begF, if_pos h]
   have e2 : begF ys (n + 1) a = begF ys n (a + 1) := by rw [begF, if_pos h]
   rw [e1, e2, show a + (n + 1) = a + 1 + n by omega]
   exact ih
  ·have e1 : begF ys (n + 1 + 1) a = a := by rw [begF, if_neg h]
   have e2 : begF ys (n + 1) a = a := by rw [begF, if_neg h]
   rw [e1, e2, if_neg (by omega)]
theorem begI_up (ys : List It) (f j : Nat) : begI ys f (f + (j + 1)) = if begI ys f (f + j) = f + j then (if discB (ys.getD (f + j) It.none).1 = true then f + j + 1 else f + j) else begI ys f (f + j) := by
 unfold begI
 rw [show f + (j + 1) - f = j + 1 by omega, show f + j - f = j by omega]
 exact begF_up ys j f
def zsT (ys : List It) (f j : Nat) : List It := (ys.drop (begI ys f (f + j))).take (f + j - begI ys f (f + j))
theorem zsT_zero (ys : List It) (f : Nat) : zsT ys f 0 = [] := by
 unfold zsT
 rw [Nat.add_zero, begI_end, Nat.sub_self, List.take_zero]
theorem zsT_len (ys : List It) (f j : Nat) (h : f + j ≤ ys.length) : (zsT ys f j).length = f + j - begI ys f (f + j) := by
 unfold zsT
 have := begI_range ys f (f + j) (by omega)
 rw [List.length_take, List.length_drop]
 omega
theorem zsT_skip {ys : List It} {f j : Nat} (h : begI ys f (f + j) = f + j) (hd : discB (ys.getD (f + j) It.none).1 = true) : zsT ys f (j + 1) = zsT ys f j := by
 unfold zsT
 rw [begI_up, if_pos h, if_pos hd, h, show f + (j + 1) - (f + j + 1) = 0 by omega, Nat.sub_self, List.take_zero, List.take_zero]
theorem zsT_more {ys : List It} {f j : Nat} (hN : f + j < ys.length) (h : ¬ (begI ys f (f + j) = f + j ∧ discB (ys.getD (f + j) It.none).1 = true)) : zsT ys f (j + 1) = zsT ys f j ++ [ys.getD (f + j) It.none] := by
 have hr := begI_range ys f (f + j) (by omega)
 have e : begI ys f (f + (j + 1)) = begI ys f (f + j) := by
  rw [begI_up]
  split
  ·rename_i h1
   rw [if_neg (fun hd => h ⟨h1, hd⟩), h1]
  ·rfl
 unfold zsT
 rw [e, show f + (j + 1) - begI ys f (f + j) = (f + j - begI ys f (f + j)) + 1 by omega, List.take_add_one, List.getElem?_drop, show begI ys f (f + j) + (f + j - begI ys f (f + j)) = f + j by omega, List.getElem?_eq_getElem hN]
 simp [List.getD_eq_getElem?_getD, List.getElem?_eq_getElem hN]
theorem zsI_zsT (xs : List Nd) {a b : Nat} (h : a ≤ b) : zsI xs a b = zsT (its xs) a (b - a) := by
 unfold zsI zsT
 rw [show a + (b - a) = b by omega]
theorem zsT_mem {ys : List It} {f j : Nat} {t : It} (h : t ∈ zsT ys f j) : t ∈ ys := List.mem_of_mem_drop (List.mem_of_mem_take h)
structure TInv (xs : List Nd) (zs : List It) (s : Trl) : Prop where
 em : s.em = zs.isEmpty
 hn : s.hn = noteB zs
 hg : s.hg = nS zs
 A : Lk s.A (aS zs)
 ll : s.L.length = 10
 L : ∀ j, j < 9 → s.L.getD j 0 = mB (zs.flatMap (segB xs)) j
 L9 : s.L.getD 9 0 = dB (zs.flatMap (segB xs)) 0
theorem mB_nil (j : Nat) : mB [] j = 0 := by
 unfold mB
 rw [bgs_nil]
 rfl
theorem dB_nil (d : Int) : dB [] d = d := by
 unfold dB
 rw [bgs_nil]
 rfl
theorem TInv.zero (xs : List Nd) : TInv xs [] trl0 := ⟨rfl, rfl, rfl, rfl, rfl, fun j hj => by
 rw [List.flatMap_nil, mB_nil]
 match j, hj with
 | 0, _ | 1, _ | 2, _ | 3, _ | 4, _ | 5, _ | 6, _ | 7, _ | 8, _ => rfl, by rw [List.flatMap_nil, dB_nil]; rfl⟩
theorem okL_flat {xs : List Nd} (hb : listB xs = true) : ∀ zs : List It, (∀ u ∈ zs, u ∈ its xs) → okL (zs.flatMap (segB xs))
 | [], _ => rfl
 | t :: zs, h => by
  rw [List.flatMap_cons]
  exact okL_app (its_seg hb (h t (List.mem_cons_self ..))).1 (okL_flat hb zs (fun u hu => h u (List.mem_cons_of_mem _ hu)))
theorem take9_get {L : List Int} (h : L.length = 10) {j : Nat} (hj : j < 9) : (L.take 9).getD j 0 = L.getD j 0 := by
 rw [List.getD_eq_getElem?_getD, List.getD_eq_getElem?_getD, List.getElem?_take, if_pos hj]
theorem end_get {Q : List Int} (h : Q.length = 9) (d : Int) : (∀ j, j < 9 → (Q ++ [d]).getD j 0 = Q.getD j 0) ∧ (Q ++ [d]).getD 9 0 = d := by
 obtain ⟨a, b, c, e, f, g, i, j, k, rfl⟩ := nine_of Q h
 refine ⟨fun j hj => ?_, rfl⟩
 match j, hj with
 | 0, _ | 1, _ | 2, _ | 3, _ | 4, _ | 5, _ | 6, _ | 7, _ | 8, _ => rfl
theorem pluTo_all (a0 a1 a2 a3 a4 a5 a6 a7 a8 b0 b1 b2 b3 b4 b5 b6 b7 b8 : Int) : pluTo [a0, a1, a2, a3, a4, a5, a6, a7, a8] [b0, b1, b2, b3, b4, b5, b6, b7, b8] 4 = [wrap64 (a0 + b0), wrap64 (a1 + b1), wrap64 (a2 + b2), wrap64 (a3 + b3), wrap64 (a4 + b4), wrap64 (a5 + b5), wrap64 (a6 + b6), wrap64 (a7 + b7), wrap64 (a8 + b8)] := by
 simp [pluTo]
theorem pluTo_get {a b : List Int} (ha : a.length = 9) (hb : b.length = 9) (hs : ∀ j, j < 9 → -9000000000000000000 ≤ a.getD j 0 + b.getD j 0 ∧ a.getD j 0 + b.getD j 0 ≤ 9000000000000000000) : ∀ j, j < 9 → (pluTo a b 4).getD j 0 = a.getD j 0 + b.getD j 0 := by
 obtain ⟨a0, a1, a2, a3, a4, a5, a6, a7, a8, rfl⟩ := nine_of a ha
 obtain ⟨b0, b1, b2, b3, b4, b5, b6, b7, b8, rfl⟩ := nine_of b hb
 rw [pluTo_all]
 intro j hj
 have h := hs j hj
 match j, hj with
 | 0, _ | 1, _ | 2, _ | 3, _ | 4, _ | 5, _ | 6, _ | 7, _ | 8, _ => exact wrap_in (by simpa using Int.le_trans (by omega) h.1) (by simpa using Int.le_trans h.2 (by omega))
theorem noteB_snoc (zs : List It) (t : It) : noteB (zs ++ [t]) = (noteB zs || t.1.k == 11) := by simp [noteB]
theorem TInv.step {xs : List Nd} {zs : List It} {s : Trl} {t : It} {I : List Int} (hb : listB xs = true) (h : TInv xs zs s) (hz : ∀ u ∈ zs, u ∈ its xs) (ht : t ∈ its xs) (hfew : zs.length ≤ 4000) (hseg : ((zs ++ [t]).flatMap (segB xs)).length ≤ 20000)
 (hI : I = if t.1.k = 11 then padF 0 (segB xs t) (bgs (segB xs t)) zeroP else zeroP) : TInv xs (zs ++ [t]) (trlAdd t.1 I s) := by
 obtain ⟨e1, e2, e3, e4, e5, e6, e7⟩ := h
 obtain ⟨o1, o2, o3⟩ := its_seg hb ht
 have hem : (zs ++ [t]).isEmpty = false := by cases zs <;> rfl
 have hfl : (zs ++ [t]).flatMap (segB xs) = zs.flatMap (segB xs) ++ segB xs t := by rw [List.flatMap_append, List.flatMap_singleton]
 have hok := okL_flat hb zs hz
 have hpin : ∀ us : List It, ∀ p, p < (us.flatMap (segB xs)).length → PIn ((us.flatMap (segB xs)).getD p Nd.none) := fun us p hp => xs_pin hb _ (segB_mem (getD_mem hp))
 have hpin1 : ∀ p, p < (segB xs t).length → PIn ((segB xs t).getD p Nd.none) := fun p hp => xs_pin hb _ (segB_mem (zs := [t]) (by simpa using getD_mem hp))
 rw [hfl, List.length_append] at hseg
 have b1 := mB_big (hpin zs) (by omega)
 have b2 := mB_big hpin1 (by omega)
 unfold trlAdd
 by_cases h11 : t.1.k = 11
 ·rw [if_pos h11] at hI ⊢
  obtain ⟨n1, n2, n3⟩ := pad_note hpin1 (by omega)
  rw [← hI] at n1 n2 n3
  refine ⟨hem.symm, ?_, ?_, ?_, ?_, ?_, ?_⟩
  ·rw [noteB_snoc, h11]; simp
  ·rw [nS_snoc, if_pos h11, e3]
  ·rw [aS_snoc, if_pos h11]; exact e4
  ·exact lowI_len _ _ _ e5
  ·intro j hj
   rw [hfl, mB_app hok]
   unfold lowI
   by_cases hk : 0 < t.1.kids
   ·rw [if_pos hk]
    have hpl : (pluTo (s.L.take 9) (I.take 9) 4).length = 9 := by rw [pluTo_len, List.length_take]; omega
    rw [(end_get hpl _).1 j hj, pluTo_get (by rw [List.length_take]; omega) (by rw [List.length_take]; omega) (fun i hi => by
     rw [take9_get e5 hi, take9_get n1 hi, e6 i hi, n2 i hi]
     have := b1 i
     have := b2 i
     omega) j hj, take9_get e5 hj, take9_get n1 hj, e6 j hj, n2 j hj]
   ·rw [if_neg hk, e6 j hj]
    have h0 : segB xs t = [] := List.eq_nil_of_length_eq_zero (by rw [← o2 h11]; omega)
    rw [h0, mB_nil, Int.add_zero]
  ·rw [hfl, dB_app hok]
   unfold lowI
   by_cases hk : 0 < t.1.kids
   ·rw [if_pos hk]
    have hpl : (pluTo (s.L.take 9) (I.take 9) 4).length = 9 := by rw [pluTo_len, List.length_take]; omega
    rw [(end_get hpl _).2, n3, dB_some (by rw [← o2 h11]; omega) (dB _ 0)]
   ·rw [if_neg hk, e7]
    have h0 : segB xs t = [] := List.eq_nil_of_length_eq_zero (by rw [← o2 h11]; omega)
    rw [h0, dB_nil]
 ·rw [if_neg h11]
  have h0 := o3 h11
  rw [h0, List.append_nil] at hfl
  obtain ⟨g1, g2, _⟩ := aS_all _ zs rfl (fun u hu => xs_pin hb _ (its_mem (hz u hu))) hfew
  refine ⟨hem.symm, ?_, ?_, ?_, e5, fun j hj => by rw [hfl]; exact e6 j hj, by rw [hfl]; exact e7⟩
  ·rw [noteB_snoc, e2]
   simp [h11]
  ·rw [nS_snoc, if_neg h11]; exact e3
  ·rw [aS_snoc, if_neg h11]
   exact Lk.add e4 (aS_len _) (xs_pin hb _ (its_mem ht)) g1 g2 (by omega)
theorem flat_few {xs : List Nd} (hb : listB xs = true) (f j : Nat) : ((zsT (its xs) f j).flatMap (segB xs)).length ≤ 20000 := by
 have := page_len (allOk hb) (begI (its xs) f (f + j)) (f + j - begI (its xs) f (f + j))
 unfold zsT
 omega
theorem pin_ord {x : Nd} (h : PIn x) : Ord x := ⟨h.o1.1, h.o1.2, h.o2.1, h.o2.2⟩
theorem trlS_inv {xs : List Nd} (hb : listB xs = true) (hN : (its xs).length ≤ 4000) (f : Nat) : ∀ j, f + j ≤ (its xs).length → TInv xs (zsT (its xs) f j) (trlS (its xs) (insZ xs (its xs) (its xs).length (its xs).length) f j)
 | 0, _ => by
  rw [zsT_zero]
  exact TInv.zero xs
 | j + 1, hj => by
  have ih := trlS_inv hb hN f j (by omega)
  have hl := zsT_len (its xs) f j (by omega)
  have hr := begI_range (its xs) f (f + j) (by omega)
  rw [trlS]
  have hem : (trlS (its xs) (insZ xs (its xs) (its xs).length (its xs).length) f j).em = decide (begI (its xs) f (f + j) = f + j) := by
   rw [ih.em]
   by_cases h : begI (its xs) f (f + j) = f + j
   ·rw [decide_eq_true h, List.isEmpty_iff]
    exact List.eq_nil_of_length_eq_zero (by omega)
   ·rw [decide_eq_false h, List.isEmpty_eq_false_iff]
    intro e
    rw [e] at hl
    simp at hl
    omega
  rw [hem]
  by_cases hc : begI (its xs) f (f + j) = f + j ∧ discB ((its xs).getD (f + j) It.none).1 = true
  ·rw [if_pos (by rw [decide_eq_true hc.1, hc.2]; rfl), zsT_skip hc.1 hc.2]
   exact ih
  ·rw [if_neg (fun e => by simp only [Bool.and_eq_true, decide_eq_true_eq] at e; exact hc e), zsT_more (by omega) hc]
   have hm : (its xs).getD (f + j) It.none ∈ its xs := by
    rw [List.getD_eq_getElem?_getD, List.getElem?_eq_getElem (by omega)]
    exact List.getElem_mem _
   refine TInv.step hb ih (fun u hu => zsT_mem hu) hm (by omega) ?_ ?_
   ·have := flat_few hb f (j + 1)
    rw [zsT_more (by omega) hc] at this
    exact this
   ·rw [insZ_in (by omega) (fun x hx => pin_ord (xs_pin hb x hx))]
    by_cases h11 : ((its xs).getD (f + j) It.none).1.k = 11
    ·rw [if_pos h11, if_pos ⟨by omega, h11⟩]
    ·rw [if_neg h11, if_neg (fun e => h11 e.2)]
theorem who_lk {xs : List Nd} {S : Sh} {zs : List It} {s : Trl} (hb : listB xs = true) (hS : shB S = true) (h : TInv xs zs s) (hz : ∀ u ∈ zs, u ∈ its xs) (hfew : zs.length ≤ 4000) (hseg : (zs.flatMap (segB xs)).length ≤ 20000) : Lk (whoS S s.hn s.A s.L) (wS xs (gapS S) zs) := by
 obtain ⟨e1, e2, e3, e4, e5, e6, e7⟩ := h
 unfold whoS whoI wS
 rw [e2]
 cases hn : noteB zs with
 | false =>
  rw [if_neg (by decide), if_neg (by decide)]
  exact e4
 | true =>
  rw [if_pos rfl, if_pos rfl]
  obtain ⟨fl, hfl⟩ : ∃ l, l = zs.flatMap (segB xs) := ⟨_, rfl⟩
  rw [← hfl] at hseg e6 e7 ⊢
  have hpin : ∀ p, p < fl.length → PIn (fl.getD p Nd.none) := fun p hp => xs_pin hb _ (segB_mem (by rw [← hfl]; exact getD_mem hp))
  have hc : (bgs fl).length ≤ fl.length := starts_count (xs := fl) (fl.length + 1) 0
  obtain ⟨g1, g2, _⟩ := aS_all _ zs rfl (fun u hu => xs_pin hb _ (its_mem (hz u hu))) hfew
  have hg := gap_pin hS
  obtain ⟨i1, i2⟩ := pAdd_big hg (aS_len zs) g1 g2 (by omega)
  obtain ⟨k1, k2, k3⟩ := nF_all hpin (bgs fl) (pAdd (gapS S) (aS zs)) _ (fun p hp => bgs_lt hp) (by rw [pAdd_len]; exact aS_len zs) i1 i2 (by omega)
  have b1 := mB_big hpin hseg
  have hA := e4.len (aS_len zs)
  obtain ⟨a1, a2⟩ := e4.get (aS_len zs)
  have hst : ∀ j, tot (aS zs) j = tot (aS zs) j := fun _ => rfl
  have ha9 : ∀ j, -10000000000000 ≤ tot (aS zs) j ∧ tot (aS zs) j ≤ 10000000000000 := fun j => by
   have := g1 j
   unfold fitI at g2
   unfold tot
   split <;> omega
  have hpl : (pluTo (s.A.take 9) (s.L.take 9) 4).length = 9 := by rw [pluTo_len, List.length_take]; omega
  have hq : ∀ j, j < 9 → (pluTo (s.A.take 9) (s.L.take 9) 4).getD j 0 = tot (aS zs) j + mB fl j := fun j hj => by
   rw [pluTo_get (by rw [List.length_take]; omega) (by rw [List.length_take]; omega) (fun i hi => by
    rw [take9_get hA hi, take9_get e5 hi, e6 i hi, a1 i hi]
    have := b1 i
    have := ha9 i
    omega) j hj, take9_get hA hj, take9_get e5 hj, e6 j hj, a1 j hj]
  have hgo : (0 ≤ S.g2 ∧ S.g2 ≤ 3) ∧ (0 ≤ S.g4 ∧ S.g4 ≤ 3) := ⟨hg.o1, hg.o2⟩
  have hB : Big 60000000000000 (pluTo (s.A.take 9) (s.L.take 9) 4) := fun j => by
   by_cases hj : j < 9
   ·rw [hq j hj]
    have := b1 j
    have := ha9 j
    omega
   ·rw [List.getD_eq_getElem?_getD, List.getElem?_eq_none (by omega)]
    simp
  rw [glA_end _ _ (by omega) (by omega) _ hpl]
  have hgl : (glA 0 S.g2.toNat S.g4.toNat S.g0 S.g1 S.g3 (pluTo (s.A.take 9) (s.L.take 9) 4)).length = 9 := by rw [glA_len]; exact hpl
  have hwl : (nF fl (bgs fl) (pAdd (gapS S) (aS zs))).1.length = 9 := by rw [nF_len, pAdd_len]; exact aS_len zs
  refine Lk.of (by rw [List.length_append, hgl]; rfl) hwl (fun j hj => ?_) ?_
  ·have q0 : fitI S.g0 := hg.gs
   have q1 : fitI S.g1 := hg.gp
   have q3 : fitI S.g3 := hg.gm
   rw [(end_get hgl _).1 j hj, glA_get hpl q0 q1 q3 hgo.1 hgo.2 hB (by omega) j, hq j hj]
   have h3 := k3 j
   refine Eq.symm (Eq.trans h3 ?_)
   rw [pAdd_tot hg (aS_len zs) g1 g2 (by omega) j]
   have hv : pV (gapS S) j = gxv S.g0 S.g1 S.g2 S.g3 S.g4 j := rfl
   have hd : pD (gapS S) = 0 := rfl
   have hm : ((bgs fl).map (fun p => pV (fl.getD p Nd.none) j + if j = 0 then pD (fl.getD p Nd.none) else 0)).sum = mB fl j := rfl
   rw [hv, hd, hm]
   split <;> omega
  ·rw [(end_get hgl _).2, e7]
   show _ = (nF fl (bgs fl) (pAdd (gapS S) (aS zs))).2
   rw [nF_snd, pAdd_snd]
   rfl
theorem rck_eq {S : Sh} {P : List Int} {W : List Int × Int} (h : Lk P W) (hl : W.1.length = 9) (hB : Big 60000000000000 W.1) (h2 : fitI W.2) (hS : shB S = true) : badW S P = badP S W.1 W.2 ∧ PilIn S P := by
 have hht : 0 ≤ S.ht ∧ S.ht ≤ 1073741823 := by
  have h9 := hS
  unfold shB uptoB at h9
  simp only [Bool.and_eq_true, decide_eq_true_eq] at h9
  omega
 have hdp : 0 ≤ S.dp ∧ S.dp ≤ 1073741823 := by
  have h9 := hS
  unfold shB uptoB at h9
  simp only [Bool.and_eq_true, decide_eq_true_eq] at h9
  omega
 obtain ⟨z, la⟩ := W
 obtain ⟨a, b, c, d, e, f, g, i, k, rfl⟩ := nine_of z hl
 have hP : P = [a + la, b, c, d, e, f, g, i, k, la] := h
 subst hP
 have q0 : -60000000000000 ≤ a ∧ a ≤ 60000000000000 := hB 0
 have h2' : -1073741823 ≤ la ∧ la ≤ 1073741823 := h2
 have hde : -1073741823 ≤ deepI S la ∧ deepI S la ≤ 1073741823 := by
  unfold deepI
  split <;> omega
 have w1 : wrap64 (a + la) = a + la := wrap_in (by omega) (by omega)
 have w2 : wrap64 (a + la - deepI S la) = a + la - deepI S la := wrap_in (by omega) (by omega)
 have w3 : wrap64 (S.ht - (a + la - deepI S la)) = S.ht - (a + la - deepI S la) := wrap_in (by omega) (by omega)
 have hgap : gapQ S [a + la, b, c, d, e, f, g, i, k, la] = S.ht - (a + la - deepI S la) := by
  show wrap64 (S.ht - wrap64 (a + la - deepI S la)) = _
  rw [w2, w3]
 have q1 : -60000000000000 ≤ b ∧ b ≤ 60000000000000 := hB 1
 have q2 : -60000000000000 ≤ c ∧ c ≤ 60000000000000 := hB 2
 have q3 : -60000000000000 ≤ d ∧ d ≤ 60000000000000 := hB 3
 have q4 : -60000000000000 ≤ e ∧ e ≤ 60000000000000 := hB 4
 have q5 : -60000000000000 ≤ f ∧ f ≤ 60000000000000 := hB 5
 have q6 : -60000000000000 ≤ g ∧ g ≤ 60000000000000 := hB 6
 have q7 : -60000000000000 ≤ i ∧ i ≤ 60000000000000 := hB 7
 have q8 : -60000000000000 ≤ k ∧ k ≤ 60000000000000 := hB 8
 have kp : ∀ n, ([b, c, d, e] : List Int).getD n 0 ≤ 60000000000000 := fun n => by
  match n with
  | 0 => exact q1.2
  | 1 => exact q2.2
  | 2 => exact q3.2
  | 3 => exact q4.2
  | n + 4 => show (0 : Int) ≤ _; omega
 have km : ∀ n, -60000000000000 ≤ ([f, g, i, k] : List Int).getD n 0 ∧ ([f, g, i, k] : List Int).getD n 0 ≤ 60000000000000 := fun n => by
  match n with
  | 0 => exact q5
  | 1 => exact q6
  | 2 => exact q7
  | 3 => exact q8
  | n + 4 => show _ ≤ (0 : Int) ∧ (0 : Int) ≤ _; omega
 refine ⟨?_, by rw [hgap]; omega, by rw [hgap]; omega, kp _, (km _).1, (km _).2⟩
 unfold badW badP
 rw [hgap]
 show Shr.badT _ [b, c, d, e] [f, g, i, k] = Shr.badT (S.ht - wrap64 (wrap64 (a + la) - deepI S la)) [b, c, d, e] [f, g, i, k]
 rw [w1, w2]
theorem trial_cost {xs : List Nd} {S : Sh} {a b : Nat} {s : Trl} (hb : listB xs = true) (hS : shB S = true) (hN : (its xs).length ≤ 4000) (hab : a ≤ b) (hbN : b ≤ (its xs).length) (hs : s = trlS (its xs) (insZ xs (its xs) (its xs).length (its xs).length) a (b - a)) :
 PilIn S (whoS S s.hn s.A s.L) ∧ rckI S s.hn s.A s.L s.hg (ppI (its xs) b) = pageI xs S a b := by
 have h := trlS_inv hb hN a (b - a) (by omega)
 rw [← hs, ← zsI_zsT xs hab] at h
 have hz : ∀ u ∈ zsI xs a b, u ∈ its xs := fun u hu => List.mem_of_mem_drop (List.mem_of_mem_take hu)
 have hk := who_lk hb hS h hz (zs_few a b hN) (segB_few hb a b)
 obtain ⟨w1, w2⟩ := wS_in (a := a) (b := b) hb hS hN
 have hwl : (wS xs (gapS S) (zsI xs a b)).1.length = 9 := by
  unfold wS
  split
  ·rw [nF_len, pAdd_len]; exact aS_len _
  ·exact aS_len _
 obtain ⟨r1, r2⟩ := rck_eq hk hwl w1 w2 hS
 refine ⟨r2, ?_⟩
 unfold rckI pageI
 rw [r1, h.hg]
end Go.Proofs.YtlohbaoigfaneaaGreat
namespace Go.Proofs.YtlohbaoigfaneaaGreat
open Go.RowKit Go.Shelf
set_option linter.unusedVariables false
set_option linter.unusedSimpArgs false
attribute [local go_sem] Oper.semAt_some
theorem wpIn_runR {l : Nat} {o : Oper} {a : Act} {w w' : World} {v : Value} {n : Nat} {K : Act → World → Prop} {Q : Exit → Act → World → Prop} (hd : ∀ c, o.op ≠ .defer c) (h : (execOp a.eval o).run Tryz.prog w = .ok (.value v) w') (hK : K (a.put o.dst v) w') : o.wpIn (Fence.wide.inRound l) n Tryz.prog a w K Q := by
 refine ⟨fun _ _ => trivial, ?_⟩
 rw [Oper.semAt_plain _ _ _ hd, h]
 exact hK
theorem wpIn_skipR {l : Nat} {o : Oper} {a : Act} {w w' : World} {n : Nat} {K : Act → World → Prop} {Q : Exit → Act → World → Prop} (hd : ∀ c, o.op ≠ .defer c) (h : (execOp a.eval o).run Tryz.prog w = .ok .skip w') (hK : K (a.put o.dst undef) w') : o.wpIn (Fence.wide.inRound l) n Tryz.prog a w K Q := by
 refine ⟨fun _ _ => trivial, ?_⟩
 rw [Oper.semAt_plain _ _ _ hd, h]
 exact hK
theorem store_120 {e : Act} {oi : Oper} {p q : Operand} {G : Nat} {cs old : Array Value} (hsz : cs.size = 26) (hone : cs.all (·.oneCell') = true) (ho : oi.op = Op.store 120 p q) (hp : e.eval p = .pointer (some ⟨G, 0, none⟩)) (hq : e.eval q = .agg cs) (W : World) (h : W.heap[G]? = some (.cells old 120 (0, 0))) (hold : old.size = 26) : (execOp e.eval oi).run Tryz.prog W = .ok .skip (W.setRow G cs) := by
 have hr := run_storeVar_row (P := Tryz.prog) W G 120 120 old cs h (by rw [hsz]; kernel_rfl) (by rw [hold, hsz]) hone
 unfold execOp
 simp only [ho, hp, hq, Instr.storeAt, Instr.sureAddr, Sem.run_bind, Sem.run_pure, Result.andThen_ok, hr]
theorem Fr.others {B : Nat} {A C : World} (h : Fr B A C) (hB : ∃ o, A.heap[B]? = some o ∧ o.isCells = true) : KeepsOthers A C := ⟨h.2.2.2.1, fun q o hq ho => by
 obtain ⟨o', ho', hc⟩ := hB
 by_cases e : q = B
 ·subst e
  rw [hq] at ho'
  cases ho'
  rw [ho] at hc
  cases hc
 ·exact (h.2.2.2.2 q (Array.getElem?_eq_some_iff.1 hq).1 e).trans hq⟩
def triC (tt pr : Int) (s : Trl) : Array Value := (triP tt pr 0 s.em s.hn ++ s.A.map (Value.int .i64) ++ (s.L.map (Value.int .i64) ++ [Value.int .i64 s.hg])).toArray
theorem triC_ok (tt pr : Int) {s : Trl} (hA : s.A.length = 10) (hL : s.L.length = 10) : (triC tt pr s).size = 26 ∧ (triC tt pr s).all (·.oneCell') = true := by
 obtain ⟨em, hn, A, L, hg⟩ := s
 obtain ⟨a0, a1, a2, a3, a4, a5, a6, a7, a8, a9, rfl⟩ := ten_of A hA
 obtain ⟨l0, l1, l2, l3, l4, l5, l6, l7, l8, l9, rfl⟩ := ten_of L hL
 exact ⟨rfl, by kernel_rfl⟩
theorem trl_stops (n : Nat) (hn : 1 ≤ n) {ys : List It} {Z : List Int} {FB CB C D g f N uc : Nat} {ua : Option Addr} {w : World} (hl : ys.length = N) (hN : N ≤ 20000) (hf : f ≤ N) (hZ : Z.length = N * 10) (hord : ∀ i, i < N → Ord (ys.getD i It.none).1) (hS : TS w FB CB C D g f N uc ua ys Z) :
 StopsLow Fence.wide n Tryz.prog 92 #[.pointer (some ⟨FB, 0, none⟩), .pointer (some ⟨CB, 0, none⟩)] (triE ys Z f) KeptC (fun xs => xs = brks ys f (N + 1)) w :=
 fun l J Jx W hb hJ hJx hY h0 => trl1_in n l hn hl hN hf hZ hord J Jx W hJ (hS.kept (KeptC.of_below hb)) hY h0
def pcJ (n : Nat) (b : Nat) (W4 : World) (pre : List Nat) (W : World) : Prop := Below n W4 W ∧ b ∉ pre
def pcR (n q : Nat) (w : World) (R : Int) (pre : List Nat) (W : World) : Prop := Below n w W ∧ W.heap[q]? = some (.cells #[.int .i64 R] 2 (0, 0))
set_option maxRecDepth 100000 in
set_option maxHeartbeats 8000000 in
theorem implPC_in {v : Value} {xs : List Nd} {w : World} (S : Sh) (f t : Int) (h : NRow 0 w v xs) (hs : xs.length ≤ 1048576) (hcp : ∀ a n c, v = .slice a n c → n ≤ c ∧ c ≤ 9223372036854775807) :
 CallsIn Fence.wide 8 Tryz.prog 16 #[v, shV S, .int .i64 f, .int .i64 t] w fun e w' => e = .returned (.int .i64 (pcI xs S f t)) ∧ Below w.heap.size w w' := by
 have SC : Hid (∀ W, Below w.heap.size w W → Calls Tryz.prog 43 #[v, shV S] W fun e W' => ((shB S && listB xs) = false → e = .returned (.tuple #[.pointer none, .bool false])) ∧ ((shB S && listB xs) = true → ∃ (C D : Nat) (ua : Option Addr) (uc : Nat), e = .returned (.tuple #[.pointer (some ⟨C, 0, none⟩), .bool (decide (((its xs).length : Int) ≤ 4000))]) ∧ W'.heap[C]? = some (.cells #[.int .i64 S.ht, .int .i64 S.dp, .int .i64 S.g0, .int .i64 S.g1, .int .i64 S.g2, .int .i64 S.g3, .int .i64 S.g4, .int .i64 S.nt, v, .slice ua (its xs).length uc, .slice (some ⟨D, 0, none⟩) (its xs).length (its xs).length] 128 (0, 0)) ∧ W'.ownsRow W.heap.size 186 3 (.slice ua (its xs).length uc) (its xs).length (flatI (its xs)) ∧ W.heap.size < C ∧ IntsL W' D 118 (insZ xs (its xs) (its xs).length (its xs).length)) ∧ Below W.heap.size W W') := hideP (fun W hW => callsIn_wide.1 (scrollX_in S (SRow.below ndStable h hW) hs hcp))
 obtain ⟨R, hR⟩ : ∃ R, R = pcI xs S f t := ⟨_, rfl⟩
 rw [← hR]
 have HRE := hideP hR
 obtain ⟨sl, hsl⟩ : ∃ sl, sl = (shB S && listB xs) := ⟨_, rfl⟩
 rw [← hsl] at SC
 have HSL := hideP hsl
 have HNO : Hid (fitB xs S f t = false → R = 1000000000) := hideP (fun h => by rw [HRE.out]; unfold pcI; rw [if_neg (by rw [h]; decide)])
 obtain ⟨va, vn, vc, rfl, _⟩ := h
 have HSS : Hid (S = S) := hideP rfl
 obtain ⟨T, hT⟩ : ∃ T, T = S := ⟨_, rfl⟩
 have HT := hideP hT
 obtain ⟨S0, S1, S2, S3, S4, S5, S6, S7⟩ := S
 clear hR hs hcp hsl hT HSS
 simp only [shV] at SC ⊢
 refine callsIn_of_wp_marks Tryz.func16 rfl trivial ?_ rfl
 simp only [Tryz.ntmps16, List.size_toArray, List.length_cons, List.length_nil, Nat.reduceAdd, Nat.reduceSub, Array.replicate_succ, Array.replicate_zero, List.push_toArray, List.append_toArray, List.nil_append, List.cons_append]
 gi_wp2_with fail
 refine ⟨trivial, CallsIn.mono (callsIn_wide.2 (SC.out _ (below3 _ _ _ _))) ?_⟩
 rintro e w2 ⟨hf, ht, hb2⟩
 obtain ⟨W1, hW1⟩ : ∃ W1, W1 = ((w.alloc (.cells #[.int .i64 S0, .int .i64 S1, .int .i64 S2, .int .i64 S3, .int .i64 S4, .int .i64 S5, .int .i64 S6, .int .i64 S7] 45)).alloc (.cells #[.int .i64 t] 2)).alloc (.cells #[.int .i64 0] 2) := ⟨_, rfl⟩
 rw [← hW1] at ht hb2
 have hz1 : W1.heap.size = w.heap.size + 3 := by rw [hW1]; simp
 have b1 : Below w.heap.size w W1 := by rw [hW1]; exact below3 _ _ _ _
 have p5 : W1.heap[w.heap.size]? = some (.cells #[.int .i64 S0, .int .i64 S1, .int .i64 S2, .int .i64 S3, .int .i64 S4, .int .i64 S5, .int .i64 S6, .int .i64 S7] 45 (0, 0)) := by
  rw [hW1]
  exact (Below.heap_alloc _ _ _ (by simp; omega)).trans ((Below.heap_alloc _ _ _ (by simp)).trans (heap_alloc_new _ _))
 have p7 : W1.heap[w.heap.size + 1]? = some (.cells #[.int .i64 t] 2 (0, 0)) := by
  rw [hW1]
  refine (Below.heap_alloc _ _ _ (by simp)).trans ?_
  have e1 := heap_alloc_new (w.alloc (.cells #[.int .i64 S0, .int .i64 S1, .int .i64 S2, .int .i64 S3, .int .i64 S4, .int .i64 S5, .int .i64 S6, .int .i64 S7] 45)) (.cells #[.int .i64 t] 2)
  simpa using e1
 have p8 : W1.heap[w.heap.size + 1 + 1]? = some (.cells #[.int .i64 0] 2 (0, 0)) := by
  rw [hW1]
  have e1 := heap_alloc_new ((w.alloc (.cells #[.int .i64 S0, .int .i64 S1, .int .i64 S2, .int .i64 S3, .int .i64 S4, .int .i64 S5, .int .i64 S6, .int .i64 S7] 45)).alloc (.cells #[.int .i64 t] 2)) (.cells #[.int .i64 0] 2)
  simpa using e1
 have Q5 : Hid (w2.heap[w.heap.size]? = some (.cells #[.int .i64 S0, .int .i64 S1, .int .i64 S2, .int .i64 S3, .int .i64 S4, .int .i64 S5, .int .i64 S6, .int .i64 S7] 45 (0, 0))) := hideP ((hb2.block _ (by omega)).trans p5)
 have Q7 : Hid (w2.heap[w.heap.size + 1]? = some (.cells #[.int .i64 t] 2 (0, 0))) := hideP ((hb2.block _ (by omega)).trans p7)
 have Q8 : Hid (w2.heap[w.heap.size + 1 + 1]? = some (.cells #[.int .i64 0] 2 (0, 0))) := hideP ((hb2.block _ (by omega)).trans p8)
 have B2 : Hid (Below w.heap.size w w2) := hideP (below_more b1 hb2 b1.size)
 have hz2 : w.heap.size + 3 ≤ w2.heap.size := by rw [← hz1]; exact hb2.size
 clear hb2 p5 p7 p8 b1 SC hW1
 have c8 : w2.cell? ⟨w.heap.size + 1 + 1, 0, none⟩ = some (.int .i64 0) := by rw [cell_of_row _ _ _ _ 2 _ Q8.out]; rfl
 have f8 : w2.frozen? ⟨w.heap.size + 1 + 1, 0, none⟩ = false := frozen_of_row _ _ 0 _ 2 Q8.out
 cases sl with
 | false =>
  obtain rfl := hf rfl
  have HE : Hid (R = 1000000000) := hideP (HNO.out (by
   have h := HSL.out
   unfold fitB
   cases h1 : listB xs
   ·rfl
   ·rw [h1, Bool.and_true] at h
    rw [← h]
    simp))
  clear hf ht
  gi_wp2
  refine ⟨trivial, ?_⟩
  gi_wp2
  refine ⟨.int .i64 1000000000, by simp [results, Tryz.results16, go_sem, c8], by rw [HE.out], B2.out.setCell (p := ⟨w.heap.size + 1 + 1, 0, none⟩) (by show _ ≤ w.heap.size + 1 + 1; omega) _⟩
 | true =>
  obtain ⟨C, D, ua, uc, rfl, hC, hu, hlt, hI⟩ := ht rfl
  obtain ⟨hsb, hlb⟩ : shB ⟨S0, S1, S2, S3, S4, S5, S6, S7⟩ = true ∧ listB xs = true := by
   have h := HSL.out.symm
   simpa [Bool.and_eq_true] using h
  obtain ⟨N, hN⟩ : ∃ N, N = (its xs).length := ⟨_, rfl⟩
  rw [← hN] at hC hu hI ⊢
  have HSB := hideP hsb
  have HLB := hideP hlb
  have HN := hideP hN
  have HC := hideP hC
  have HU := hideP hu
  have HI := hideP hI
  have hCl : C < w2.heap.size := (Array.getElem?_eq_some_iff.1 hC).1
  clear hf ht hC hu hI hlb hsb hN
  by_cases h4 : (N : Int) ≤ 4000
  ·rw [decide_eq_true h4]
   have EC : Hid (Calls Tryz.prog 44 #[.pointer (some ⟨C, 0, none⟩), .int .i64 f, .int .i64 t] w2 fun e w' => e = .returned (.bool (endsB (its xs) f t)) ∧ Below w2.heap.size w2 w') := hideP (endsX_any f t (by rw [cell_of_row _ _ _ _ 128 _ HC.out]; rfl) HU.out HN.out.symm (by omega))
   obtain ⟨E, hE⟩ : ∃ E, E = endsB (its xs) f t := ⟨_, rfl⟩
   have HFT : Hid (fitB xs ⟨S0, S1, S2, S3, S4, S5, S6, S7⟩ f t = E) := hideP (by
    unfold fitB
    rw [HLB.out, HSB.out, ← hE, decide_eq_true (by rw [← HN.out]; omega)]
    simp)
   rw [← hE] at EC
   have HEE := hideP hE
   have c7 : w2.cell? ⟨w.heap.size + 1, 0, none⟩ = some (.int .i64 t) := by rw [cell_of_row _ _ _ _ 2 _ Q7.out]; rfl
   have HN4 := hideP h4
   clear hE h4
   gi_wp2_with fail
   refine ⟨trivial, CallsIn.mono (callsIn_wide.2 EC.out) ?_⟩
   rintro e w3 ⟨rfl, hb3⟩
   have B3 : Hid (Below w.heap.size w w3) := hideP (below_more B2.out hb3 B2.out.size)
   have q8 : w3.heap[w.heap.size + 1 + 1]? = some (.cells #[.int .i64 0] 2 (0, 0)) := (hb3.block _ (by omega)).trans Q8.out
   have q5 : w3.heap[w.heap.size]? = some (.cells #[.int .i64 S0, .int .i64 S1, .int .i64 S2, .int .i64 S3, .int .i64 S4, .int .i64 S5, .int .i64 S6, .int .i64 S7] 45 (0, 0)) := (hb3.block _ (by omega)).trans Q5.out
   have q7 : w3.heap[w.heap.size + 1]? = some (.cells #[.int .i64 t] 2 (0, 0)) := (hb3.block _ (by omega)).trans Q7.out
   have qC := (hb3.block C hCl).trans HC.out
   have qU : w3.ownsRow w2.heap.size 186 3 (.slice ua N uc) N (flatI (its xs)) ∨ True := .inr trivial
   have U3 := hideP (ownG_below HU.out hb3)
   have I3 := hideP (HI.out.below hb3)
   have hz3 : w2.heap.size ≤ w3.heap.size := hb3.size
   have P5 := hideP q5
   have P7 := hideP q7
   have P8 := hideP q8
   have PC := hideP qC
   clear c8 f8 c7
   have c8 : w3.cell? ⟨w.heap.size + 1 + 1, 0, none⟩ = some (.int .i64 0) := by rw [cell_of_row _ _ _ _ 2 _ q8]; rfl
   have f8 : w3.frozen? ⟨w.heap.size + 1 + 1, 0, none⟩ = false := frozen_of_row _ _ 0 _ 2 q8
   clear hb3 q5 q7 q8 qC qU EC HU HI HC Q5 Q7 Q8 B2
   cases E with
   | false =>
    have HE : Hid (R = 1000000000) := hideP (HNO.out HFT.out)
    gi_wp2
    refine ⟨.int .i64 1000000000, by simp [results, Tryz.results16, go_sem, c8], by rw [HE.out], B3.out.setCell (p := ⟨w.heap.size + 1 + 1, 0, none⟩) (by show _ ≤ w.heap.size + 1 + 1; omega) _⟩
   | true =>
    have hin := HEE.out.symm
    unfold endsB at hin
    simp only [Bool.and_eq_true, decide_eq_true_eq, ← HN.out] at hin
    obtain ⟨⟨i1, i2, i3⟩, i4⟩ := hin
    obtain ⟨a, rfl⟩ : ∃ a : Nat, f = (a : Int) := ⟨f.toNat, by omega⟩
    obtain ⟨b, rfl⟩ : ∃ b : Nat, t = (b : Int) := ⟨t.toNat, by omega⟩
    rw [Int.toNat_natCast] at i4
    have hN4 : N ≤ 4000 := by have := HN4.out; omega
    have HRP : Hid (R = pageI xs ⟨S0, S1, S2, S3, S4, S5, S6, S7⟩ a b) := hideP (by rw [HRE.out]; unfold pcI; rw [if_pos HFT.out, Int.toNat_natCast, Int.toNat_natCast])
    have HMEM : Hid (b ∈ brks (its xs) a (N + 1)) := hideP (brks_mem _ (by omega) (by omega) i4)
    have hab : a ≤ b := by omega
    have hbN : b ≤ N := by omega
    have TC : Hid (Calls Tryz.prog 45 #[.pointer (some ⟨C, 0, none⟩), .int .i64 (a : Int)] w3 fun e w' => e = .returned (.func (.func 92) #[] #[.pointer (some ⟨w3.heap.size + 1, 0, none⟩), .pointer (some ⟨w3.heap.size, 0, none⟩)]) ∧ w' = (w3.alloc (.cells #[.pointer (some ⟨C, 0, none⟩)] 107)).alloc (.cells #[.int .i64 (a : Int)] 3)) := hideP (trials_any C (a : Int) w3)
    clear i1 i2 i3 i4 c8 f8
    gi_wp2_with fail
    refine ⟨trivial, CallsIn.mono (callsIn_wide.2 TC.out) ?_⟩
    rintro e w4 ⟨rfl, hw4⟩
    have b4 : Below w3.heap.size w3 w4 := by rw [hw4]; exact below2 _ _ _
    have hz4 : w4.heap.size = w3.heap.size + 2 := by rw [hw4]; simp
    obtain ⟨Z, hZ⟩ : ∃ Z, Z = insZ xs (its xs) N N := ⟨_, rfl⟩
    have hZl : Z.length = N * 10 := by rw [hZ, insZ_len]
    have TS4 : ∃ g, TS w4 (w3.heap.size + 1) w3.heap.size C D g a N uc ua (its xs) Z := by
     have r9 : w4.heap[C]? = _ := (b4.block C (by omega)).trans PC.out
     have U4 := ownG_below U3.out b4
     have hgx : ∃ g, (0 < N → ua = some ⟨g, 0, none⟩) ∧ ItR w4 g (its xs) := by
      by_cases h0 : 0 < N
      ·obtain ⟨g, e, _, _, hit⟩ := its_row U4 HN.out.symm h0
       exact ⟨g, fun _ => e, hit⟩
      ·exact ⟨0, fun h => absurd h h0, ⟨fun i hi => by have := HN.out; omega, fun i hi => by have := HN.out; omega, fun i hi => by have := HN.out; omega⟩⟩
     obtain ⟨g, hg1, hg2⟩ := hgx
     refine ⟨g, ?_, ?_, by rw [cell_of_row _ _ _ _ 128 _ r9]; rfl, by rw [cell_of_row _ _ _ _ 128 _ r9]; rfl, hg1, hg2, ?_⟩
     ·have e1 := heap_alloc_new (w3.alloc (.cells #[.pointer (some ⟨C, 0, none⟩)] 107)) (.cells #[.int .i64 (a : Int)] 3)
      rw [World.size_alloc] at e1
      rw [hw4, cell_of_row _ _ _ _ 3 _ e1]; rfl
     ·have e1 : w4.heap[w3.heap.size]? = some (.cells #[.pointer (some ⟨C, 0, none⟩)] 107 (0, 0)) := by rw [hw4]; exact (Below.heap_alloc _ _ _ (by simp)).trans (heap_alloc_new _ _)
      rw [cell_of_row _ _ _ _ 107 _ e1]; rfl
     ·have hI4 := I3.out.below b4
      rw [← hZ] at hI4
      exact hI4
    obtain ⟨g, hTS⟩ := TS4
    have HTS := hideP hTS
    have B4 : Hid (Below w.heap.size w w4) := hideP (below_more B3.out b4 B3.out.size)
    have P54 : Hid (w4.heap[w.heap.size]? = some (.cells #[.int .i64 S0, .int .i64 S1, .int .i64 S2, .int .i64 S3, .int .i64 S4, .int .i64 S5, .int .i64 S6, .int .i64 S7] 45 (0, 0))) := hideP ((b4.block _ (by omega)).trans P5.out)
    have P74 : Hid (w4.heap[w.heap.size + 1]? = some (.cells #[.int .i64 (b : Int)] 2 (0, 0))) := hideP ((b4.block _ (by omega)).trans P7.out)
    have P84 : Hid (w4.heap[w.heap.size + 1 + 1]? = some (.cells #[.int .i64 0] 2 (0, 0))) := hideP ((b4.block _ (by omega)).trans P8.out)
    have hord : ∀ i, i < N → Ord ((its xs).getD i It.none).1 := fun i hi => by
     obtain ⟨p, hp, e⟩ := its_get (xs := xs) (k := i) (by rw [← HN.out]; exact hi)
     rw [e]
     exact list_ord HLB.out _ hp
    have HZE := hideP hZ
    have HORD := hideP hord
    have hsz4 : w.heap.size + 3 < w4.heap.size := by omega
    clear hw4 b4 P5 P7 P8 PC U3 I3 B3 TC hZ hord hTS
    gi_wp2_with fail
    refine wpIn_range_low (F := Fence.wide) (n := 8) rfl (by omega) (gf := 92) (lb := #[.pointer (some ⟨w3.heap.size + 1, 0, none⟩), .pointer (some ⟨w3.heap.size, 0, none⟩)]) rfl trivial (enters_of Tryz.func92 (by kernel_rfl) rfl)
     (trl_stops 7 (by omega) HN.out.symm (by omega) (show a ≤ N by omega) hZl HORD.out HTS.out) (fun h k => h.trans k) ?keepb (fun _ => rfl) KeptC.of_below
     (pcJ w4.heap.size b w4) (pcR w.heap.size (w.heap.size + 1 + 1) w R) ?ownI ?ownR ?start ?a1y (fun x W => W.alloc (.cells (triC (x : Int) (ppI (its xs) x) (trlS (its xs) Z a (x - a))) 120)) (fun x W => (Below.refl _ W).alloc (Nat.le_refl _) _) ?assign ?body ?done ?stop
    case assign =>
     intro l x W K hK
     have hlen := trlS_len (its xs) Z a (x - a)
     obtain ⟨h26, hone⟩ := triC_ok (x : Int) (ppI (its xs) x) hlen.1 hlen.2
     have hE : triE (its xs) Z a x = #[.agg (triC (x : Int) (ppI (its xs) x) (trlS (its xs) Z a (x - a)))] := rfl
     rw [hE]
     obtain ⟨cs, hcs⟩ : ∃ cs, cs = triC (x : Int) (ppI (its xs) x) (trlS (its xs) Z a (x - a)) := ⟨_, rfl⟩
     rw [← hcs] at h26 hone hK ⊢
     clear hE hlen
     simp
     refine wpIn_region_list ?_
     simp only [List.toList_toArray]
     rw [wpListIn]
     rw [if_pos (by first | rfl | go_simp)]
     refine wpIn_runR (v := .pointer (some ⟨W.heap.size, 0, none⟩)) (w' := W.alloc (.cells #[.int .i64 0, .int .i64 0, .int .i64 0, .bool false, .bool false, .int .i64 0, .int .i64 0, .int .i64 0, .int .i64 0, .int .i64 0, .int .i64 0, .int .i64 0, .int .i64 0, .int .i64 0, .int .i64 0, .int .i64 0, .int .i64 0, .int .i64 0, .int .i64 0, .int .i64 0, .int .i64 0, .int .i64 0, .int .i64 0, .int .i64 0, .int .i64 0, .int .i64 0] 120)) (by intro c e; cases e) (by go_simp) ?_
     try simp only [Act.put, List.getElem_toArray, List.getElem_cons_zero, List.getElem_cons_succ, List.setIfInBounds_toArray, List.set_cons_zero, List.set_cons_succ]
     rw [wpListIn]
     rw [if_pos (by first | rfl | go_simp)]
     refine wpIn_skipR (w' := (W.alloc (.cells #[.int .i64 0, .int .i64 0, .int .i64 0, .bool false, .bool false, .int .i64 0, .int .i64 0, .int .i64 0, .int .i64 0, .int .i64 0, .int .i64 0, .int .i64 0, .int .i64 0, .int .i64 0, .int .i64 0, .int .i64 0, .int .i64 0, .int .i64 0, .int .i64 0, .int .i64 0, .int .i64 0, .int .i64 0, .int .i64 0, .int .i64 0, .int .i64 0, .int .i64 0] 120)).setRow W.heap.size cs) (by intro c e; cases e) (store_120 h26 hone rfl rfl rfl _ (heap_alloc_new _ _) rfl) ?_
     rw [World.setRow_alloc_new]
     try simp only [Act.put, List.getElem_toArray, List.getElem_cons_zero, List.getElem_cons_succ, List.setIfInBounds_toArray, List.set_cons_zero, List.set_cons_succ]
     rw [wpListIn]
     subst hcs
     show K _ _
     exact hK
    case keepb =>
     intro W l o o' hl hlo hoc
     exact KeptC.put W l o' hlo hoc
    case ownI =>
     rintro s A B ⟨h1, h2⟩ hb
     exact ⟨h1.trans hb, h2⟩
    case ownR =>
     rintro s A B ⟨h1, h2⟩ hb
     exact ⟨h1.trans (hb.mono (by omega)), (hb.block _ (by omega)).trans h2⟩
    case start => exact ⟨Below.refl _ _, by simp⟩
    case done =>
     rintro D' xs' W hD hst ⟨_, hb⟩ hK
     rw [hst] at hb
     exact absurd HMEM.out hb
    case stop =>
     rintro D' pre W hD ⟨hb, hq⟩ hK
     refine wpIn_ret ?_
     refine leaves_marks [D'] _ ⟨by simp, fun r hr => by
      have e : r = D' := by simpa using hr
      rw [e]; exact hK⟩ (fun w' hc => ?_)
     have hq2 : w'.heap[w.heap.size + 1 + 1]? = some (.cells #[.int .i64 R] 2 (0, 0)) := (hc.2.2.2.2 _ (by simp; omega)).trans hq
     have c8 : w'.cell? ⟨w.heap.size + 1 + 1, 0, none⟩ = some (.int .i64 R) := by rw [cell_of_row _ _ _ _ 2 _ hq2]; rfl
     refine ⟨.int .i64 R, by simp [results, Tryz.results16, go_sem, c8], rfl, ?_⟩
     refine ⟨hc.1.trans hb.os, hc.2.1.trans hb.tape, hc.2.2.1.trans hb.output, ?_, fun q hq => ?_⟩
     ·rw [hc.2.2.2.1]; exact hb.size
     ·refine (hc.2.2.2.2 q (fun hqr => ?_)).trans (hb.block q hq)
      have e : q = D' := by simpa using hqr
      omega
    case body =>
     rintro l pre x W X hpl ⟨hbI, hnb⟩ hqX hbX
     have hlen := trlS_len (its xs) Z a (x - a)
     obtain ⟨G, hG⟩ : ∃ G, G = W.heap.size := ⟨_, rfl⟩
     have hrow : X.heap[G]? = some (.cells (triC (x : Int) (ppI (its xs) x) (trlS (its xs) Z a (x - a))) 120 (0, 0)) := by rw [hG]; exact (hqX _ (Nat.le_refl _)).trans (heap_alloc_new W _)
     rw [← hG]
     have hG4 : w4.heap.size < G := by omega
     have HTR : Hid (x = b → PilIn ⟨S0, S1, S2, S3, S4, S5, S6, S7⟩ (whoS ⟨S0, S1, S2, S3, S4, S5, S6, S7⟩ (trlS (its xs) Z a (x - a)).hn (trlS (its xs) Z a (x - a)).A (trlS (its xs) Z a (x - a)).L) ∧ rckI ⟨S0, S1, S2, S3, S4, S5, S6, S7⟩ (trlS (its xs) Z a (x - a)).hn (trlS (its xs) Z a (x - a)).A (trlS (its xs) Z a (x - a)).L (trlS (its xs) Z a (x - a)).hg (ppI (its xs) x) = R) := hideP (fun e => by
      have h := trial_cost (a := a) (b := b) (S := ⟨S0, S1, S2, S3, S4, S5, S6, S7⟩) (s := trlS (its xs) Z a (x - a)) HLB.out HSB.out (by rw [← HN.out]; exact hN4) hab (by rw [← HN.out]; exact hbN) (by rw [e, HZE.out, HN.out])
      rw [HRP.out]
      rw [← e] at h ⊢
      exact h)
     have hE : triE (its xs) Z a x = #[.agg (triC (x : Int) (ppI (its xs) x) (trlS (its xs) Z a (x - a)))] := rfl
     try rw [hE]
     obtain ⟨s, hs⟩ : ∃ s, s = trlS (its xs) Z a (x - a) := ⟨_, rfl⟩
     rw [← hs] at hrow hlen HTR ⊢
     obtain ⟨pr, hpr⟩ : ∃ p, p = ppI (its xs) x := ⟨_, rfl⟩
     rw [← hpr] at hrow HTR ⊢
     have hT : TriA X G (x : Int) pr 0 s.em s.hn s.A s.L s.hg := ⟨hlen.1, hlen.2, hrow⟩
     obtain ⟨cs, hcs⟩ : ∃ cs, cs = triC (x : Int) pr s := ⟨_, rfl⟩
     have c0 : X.cell? ⟨G, 0, none⟩ = some (.int .i64 (x : Int)) := by rw [cell_of_row _ _ _ _ 120 _ hrow]; rfl
     rw [← hcs] at hrow ⊢
     have b0w : Below w4.heap.size w4 X := hbI
     have x7 : X.heap[w.heap.size + 1]? = some (.cells #[.int .i64 (b : Int)] 2 (0, 0)) := (hbI.block _ (by omega)).trans P74.out
     have c7 : X.cell? ⟨w.heap.size + 1, 0, none⟩ = some (.int .i64 (b : Int)) := by rw [cell_of_row _ _ _ _ 2 _ x7]; rfl
     have HB := hideP hbI
     have HT := hideP hT
     have HNB := hideP hnb
     have hGX : G < X.heap.size := hT.lt
     clear hbI hnb hqX hbX hlen hrow hs hpr hcs hE hT x7 b0w hG
     by_cases hxb : x = b
     ·obtain ⟨hpil, hrck⟩ := HTR.out hxb
      have hxi : ((x : Int) == (b : Int)) = true := by simp [hxb]
      have HXB := hideP hxb
      have RC : Hid (∀ Y, TriA Y G (x : Int) pr 0 s.em s.hn s.A s.L s.hg → Calls Tryz.prog 46 #[.pointer (some ⟨G, 0, none⟩), .agg #[.int .i64 S0, .int .i64 S1, .int .i64 S2, .int .i64 S3, .int .i64 S4, .int .i64 S5, .int .i64 S6, .int .i64 S7]] Y fun e w' => (∃ v, e = .returned v) ∧ TriA w' G (x : Int) pr R s.em s.hn s.A s.L s.hg ∧ Fr G Y w') := hideP (fun Y hY => by
       have hsb := HSB.out
       have hg := gap_pin hsb
       rw [← hrck]
       exact reckon_any hY ⟨S0, S1, S2, S3, S4, S5, S6, S7⟩ ⟨hg.o1.1, by have := hg.o1.2; show S4 < 4; exact Int.lt_of_le_of_lt this (by omega)⟩ ⟨hg.o2.1, by have := hg.o2.2; show S6 < 4; exact Int.lt_of_le_of_lt this (by omega)⟩ hpil)
      have x5 : X.heap[w.heap.size]? = some (.cells #[.int .i64 S0, .int .i64 S1, .int .i64 S2, .int .i64 S3, .int .i64 S4, .int .i64 S5, .int .i64 S6, .int .i64 S7] 45 (0, 0)) := (HB.out.block _ (by omega)).trans P54.out
      have y0 : X.cell? ⟨w.heap.size, 0, none⟩ = some (.int .i64 S0) := by rw [cell_of_row _ _ _ _ 45 _ x5]; rfl
      have y1 : X.cell? ⟨w.heap.size, 1, none⟩ = some (.int .i64 S1) := by rw [cell_of_row _ _ _ _ 45 _ x5]; rfl
      have y2 : X.cell? ⟨w.heap.size, 2, none⟩ = some (.int .i64 S2) := by rw [cell_of_row _ _ _ _ 45 _ x5]; rfl
      have y3 : X.cell? ⟨w.heap.size, 3, none⟩ = some (.int .i64 S3) := by rw [cell_of_row _ _ _ _ 45 _ x5]; rfl
      have y4 : X.cell? ⟨w.heap.size, 4, none⟩ = some (.int .i64 S4) := by rw [cell_of_row _ _ _ _ 45 _ x5]; rfl
      have y5 : X.cell? ⟨w.heap.size, 5, none⟩ = some (.int .i64 S5) := by rw [cell_of_row _ _ _ _ 45 _ x5]; rfl
      have y6 : X.cell? ⟨w.heap.size, 6, none⟩ = some (.int .i64 S6) := by rw [cell_of_row _ _ _ _ 45 _ x5]; rfl
      have y7 : X.cell? ⟨w.heap.size, 7, none⟩ = some (.int .i64 S7) := by rw [cell_of_row _ _ _ _ 45 _ x5]; rfl
      clear hpil hrck hxb x5
      gi_wp2_with fail
      refine ⟨trivial, CallsIn.inRound l (CallsIn.mono (callsIn_wide.2 (RC.out X HT.out)) ?_)⟩
      rintro e Y ⟨⟨vr, rfl⟩, hTY, hFY⟩
      have c2 : Y.cell? ⟨G, 2, none⟩ = some (.int .i64 R) := by rw [cell_of_row _ _ _ _ 120 _ hTY.row]; rfl
      have x8 : Y.heap[w.heap.size + 1 + 1]? = some (.cells #[.int .i64 0] 2 (0, 0)) := (hFY.2.2.2.2 _ (by omega) (by omega)).trans ((HB.out.block _ (by omega)).trans P84.out)
      have c8 : Y.cell? ⟨w.heap.size + 1 + 1, 0, none⟩ = some (.int .i64 0) := by rw [cell_of_row _ _ _ _ 2 _ x8]; rfl
      have f8 : Y.frozen? ⟨w.heap.size + 1 + 1, 0, none⟩ = false := frozen_of_row _ _ 0 _ 2 x8
      have HFY := hideP hFY
      have X8 := hideP x8
      clear hTY hFY x8 y0 y1 y2 y3 y4 y5 y6 y7 c0 c7 RC
      gi_wp2
      refine ⟨?_, ?_, ?_⟩
      ·exact (Fr.others HFY.out ⟨_, HT.out.row, rfl⟩).trans (KeepsOthers.setCell _ _ _)
      ·have h1 := B4.out.trans (HB.out.mono (by omega))
       exact (h1.trans (Fr.low HFY.out (by omega) (by omega))).setCell (p := ⟨w.heap.size + 1 + 1, 0, none⟩) (by show _ ≤ w.heap.size + 1 + 1; omega) _
      ·exact heap_setCell_same _ _ 0 _ 2 _ X8.out
     ·have hxi : ((x : Int) == (b : Int)) = false := by simp; omega
      have HXB := hideP hxb
      clear hxb
      gi_wp2
      refine ⟨KeepsOthers.refl _, ⟨Nat.le_refl _, fun _ _ h _ => h⟩, HB.out, ?_⟩
      have h1 := HXB.out
      have h2 := HNB.out
      simp only [List.mem_append, List.mem_singleton]
      rintro (h | h)
      ·exact h2 h
      ·exact h1 h.symm
  ·rw [decide_eq_false h4]
   have HE : Hid (R = 1000000000) := hideP (HNO.out (by
    unfold fitB
    rw [decide_eq_false (by rw [← HN.out]; omega)]
    simp))
   gi_wp2
   refine ⟨trivial, ?_⟩
   gi_wp2
   refine ⟨.int .i64 1000000000, by simp [results, Tryz.results16, go_sem, c8], by rw [HE.out], B2.out.setCell (p := ⟨w.heap.size + 1 + 1, 0, none⟩) (by show _ ≤ w.heap.size + 1 + 1; omega) _⟩
end Go.Proofs.YtlohbaoigfaneaaGreat
