import Derived.Test.YtbpidcfoldkhgaaGreatDnd
import Derived.Test.YtbpidcfoldkhgaaGreatMeanB
namespace Go.Proofs.YtbpidcfoldkhgaaGreat
open Go.RowKit
set_option linter.unusedVariables false
set_option linter.unusedSimpArgs false
def sumT (zs : List Int) : Nat → Int
 | 0 => 0
 | k + 1 => (sumT zs k + (((k : Int) + 1) % 65521) * zs.getD k 0) % 65521
theorem sumT_in (zs : List Int) : ∀ k, 0 ≤ sumT zs k ∧ sumT zs k < 65521
 | 0 => by simp [sumT]
 | k + 1 => by
  rw [sumT]
  exact ⟨Int.emod_nonneg _ (by decide), Int.emod_lt_of_pos _ (by decide)⟩
def BYs (zs : List Int) : Prop := ∀ z ∈ zs, 0 ≤ z ∧ z < 256
def endB (zs : List Int) : List Int := [((zs.length : Int) + sumT zs zs.length) % 65521 % 256, ((zs.length : Int) + sumT zs zs.length) % 65521 / 256]
theorem BO.at {base : Nat} {w : World} {v : Value} {zs : List Int} (h : BO base w v zs) {k : Nat} (hk : k < zs.length) : ∃ g cap, v = .slice (some ⟨g, 0, none⟩) zs.length cap ∧ g < w.heap.size ∧ w.cell? ⟨g, k, none⟩ = some (.int .u8 (zs.getD k 0)) := by
 obtain ⟨ao, cap, rfl⟩ := h.shape
 have h' := h
 rcases h.2 with ⟨e, h0⟩ | ⟨g', cap', cur, e, hg0, hb, _⟩
 ·have : zs = [] := by simpa using h0
  subst this
  simp at hk
 ·simp only [Value.slice.injEq] at e
  obtain ⟨rfl, _, rfl⟩ := e
  refine ⟨g', cap, rfl, (Array.getElem?_eq_some_iff.1 hb).1, ?_⟩
  have hc := World.ownsRow.cells (g := g') h' rfl k (.int .u8 (zs.getD k 0)) (by rw [List.getElem?_map, List.getElem?_eq_getElem hk, List.getD_eq_getElem?_getD, List.getElem?_eq_getElem hk]; rfl)
  rw [add_new] at hc
  exact hc
set_option maxRecDepth 20000 in
set_option maxHeartbeats 4000000 in
theorem l15Sum_any {W : World} {base : Nat} {v : Value} {zs : List Int} (h : BO base W v zs) (hz : BYs zs) (hl : zs.length ≤ 70368744177664) :
 Calls Tryz.prog 34 #[v] W fun e W' => e = .returned (.int .u64 (sumT zs zs.length)) ∧ Below W.heap.size W W' := by
 have HO := hideP h
 have HZ := hideP hz
 obtain ⟨ao, cap, rfl⟩ := BO.shape h
 obtain ⟨n, hn⟩ : ∃ n, n = zs.length := ⟨_, rfl⟩
 have HN := hideP hn
 have hn2 : (n : Int) ≤ 70368744177664 := by omega
 have CX : Hid (∀ k, k < n → ∃ g, ao = some ⟨g, 0, none⟩ ∧ W.cell? ⟨g, k, none⟩ = some (.int .u8 (zs.getD k 0)) ∧ 0 ≤ zs.getD k 0 ∧ zs.getD k 0 < 256) := hideP (fun k hk => by
  obtain ⟨g, c, e, _, h2⟩ := BO.at HO.out (k := k) (by omega)
  simp only [Value.slice.injEq] at e
  exact ⟨g, e.1, h2, HZ.out _ (getD_in 0 (by omega))⟩)
 rw [← hn]
 clear h hz hl hn
 go_enter Tryz.func34, Tryz.ntmps34
 go_wp2
 go_loopw [3, 4] (fun s3 s4 wr => ∃ k : Nat, s4 = .int .i64 (k : Int) ∧ k ≤ n ∧ s3 = .int .u64 (sumT zs k) ∧ wr = W) (fun _ s _ => n - (intOf s).toNat)
 case atStart => exact ⟨0, rfl, by omega, rfl, rfl⟩
 case round =>
  obtain ⟨k, rfl, hkn, rfl, rfl⟩ := hrel
  by_cases hk : k < n
  ·have hki : (k : Int) < (n : Int) := by omega
   obtain ⟨g, rfl, hc, z0, z1⟩ := CX.out k hk
   have hst : sumT zs (k + 1) = (sumT zs k + (((k : Int) + 1) % 65521) * zs.getD k 0) % 65521 := rfl
   obtain ⟨s0, s1⟩ := sumT_in zs k
   obtain ⟨S, hS⟩ : ∃ S, S = sumT zs k := ⟨_, rfl⟩
   obtain ⟨z, hz⟩ : ∃ z, z = zs.getD k 0 := ⟨_, rfl⟩
   obtain ⟨q, hq⟩ : ∃ q, ((k : Int) + 1) % 65521 = q := ⟨_, rfl⟩
   have q0 : 0 ≤ q := by rw [← hq]; exact Int.emod_nonneg _ (by decide)
   have q1 : q < 65521 := by rw [← hq]; exact Int.emod_lt_of_pos _ (by decide)
   rw [← hS] at hst s0 s1 ⊢
   rw [← hz] at hst hc z0 z1
   rw [hq] at hst
   obtain ⟨p, hp⟩ : ∃ p, q * z = p := ⟨_, rfl⟩
   have p0 : 0 ≤ p := by rw [← hp]; exact Int.mul_nonneg q0 z0
   have p1 : p ≤ 65521 * 256 := by rw [← hp]; exact Int.mul_le_mul (by omega) (by omega) z0 (by decide)
   rw [hp] at hst
   have HST := hideP hst
   clear hst hS hz
   go_wp2
   go_roundw
   case rel => exact ⟨k + 1, by simp, by omega, by rw [HST.out], trivial⟩
   case measure => simp [intOf]; omega
  ·obtain rfl : k = n := by omega
   have hki : ¬ (k : Int) < (k : Int) := by omega
   go_wp2
   go_ret
   exact ⟨rfl, Below.refl _ _⟩
set_option maxRecDepth 20000 in
set_option maxHeartbeats 4000000 in
theorem l15End_any {W : World} {base : Nat} {v : Value} {zs : List Int} (h : BO base W v zs) (hb : base ≤ W.heap.size) (hz : BYs zs) (hl : zs.length + 2 ≤ 70368744177664) :
 Calls Tryz.prog 23 #[v] W fun e W' => PutQ base v W (zs ++ endB zs) e W' := by
 have HO := hideP h
 have SC := hideP (l15Sum_any h hz (by omega))
 obtain ⟨s0, s1⟩ := sumT_in zs zs.length
 obtain ⟨S, hS⟩ : ∃ S, S = sumT zs zs.length := ⟨_, rfl⟩
 obtain ⟨ao, cap, rfl⟩ := BO.shape h
 have HL := hideP hl
 have hE : endB zs = [((zs.length : Int) + sumT zs zs.length) % 65521 % 256, ((zs.length : Int) + sumT zs zs.length) % 65521 / 256] := rfl
 obtain ⟨n, hn⟩ : ∃ n, n = zs.length := ⟨_, rfl⟩
 have HN := hideP hn
 have hn2 : (n : Int) ≤ 70368744177664 := by omega
 rw [← hS] at SC s0 s1 hE
 rw [← hn] at SC hE HO ⊢
 obtain ⟨t, ht⟩ : ∃ t, ((n : Int) + S) % 65521 = t := ⟨_, rfl⟩
 have t0 : 0 ≤ t := by rw [← ht]; exact Int.emod_nonneg _ (by decide)
 have t1 : t < 65521 := by rw [← ht]; exact Int.emod_lt_of_pos _ (by decide)
 rw [ht] at hE
 have t2 : 0 ≤ t / 256 := by omega
 have t3 : t / 256 < 256 := by omega
 have HE := hideP hE
 clear h hz hl hn hS hE
 go_enter Tryz.func23, Tryz.ntmps23
 go_wp2_with fail
 refine SC.out.mono ?_
 rintro e w1 ⟨rfl, hb1⟩
 have O1 := hideP (BO.kept HO.out hb1)
 have B1 := hideP hb1
 have hz1 : base ≤ w1.heap.size := Nat.le_trans hb hb1.size
 clear hb1
 go_wp2_with (at_builtin; refine wpList_bytes (xs := [t % 256, t / 256]) rfl _ _ rfl rfl rfl (BO.alloc O1.out _) rfl (fun j hj => ?bc) (by simp; omega) (by have := HL.out; omega) ?_)
 case bc =>
  rw [add_new, cell_of_row _ _ _ _ 5 _ (heap_alloc_new _ _)]
  match j, hj with
  | 0, _ => rfl
  | 1, _ => rfl
 intro v2 w2 ho2 hb2
 have O2 := hideP ho2
 have B2 := hideP (((GO.of_below B1.out).alloc _).trans hb2)
 clear ho2 hb2
 go_wp2
 go_ret
 refine ⟨_, rfl, ?_, B2.out⟩
 rw [HE.out]
 exact O2.out
def dl (t : Tk) : Int := if t.c = 1 then 1 else if t.c = 2 then -1 else 0
def okT (most : Int) (t : Tk) : Bool := tokB t.c t.h t.s && !(decide (t.c = 16) && decide (most < t.h))
def tkStep (most : Int) (o : Option Int) (t : Tk) : Option Int := match o with
 | none => none
 | some o => if okT most t = false then none else if o + dl t < 0 then none else some (o + dl t)
def balStep (o : Option Int) (t : Tk) : Option Int := match o with
 | none => none
 | some o => if o + dl t < 0 then none else some (o + dl t)
def patStep (o : Option Int) (t : Tk) : Option Int := match o with
 | none => none
 | some o => if t.c = 1 ∨ t.c = 2 ∨ t.c = 7 then none else if t.c = 16 then (if t.h = o + 1 then some (o + 1) else none) else some o
def patTStep (o : Option Int) (t : Tk) : Option Int := match o with
 | none => none
 | some o => if tokB t.c t.h t.s = false then none else patStep (some o) t
def toksB (ts : List Tk) (limit most : Int) : Bool := decide ((ts.length : Int) ≤ limit) && decide (ts.foldl (tkStep most) (some 0) = some 0)
def patB (ts : List Tk) (sl : Int) : Bool := decide ((ts.length : Int) ≤ 100) && decide (ts.foldl patTStep (some 0) = some sl)
def macB (p : List Tk) (sl : Int) (b : List Tk) : Bool := decide (0 ≤ sl ∧ sl ≤ 9) && (patB p sl && toksB b 2000 sl)
def noTok (t : Tk) : Bool := decide (t.c = 0) && (decide (t.h = 0) && t.s.toList.isEmpty)
def noMac (p : List Tk) (sl : Int) (b : List Tk) : Bool := decide (p.length + b.length = 0) && decide (sl = 0)
def isCh (t : Tk) : Bool := tokB t.c t.h t.s && decide (t.c ≠ 0 ∧ t.c ≠ 16)
def meanB (k n : Int) (t : Tk) (p : List Tk) (sl : Int) (b : List Tk) : Bool :=
 if k = 0 then decide (n = 0) && (noTok t && noMac p sl b)
 else if k = 1 then decide (1 ≤ n ∧ n ≤ 58) && (noTok t && noMac p sl b)
 else if k = 2 then decide (n = 0) && (isCh t && noMac p sl b)
 else if k = 3 then decide (n = 0) && (noTok t && macB p sl b)
 else false
theorem fold_none (f : Option Int → Tk → Option Int) (hf : ∀ t, f none t = none) (l : List Tk) : l.foldl f none = none := by
 induction l with
 | nil => rfl
 | cons t r ih => rw [List.foldl_cons, hf]; exact ih
theorem fold_take (f : Option Int → Tk → Option Int) (a : Option Int) {ts : List Tk} {k : Nat} (h : k < ts.length) : (ts.take (k + 1)).foldl f a = f ((ts.take k).foldl f a) (ts.getD k Tk.none) := by
 rw [List.take_succ_eq_append_getElem h, List.foldl_append]
 simp [List.getD, List.getElem?_eq_getElem h]
theorem fold_dead (f : Option Int → Tk → Option Int) (hf : ∀ t, f none t = none) (a : Option Int) {ts : List Tk} {k : Nat} (h : k < ts.length) {x : Option Int} (hx : (ts.take k).foldl f a = x) (hd : f x (ts.getD k Tk.none) = none) : ts.foldl f a = none := by
 have h2 := fold_take f a h
 rw [hx, hd] at h2
 have h3 : ts.foldl f a = (ts.drop (k + 1)).foldl f ((ts.take (k + 1)).foldl f a) := by rw [← List.foldl_append, List.take_append_drop]
 rw [h3, h2, fold_none f hf]
theorem okT_all {most : Int} (ts : List Tk) (o : Int) (h : ∀ t, t ∈ ts → okT most t = true) : ts.foldl (tkStep most) (some o) = ts.foldl balStep (some o) := by
 induction ts generalizing o with
 | nil => rfl
 | cons t r ih =>
  have ht := h t (by simp)
  have e : tkStep most (some o) t = balStep (some o) t := by simp [tkStep, balStep, ht]
  rw [List.foldl_cons, List.foldl_cons, e]
  cases hb : balStep (some o) t with
  | none => rw [fold_none _ (fun _ => rfl), fold_none _ (fun _ => rfl)]
  | some o2 => exact ih o2 (fun x hx => h x (by simp [hx]))
theorem okT_some {most : Int} (ts : List Tk) (o m : Int) (h : ts.foldl (tkStep most) (some o) = some m) : ∀ t, t ∈ ts → okT most t = true := by
 induction ts generalizing o with
 | nil => intro t ht; simp at ht
 | cons t r ih =>
  rw [List.foldl_cons] at h
  cases hb : tkStep most (some o) t with
  | none => rw [hb, fold_none _ (fun _ => rfl)] at h; cases h
  | some o2 =>
   rw [hb] at h
   have ht : okT most t = true := by
    unfold tkStep at hb
    cases hk : okT most t with
    | true => rfl
    | false => simp [hk] at hb
   intro x hx
   rcases List.mem_cons.1 hx with rfl | hx
   ·exact ht
   ·exact ih o2 h x hx
theorem toksB_two (ts : List Tk) (limit most : Int) : toksB ts limit most = ((decide ((ts.length : Int) ≤ limit) && ts.all (okT most)) && decide (ts.foldl balStep (some 0) = some 0)) := by
 unfold toksB
 by_cases hl : (ts.length : Int) ≤ limit
 ·cases ha : ts.all (okT most) with
  | true =>
   rw [okT_all ts 0 (List.all_eq_true.1 ha)]
   simp [hl]
  | false =>
   have : ts.foldl (tkStep most) (some 0) ≠ some 0 := by
    intro h
    rw [List.all_eq_true.2 (okT_some ts 0 0 h)] at ha
    cases ha
   simp [this]
 ·simp [hl]
theorem pat_all (ts : List Tk) (o : Int) (h : ∀ t, t ∈ ts → tokB t.c t.h t.s = true) : ts.foldl patTStep (some o) = ts.foldl patStep (some o) := by
 induction ts generalizing o with
 | nil => rfl
 | cons t r ih =>
  have ht := h t (by simp)
  have e : patTStep (some o) t = patStep (some o) t := by simp [patTStep, ht]
  rw [List.foldl_cons, List.foldl_cons, e]
  cases hb : patStep (some o) t with
  | none => rw [fold_none _ (fun _ => rfl), fold_none _ (fun _ => rfl)]
  | some o2 => exact ih o2 (fun x hx => h x (by simp [hx]))
theorem patStep_up {o o2 : Int} {t : Tk} (h : patStep (some o) t = some o2) : o ≤ o2 ∧ (t.c = 16 → t.h ≤ o2) := by
 unfold patStep at h; dsimp only at h
 by_cases h1 : t.c = 1 ∨ t.c = 2 ∨ t.c = 7
 ·rw [if_pos h1] at h; cases h
 ·rw [if_neg h1] at h
  by_cases h2 : t.c = 16
  ·rw [if_pos h2] at h
   by_cases h3 : t.h = o + 1
   ·rw [if_pos h3] at h; simp at h; exact ⟨by omega, fun _ => by omega⟩
   ·rw [if_neg h3] at h; cases h
  ·rw [if_neg h2] at h; simp at h; exact ⟨by omega, fun h => absurd h h2⟩
theorem pat_some (ts : List Tk) (o m : Int) (h : ts.foldl patTStep (some o) = some m) : o ≤ m ∧ ∀ t, t ∈ ts → okT m t = true := by
 induction ts generalizing o with
 | nil => simp at h; subst h; exact ⟨Int.le_refl _, fun t ht => by simp at ht⟩
 | cons t r ih =>
  rw [List.foldl_cons] at h
  cases hb : patTStep (some o) t with
  | none => rw [hb, fold_none _ (fun _ => rfl)] at h; cases h
  | some o2 =>
   rw [hb] at h
   obtain ⟨hm, hr⟩ := ih o2 h
   cases hk : tokB t.c t.h t.s with
   | false => unfold patTStep at hb; simp [hk] at hb
   | true =>
    have hb2 : patStep (some o) t = some o2 := by unfold patTStep at hb; simpa [hk] using hb
    obtain ⟨h1, h2⟩ := patStep_up hb2
    refine ⟨by omega, fun x hx => ?_⟩
    rcases List.mem_cons.1 hx with rfl | hx
    ·unfold okT
     rw [hk]
     by_cases h16 : x.c = 16
     ·have := h2 h16
      have hn : ¬ m < x.h := by omega
      simp [hn]
     ·simp [h16]
    ·exact hr x hx
theorem patB_two (ts : List Tk) (sl : Int) : patB ts sl = ((decide ((ts.length : Int) ≤ 100) && ts.all (okT sl)) && decide (ts.foldl patStep (some 0) = some sl)) := by
 unfold patB
 by_cases hl : (ts.length : Int) ≤ 100
 ·cases ha : ts.all (okT sl) with
  | true =>
   rw [pat_all ts 0 (fun t ht => by have := List.all_eq_true.1 ha t ht; unfold okT at this; simp at this; exact this.1)]
   simp [hl]
  | false =>
   have : ts.foldl patTStep (some 0) ≠ some sl := by
    intro h
    rw [List.all_eq_true.2 (pat_some ts 0 sl h).2] at ha
    cases ha
   simp [this]
 ·simp [hl]
end Go.Proofs.YtbpidcfoldkhgaaGreat
