import Derived.Test.YtbpidcfoldkhgaaGreatMokA
import Derived.Test.YtbpidcfoldkhgaaGreatMokB
import Derived.Test.YtbpidcfoldkhgaaGreatMokC
import Derived.Test.YtbpidcfoldkhgaaGreatMokD
import Derived.Test.YtbpidcfoldkhgaaGreatOpenE
namespace Go.Proofs.YtbpidcfoldkhgaaGreat
open Go.RowKit
set_option linter.unusedVariables false
set_option linter.unusedSimpArgs false
theorem implMeanOk_any {k n : Int} {t : Tk} {vp vb : Value} {p b : List Tk} {sl : Int} {w : World} (hp : TRow w vp p) (hb : TRow w vb b) (lp : p.length ≤ 1048576) (lb : b.length ≤ 1048576) :
 Calls Tryz.prog 134 #[meanV k n t vp sl vb] w fun e w' => e = .returned (.bool (meanB k n t p sl b)) ∧ Below w.heap.size w w' := by
 have hp0 := hp
 have hb0 := hb
 obtain ⟨ao, n1, cap, rfl, hx, hy⟩ := hp
 obtain ⟨ao2, n2, cap2, rfl, hx2, hy2⟩ := hb
 obtain ⟨c, h, s⟩ := t
 rcases noTok_ways c h s with ⟨hc, hh, hs, hnt⟩ | ⟨hc, hnt⟩ | ⟨hc, hh, hnt⟩ | ⟨hc, hh, hs, hnt⟩
 ·rcases noMac_ways p b sl hx hx2 with ⟨g1, g2, g3, hnm⟩ | ⟨g1, hnm⟩ | ⟨g1, g2, hnm⟩ | ⟨g1, g2, g3, hnm⟩
  ·exact implMeanOk_Aa hp0 hb0 lp lb hc hh hs hnt g1 g2 g3 hnm
  ·exact implMeanOk_Ab hp0 hb0 lp lb hc hh hs hnt g1 hnm
  ·exact implMeanOk_Ac hp0 hb0 lp lb hc hh hs hnt g1 g2 hnm
  ·exact implMeanOk_Ad hp0 hb0 lp lb hc hh hs hnt g1 g2 g3 hnm
 ·rcases noMac_ways p b sl hx hx2 with ⟨g1, g2, g3, hnm⟩ | ⟨g1, hnm⟩ | ⟨g1, g2, hnm⟩ | ⟨g1, g2, g3, hnm⟩
  ·exact implMeanOk_Ba hp0 hb0 lp lb hc hnt g1 g2 g3 hnm
  ·exact implMeanOk_Bb hp0 hb0 lp lb hc hnt g1 hnm
  ·exact implMeanOk_Bc hp0 hb0 lp lb hc hnt g1 g2 hnm
  ·exact implMeanOk_Bd hp0 hb0 lp lb hc hnt g1 g2 g3 hnm
 ·rcases noMac_ways p b sl hx hx2 with ⟨g1, g2, g3, hnm⟩ | ⟨g1, hnm⟩ | ⟨g1, g2, hnm⟩ | ⟨g1, g2, g3, hnm⟩
  ·exact implMeanOk_Ca hp0 hb0 lp lb hc hh hnt g1 g2 g3 hnm
  ·exact implMeanOk_Cb hp0 hb0 lp lb hc hh hnt g1 hnm
  ·exact implMeanOk_Cc hp0 hb0 lp lb hc hh hnt g1 g2 hnm
  ·exact implMeanOk_Cd hp0 hb0 lp lb hc hh hnt g1 g2 g3 hnm
 ·rcases noMac_ways p b sl hx hx2 with ⟨g1, g2, g3, hnm⟩ | ⟨g1, hnm⟩ | ⟨g1, g2, hnm⟩ | ⟨g1, g2, g3, hnm⟩
  ·exact implMeanOk_Da hp0 hb0 lp lb hc hh hs hnt g1 g2 g3 hnm
  ·exact implMeanOk_Db hp0 hb0 lp lb hc hh hs hnt g1 hnm
  ·exact implMeanOk_Dc hp0 hb0 lp lb hc hh hs hnt g1 g2 hnm
  ·exact implMeanOk_Dd hp0 hb0 lp lb hc hh hs hnt g1 g2 g3 hnm
def bdB (x : Bd) : Bool := decide (x.nm.size ≤ 40) && (decide (x.m.k ≠ 0) && meanB x.m.k x.m.n x.m.t x.m.p x.m.sl x.m.b)
def bdAt (bs : List Bd) (i : Nat) : Bool := (decide (i = 0) || Op.bytesLess (bs.getD (i - 1) Bd.none).nm.toList (bs.getD i Bd.none).nm.toList) && bdB (bs.getD i Bd.none)
def bindsB (bs : List Bd) : Bool := decide (bs.length ≤ 500) && (List.range bs.length).all (bdAt bs)
def cntB (z : Int) : Bool := decide (-2147483647 ≤ z ∧ z ≤ 2147483647)
def glB (g : Gl) : Bool := okB g.s g.p g.po g.m g.mo
def tsB (ts : List Tk) : Bool := toksB ts 2000 0
def regB {α : Type} (xs : List α) (f : α → Bool) : Bool := decide (xs.length = 32) && xs.all f
def levB (x : Lv) : Bool := catsB x.cats && (bindsB x.binds && (regB x.counts cntB && (regB x.lens fitsB && (regB x.glues glB && regB x.toks tsB))))
def envB (xs : List Lv) : Bool := decide (1 ≤ xs.length ∧ xs.length ≤ 20) && xs.all levB
theorem allD_dead {α : Type} {f : α → Bool} {xs : List α} {d : α} {k : Nat} (hk : k < xs.length) (h : f (xs.getD k d) = false) : xs.all f = false := by
 rw [List.all_eq_false]
 refine ⟨xs[k], List.getElem_mem hk, ?_⟩
 simp [List.getD, List.getElem?_eq_getElem hk] at h
 simp [h]
theorem allD_yes {α : Type} {f : α → Bool} {xs : List α} {d : α} (h : ∀ i, i < xs.length → f (xs.getD i d) = true) : xs.all f = true := by
 rw [List.all_eq_true]
 intro x hx
 obtain ⟨i, hi, rfl⟩ := List.getElem_of_mem hx
 have := h i hi
 simpa [List.getD, List.getElem?_eq_getElem hi] using this
theorem allR_dead {f : Nat → Bool} {n k : Nat} (hk : k < n) (h : f k = false) : (List.range n).all f = false := by
 rw [List.all_eq_false]
 exact ⟨k, by simpa using hk, by simp [h]⟩
theorem allR_yes {f : Nat → Bool} {n : Nat} (h : ∀ i, i < n → f i = true) : (List.range n).all f = true := by
 rw [List.all_eq_true]
 intro i hi
 exact h i (by simpa using hi)
theorem binds_dead {bs : List Bd} {k : Nat} (hk : k < bs.length) (h : bdAt bs k = false) : bindsB bs = false := by
 unfold bindsB; rw [allR_dead hk h]; simp
theorem binds_yes {bs : List Bd} (hl : bs.length ≤ 500) (h : ∀ i, i < bs.length → bdAt bs i = true) : bindsB bs = true := by
 unfold bindsB; rw [allR_yes h]; simp [hl]
theorem binds_long {bs : List Bd} (hl : ¬ bs.length ≤ 500) : bindsB bs = false := by
 unfold bindsB; simp [hl]
theorem reg_short {α : Type} {xs : List α} {f : α → Bool} (h : ¬ xs.length = 32) : regB xs f = false := by unfold regB; simp [h]
theorem reg_dead {α : Type} {xs : List α} {f : α → Bool} {d : α} {k : Nat} (hk : k < xs.length) (h : f (xs.getD k d) = false) : regB xs f = false := by unfold regB; rw [allD_dead hk h]; simp
theorem reg_yes {α : Type} {xs : List α} {f : α → Bool} {d : α} (hl : xs.length = 32) (h : ∀ i, i < 32 → f (xs.getD i d) = true) : regB xs f = true := by
 unfold regB; rw [allD_yes (d := d) (fun i hi => h i (by omega))]; simp [hl]
set_option maxHeartbeats 2000000 in
theorem bindOk_any {nm : ByteArray} {k n : Int} {t : Tk} {vp vb : Value} {p b : List Tk} {sl : Int} {w : World} (hp : TRow w vp p) (hb : TRow w vb b) (hs : SmB ⟨nm, ⟨k, n, t, p, sl, b⟩⟩) :
 Calls Tryz.prog 120 #[bindV nm k n t vp sl vb] w fun e w' => e = .returned (.bool (bdB ⟨nm, ⟨k, n, t, p, sl, b⟩⟩)) ∧ Below w.heap.size w w' := by
 have HP : Hid (TRow w vp p) := hp
 have HB : Hid (TRow w vb b) := hb
 obtain ⟨ao, n0, cap, rfl, hx, hy⟩ := hp
 obtain ⟨ao2, n2, cap2, rfl, hx2, hy2⟩ := hb
 have HS : Hid (p.length ≤ 1048576 ∧ b.length ≤ 1048576) := hs
 clear hx hy hx2 hy2 hs
 unfold bdB
 dsimp only
 obtain ⟨mb, hmb⟩ : ∃ mb, mb = meanB k n t p sl b := ⟨_, rfl⟩
 have CM : Hid (∀ W, Below w.heap.size w W → Calls Tryz.prog 134 #[meanV k n t (.slice ao n0 cap) sl (.slice ao2 n2 cap2)] W fun e w' => e = .returned (.bool mb) ∧ Below W.heap.size W w') := by rw [hmb]; intro W hW; exact implMeanOk_any (TRow.below HP hW) (TRow.below HB hW) HS.1 HS.2
 rw [← hmb]
 clear hmb
 by_cases h40 : (nm.size : Int) ≤ 40
 ·have h40n : nm.size ≤ 40 := by omega
  by_cases hk : k = 0
  ·subst hk
   go_enter Tryz.func120, Tryz.ntmps120
   go_wp2
   go_ret
   refine ⟨?_, below1 _ _⟩
   simp
  ·have hk2 : (k == 0) = false := by simp [hk]
   have hk3 : (k != 0) = true := by simp [hk]
   go_enter Tryz.func120, Tryz.ntmps120
   go_wp2_with (go_at_call 134; refine (CM _ (below1 _ _)).mono ?_; rintro e w1 ⟨rfl, hb1⟩)
   go_ret
   refine ⟨?_, below_more (below1 _ _) ‹Below _ _ _› (by simp)⟩
   simp [h40n, hk]
 ·have h40n : ¬ nm.size ≤ 40 := by omega
  go_enter Tryz.func120, Tryz.ntmps120
  go_wp2
  go_ret
  refine ⟨?_, below1 _ _⟩
  simp [h40n]
end Go.Proofs.YtbpidcfoldkhgaaGreat
