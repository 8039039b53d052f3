import Derived.Test.YtbpidcfoldkhgaaGreatMrk
import Derived.Test.YtbpidcfoldkhgaaGreatOkS
namespace Go.Proofs.YtbpidcfoldkhgaaGreat
open Go.RowKit
set_option linter.unusedVariables false
set_option linter.unusedSimpArgs false
def TP (lo : Nat) (w : World) (v : Value) (ts : List Tk) : Prop := ∃ g, v = .slice (some ⟨g, 0, none⟩) ts.length ts.length ∧ lo ≤ g ∧ TPart w g ts.length ts.length ts
theorem TP.abv {lo : Nat} {w w' : World} {v : Value} {ts : List Tk} (h : TP lo w v ts) (ha : Abv lo w w') : TP lo w' v ts := by
 obtain ⟨g, rfl, hg, hp⟩ := h
 exact ⟨g, rfl, hg, hp.congr (ha.block g hg hp.lt)⟩
theorem TP.mono {lo lo' : Nat} {w : World} {v : Value} {ts : List Tk} (h : TP lo w v ts) (hl : lo' ≤ lo) : TP lo' w v ts := by
 obtain ⟨g, rfl, hg, hp⟩ := h
 exact ⟨g, rfl, Nat.le_trans hl hg, hp⟩
theorem TP.below {lo : Nat} {w w' : World} {v : Value} {ts : List Tk} (h : TP lo w v ts) (hb : Below w.heap.size w w') : TP lo w' v ts := h.abv (Abv.below hb)
theorem TP.shape {lo : Nat} {w : World} {v : Value} {ts : List Tk} (h : TP lo w v ts) : ∃ ao n cap, v = .slice ao n cap := by
 obtain ⟨g, rfl, _⟩ := h
 exact ⟨_, _, _, rfl⟩
theorem TP.on {lo : Nat} {w : World} {v : Value} {ts : List Tk} (h : TP lo w v ts) : TOn lo w v ts := by
 obtain ⟨g, rfl, hg, hp⟩ := h
 exact (hp.on rfl (Nat.le_refl _)).mono hg
theorem toTokens_p {v : Value} {ts : List Tk} {w : World} (h : TRow w v ts) (hsz : ts.length ≤ 1048576) :
 Calls Tryz.prog 93 #[v] w fun e w' => ∃ v', e = .returned v' ∧ TP w.heap.size w' v' ts ∧ Below w.heap.size w w' := by
 refine (toTokens_any h hsz).mono ?_
 rintro e w' ⟨rfl, hp, hb⟩
 exact ⟨_, rfl, ⟨_, rfl, Nat.le_refl _, hp⟩, hb⟩
def TsP (lo : Nat) (w : World) (cs : List Value) (ts : List Tk) : Prop := ∃ v, cs = [v] ∧ TP lo w v ts
theorem tpStable : Stable TsP where
 abv := by rintro lo w w' cs x ⟨v, rfl, h⟩ ha; exact ⟨v, rfl, h.abv ha⟩
 mono := by rintro lo lo' w cs x ⟨v, rfl, h⟩ hl; exact ⟨v, rfl, h.mono hl⟩
theorem SRow.imp {α : Type} {sz : Nat} {R R' : Nat → World → List Value → α → Prop} {d : α} (f : ∀ lo w cs x, R lo w cs x → R' lo w cs x) {lo : Nat} {w : World} {v : Value} {xs : List α} (h : SRow sz R d lo w v xs) : SRow sz R' d lo w v xs := by
 obtain ⟨ao, n, cap, rfl, hn, hc⟩ := h
 refine ⟨ao, n, cap, rfl, hn, fun hp => ?_⟩
 obtain ⟨b, off, rfl, hlo, hlt, hcell⟩ := hc hp
 refine ⟨b, off, rfl, hlo, hlt, fun i hi => ?_⟩
 obtain ⟨cs, hl, hr, hj⟩ := hcell i hi
 exact ⟨cs, hl, f _ _ _ _ hr, hj⟩
theorem tsP_R (lo : Nat) (w : World) (cs : List Value) (ts : List Tk) (h : TsP lo w cs ts) : TsR lo w cs ts := by
 obtain ⟨v, rfl, h⟩ := h
 exact ⟨v, rfl, h.on.inn⟩
set_option maxHeartbeats 4000000 in
theorem toMacro_p {vp vb : Value} {p b : List Tk} {sl : Int} {w : World} (hp : TRow w vp p) (hb : TRow w vb b) (lp : p.length ≤ 1048576) (lb : b.length ≤ 1048576) :
 Calls Tryz.prog 133 #[macV vp sl vb] w fun e w' => ∃ vp' vb', e = .returned (macV vp' sl vb') ∧ TP w.heap.size w' vp' p ∧ TP w.heap.size w' vb' b ∧ Below w.heap.size w w' := by
 have HP : Hid (TRow w vp p) := hp
 have HB : Hid (TRow w vb b) := hb
 obtain ⟨ao, n, cap, rfl, hx, hy⟩ := hp
 obtain ⟨ao2, n2, cap2, rfl, hx2, hy2⟩ := hb
 clear hx hy hx2 hy2
 go_enter Tryz.func133, Tryz.ntmps133
 go_wp2_with fail
 refine (toTokens_p (TRow.below HP (below3 _ _ _ _)) lp).mono ?_
 rintro e w1 ⟨v1, rfl, hp1, hb1⟩
 obtain ⟨a1, n1, c1, rfl⟩ := hp1.shape
 have hz1 : w.heap.size + 1 + 1 < w1.heap.size := by have := hb1.size; simp at this; omega
 have hy1 : w.heap.size + 1 < w1.heap.size := by omega
 have hx1 : w.heap.size < w1.heap.size := by omega
 obtain ⟨hc1, hf1⟩ := bcell hb1
 have B1 : Hid (Below w.heap.size w w1) := (below3 _ _ _ _).trans (hb1.mono (by simp; omega))
 simp only [World.size_alloc] at hc1 hf1 hp1
 have P1 : Hid (TP (w.heap.size + 1 + 1 + 1) w1 (.slice a1 n1 c1) p) := hp1
 clear hb1 hp1
 go_wp2_with fail
 have BW : Below w.heap.size w ((w1.setCell ⟨w.heap.size + 1 + 1, 0, none⟩ (.slice a1 n1 c1)).setCell ⟨w.heap.size + 1 + 1, 1, none⟩ (.int .i64 sl)) := (Below.setCell B1 (by simp; omega) _).setCell (by simp; omega) _
 have PW : TP (w.heap.size + 1 + 1 + 1) ((w1.setCell ⟨w.heap.size + 1 + 1, 0, none⟩ (.slice a1 n1 c1)).setCell ⟨w.heap.size + 1 + 1, 1, none⟩ (.int .i64 sl)) (.slice a1 n1 c1) p := TP.abv (TP.abv P1 (Abv.set (by omega) _)) (Abv.set (by omega) _)
 refine (toTokens_p (TRow.below HB BW) lb).mono ?_
 rintro e w2 ⟨v2, rfl, hp2, hb2⟩
 obtain ⟨a2, m2, c2, rfl⟩ := hp2.shape
 have hz2 : w.heap.size + 1 + 1 < w2.heap.size := by have := hb2.size; simp at this; omega
 have hy2 : w.heap.size + 1 < w2.heap.size := by omega
 have hx2 : w.heap.size < w2.heap.size := by omega
 obtain ⟨hc2, hf2⟩ := bcell hb2
 have B2 : Hid (Below w.heap.size w w2) := Below.trans BW (hb2.mono (Below.size BW))
 have P2 : Hid (TP (w.heap.size + 1 + 1 + 1) w2 (.slice a1 n1 c1) p) := PW.abv (Abv.below hb2)
 have P3 : Hid (TP (w.heap.size + 1 + 1 + 1) w2 (.slice a2 m2 c2) b) := hp2.mono (by simp; omega)
 simp only [World.size_setCell] at hc2 hf2
 clear hb2 hp2 BW PW
 go_wp2
 refine bodyPost_ret (v := macV (.slice a1 n1 c1) sl (.slice a2 m2 c2)) (by simp [results, Tryz.results133, go_sem, hc1, hc2, hx1, hx2, hy1, hy2, hz1, hz2]) rfl ⟨_, _, rfl, ?_, ?_, ?_⟩
 ·exact ((((TP.abv P2 (Abv.set (by omega) _)).abv (Abv.set (by omega) _)).abv (Abv.set (by omega) _)).abv (Abv.set (by omega) _)).mono (by omega)
 ·exact ((((TP.abv P3 (Abv.set (by omega) _)).abv (Abv.set (by omega) _)).abv (Abv.set (by omega) _)).abv (Abv.set (by omega) _)).mono (by omega)
 ·exact (((Below.setCell B2 (by simp; omega) _).setCell (by simp) _).setCell (by simp) _).setCell (by simp) _
set_option maxHeartbeats 4000000 in
theorem toTss_p {v : Value} {xs : List (List Tk)} {w : World} (h : SRow 1 TsR [] 0 w v xs) (hs : xs.length ≤ 1048576 ∧ ∀ i, i < xs.length → Sml (xs.getD i [])) :
 Calls Tryz.prog 67 #[v] w fun e w' => ∃ v', e = .returned v' ∧ (∃ o, v' = .slice (some ⟨o, 0, none⟩) xs.length xs.length ∧ w.heap.size ≤ o ∧ SPart 1 TsP [] 52 w' o xs.length xs.length xs) ∧ Below w.heap.size w w' := by
 obtain ⟨ao, n, cap, rfl, hn, hr⟩ := h
 have hsz : n ≤ 1048576 := by rw [← hn]; exact hs.1
 have HS : Hid (∀ i, i < xs.length → Sml (xs.getD i [])) := hs.2
 have HL : Hid (xs.length = n) := hn
 obtain ⟨i0, hi, hz0, hz1, hz2⟩ := info_parts Tryz.info52
 have HI : Hid (i0.bytes = 24) := hz2
 have HR : Hid (0 < n → ∃ b off, ao = some ⟨b, off, none⟩ ∧ 0 ≤ b ∧ b < w.heap.size ∧ ∀ i, i < n → ∃ cs : List Value, cs.length = 1 ∧ TsR 0 w cs (xs.getD i []) ∧ ∀ j, j < 1 → w.cell? ⟨b, off + i * 1 + j, none⟩ = cs[j]?) := hr
 clear hr hs hn
 go_enter Tryz.func67, Tryz.ntmps67
 go_wp2_with (first
  | (refine wpList_make_full _ rfl _ _ 43 rfl w.heap.size 52 i0 (.slice none 0 0) 1 Tryz.underlying43 hi hz0 hz1 _ _ _ _ n rfl rfl rfl rfl (by rw [show i0.bytes = 24 from HI]; omega) (by unfold maxLen; omega) (Nat.le_refl _) ?_; intro w1 hown hgrow))
 have hbel : Below w.heap.size w w1 := Below.grown (Below.refl _ _) hgrow (Nat.le_refl _) (by simp)
 have HO : Hid (SPart 1 TsP [] 52 w1 w.heap.size n 0 xs ∧ Below w.heap.size w w1) := by
  refine ⟨?_, hbel⟩
  rcases hown.2 with ⟨h', _⟩ | ⟨g', cap', cur, h', _, hg, _, _, hcs, _⟩
  ·simp at h'
  ·simp only [Value.slice.injEq, Option.some.injEq, Addr.mk.injEq, and_true, true_and] at h'
   obtain ⟨rfl, rfl⟩ := h'
   exact SPart.new hg hcs
 clear hown hgrow hbel
 go_wp2
 go_loopw [4] (fun i wr => ∃ k : Nat, k ≤ n ∧ i = .int .i64 k ∧ SPart 1 TsP [] 52 wr w.heap.size n k xs ∧ Below w.heap.size w wr) (fun i _ => n - (intOf i).toNat)
 case atStart => exact ⟨0, by omega, rfl, HO.1, HO.2⟩
 case round =>
  obtain ⟨k, hk, rfl, hp, hbel⟩ := hrel
  by_cases hkn : k < n
  ·have hki : (k : Int) < (n : Int) := by omega
   obtain ⟨b, off, rfl, hlo, hb, hc⟩ := HR (by omega)
   have hfk : Sml (xs.getD k []) := HS k (by rw [show xs.length = n from HL]; exact hkn)
   obtain ⟨cs, hcl, hRel, hcj⟩ := hc k hkn
   obtain ⟨t, ht⟩ : ∃ t, t = xs.getD k [] := ⟨_, rfl⟩
   rw [← ht] at hRel hfk
   have HT : Hid (t = xs.getD k []) := ht
   obtain ⟨u, rfl, hin⟩ := hRel
   obtain ⟨a, n0, c, rfl⟩ := hin.shape
   have g0 : wr.cell? ⟨b, off + k, none⟩ = some (.slice a n0 c) := by have h := (hbel.cell (p := ⟨b, off + k * 1 + 0, none⟩) hb).trans (hcj 0 (by omega)); simpa using h
   have HB : Hid (Below w.heap.size w wr) := hbel
   have HP : Hid (SPart 1 TsP [] 52 wr w.heap.size n k xs) := hp
   have HX : Hid (Sml t ∧ TRow wr (.slice a n0 c) t) := ⟨hfk, TIn.row_below hin hbel⟩
   clear hc hcj hcl hbel ht hfk hp hin
   go_wp2_with (go_at_call 93; refine (toTokens_p HX.2 HX.1).mono ?_; rintro e w2 ⟨u2, rfl, hin2, hb1⟩; obtain ⟨a2, n2, c2, rfl⟩ := hin2.shape; have hp2 := SPart.below tpStable HP hb1; have hfz := hp2.free; obtain ⟨x0, hx0⟩ := hp2.cells (k) (by omega); have HP2 : Hid (SPart 1 TsP [] 52 w2 w.heap.size n k xs ∧ Below w.heap.size w w2 ∧ TsP (w.heap.size + 1) w2 [.slice a2 n2 c2] t) := ⟨hp2, Below.trans HB (hb1.mono (Below.size HB)), tpStable.mono ⟨_, rfl, hin2⟩ (SPart.lt HP)⟩; clear hp2 hb1 hin2)
   go_roundw
   case rel => exact ⟨k + 1, by omega, by go_num, by have h := SPart.put tpStable HP2.1 hkn (cs := [.slice a2 n2 c2]) rfl (by rw [← show t = xs.getD k [] from HT]; exact HP2.2.2); rw [Nat.mul_one] at h; exact h, putC_below (Nat.le_refl _) [.slice a2 n2 c2] k _ HP2.2.1⟩
   case measure => simp [intOf]; omega
  ·have hki : ¬ (k : Int) < (n : Int) := by omega
   obtain rfl : k = n := by omega
   have HP : Hid (SPart 1 TsP [] 52 wr w.heap.size k k xs ∧ Below w.heap.size w wr) := ⟨hp, hbel⟩
   clear hp hbel
   go_wp2
   go_ret
   exact ⟨.slice (some ⟨w.heap.size, 0, none⟩) k k, rfl, ⟨w.heap.size, by rw [show xs.length = k from HL], Nat.le_refl _, by rw [show xs.length = k from HL]; exact HP.1⟩, HP.2⟩
def MR (lo hi : Nat) (w : World) (v : Value) (n : Nat) : Prop := ∃ g, v = .slice (some ⟨g, 0, none⟩) n n ∧ lo ≤ g ∧ g < hi ∧ TPart w g n 0 []
theorem MR.shp {lo hi : Nat} {w w' : World} {v : Value} {n : Nat} (h : MR lo hi w v n) (hs : Shp w w') : MR lo hi w' v n := by
 obtain ⟨g, rfl, h1, h2, h3⟩ := h
 exact ⟨g, rfl, h1, h2, h3.shp hs⟩
theorem TP.mr {lo hi : Nat} {w : World} {v : Value} {ts : List Tk} (h : TP lo w v ts) (hh : w.heap.size ≤ hi) : MR lo hi w v ts.length := by
 obtain ⟨g, rfl, h1, h2⟩ := h
 exact ⟨g, rfl, h1, Nat.lt_of_lt_of_le h2.lt hh, h2.none⟩
theorem MR.mono {lo lo' hi : Nat} {w : World} {v : Value} {n : Nat} (h : MR lo hi w v n) (hl : lo' ≤ lo) : MR lo' hi w v n := by
 obtain ⟨g, rfl, h1, h2, h3⟩ := h
 exact ⟨g, rfl, Nat.le_trans hl h1, h2, h3⟩
theorem markRow_any {lo hi : Nat} {v : Value} {n : Nat} {w : World} (k : Nat) (hk : 0 < k) (hkn : k + 3 * n ≤ 4611686018427387904) (hlo : lo ≤ w.heap.size) (h : MR lo hi w v n) :
 Calls Tryz.prog 84 #[v, .int .i64 (k : Int)] w fun e w' => e = .returned (.int .i64 ((k + 3 * n : Nat) : Int)) ∧ Below lo w w' ∧ Abv hi w w' ∧ Shp w w' := by
 obtain ⟨g, rfl, h1, h2, h3⟩ := h
 refine (markTokens_any (N := n) k hk hkn hlo (fun _ => ⟨g, rfl, Nat.le_refl _, h1, h2, h3⟩)).mono ?_
 rintro e w' ⟨rfl, _, hb, ha, hs⟩
 exact ⟨rfl, hb, ha, hs⟩
def MRs (lo hi : Nat) (w : World) (o : Nat) (xs : List (List Tk)) : Prop := ∃ cur : Array Value, w.heap[o]? = some (.cells cur 52 (0, 0)) ∧ ∀ i, i < xs.length → ∃ v, cur[i]? = some v ∧ MR lo hi w v (xs.getD i []).length
theorem MRs.step {lo hi o : Nat} {w w' : World} {xs : List (List Tk)} (h : MRs lo hi w o xs) (ho : o < lo) (hb : Below lo w w') (hs : Shp w w') : MRs lo hi w' o xs := by
 obtain ⟨cur, hc, hi2⟩ := h
 refine ⟨cur, (hb.block o ho).trans hc, fun i hi => ?_⟩
 obtain ⟨v, h1, h2⟩ := hi2 i hi
 exact ⟨v, h1, h2.shp hs⟩
def total (xs : List (List Tk)) : Nat := xs.flatten.length
end Go.Proofs.YtbpidcfoldkhgaaGreat
