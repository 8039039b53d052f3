import Derived.Test.YtojoehdmjkgnnaaGreatFit
import Derived.Test.YtojoehdmjkgnnaaGreatMkt
import Derived.Test.YtojoehdmjkgnnaaGreatHlp
import Derived.Test.YtojoehdmjkgnnaaGreatGrd
import Derived.Test.YtojoehdmjkgnnaaGreatRof
import Derived.Test.YtojoehdmjkgnnaaGreatNdq
namespace Go.Proofs.YtojoehdmjkgnnaaGreat
open Go.RowKit
set_option linter.unusedVariables false
set_option linter.unusedSimpArgs false
theorem own_NNb {w : World} {base n : Nat} {v : Value} {xs : List Nd} (h : w.ownsRow base 36 15 v n (flatN xs)) (hn : xs.length = n) : NN base w v xs := by
 have hc := own_cap h
 rcases h.2 with ⟨rfl, h0⟩ | ⟨g, cap, cur, rfl, hb, hg, _⟩
 ·exact .inl ⟨rfl, List.eq_nil_of_length_eq_zero (by omega)⟩
 ·subst hn
  exact .inr ⟨g, 0, cap, rfl, (hc _ _ _ rfl).1, hb, fun _ => (glt hg), fun j u hj => by rw [Nat.zero_add]; exact (own_cell h hj).1⟩
def NNR (lo : Nat) (w : World) (v : Value) (xs : List Nd) : Prop := NRow lo w v xs ∧ NN lo w v xs
theorem NNR.abv {lo : Nat} {w w' : World} {v : Value} {xs : List Nd} (h : NNR lo w v xs) (ha : Abv lo w w') : NNR lo w' v xs := ⟨h.1.abv ndStable ha, h.2.abv ha⟩
theorem NNR.mono {lo lo' : Nat} {w : World} {v : Value} {xs : List Nd} (h : NNR lo w v xs) (hl : lo' ≤ lo) : NNR lo' w v xs := ⟨h.1.mono ndStable hl, h.2.mono hl⟩
def NOw (lo : Nat) (w : World) (v : Value) (n : Nat) : Prop := ∃ g L, v = .slice (some ⟨g, 0, none⟩) n n ∧ w.ownsRow lo 36 15 v n L
theorem NOw.abv {lo n : Nat} {w w' : World} {v : Value} (h : NOw lo w v n) (ha : Abv lo w w') : NOw lo w' v n := by
 obtain ⟨g, L, rfl, ho⟩ := h
 exact ⟨g, L, rfl, ownG_same ho (fun k hk => ha.block k (ho.lt k hk).1 (ho.lt k hk).2)⟩
theorem NOw.mono {lo lo' n : Nat} {w : World} {v : Value} (h : NOw lo w v n) (hl : lo' ≤ lo) : NOw lo' w v n := by
 obtain ⟨g, L, rfl, ho⟩ := h
 exact ⟨g, L, rfl, ownG_base ho hl⟩
def NNO (lo : Nat) (w : World) (v : Value) (xs : List Nd) : Prop := NNR lo w v xs ∧ NOw lo w v xs.length
theorem NNO.abv {lo : Nat} {w w' : World} {v : Value} {xs : List Nd} (h : NNO lo w v xs) (ha : Abv lo w w') : NNO lo w' v xs := ⟨h.1.abv ha, h.2.abv ha⟩
theorem NNO.mono {lo lo' : Nat} {w : World} {v : Value} {xs : List Nd} (h : NNO lo w v xs) (hl : lo' ≤ lo) : NNO lo' w v xs := ⟨h.1.mono hl, h.2.mono hl⟩
def ClO (lo : Nat) (w : World) (cs : List Value) (x : Cl) : Prop := ∃ v, cs = [.int .i64 x.sp, .int .i64 x.al, v] ∧ NNO lo w v x.ns
theorem clOStable : Stable ClO where
 abv := fun ⟨v, h1, h2⟩ ha => ⟨v, h1, h2.abv ha⟩
 mono := fun ⟨v, h1, h2⟩ hl => ⟨v, h1, h2.mono hl⟩
theorem SPart.abv {α : Type} {sz : Nat} {R : Nat → World → List Value → α → Prop} {d : α} {ty : Nat} (st : Stable R) {w w' : World} {lo g n k : Nat} {xs : List α} (h : SPart sz R d ty w g n k xs) (ha : Abv lo w w') (hl : lo ≤ g) : SPart sz R d ty w' g n k xs := by
 obtain ⟨cur, hg, hs, hc⟩ := h
 refine ⟨cur, (ha.block g hl (glt hg)).trans hg, hs, fun i hi => ?_⟩
 obtain ⟨cs, hl2, hr, hj⟩ := hc i hi
 exact ⟨cs, hl2, st.abv hr (ha.mono (by omega)), hj⟩
def COw (lo : Nat) (w : World) (v : Value) (cs : List Cl) : Prop := ∃ g, v = .slice (some ⟨g, 0, none⟩) cs.length cs.length ∧ lo ≤ g ∧ SPart 3 ClO Cl.none 53 w g cs.length cs.length cs
theorem COw.abv {lo : Nat} {w w' : World} {v : Value} {cs : List Cl} (h : COw lo w v cs) (ha : Abv lo w w') : COw lo w' v cs := by
 obtain ⟨g, h1, h2, h3⟩ := h
 exact ⟨g, h1, h2, h3.abv clOStable ha h2⟩
theorem COw.mono {lo lo' : Nat} {w : World} {v : Value} {cs : List Cl} (h : COw lo w v cs) (hl : lo' ≤ lo) : COw lo' w v cs := by
 obtain ⟨g, h1, h2, h3⟩ := h
 exact ⟨g, h1, Nat.le_trans hl h2, h3⟩
theorem COw.shape {lo : Nat} {w : World} {v : Value} {cs : List Cl} (h : COw lo w v cs) : ∃ a c, v = .slice a cs.length c := by
 obtain ⟨g, h1, _⟩ := h
 exact ⟨_, _, h1⟩
def RwO (lo : Nat) (w : World) (cs : List Value) (x : Rw) : Prop := ∃ v, cs = [v, .int .i64 x.ru] ∧ COw lo w v x.cs
theorem rwOStable : Stable RwO where
 abv := fun ⟨v, h1, h2⟩ ha => ⟨v, h1, h2.abv ha⟩
 mono := fun ⟨v, h1, h2⟩ hl => ⟨v, h1, h2.mono hl⟩
def ROw (lo : Nat) (w : World) (v : Value) (rs : List Rw) : Prop := ∃ g, v = .slice (some ⟨g, 0, none⟩) rs.length rs.length ∧ lo ≤ g ∧ SPart 2 RwO Rw.none 51 w g rs.length rs.length rs
theorem ROw.abv {lo : Nat} {w w' : World} {v : Value} {rs : List Rw} (h : ROw lo w v rs) (ha : Abv lo w w') : ROw lo w' v rs := by
 obtain ⟨g, h1, h2, h3⟩ := h
 exact ⟨g, h1, h2, h3.abv rwOStable ha h2⟩
theorem ROw.mono {lo lo' : Nat} {w : World} {v : Value} {rs : List Rw} (h : ROw lo w v rs) (hl : lo' ≤ lo) : ROw lo' w v rs := by
 obtain ⟨g, h1, h2, h3⟩ := h
 exact ⟨g, h1, Nat.le_trans hl h2, h3⟩
theorem ROw.shape {lo : Nat} {w : World} {v : Value} {rs : List Rw} (h : ROw lo w v rs) : ∃ a c, v = .slice a rs.length c := by
 obtain ⟨g, h1, _⟩ := h
 exact ⟨_, _, h1⟩
theorem SPart.map {α : Type} {sz : Nat} {R R' : Nat → World → List Value → α → Prop} {d : α} {ty : Nat} {w : World} {g n k : Nat} {xs : List α} (hR : ∀ lo w cs x, R lo w cs x → R' lo w cs x) (h : SPart sz R d ty w g n k xs) : SPart sz R' d ty w g n k xs := by
 obtain ⟨cur, hg, hs, hc⟩ := h
 refine ⟨cur, hg, hs, fun i hi => ?_⟩
 obtain ⟨cs, hl2, hr, hj⟩ := hc i hi
 exact ⟨cs, hl2, hR _ _ _ _ hr, hj⟩
theorem COw.row {lo : Nat} {w : World} {v : Value} {cs : List Cl} (h : COw lo w v cs) : CRowN lo w v cs := by
 obtain ⟨g, rfl, h2, h3⟩ := h
 exact ((h3.map (R' := ClN) (fun lo w cs x ⟨v, h1, h2⟩ => ⟨v, h1, h2.1.1, h2.1.2⟩)).row clNStable rfl).mono clNStable h2
theorem ROw.row {lo : Nat} {w : World} {v : Value} {rs : List Rw} (h : ROw lo w v rs) : RRowN lo w v rs := by
 obtain ⟨g, rfl, h2, h3⟩ := h
 exact ((h3.map (R' := RwN) (fun lo w cs x ⟨v, h1, h2⟩ => ⟨v, h1, h2.row⟩)).row rwNStable rfl).mono rwNStable h2
set_option maxHeartbeats 2000000 in
theorem toCell_o (x : Cl) {v : Value} {w : World} (h : NRow 0 w v x.ns) (hs : SmC x) :
 Calls Tryz.prog 153 #[clV x v] w fun e w' => ∃ v', e = .returned (clV x v') ∧ NNO w.heap.size w' v' x.ns ∧ Below w.heap.size w w' := by
 obtain ⟨ua, un, uc, rfl⟩ : ∃ a n c, v = .slice a n c := by obtain ⟨a, c, rfl⟩ := h.shape; exact ⟨_, _, _, rfl⟩
 have HC : Hid (∀ (W : World), Below w.heap.size w W → Calls Tryz.prog 169 #[.slice ua un uc] W fun e w' => ∃ v', e = .returned v' ∧ NNO W.heap.size w' v' x.ns ∧ Below W.heap.size W w') := hideP (fun W hW => (toNodeS_own (h.below ndStable hW) hs.1).mono (fun e w' ⟨he, ho, hb⟩ => ⟨_, he, ⟨⟨own_NRow ho rfl, own_NNb ho rfl⟩, _, _, rfl, ho⟩, hb⟩))
 clear h hs
 obtain ⟨sp, al, ns⟩ := x
 dsimp only at HC ⊢
 go_enter Tryz.func153, Tryz.ntmps153
 go_wp2_with fail
 refine (HC.out _ ?B0).mono ?_
 case B0 => repeat (first | exact below3 _ _ _ _ | refine Below.setCell ?_ (by first | (simp; done) | (simp; omega)) _)
 rintro e w1 ⟨v1, rfl, hp1, hb1⟩
 obtain ⟨a1, n1, c1, rfl⟩ : ∃ a n c, v1 = .slice a n c := by obtain ⟨a, c, rfl⟩ := hp1.1.1.shape; exact ⟨_, _, _, rfl⟩
 have hz1 : w.heap.size + 1 + 1 < w1.heap.size := by have := hb1.size; simp at this; omega
 have hy1 : w.heap.size + 1 < w1.heap.size := by omega
 have hx1 : w.heap.size < w1.heap.size := by omega
 have BW : Below w.heap.size w w1 := by
  refine below_more ?_ hb1 (by simp; omega)
  repeat (first | exact below3 _ _ _ _ | refine Below.setCell ?_ (by first | (simp; done) | (simp; omega)) _)
 obtain ⟨hc1, hf1⟩ := bcell hb1
 simp only [World.size_alloc, World.size_setCell] at hc1 hf1 hp1
 have P1 : Hid (NNO (w.heap.size + 1 + 1 + 1) w1 (.slice a1 n1 c1) ns) := hp1
 have B1 := hideP BW
 clear hb1 hp1 BW
 go_wp2
 refine bodyPost_ret (v := clV ⟨sp, al, ns⟩ (.slice a1 n1 c1)) (by simp [results, Tryz.results153, go_sem, hc1, hx1, hy1, hz1]) rfl ⟨_, rfl, ?_, ?_⟩
 ·exact ((((NNO.abv P1.out (Abv.set (by omega) _)).abv (Abv.set (by omega) _)).abv (Abv.set (by omega) _)).abv (Abv.set (by omega) _)).mono (by omega)
 ·exact (((Below.setCell B1.out (by simp; omega) _).setCell (by simp) _).setCell (by simp) _).setCell (by simp) _
theorem Tryz.info103o : (Tryz.prog.info? 53).map (fun i => (i.zero, i.size, i.bytes)) = some (some (.agg #[.int .i64 0, .int .i64 0, .slice none 0 0]), 3, 40) := by kernel_rfl
set_option maxHeartbeats 4000000 in
theorem toCellS_o {v : Value} {xs : List Cl} {w : World} (h : CRow 0 w v xs) (hs : xs.length ≤ 1048576 ∧ ∀ i, i < xs.length → SmC (xs.getD i Cl.none)) :
 Calls Tryz.prog 133 #[v] w fun e w' => ∃ v', e = .returned v' ∧ COw w.heap.size w' v' xs ∧ Below w.heap.size w w' := by
 obtain ⟨ao, n, cap, rfl, hn, hr⟩ := h
 have hsz : n ≤ 1048576 := by rw [← hn]; exact hs.1
 have HL : Hid (xs.length = n) := hn
 have HS : Hid (∀ i, i < xs.length → SmC (xs.getD i Cl.none)) := hs.2
 obtain ⟨i0, hi, hz0, hz1, hz2⟩ := info_parts Tryz.info103o
 have HI : Hid (i0.bytes = 40) := hz2
 have HR : Hid (0 < n → ∃ b off, ao = some ⟨b, off, none⟩ ∧ 0 ≤ b ∧ b < w.heap.size ∧ ∀ i, i < n → ∃ cs : List Value, cs.length = 3 ∧ ClR 0 w cs (xs.getD i Cl.none) ∧ ∀ j, j < 3 → w.cell? ⟨b, off + i * 3 + j, none⟩ = cs[j]?) := hr
 clear hr hs hn
 go_enter Tryz.func133, Tryz.ntmps133
 go_wp2_with (first
  | (refine wpList_make_full _ rfl _ _ 49 rfl w.heap.size 53 i0 (.agg #[.int .i64 0, .int .i64 0, .slice none 0 0]) 3 Tryz.underlying49 hi hz0 hz1 _ _ _ _ n rfl rfl rfl rfl (by rw [show i0.bytes = 40 from HI]; omega) (by unfold maxLen; omega) (Nat.le_refl _) ?_; intro w1 hown hgrow))
 have hbel : Below w.heap.size w w1 := Below.grown (Below.refl _ _) hgrow (Nat.le_refl _) (by simp)
 have HO : Hid (SPart 3 ClO Cl.none 53 w1 w.heap.size n 0 xs ∧ Below w.heap.size w w1) := by
  refine ⟨?_, hbel⟩
  rcases hown.2 with ⟨h', _⟩ | ⟨g', cap', cur, h', _, hg, _, _, hcs, _⟩
  ·simp at h'
  ·simp only [Value.slice.injEq, Option.some.injEq, Addr.mk.injEq, and_true, true_and] at h'
   obtain ⟨rfl, rfl⟩ := h'
   exact SPart.new hg hcs
 clear hown hgrow hbel
 go_wp2
 go_loopw [4] (fun i wr => ∃ k : Nat, k ≤ n ∧ i = .int .i64 k ∧ SPart 3 ClO Cl.none 53 wr w.heap.size n k xs ∧ Below w.heap.size w wr) (fun i _ => n - (intOf i).toNat)
 case atStart => exact ⟨0, by omega, rfl, HO.1, HO.2⟩
 case round =>
  obtain ⟨k, hk, rfl, hp, hbel⟩ := hrel
  by_cases hkn : k < n
  ·have hki : (k : Int) < (n : Int) := by omega
   obtain ⟨b, off, rfl, hlo, hb, hc⟩ := HR (by omega)
   obtain ⟨cs, hcl, hRel, hcj⟩ := hc k hkn
   have hsk : SmC (xs.getD k Cl.none) := HS k (by rw [show xs.length = n from HL]; exact hkn)
   obtain ⟨t, ht⟩ := exq (xs.getD k Cl.none)
   rw [← ht] at hRel hsk
   obtain ⟨u, hcs, hu⟩ := hRel
   obtain ⟨ua, un, uc, rfl⟩ : ∃ a n c, u = .slice a n c := by obtain ⟨a, c, rfl⟩ := hu.shape; exact ⟨_, _, _, rfl⟩
   have HC : Hid (∀ W : World, Below w.heap.size w W → w.heap.size + 1 ≤ W.heap.size → Calls Tryz.prog 153 #[clV t (.slice ua un uc)] W fun r w' => ∃ a n c, r = .returned (clV t (.slice a n c)) ∧ ClO (w.heap.size + 1) w' ([.int .i64 t.sp, .int .i64 t.al, .slice a n c]) (xs.getD k Cl.none) ∧ Below W.heap.size W w') := hideP (fun W hW hW2 => by
    refine (toCell_o t (hu.below ndStable hW) hsk).mono ?_
    rintro e w' ⟨v', rfl, hv, hb⟩
    obtain ⟨a, n, c, rfl⟩ : ∃ a n c, v' = .slice a n c := by obtain ⟨a, c, rfl⟩ := hv.1.1.shape; exact ⟨_, _, _, rfl⟩
    exact ⟨a, n, c, rfl, by rw [← ht]; exact (clOStable).mono ⟨_, rfl, hv⟩ hW2, hb⟩)
   clear hu
   obtain ⟨sp, al, ns⟩ := t
   rw [show cs = _ from hcs] at hcj
   dsimp only at hcj HC
   have g0 : wr.cell? ⟨b, off + k * 3, none⟩ = some (.int .i64 sp) := (hbel.cell (p := ⟨b, off + k * 3, none⟩) hb).trans (hcj 0 (by omega))
   have g1 : wr.cell? ⟨b, off + k * 3 + 1, none⟩ = some (.int .i64 al) := (hbel.cell (p := ⟨b, off + k * 3 + 1, none⟩) hb).trans (hcj 1 (by omega))
   have g2 : wr.cell? ⟨b, off + k * 3 + 2, none⟩ = some (.slice ua un uc) := (hbel.cell (p := ⟨b, off + k * 3 + 2, none⟩) hb).trans (hcj 2 (by omega))
   have HB : Hid (Below w.heap.size w wr) := hbel
   have HP : Hid (SPart 3 ClO Cl.none 53 wr w.heap.size n k xs) := hp
   have HW : Hid (w.heap.size + 1 ≤ wr.heap.size) := hideP hp.lt
   clear hc hcj hcl hbel ht hp hcs hsk
   go_wp2_with (go_at_call 153; refine (HC.out _ HB.out HW.out).mono ?_; rintro e w2 ⟨a2, n2, c2, rfl, hn2, hb1⟩; have hp2 := SPart.below clOStable HP hb1; have hfz := hp2.free; obtain ⟨x0, hx0⟩ := hp2.cells (k * 3) (by omega); obtain ⟨x1, hx1⟩ := hp2.cells (k * 3 + 1) (by omega); obtain ⟨x2, hx2⟩ := hp2.cells (k * 3 + 2) (by omega); have hlt2 := hp2.lt; have HN2 := hideP hn2; have HP2 : Hid (SPart 3 ClO Cl.none 53 w2 w.heap.size n k xs ∧ Below w.heap.size w w2) := ⟨hp2, below_more HB hb1 (Below.size HB)⟩; clear hp2 hb1 hn2)
   go_roundw
   case rel => exact ⟨k + 1, by omega, by go_num, SPart.put clOStable HP2.1 hkn (cs := [.int .i64 sp, .int .i64 al, .slice a2 n2 c2]) rfl HN2.out, putC_below (Nat.le_refl _) [.int .i64 sp, .int .i64 al, .slice a2 n2 c2] (k * 3) _ HP2.2⟩
   case measure => simp [intOf]; omega
  ·have hki : ¬ (k : Int) < (n : Int) := by omega
   obtain rfl : k = n := by omega
   have HP : Hid (SPart 3 ClO Cl.none 53 wr w.heap.size k k xs ∧ Below w.heap.size w wr) := ⟨hp, hbel⟩
   clear hp hbel
   go_wp2
   go_ret
   exact ⟨_, rfl, ⟨w.heap.size, by rw [show xs.length = k from HL]; rfl, Nat.le_refl _, by rw [show xs.length = k from HL]; exact HP.1⟩, HP.2⟩
set_option maxHeartbeats 2000000 in
theorem toRow_og (x : Rw) {v : Value} {w : World} (h : CRow 0 w v x.cs) (hC : ∀ (W : World), Below w.heap.size w W → Calls Tryz.prog 133 #[v] W fun e w' => ∃ v', e = .returned v' ∧ COw W.heap.size w' v' x.cs ∧ Below W.heap.size W w') :
 Calls Tryz.prog 106 #[rwV x v] w fun e w' => ∃ v', e = .returned (rwV x v') ∧ COw w.heap.size w' v' x.cs ∧ Below w.heap.size w w' := by
 obtain ⟨ua, un, uc, rfl⟩ : ∃ a n c, v = .slice a n c := by obtain ⟨a, c, rfl⟩ := h.shape; exact ⟨_, _, _, rfl⟩
 have HC := hideP hC
 clear h hC
 obtain ⟨rcs, ru⟩ := x
 dsimp only at HC ⊢
 go_enter Tryz.func106, Tryz.ntmps106
 go_wp2_with fail
 refine (HC.out _ (below3 _ _ _ _)).mono ?_
 rintro e w1 ⟨v1, rfl, hp1, hb1⟩
 obtain ⟨a1, n1, c1, rfl⟩ : ∃ a n c, v1 = .slice a n c := by obtain ⟨a, c, rfl⟩ := hp1.shape; exact ⟨_, _, _, rfl⟩
 have hz1 : w.heap.size + 1 + 1 < w1.heap.size := by have := hb1.size; simp at this; omega
 have hy1 : w.heap.size + 1 < w1.heap.size := by omega
 have hx1 : w.heap.size < w1.heap.size := by omega
 have BW : Below w.heap.size w w1 := below_more (below3 _ _ _ _) hb1 (by simp; omega)
 obtain ⟨hc1, hf1⟩ := bcell hb1
 simp only [World.size_alloc, World.size_setCell] at hc1 hf1 hp1
 have P1 : Hid (COw (w.heap.size + 1 + 1 + 1) w1 (.slice a1 n1 c1) rcs) := hp1
 have B1 := hideP BW
 clear hb1 hp1 BW
 go_wp2
 refine bodyPost_ret (v := rwV ⟨rcs, ru⟩ (.slice a1 n1 c1)) (by simp [results, Tryz.results106, go_sem, hc1, hx1, hy1, hz1]) rfl ⟨_, rfl, ?_, ?_⟩
 ·exact ((((COw.abv P1.out (Abv.set (by omega) _)).abv (Abv.set (by omega) _)).abv (Abv.set (by omega) _)).abv (Abv.set (by omega) _)).mono (by omega)
 ·exact (((Below.setCell B1.out (by simp; omega) _).setCell (by simp; omega) _).setCell (by simp) _).setCell (by simp) _
theorem toRow_o (x : Rw) {v : Value} {w : World} (h : CRow 0 w v x.cs) (hs : SmW x) :
 Calls Tryz.prog 106 #[rwV x v] w fun e w' => ∃ v', e = .returned (rwV x v') ∧ COw w.heap.size w' v' x.cs ∧ Below w.heap.size w w' :=
 toRow_og x h (fun W hW => toCellS_o (h.below clStable hW) hs)
theorem Tryz.info94o : (Tryz.prog.info? 51).map (fun i => (i.zero, i.size, i.bytes)) = some (some (.agg #[.slice none 0 0, .int .i64 0]), 2, 32) := by kernel_rfl
set_option maxHeartbeats 4000000 in
theorem toRowS_o {v : Value} {xs : List Rw} {w : World} (h : RRow 0 w v xs) (hs : xs.length ≤ 1048576 ∧ ∀ i, i < xs.length → SmW (xs.getD i Rw.none)) :
 Calls Tryz.prog 63 #[v] w fun e w' => ∃ v', e = .returned v' ∧ ROw w.heap.size w' v' xs ∧ Below w.heap.size w w' := by
 obtain ⟨ao, n, cap, rfl, hn, hr⟩ := h
 have hsz : n ≤ 1048576 := by rw [← hn]; exact hs.1
 have HL : Hid (xs.length = n) := hn
 have HS : Hid (∀ i, i < xs.length → SmW (xs.getD i Rw.none)) := hs.2
 obtain ⟨i0, hi, hz0, hz1, hz2⟩ := info_parts Tryz.info94o
 have HI : Hid (i0.bytes = 32) := hz2
 have HR : Hid (0 < n → ∃ b off, ao = some ⟨b, off, none⟩ ∧ 0 ≤ b ∧ b < w.heap.size ∧ ∀ i, i < n → ∃ cs : List Value, cs.length = 2 ∧ RwR 0 w cs (xs.getD i Rw.none) ∧ ∀ j, j < 2 → w.cell? ⟨b, off + i * 2 + j, none⟩ = cs[j]?) := hr
 clear hr hs hn
 go_enter Tryz.func63, Tryz.ntmps63
 go_wp2_with (first
  | (refine wpList_make_full _ rfl _ _ 42 rfl w.heap.size 51 i0 (.agg #[.slice none 0 0, .int .i64 0]) 2 Tryz.underlying42 hi hz0 hz1 _ _ _ _ n rfl rfl rfl rfl (by rw [show i0.bytes = 32 from HI]; omega) (by unfold maxLen; omega) (Nat.le_refl _) ?_; intro w1 hown hgrow))
 have hbel : Below w.heap.size w w1 := Below.grown (Below.refl _ _) hgrow (Nat.le_refl _) (by simp)
 have HO : Hid (SPart 2 RwO Rw.none 51 w1 w.heap.size n 0 xs ∧ Below w.heap.size w w1) := by
  refine ⟨?_, hbel⟩
  rcases hown.2 with ⟨h', _⟩ | ⟨g', cap', cur, h', _, hg, _, _, hcs, _⟩
  ·simp at h'
  ·simp only [Value.slice.injEq, Option.some.injEq, Addr.mk.injEq, and_true, true_and] at h'
   obtain ⟨rfl, rfl⟩ := h'
   exact SPart.new hg hcs
 clear hown hgrow hbel
 go_wp2
 go_loopw [4] (fun i wr => ∃ k : Nat, k ≤ n ∧ i = .int .i64 k ∧ SPart 2 RwO Rw.none 51 wr w.heap.size n k xs ∧ Below w.heap.size w wr) (fun i _ => n - (intOf i).toNat)
 case atStart => exact ⟨0, by omega, rfl, HO.1, HO.2⟩
 case round =>
  obtain ⟨k, hk, rfl, hp, hbel⟩ := hrel
  by_cases hkn : k < n
  ·have hki : (k : Int) < (n : Int) := by omega
   obtain ⟨b, off, rfl, hlo, hb, hc⟩ := HR (by omega)
   obtain ⟨cs, hcl, hRel, hcj⟩ := hc k hkn
   have hsk : SmW (xs.getD k Rw.none) := HS k (by rw [show xs.length = n from HL]; exact hkn)
   obtain ⟨t, ht⟩ := exq (xs.getD k Rw.none)
   rw [← ht] at hRel hsk
   obtain ⟨u, hcs, hu⟩ := hRel
   obtain ⟨ua, un, uc, rfl⟩ : ∃ a n c, u = .slice a n c := by obtain ⟨a, c, rfl⟩ := hu.shape; exact ⟨_, _, _, rfl⟩
   have HC : Hid (∀ W : World, Below w.heap.size w W → w.heap.size + 1 ≤ W.heap.size → Calls Tryz.prog 106 #[rwV t (.slice ua un uc)] W fun r w' => ∃ a n c, r = .returned (rwV t (.slice a n c)) ∧ RwO (w.heap.size + 1) w' ([.slice a n c, .int .i64 t.ru]) (xs.getD k Rw.none) ∧ Below W.heap.size W w') := hideP (fun W hW hW2 => by
    refine (toRow_o t (hu.below clStable hW) hsk).mono ?_
    rintro e w' ⟨v', rfl, hv, hb⟩
    obtain ⟨a, n, c, rfl⟩ : ∃ a n c, v' = .slice a n c := by obtain ⟨a, c, rfl⟩ := hv.shape; exact ⟨_, _, _, rfl⟩
    exact ⟨a, n, c, rfl, by rw [← ht]; exact (rwOStable).mono ⟨_, rfl, hv⟩ hW2, hb⟩)
   clear hu
   obtain ⟨rcs, ru⟩ := t
   rw [show cs = _ from hcs] at hcj
   dsimp only at hcj HC
   have g0 : wr.cell? ⟨b, off + k * 2, none⟩ = some (.slice ua un uc) := (hbel.cell (p := ⟨b, off + k * 2, none⟩) hb).trans (hcj 0 (by omega))
   have g1 : wr.cell? ⟨b, off + k * 2 + 1, none⟩ = some (.int .i64 ru) := (hbel.cell (p := ⟨b, off + k * 2 + 1, none⟩) hb).trans (hcj 1 (by omega))
   have HB : Hid (Below w.heap.size w wr) := hbel
   have HP : Hid (SPart 2 RwO Rw.none 51 wr w.heap.size n k xs) := hp
   have HW : Hid (w.heap.size + 1 ≤ wr.heap.size) := hideP hp.lt
   clear hc hcj hcl hbel ht hp hcs hsk
   go_wp2_with (go_at_call 106; refine (HC.out _ HB.out HW.out).mono ?_; rintro e w2 ⟨a2, n2, c2, rfl, hn2, hb1⟩; have hp2 := SPart.below rwOStable HP hb1; have hfz := hp2.free; obtain ⟨x0, hx0⟩ := hp2.cells (k * 2) (by omega); obtain ⟨x1, hx1⟩ := hp2.cells (k * 2 + 1) (by omega); have hlt2 := hp2.lt; have HN2 := hideP hn2; have HP2 : Hid (SPart 2 RwO Rw.none 51 w2 w.heap.size n k xs ∧ Below w.heap.size w w2) := ⟨hp2, below_more HB hb1 (Below.size HB)⟩; clear hp2 hb1 hn2)
   go_roundw
   case rel => exact ⟨k + 1, by omega, by go_num, SPart.put rwOStable HP2.1 hkn (cs := [.slice a2 n2 c2, .int .i64 ru]) rfl HN2.out, putC_below (Nat.le_refl _) [.slice a2 n2 c2, .int .i64 ru] (k * 2) _ HP2.2⟩
   case measure => simp [intOf]; omega
  ·have hki : ¬ (k : Int) < (n : Int) := by omega
   obtain rfl : k = n := by omega
   have HP : Hid (SPart 2 RwO Rw.none 51 wr w.heap.size k k xs ∧ Below w.heap.size w wr) := ⟨hp, hbel⟩
   clear hp hbel
   go_wp2
   go_ret
   exact ⟨_, rfl, ⟨w.heap.size, by rw [show xs.length = k from HL]; rfl, Nat.le_refl _, by rw [show xs.length = k from HL]; exact HP.1⟩, HP.2⟩
set_option maxHeartbeats 4000000 in
theorem toTable_o (x : Tb) {v : Value} {w : World} (h : RRow 0 w v x.rs) (hs : SmT x) :
 Calls Tryz.prog 25 #[tbV x v] w fun e w' => ∃ v', e = .returned (tbV x v') ∧ ROw w.heap.size w' v' x.rs ∧ Below w.heap.size w w' := by
 obtain ⟨ua, un, uc, rfl⟩ : ∃ a n c, v = .slice a n c := by obtain ⟨a, c, rfl⟩ := h.shape; exact ⟨_, _, _, rfl⟩
 have HC : Hid (∀ (W : World), Below w.heap.size w W → Calls Tryz.prog 63 #[.slice ua un uc] W fun e w' => ∃ v', e = .returned v' ∧ ROw W.heap.size w' v' x.rs ∧ Below W.heap.size W w') := hideP (fun W hW => toRowS_o (h.below rwStable hW) hs)
 clear h hs
 obtain ⟨co, gs, gp, gpo, gm, gmo, rs⟩ := x
 dsimp only at HC ⊢
 go_enter Tryz.func25, Tryz.ntmps25
 go_wp2_with fail
 refine (toGlue_any _ _ _ _ _ _).mono ?_
 rintro e w1 ⟨rfl, hb1⟩
 have hz1 : w.heap.size + 1 + 1 < w1.heap.size := by have := hb1.size; simp at this; omega
 have hy1 : w.heap.size + 1 < w1.heap.size := by omega
 have hx1 : w.heap.size < w1.heap.size := by omega
 have BW : Below w.heap.size w w1 := by
  refine below_more ?_ hb1 (by simp; omega)
  repeat (first | exact below3 _ _ _ _ | refine Below.setCell ?_ (by first | (simp; done) | (simp; omega)) _)
 obtain ⟨hc1, hf1⟩ := bcell hb1
 have B1 := hideP BW
 simp only [World.size_alloc, World.size_setCell] at hc1 hf1
 clear hb1 BW
 go_wp2_with fail
 refine (HC.out _ ?B0).mono ?_
 case B0 =>
  have B2 := B1.out
  clear hc1 hf1 B1 HC
  repeat (first | with_reducible exact B2 | (with_reducible refine Below.setCell ?_ ?_ _; rotate_left; focus (first | (simp; done) | (simp; omega))))
 rintro e w2 ⟨v2, rfl, hp2, hb2⟩
 obtain ⟨a1, n1, c1, rfl⟩ : ∃ a n c, v2 = .slice a n c := by obtain ⟨a, c, rfl⟩ := hp2.shape; exact ⟨_, _, _, rfl⟩
 have hz2 : w.heap.size + 1 + 1 < w2.heap.size := by have := hb2.size; simp at this; omega
 have hy2 : w.heap.size + 1 < w2.heap.size := by omega
 have hx2 : w.heap.size < w2.heap.size := by omega
 have BW : Below w.heap.size w w2 := by
  refine below_more ?_ hb2 (by simp; omega)
  have B2 := B1.out
  clear hc1 hf1 B1 HC
  repeat (first | with_reducible exact B2 | (with_reducible refine Below.setCell ?_ ?_ _; rotate_left; focus (first | (simp; done) | (simp; omega))))
 obtain ⟨hc2, hf2⟩ := bcell hb2
 simp only [World.size_alloc, World.size_setCell] at hc2 hf2 hp2
 have P2 : Hid (ROw (w.heap.size + 1 + 1 + 1) w2 (.slice a1 n1 c1) rs) := hideP (hp2.mono (by omega))
 have B2 := hideP BW
 clear hb2 hp2 BW B1
 go_wp2
 refine bodyPost_ret (v := tbV ⟨co, gs, gp, gpo, gm, gmo, rs⟩ (.slice a1 n1 c1)) (by simp [results, Tryz.results25, go_sem, hc1, hx1, hy1, hz1, hc2, hx2, hy2, hz2]) rfl ⟨_, rfl, ?_, ?_⟩
 ·have P3 := P2.out
  clear hc1 hf1 hc2 hf2 P2 HC
  refine ROw.mono (lo := w.heap.size + 1 + 1 + 1) ?_ (by omega)
  repeat (first | with_reducible exact P3 | (with_reducible refine ROw.abv ?_ (Abv.set ?_ _); rotate_left; focus omega))
 ·have B3 := B2.out
  clear hc1 hf1 hc2 hf2 P2 HC
  repeat (first | with_reducible exact B3 | (with_reducible refine Below.setCell ?_ ?_ _; rotate_left; focus (first | (simp; done) | (simp; omega))))
def nsK (cs : List Cl) : Nat → Nat
 | 0 => 0
 | k + 1 => nsK cs k + (cs.getD k Cl.none).ns.length
theorem nsK_succ (cs : List Cl) (k : Nat) : nsK cs (k + 1) = nsK cs k + (cs.getD k Cl.none).ns.length := rfl
theorem nsK_le (cs : List Cl) : ∀ {n k : Nat}, k ≤ n → nsK cs k ≤ nsK cs n
 | 0, k, h => by
  obtain rfl : k = 0 := by omega
  exact Nat.le_refl _
 | n + 1, k, h => by
  by_cases e : k = n + 1
  ·subst e; exact Nat.le_refl _
  ·have := nsK_le cs (show k ≤ n by omega)
   rw [nsK_succ]
   omega
def mkW (r : Rw) : Nat := 2 * r.cs.length + 15 * nsK r.cs r.cs.length + 1
def mkK (rs : List Rw) : Nat → Nat
 | 0 => 0
 | k + 1 => mkK rs k + mkW (rs.getD k Rw.none)
theorem mkK_succ (rs : List Rw) (k : Nat) : mkK rs (k + 1) = mkK rs k + mkW (rs.getD k Rw.none) := rfl
theorem mkK_le (rs : List Rw) : ∀ {n k : Nat}, k ≤ n → mkK rs k ≤ mkK rs n
 | 0, k, h => by
  obtain rfl : k = 0 := by omega
  exact Nat.le_refl _
 | n + 1, k, h => by
  by_cases e : k = n + 1
  ·subst e; exact Nat.le_refl _
  ·have := mkK_le rs (show k ≤ n by omega)
   rw [mkK_succ]
   omega
structure Mk (lo : Nat) (w w' : World) : Prop where
 bel : Below lo w w'
 blk : ∀ (b : Nat) (cur : Array Value) (ty : TypeId), w.heap[b]? = some (Obj.cells cur ty (0, 0)) → ∃ cur' : Array Value, w'.heap[b]? = some (.cells cur' ty (0, 0)) ∧ cur'.size = cur.size ∧ (ty = 53 → ∀ i, cur'[i * 3 + 2]? = cur[i * 3 + 2]?) ∧ (ty = 51 → ∀ i, cur'[i * 2]? = cur[i * 2]?) ∧ (ty ≠ 36 → ty ≠ 53 → ty ≠ 51 → cur' = cur)
theorem Mk.refl (lo : Nat) (w : World) : Mk lo w w := ⟨Below.refl _ _, fun b cur ty h => ⟨cur, h, rfl, fun _ _ => rfl, fun _ _ => rfl, fun _ _ _ => rfl⟩⟩
theorem Mk.trans {lo : Nat} {a b c : World} (h : Mk lo a b) (k : Mk lo b c) : Mk lo a c := ⟨h.bel.trans k.bel, fun x cur ty hx => by
 obtain ⟨c1, e1, e2, e3, e4, e5⟩ := h.blk x cur ty hx
 obtain ⟨c2, f1, f2, f3, f4, f5⟩ := k.blk x c1 ty e1
 exact ⟨c2, f1, f2.trans e2, fun ht i => (f3 ht i).trans (e3 ht i), fun ht i => (f4 ht i).trans (e4 ht i), fun h1 h2 h3 => (f5 h1 h2 h3).trans (e5 h1 h2 h3)⟩⟩
theorem Mk.below {lo : Nat} {w w' : World} (h : Below w.heap.size w w') (hl : lo ≤ w.heap.size) : Mk lo w w' := ⟨h.mono hl, fun b cur ty hb => ⟨cur, (h.block b (glt hb)).trans hb, rfl, fun _ _ => rfl, fun _ _ => rfl, fun _ _ _ => rfl⟩⟩
theorem Mk.one {lo g : Nat} {w w' : World} {cur cur' : Array Value} {ty : Nat} (hb : Below lo w w') (hg : w.heap[g]? = some (.cells cur ty (0, 0))) (hg' : w'.heap[g]? = some (.cells cur' ty (0, 0))) (hs : cur'.size = cur.size) (h1 : ty = 53 → ∀ i, cur'[i * 3 + 2]? = cur[i * 3 + 2]?) (h2 : ty = 51 → ∀ i, cur'[i * 2]? = cur[i * 2]?) (h3 : ty = 36 ∨ ty = 53 ∨ ty = 51) (ho : ∀ b, b < w.heap.size → b ≠ g → w'.heap[b]? = w.heap[b]?) : Mk lo w w' := ⟨hb, fun b c t hbc => by
 by_cases e : b = g
 ·subst e
  rw [hg] at hbc
  cases hbc
  exact ⟨cur', hg', hs, h1, h2, fun a b c => by rcases h3 with h | h | h; exact absurd h a; exact absurd h b; exact absurd h c⟩
 ·exact ⟨c, (ho b (glt hbc) e).trans hbc, rfl, fun _ _ => rfl, fun _ _ => rfl, fun _ _ _ => rfl⟩⟩
theorem Mk.set {lo g o : Nat} {w : World} {cur : Array Value} {ty : Nat} (x : Value) (hg : w.heap[g]? = some (.cells cur ty (0, 0))) (hl : lo ≤ g) (h1 : ty = 53 → o % 3 ≠ 2) (h2 : ty = 51 → o % 2 ≠ 0) (h3 : ty = 53 ∨ ty = 51) : Mk lo w (w.setCell ⟨g, o, none⟩ x) := by
 refine Mk.one ((Below.refl _ _).setCell hl _) hg (heap_setCell_same w g o cur ty x hg) (by simp) (fun e i => ?_) (fun e i => ?_) (by omega) (fun b _ hne => Below.heap_setCell _ _ _ _ (by simpa using hne))
 ·rw [Array.getElem?_setIfInBounds, if_neg (by have := h1 e; omega)]
 ·rw [Array.getElem?_setIfInBounds, if_neg (by have := h2 e; omega)]
theorem NOw.mk {lo n : Nat} {w w' : World} {v : Value} (h : NOw lo w v n) (hm : Mk lo w w') : NOw lo w' v n := by
 obtain ⟨g, L, rfl, ho⟩ := h
 rcases ho.2 with ⟨e, _⟩ | ⟨g', cap, cur, e, hb, hh, hn, hx, hs, ht⟩
 ·simp at e
 ·simp at e
  obtain ⟨rfl, rfl⟩ := e
  obtain ⟨cur', e1, e2, _⟩ := hm.blk _ _ _ hh
  refine ⟨g, cur'.toList.take (n * 15), rfl, ?_, .inr ⟨g, n, cur', rfl, hb, e1, hn, hx, by omega, rfl⟩⟩
  rw [List.length_take]
  simp
  omega
def CSh (lo : Nat) (w : World) (v : Value) (cs : List Cl) : Prop := ∃ (g : Nat) (cur : Array Value), v = .slice (some ⟨g, 0, none⟩) cs.length cs.length ∧ lo ≤ g ∧ w.heap[g]? = some (.cells cur 53 (0, 0)) ∧ cur.size = cs.length * 3 ∧ ∀ i, i < cs.length → ∃ u, cur[i * 3 + 2]? = some u ∧ NOw lo w u (cs.getD i Cl.none).ns.length
theorem CSh.mk {lo : Nat} {w w' : World} {v : Value} {cs : List Cl} (h : CSh lo w v cs) (hm : Mk lo w w') : CSh lo w' v cs := by
 obtain ⟨g, cur, rfl, h1, h2, h3, h4⟩ := h
 obtain ⟨cur', e1, e2, e3, _⟩ := hm.blk _ _ _ h2
 refine ⟨g, cur', rfl, h1, e1, e2.trans h3, fun i hi => ?_⟩
 obtain ⟨u, k1, k2⟩ := h4 i hi
 exact ⟨u, (e3 rfl i).trans k1, k2.mk hm⟩
theorem COw.sh {lo : Nat} {w : World} {v : Value} {cs : List Cl} (h : COw lo w v cs) : CSh lo w v cs := by
 obtain ⟨g, rfl, h1, cur, h2, h3, h4⟩ := h
 refine ⟨g, cur, rfl, h1, h2, h3, fun i hi => ?_⟩
 obtain ⟨c, hl, ⟨u, rfl, hu⟩, hj⟩ := h4 i hi
 exact ⟨u, hj 2 (by omega), hu.2.mono (by omega)⟩
def RSh (lo : Nat) (w : World) (v : Value) (rs : List Rw) : Prop := ∃ (g : Nat) (cur : Array Value), v = .slice (some ⟨g, 0, none⟩) rs.length rs.length ∧ lo ≤ g ∧ w.heap[g]? = some (.cells cur 51 (0, 0)) ∧ cur.size = rs.length * 2 ∧ ∀ i, i < rs.length → ∃ u, cur[i * 2]? = some u ∧ CSh lo w u (rs.getD i Rw.none).cs
theorem RSh.mk {lo : Nat} {w w' : World} {v : Value} {rs : List Rw} (h : RSh lo w v rs) (hm : Mk lo w w') : RSh lo w' v rs := by
 obtain ⟨g, cur, rfl, h1, h2, h3, h4⟩ := h
 obtain ⟨cur', e1, e2, _, e3, _⟩ := hm.blk _ _ _ h2
 refine ⟨g, cur', rfl, h1, e1, e2.trans h3, fun i hi => ?_⟩
 obtain ⟨u, k1, k2⟩ := h4 i hi
 exact ⟨u, (e3 rfl i).trans k1, k2.mk hm⟩
theorem CSh.mono {lo lo' : Nat} {w : World} {v : Value} {cs : List Cl} (h : CSh lo w v cs) (hl : lo' ≤ lo) : CSh lo' w v cs := by
 obtain ⟨g, cur, h0, h1, h2, h3, h4⟩ := h
 refine ⟨g, cur, h0, by omega, h2, h3, fun i hi => ?_⟩
 obtain ⟨u, k1, k2⟩ := h4 i hi
 exact ⟨u, k1, k2.mono hl⟩
theorem ROw.sh {lo : Nat} {w : World} {v : Value} {rs : List Rw} (h : ROw lo w v rs) : RSh lo w v rs := by
 obtain ⟨g, rfl, h1, cur, h2, h3, h4⟩ := h
 refine ⟨g, cur, rfl, h1, h2, h3, fun i hi => ?_⟩
 obtain ⟨c, hl, ⟨u, rfl, hu⟩, hj⟩ := h4 i hi
 exact ⟨u, hj 0 (by omega), hu.sh.mono (by omega)⟩
theorem frsP_trans {P : Nat → Prop} {a b c : World} (h : Frs P a b) (k : Frs P b c) : Frs P a c :=
 ⟨k.os.trans h.os, k.tape.trans h.tape, k.out.trans h.out, Nat.le_trans h.size k.size, fun x hx hn => (k.block x (Nat.lt_of_lt_of_le hx h.size) hn).trans (h.block x hx hn)⟩
structure MkP (P : Nat → Prop) (w w' : World) : Prop where
 bel : Frs P w w'
 blk : ∀ (b : Nat) (cur : Array Value) (ty : TypeId), w.heap[b]? = some (Obj.cells cur ty (0, 0)) → ∃ cur' : Array Value, w'.heap[b]? = some (.cells cur' ty (0, 0)) ∧ cur'.size = cur.size ∧ (ty = 53 → ∀ i, cur'[i * 3 + 2]? = cur[i * 3 + 2]?) ∧ (ty = 51 → ∀ i, cur'[i * 2]? = cur[i * 2]?) ∧ (ty ≠ 36 → ty ≠ 53 → ty ≠ 51 → cur' = cur)
theorem MkP.refl (P : Nat → Prop) (w : World) : MkP P w w := ⟨Frs.refl _ _, fun b cur ty h => ⟨cur, h, rfl, fun _ _ => rfl, fun _ _ => rfl, fun _ _ _ => rfl⟩⟩
theorem MkP.trans {P : Nat → Prop} {a b c : World} (h : MkP P a b) (k : MkP P b c) : MkP P a c := ⟨frsP_trans h.bel k.bel, fun x cur ty hx => by
 obtain ⟨c1, e1, e2, e3, e4, e5⟩ := h.blk x cur ty hx
 obtain ⟨c2, f1, f2, f3, f4, f5⟩ := k.blk x c1 ty e1
 exact ⟨c2, f1, f2.trans e2, fun ht i => (f3 ht i).trans (e3 ht i), fun ht i => (f4 ht i).trans (e4 ht i), fun h1 h2 h3 => (f5 h1 h2 h3).trans (e5 h1 h2 h3)⟩⟩
theorem MkP.below {P : Nat → Prop} {w w' : World} (h : Below w.heap.size w w') : MkP P w w' := ⟨(Frs.refl _ _).below h, fun b cur ty hb => ⟨cur, (h.block b (glt hb)).trans hb, rfl, fun _ _ => rfl, fun _ _ => rfl, fun _ _ _ => rfl⟩⟩
theorem MkP.one {P : Nat → Prop} {g : Nat} {w w' : World} {cur cur' : Array Value} {ty : Nat} (hb : Frs P w w') (hg : w.heap[g]? = some (.cells cur ty (0, 0))) (hg' : w'.heap[g]? = some (.cells cur' ty (0, 0))) (hs : cur'.size = cur.size) (h1 : ty = 53 → ∀ i, cur'[i * 3 + 2]? = cur[i * 3 + 2]?) (h2 : ty = 51 → ∀ i, cur'[i * 2]? = cur[i * 2]?) (h3 : ty = 36 ∨ ty = 53 ∨ ty = 51) (ho : ∀ b, b < w.heap.size → b ≠ g → w'.heap[b]? = w.heap[b]?) : MkP P w w' := ⟨hb, fun b c t hbc => by
 by_cases e : b = g
 ·subst e
  rw [hg] at hbc
  cases hbc
  exact ⟨cur', hg', hs, h1, h2, fun a b c => by rcases h3 with h | h | h; exact absurd h a; exact absurd h b; exact absurd h c⟩
 ·exact ⟨c, (ho b (glt hbc) e).trans hbc, rfl, fun _ _ => rfl, fun _ _ => rfl, fun _ _ _ => rfl⟩⟩
theorem MkP.set {P : Nat → Prop} {g o : Nat} {w : World} {cur : Array Value} {ty : Nat} (x : Value) (hg : w.heap[g]? = some (.cells cur ty (0, 0))) (hl : P g) (h1 : ty = 53 → o % 3 ≠ 2) (h2 : ty = 51 → o % 2 ≠ 0) (h3 : ty = 53 ∨ ty = 51) : MkP P w (w.setCell ⟨g, o, none⟩ x) := by
 refine MkP.one ((Frs.refl _ _).set (p := ⟨g, o, none⟩) hl _) hg (heap_setCell_same w g o cur ty x hg) (by simp) (fun e i => ?_) (fun e i => ?_) (by omega) (fun b _ hne => Below.heap_setCell _ _ _ _ (by simpa using hne))
 ·rw [Array.getElem?_setIfInBounds, if_neg (by have := h1 e; omega)]
 ·rw [Array.getElem?_setIfInBounds, if_neg (by have := h2 e; omega)]
def NOP (P : Nat → Prop) (w : World) (v : Value) (n : Nat) : Prop := ∃ g L, v = .slice (some ⟨g, 0, none⟩) n n ∧ P g ∧ w.ownsRow 0 36 15 v n L
theorem NOP.mk {P : Nat → Prop} {n : Nat} {w w' : World} {v : Value} (h : NOP P w v n) (hm : MkP P w w') : NOP P w' v n := by
 obtain ⟨g, L, rfl, hP, ho⟩ := h
 rcases ho.2 with ⟨e, _⟩ | ⟨g', cap, cur, e, hb, hh, hn, hx, hs, ht⟩
 ·simp at e
 ·simp at e
  obtain ⟨rfl, rfl⟩ := e
  obtain ⟨cur', e1, e2, _⟩ := hm.blk _ _ _ hh
  refine ⟨g, cur'.toList.take (n * 15), rfl, hP, ?_, .inr ⟨g, n, cur', rfl, hb, e1, hn, hx, by omega, rfl⟩⟩
  rw [List.length_take]
  simp
  omega
theorem markN_P {P : Nat → Prop} {n k : Nat} {v : Value} {w : World} (h : NOP P w v n) (hn : n ≤ 1048576) (hk0 : 0 < k) (hk1 : k ≤ 16777216) :
 Calls Tryz.prog 33 #[v, .int .i64 (k : Int)] w fun e w' => e = .returned (.int .i64 ((k + 15 * n : Nat) : Int)) ∧ MkP P w w' := by
 obtain ⟨g, L, rfl, hP, ho⟩ := h
 refine (markNodeS_any ho hn hk0 hk1).mono ?_
 rintro e w' ⟨rfl, ho2, hs⟩
 refine ⟨rfl, ?_⟩
 rcases ho.2 with ⟨e, _⟩ | ⟨g1, cap1, cur, e, hb, hh, hn1, hx1, hs1, ht1⟩
 ·simp at e
 ·simp at e
  obtain ⟨rfl, rfl⟩ := e
  rcases ho2.2 with ⟨e, _⟩ | ⟨g2, cap2, cur2, e, hb2, hh2, hn2, hx2, hs2, ht2⟩
  ·simp at e
  ·simp at e
   obtain ⟨rfl, rfl⟩ := e
   exact MkP.one ⟨hs.below.os, hs.below.tape, hs.below.output, hs.below.size, fun b hb hnP => hs.other b hb (fun e => hnP (by rw [e]; exact hP))⟩ hh hh2 (by omega) (fun e => by omega) (fun e => by omega) (.inl rfl) hs.other
def CShP (P : Nat → Prop) (w : World) (v : Value) (cs : List Cl) : Prop := ∃ (g : Nat) (cur : Array Value), v = .slice (some ⟨g, 0, none⟩) cs.length cs.length ∧ P g ∧ w.heap[g]? = some (.cells cur 53 (0, 0)) ∧ cur.size = cs.length * 3 ∧ ∀ i, i < cs.length → ∃ u, cur[i * 3 + 2]? = some u ∧ NOP P w u (cs.getD i Cl.none).ns.length
theorem CShP.mk {P : Nat → Prop} {w w' : World} {v : Value} {cs : List Cl} (h : CShP P w v cs) (hm : MkP P w w') : CShP P w' v cs := by
 obtain ⟨g, cur, rfl, h1, h2, h3, h4⟩ := h
 obtain ⟨cur', e1, e2, e3, _⟩ := hm.blk _ _ _ h2
 refine ⟨g, cur', rfl, h1, e1, e2.trans h3, fun i hi => ?_⟩
 obtain ⟨u, k1, k2⟩ := h4 i hi
 exact ⟨u, (e3 rfl i).trans k1, k2.mk hm⟩
theorem COw.shP {P : Nat → Prop} {lo : Nat} {w : World} {v : Value} {cs : List Cl} (hP : ∀ g, lo ≤ g → g < w.heap.size → P g) (h : COw lo w v cs) : CShP P w v cs := by
 obtain ⟨g, rfl, h1, cur, h2, h3, h4⟩ := h
 refine ⟨g, cur, rfl, hP g h1 (glt h2), h2, h3, fun i hi => ?_⟩
 obtain ⟨c, hl, ⟨u, rfl, hu⟩, hj⟩ := h4 i hi
 obtain ⟨gn, L, rfl, ho⟩ := hu.2
 have hlt := ho.lt gn rfl
 exact ⟨_, hj 2 (by omega), gn, L, rfl, hP gn (by omega) hlt.2, ownG_base ho (Nat.zero_le _)⟩
def RShP (P : Nat → Prop) (w : World) (v : Value) (rs : List Rw) : Prop := ∃ (g : Nat) (cur : Array Value), v = .slice (some ⟨g, 0, none⟩) rs.length rs.length ∧ P g ∧ w.heap[g]? = some (.cells cur 51 (0, 0)) ∧ cur.size = rs.length * 2 ∧ ∀ i, i < rs.length → ∃ u, cur[i * 2]? = some u ∧ CShP P w u (rs.getD i Rw.none).cs
theorem RShP.mk {P : Nat → Prop} {w w' : World} {v : Value} {rs : List Rw} (h : RShP P w v rs) (hm : MkP P w w') : RShP P w' v rs := by
 obtain ⟨g, cur, rfl, h1, h2, h3, h4⟩ := h
 obtain ⟨cur', e1, e2, _, e3, _⟩ := hm.blk _ _ _ h2
 refine ⟨g, cur', rfl, h1, e1, e2.trans h3, fun i hi => ?_⟩
 obtain ⟨u, k1, k2⟩ := h4 i hi
 exact ⟨u, (e3 rfl i).trans k1, k2.mk hm⟩
theorem ROw.shP {P : Nat → Prop} {lo : Nat} {w : World} {v : Value} {rs : List Rw} (hP : ∀ g, lo ≤ g → g < w.heap.size → P g) (h : ROw lo w v rs) : RShP P w v rs := by
 obtain ⟨g, rfl, h1, cur, h2, h3, h4⟩ := h
 refine ⟨g, cur, rfl, hP g h1 (glt h2), h2, h3, fun i hi => ?_⟩
 obtain ⟨c, hl, ⟨u, rfl, hu⟩, hj⟩ := h4 i hi
 exact ⟨u, hj 0 (by omega), COw.shP (fun g' hg' => hP g' (by omega)) hu⟩
set_option maxRecDepth 20000 in
set_option maxHeartbeats 8000000 in
theorem markCellS_P {P : Nat → Prop} {k : Nat} {v : Value} {cs : List Cl} {w : World} (h : CShP P w v cs) (hn : cs.length ≤ 1048576) (hns : ∀ i, i < cs.length → (cs.getD i Cl.none).ns.length ≤ 1048576) (hk0 : 0 < k) (hk1 : k + 2 * cs.length + 15 * nsK cs cs.length ≤ 16777216) :
 Calls Tryz.prog 108 #[v, .int .i64 (k : Int)] w fun e w' => e = .returned (.int .i64 ((k + 2 * cs.length + 15 * nsK cs cs.length : Nat) : Int)) ∧ MkP P w w' := by
 obtain ⟨n, hnl⟩ := exq (cs.length)
 have HSH := hideP h
 obtain ⟨g, cur0, rfl, hlg, hg0, hsz0, hc0⟩ := h
 rw [← hnl] at hn hns hk1 ⊢
 have HNS := hideP hns
 have HNL := hideP hnl
 clear hg0 hsz0 hc0 cur0 hns hnl
 go_enter Tryz.func108, Tryz.ntmps108
 go_wp2
 go_loopw [1, 5] (fun s i wr => ∃ (j q : Nat), j ≤ n ∧ i = .int .i64 (j : Int) ∧ s = .int .i64 (q : Int) ∧ Hid (q = k + 2 * j + 15 * nsK cs j) ∧ MkP P w wr) (fun _ i _ => n - (intOf i).toNat)
 case atStart => exact ⟨0, k, by omega, rfl, rfl, hideP (by simp [nsK]), MkP.refl _ _⟩
 case round =>
  obtain ⟨j, q, hj, rfl, rfl, HQ, hmk⟩ := hrel
  have HMK := hideP hmk
  clear hmk
  by_cases hjn : j < n
  ·have hji : (j : Int) < (n : Int) := by omega
   obtain ⟨g2, cur, hv, _, hg, hsz, hcell⟩ := HSH.out.mk HMK.out
   obtain ⟨u, hu, hno⟩ := hcell j (by rw [← HNL.out]; exact hjn)
   simp only [Value.slice.injEq, Option.some.injEq, Addr.mk.injEq, and_true, true_and] at hv
   obtain ⟨rfl, _⟩ := hv
   rw [← HNL.out] at hsz
   obtain ⟨m, hm⟩ := exq ((cs.getD j Cl.none).ns.length)
   rw [← hm] at hno
   have hmb : m ≤ 1048576 := by rw [hm]; exact HNS.out j hjn
   have hqb : q + 2 + 15 * m ≤ 16777216 := by
    have h1 := nsK_le cs (show j + 1 ≤ n by omega)
    rw [nsK_succ, ← hm] at h1
    have := HQ.out
    omega
   have HQ2 : Hid (q + 1 + 1 + 15 * m = k + 2 * (j + 1) + 15 * nsK cs (j + 1)) := hideP (by rw [nsK_succ, ← hm]; have := HQ.out; omega)
   obtain ⟨gn, L, hus, hpn, hown⟩ := hno
   subst hus
   obtain ⟨x0, hx0⟩ : ∃ x, cur[j * 3]? = some x := ⟨_, Array.getElem?_eq_getElem (by omega)⟩
   obtain ⟨x1, hx1⟩ : ∃ x, cur[j * 3 + 1]? = some x := ⟨_, Array.getElem?_eq_getElem (by omega)⟩
   have c0 : wr.cell? ⟨g, j * 3, none⟩ = some x0 := (cell_of_row _ _ _ _ 53 _ hg).trans hx0
   have c1 : wr.cell? ⟨g, j * 3 + 1, none⟩ = some x1 := (cell_of_row _ _ _ _ 53 _ hg).trans hx1
   have c2 : wr.cell? ⟨g, j * 3 + 2, none⟩ = some (.slice (some ⟨gn, 0, none⟩) m m) := (cell_of_row _ _ _ _ 53 _ hg).trans hu
   have fz : ∀ t, wr.frozen? ⟨g, t, none⟩ = false := fun t => frozen_of_row _ _ t _ _ hg
   have hgw : g < wr.heap.size := (glt hg)
   have M2 : Hid (MkP P wr ((wr.setCell ⟨g, j * 3, none⟩ (.int .i64 (q : Int))).setCell ⟨g, j * 3 + 1, none⟩ (.int .i64 ((q : Int) + 1)))) := hideP ((MkP.set _ hg hlg (fun _ => by omega) (fun e => by omega) (.inl rfl)).trans (MkP.set _ (heap_setCell_same _ g (j * 3) _ 53 _ hg) hlg (fun _ => by omega) (fun e => by omega) (.inl rfl)))
   have HC : Hid (Calls Tryz.prog 33 #[.slice (some ⟨gn, 0, none⟩) m m, .int .i64 ((q : Int) + 1 + 1)] ((wr.setCell ⟨g, j * 3, none⟩ (.int .i64 (q : Int))).setCell ⟨g, j * 3 + 1, none⟩ (.int .i64 ((q : Int) + 1))) fun e w' => e = .returned (.int .i64 ((q + 1 + 1 + 15 * m : Nat) : Int)) ∧ MkP P ((wr.setCell ⟨g, j * 3, none⟩ (.int .i64 (q : Int))).setCell ⟨g, j * 3 + 1, none⟩ (.int .i64 ((q : Int) + 1))) w') := hideP (by
    have h1 : NOP P wr (.slice (some ⟨gn, 0, none⟩) m m) m := ⟨gn, L, rfl, hpn, hown⟩
    have h2 := markN_P (k := q + 1 + 1) (h1.mk M2.out) hmb (by omega) (by omega)
    have e : ((q + 1 + 1 : Nat) : Int) = (q : Int) + 1 + 1 := by omega
    rw [e] at h2
    exact h2)
   clear hcell hu hx0 hx1 hown hm hg hsz
   go_wp2_with fail
   refine HC.out.mono ?_
   rintro e w2 ⟨rfl, hm2⟩
   have M3 : Hid (MkP P w w2) := hideP ((HMK.out.trans M2.out).trans hm2)
   clear hm2
   go_wp2
   go_roundw
   case rel => exact ⟨j + 1, q + 1 + 1 + 15 * m, by omega, by go_num, rfl, HQ2, M3.out⟩
   case measure => simp [intOf]; omega
  ·have hji : ¬ (j : Int) < (n : Int) := by omega
   obtain rfl : j = n := by omega
   go_wp2
   go_ret
   refine ⟨?_, HMK.out⟩
   rw [HQ.out]
   rfl
set_option maxRecDepth 20000 in
set_option maxHeartbeats 8000000 in
theorem markRowS_P {P : Nat → Prop} {k : Nat} {v : Value} {rs : List Rw} {w : World} (h : RShP P w v rs) (hn : rs.length ≤ 1048576) (hsm : ∀ i, i < rs.length → SmW (rs.getD i Rw.none)) (hk0 : 0 < k) (hk1 : k + mkK rs rs.length ≤ 16777216) :
 Calls Tryz.prog 68 #[v, .int .i64 (k : Int)] w fun e w' => e = .returned (.int .i64 ((k + mkK rs rs.length : Nat) : Int)) ∧ MkP P w w' := by
 obtain ⟨n, hnl⟩ := exq (rs.length)
 have HSH := hideP h
 obtain ⟨g, cur0, rfl, hlg, hg0, hsz0, hc0⟩ := h
 rw [← hnl] at hn hsm hk1 ⊢
 have HSM := hideP hsm
 have HNL := hideP hnl
 clear hg0 hsz0 hc0 cur0 hsm hnl
 go_enter Tryz.func68, Tryz.ntmps68
 go_wp2
 go_loopw [1, 5] (fun s i wr => ∃ (j q : Nat), j ≤ n ∧ i = .int .i64 (j : Int) ∧ s = .int .i64 (q : Int) ∧ Hid (q = k + mkK rs j) ∧ MkP P w wr) (fun _ i _ => n - (intOf i).toNat)
 case atStart => exact ⟨0, k, by omega, rfl, rfl, hideP (by simp [mkK]), MkP.refl _ _⟩
 case round =>
  obtain ⟨j, q, hj, rfl, rfl, HQ, hmk⟩ := hrel
  have HMK := hideP hmk
  clear hmk
  by_cases hjn : j < n
  ·have hji : (j : Int) < (n : Int) := by omega
   obtain ⟨g2, cur, hv, _, hg, hsz, hcell⟩ := HSH.out.mk HMK.out
   obtain ⟨u, hu, hsh⟩ := hcell j (by rw [← HNL.out]; exact hjn)
   simp only [Value.slice.injEq, Option.some.injEq, Addr.mk.injEq, and_true, true_and] at hv
   obtain ⟨rfl, _⟩ := hv
   rw [← HNL.out] at hsz
   obtain ⟨r, hr⟩ := exq (rs.getD j Rw.none)
   have hsj := HSM.out j hjn
   rw [← hr] at hsh hsj
   have hqb : q + mkW r ≤ 16777216 := by
    have h1 := mkK_le rs (show j + 1 ≤ n by omega)
    rw [mkK_succ, ← hr] at h1
    have := HQ.out
    omega
   have hq0 : 0 < q := by have := HQ.out; omega
   obtain ⟨s, hs⟩ := exq (q + 2 * r.cs.length + 15 * nsK r.cs r.cs.length)
   have HQ2 : Hid (s + 1 = k + mkK rs (j + 1)) := hideP (by rw [mkK_succ, ← hr, hs]; unfold mkW; have := HQ.out; omega)
   have hsb : s + 1 ≤ 16777216 := by rw [hs]; unfold mkW at hqb; omega
   have HC : Hid (Calls Tryz.prog 108 #[u, .int .i64 (q : Int)] wr fun e w' => e = .returned (.int .i64 (s : Int)) ∧ MkP P wr w') := hideP (by
    rw [hs]
    exact markCellS_P hsh hsj.1 (fun i hi => (hsj.2 i hi).1) hq0 (by unfold mkW at hqb; omega))
   obtain ⟨gc, curc, rfl, _⟩ := hsh
   have c0 : wr.cell? ⟨g, j * 2, none⟩ = some (.slice (some ⟨gc, 0, none⟩) r.cs.length r.cs.length) := (cell_of_row _ _ _ _ 51 _ hg).trans hu
   have hgw : g < wr.heap.size := (glt hg)
   have HG := hideP hg
   obtain ⟨m, hm⟩ := exq (r.cs.length)
   rw [← hm] at c0 HC
   clear hcell hu hg hs hr hsj hqb hm
   go_wp2_with fail
   refine HC.out.mono ?_
   rintro e w2 ⟨rfl, hm2⟩
   obtain ⟨cur2, hg2, hsz2, _⟩ := hm2.blk _ _ _ HG.out
   have M2 : Hid (MkP P w w2) := hideP (HMK.out.trans hm2)
   obtain ⟨x1, hx1⟩ : ∃ x, cur2[j * 2 + 1]? = some x := ⟨_, Array.getElem?_eq_getElem (by omega)⟩
   have c1 : w2.cell? ⟨g, j * 2 + 1, none⟩ = some x1 := (cell_of_row _ _ _ _ 51 _ hg2).trans hx1
   have fz : ∀ t, w2.frozen? ⟨g, t, none⟩ = false := fun t => frozen_of_row _ _ t _ _ hg2
   have hgw2 : g < w2.heap.size := (glt hg2)
   have M3 : Hid (MkP P w (w2.setCell ⟨g, j * 2 + 1, none⟩ (.int .i64 (s : Int)))) := hideP (M2.out.trans (MkP.set _ hg2 hlg (fun e => by omega) (fun e => by omega) (.inr rfl)))
   clear hm2 hg2 hsz2 hx1 hsz
   go_wp2
   go_roundw
   case rel => exact ⟨j + 1, s + 1, by omega, by go_num, by first | rfl | go_num, HQ2, M3.out⟩
   case measure => simp [intOf]; omega
  ·have hji : ¬ (j : Int) < (n : Int) := by omega
   obtain rfl : j = n := by omega
   go_wp2
   go_ret
   refine ⟨?_, HMK.out⟩
   rw [HQ.out]
   rfl
set_option maxHeartbeats 2000000 in
theorem markTable_P {P : Nat → Prop} {k : Nat} (x : Tb) {v : Value} {w : World} (h : RShP P w v x.rs) (hs : SmT x) (hk0 : 0 < k) (hk1 : k + mkK x.rs x.rs.length ≤ 16777216) :
 Calls Tryz.prog 31 #[tbV x v, .int .i64 (k : Int)] w fun e w' => e = .returned (.int .i64 ((k + mkK x.rs x.rs.length : Nat) : Int)) ∧ MkP P w w' := by
 obtain ⟨s, hs2⟩ := exq (k + mkK x.rs x.rs.length)
 have HC : Hid (∀ W, MkP P w W → Calls Tryz.prog 68 #[v, .int .i64 (k : Int)] W fun e w' => e = .returned (.int .i64 (s : Int)) ∧ MkP P W w') := hideP (fun W hW => by rw [hs2]; exact markRowS_P (h.mk hW) hs.1 hs.2 hk0 hk1)
 rw [← hs2]
 have B0 : ∀ o, MkP P w (w.alloc o) := fun o => MkP.below (below1 _ _)
 have HB0 := hideP B0
 obtain ⟨g, cur, rfl, _⟩ := h
 obtain ⟨m, hm⟩ := exq (x.rs.length)
 rw [← hm] at HC ⊢
 clear hs2 hs hk1 B0 hm
 obtain ⟨co, gs, gp, gpo, gm, gmo, rs⟩ := x
 simp only [tbV]
 go_enter Tryz.func31, Tryz.ntmps31
 go_wp2_with fail
 refine (HC.out _ (HB0.out _)).mono ?_
 rintro e w1 ⟨rfl, hm1⟩
 have M1 : Hid (MkP P w w1) := hideP ((HB0.out _).trans hm1)
 clear hm1
 go_wp2
 go_ret
 exact ⟨rfl, M1.out⟩
set_option maxHeartbeats 4000000 in
theorem szNodeS_w {v : Value} {xs : List Nd} {w : World} {l : Int} (h : NRow 0 w v xs) (hf : xs.length ≤ 9223372036854775807 ∧ ∀ i, i < xs.length → FnN (xs.getD i Nd.none)) (hl0 : 0 ≤ l) (hl1 : l ≤ 1048576) :
 Calls Tryz.prog 162 #[v, .int .i64 l] w fun e w' => (∃ m : Int, e = .returned (.int .i64 m) ∧ (0 ≤ m → m + xs.length ≤ l ∧ xs.length ≤ 1048576 ∧ ∀ i, i < xs.length → SmN (xs.getD i Nd.none))) ∧ Below w.heap.size w w' := by
 obtain ⟨ao, n, cap, rfl, hl, hr⟩ := h
 have hn : n ≤ 9223372036854775807 := by rw [← hl]; exact hf.1
 by_cases hbig : l - (n : Int) < 0
 ·go_enter Tryz.func162, Tryz.ntmps162
  go_wp2
  go_ret
  exact ⟨⟨-1, rfl, fun h => by omega⟩, Below.refl _ _⟩
 ·have HR : Hid (0 < n → ∃ b off, ao = some ⟨b, off, none⟩ ∧ 0 ≤ b ∧ b < w.heap.size ∧ ∀ i, i < n → ∃ cs : List Value, cs.length = 15 ∧ NdR 0 w cs (xs.getD i Nd.none) ∧ ∀ j, j < 15 → w.cell? ⟨b, off + i * 15 + j, none⟩ = cs[j]?) := hr
  have HS : Hid (∀ i, i < xs.length → FnN (xs.getD i Nd.none)) := hf.2
  have HL : Hid (xs.length = n) := hl
  clear hr hf hl
  go_enter Tryz.func162, Tryz.ntmps162
  go_wp2
  go_loopw [1, 5] (fun s i wr => ∃ (k : Nat) (m : Int), k ≤ n ∧ i = .int .i64 k ∧ s = .int .i64 m ∧ 0 ≤ m ∧ m + n ≤ l ∧ Hid (∀ i, i < k → SmN (xs.getD i Nd.none)) ∧ Below w.heap.size w wr)
   (fun _ i _ => n - (intOf i).toNat)
  case atStart => exact ⟨0, l - n, by omega, rfl, rfl, by omega, by omega, fun i hi => absurd hi (by omega), Below.refl _ _⟩
  case round =>
   obtain ⟨k, m, hk, rfl, rfl, hm0, hm1, HM, hbel⟩ := hrel
   by_cases hkn : k < n
   ·have hki : (k : Int) < (n : Int) := by omega
    obtain ⟨b, off, rfl, hlo, hb, hc⟩ := HR (by omega)
    have hfk : FnN (xs.getD k Nd.none) := HS k (by rw [show xs.length = n from HL]; exact hkn)
    obtain ⟨cs, hcl, hRel, hcj⟩ := hc k hkn
    obtain ⟨t, ht⟩ := exq (xs.getD k Nd.none)
    rw [← ht] at hRel hfk
    have HT : Hid (t = xs.getD k Nd.none) := ht
    have HC : Hid (∀ (l : Int) (w : World), 0 ≤ l → l ≤ 1048576 → Calls Tryz.prog 178 #[ndV t, .int .i64 l] w fun r w' => (∃ m : Int, r = .returned (.int .i64 m) ∧ m ≤ l ∧ (0 ≤ m → SmN t)) ∧ Below w.heap.size w w') := hideP (fun l w a b => szNode_any t l w a b hfk)
    obtain ⟨kd, wd, hh, dp, sh, fo, ch, nn, gs, gp, gpo, gm, gmo, tx, kids⟩ := t
    rw [show cs = _ from hRel] at hcj
    simp only [Nd.cells] at hcj
    have g0 : wr.cell? ⟨b, off + k * 15, none⟩ = some (.int .i64 kd) := (hbel.cell (p := ⟨b, off + k * 15, none⟩) hb).trans (hcj 0 (by omega))
    have g1 : wr.cell? ⟨b, off + k * 15 + 1, none⟩ = some (.int .i64 wd) := (hbel.cell (p := ⟨b, off + k * 15 + 1, none⟩) hb).trans (hcj 1 (by omega))
    have g2 : wr.cell? ⟨b, off + k * 15 + 2, none⟩ = some (.int .i64 hh) := (hbel.cell (p := ⟨b, off + k * 15 + 2, none⟩) hb).trans (hcj 2 (by omega))
    have g3 : wr.cell? ⟨b, off + k * 15 + 3, none⟩ = some (.int .i64 dp) := (hbel.cell (p := ⟨b, off + k * 15 + 3, none⟩) hb).trans (hcj 3 (by omega))
    have g4 : wr.cell? ⟨b, off + k * 15 + 4, none⟩ = some (.int .i64 sh) := (hbel.cell (p := ⟨b, off + k * 15 + 4, none⟩) hb).trans (hcj 4 (by omega))
    have g5 : wr.cell? ⟨b, off + k * 15 + 5, none⟩ = some (.int .i64 fo) := (hbel.cell (p := ⟨b, off + k * 15 + 5, none⟩) hb).trans (hcj 5 (by omega))
    have g6 : wr.cell? ⟨b, off + k * 15 + 6, none⟩ = some (.int .i64 ch) := (hbel.cell (p := ⟨b, off + k * 15 + 6, none⟩) hb).trans (hcj 6 (by omega))
    have g7 : wr.cell? ⟨b, off + k * 15 + 7, none⟩ = some (.int .i64 nn) := (hbel.cell (p := ⟨b, off + k * 15 + 7, none⟩) hb).trans (hcj 7 (by omega))
    have g8 : wr.cell? ⟨b, off + k * 15 + 8, none⟩ = some (.int .i64 gs) := (hbel.cell (p := ⟨b, off + k * 15 + 8, none⟩) hb).trans (hcj 8 (by omega))
    have g9 : wr.cell? ⟨b, off + k * 15 + 9, none⟩ = some (.int .i64 gp) := (hbel.cell (p := ⟨b, off + k * 15 + 9, none⟩) hb).trans (hcj 9 (by omega))
    have g10 : wr.cell? ⟨b, off + k * 15 + 10, none⟩ = some (.int .i64 gpo) := (hbel.cell (p := ⟨b, off + k * 15 + 10, none⟩) hb).trans (hcj 10 (by omega))
    have g11 : wr.cell? ⟨b, off + k * 15 + 11, none⟩ = some (.int .i64 gm) := (hbel.cell (p := ⟨b, off + k * 15 + 11, none⟩) hb).trans (hcj 11 (by omega))
    have g12 : wr.cell? ⟨b, off + k * 15 + 12, none⟩ = some (.int .i64 gmo) := (hbel.cell (p := ⟨b, off + k * 15 + 12, none⟩) hb).trans (hcj 12 (by omega))
    have g13 : wr.cell? ⟨b, off + k * 15 + 13, none⟩ = some (.string tx) := (hbel.cell (p := ⟨b, off + k * 15 + 13, none⟩) hb).trans (hcj 13 (by omega))
    have g14 : wr.cell? ⟨b, off + k * 15 + 14, none⟩ = some (.int .i64 kids) := (hbel.cell (p := ⟨b, off + k * 15 + 14, none⟩) hb).trans (hcj 14 (by omega))
    have HB : Hid (Below w.heap.size w wr) := hbel
    clear hc hcj hcl hbel ht hfk hRel
    go_wp2_with fail
    refine (HC.out _ _ hm0 (by omega)).mono ?_
    rintro e w2 ⟨⟨m2, rfl, hm2l, hm2⟩, hb1⟩
    have B2 : Hid (Below w.heap.size w w2) := below_more HB hb1 (Below.size HB)
    have HM2 := hideP hm2
    clear hb1 hm2
    by_cases hneg : m2 < 0
    ·go_wp2
     go_ret
     exact ⟨⟨-1, rfl, fun h => by omega⟩, B2⟩
    ·go_wp2
     go_roundw
     case rel =>
      refine ⟨k + 1, m2, by omega, by go_num, rfl, by omega, by omega, fun i hi => ?_, B2⟩
      by_cases hik : i = k
      ·subst hik; rw [← HT.out]; exact HM2.out (by omega)
      ·exact HM i (by omega)
     case measure => simp [intOf]; omega
   ·have hki : ¬ (k : Int) < (n : Int) := by omega
    obtain rfl : k = n := by omega
    have HB : Hid (Below w.heap.size w wr) := hbel
    clear hbel
    go_wp2
    go_ret
    refine ⟨⟨m, rfl, fun _ => ⟨?_, ?_, fun i hi => HM i ?_⟩⟩, HB⟩
    ·have hl : xs.length = k := HL
     rw [hl]; exact hm1
    ·have hl : xs.length = k := HL
     omega
    ·have hl : xs.length = k := HL
     omega
set_option maxHeartbeats 1000000 in
theorem szCell_w (x : Cl) {v : Value} {w : World} {l : Int} (h : NRow 0 w v x.ns) (hf : FnC x) (hl0 : 0 ≤ l) (hl1 : l ≤ 1048576) :
 Calls Tryz.prog 145 #[clV x v, .int .i64 l] w fun r w' => (∃ m : Int, r = .returned (.int .i64 m) ∧ (0 ≤ m → m + x.ns.length ≤ l ∧ SmC x)) ∧ Below w.heap.size w w' := by
 obtain ⟨ua, un, uc, rfl⟩ : ∃ a n c, v = .slice a n c := by obtain ⟨a, c, rfl⟩ := h.shape; exact ⟨_, _, _, rfl⟩
 have HC : Hid (∀ (W : World), Below w.heap.size w W → Calls Tryz.prog 162 #[.slice ua un uc, .int .i64 l] W fun r w' => (∃ m : Int, r = .returned (.int .i64 m) ∧ (0 ≤ m → m + x.ns.length ≤ l ∧ SmC x)) ∧ Below W.heap.size W w') := hideP (fun W hW => szNodeS_w (h.below ndStable hW) hf hl0 hl1)
 clear h hf
 obtain ⟨sp, al, ns⟩ := x
 simp only [clV, rwV, tbV]
 go_enter Tryz.func145, Tryz.ntmps145
 go_wp2_with fail
 refine (HC.out _ (below1 _ _)).mono ?_
 rintro e w1 ⟨⟨m, rfl, hm⟩, hb1⟩
 have B1 : Hid (Below w.heap.size w w1) := hideP (below_more (below1 _ _) hb1 (by simp))
 have HM := hideP hm
 clear hb1 hm
 by_cases hneg : m < 0
 ·go_wp2
  go_ret
  exact ⟨⟨-1, rfl, fun h => by omega⟩, B1⟩
 ·go_wp2
  go_ret
  exact ⟨⟨m, rfl, HM.out⟩, B1⟩
set_option maxHeartbeats 4000000 in
theorem szCellS_w {v : Value} {xs : List Cl} {w : World} {l : Int} (h : CRow 0 w v xs) (hf : xs.length ≤ 9223372036854775807 ∧ ∀ i, i < xs.length → FnC (xs.getD i Cl.none)) (hl0 : 0 ≤ l) (hl1 : l ≤ 1048576) :
 Calls Tryz.prog 125 #[v, .int .i64 l] w fun e w' => (∃ m : Int, e = .returned (.int .i64 m) ∧ (0 ≤ m → m + xs.length + nsK xs xs.length ≤ l ∧ xs.length ≤ 1048576 ∧ ∀ i, i < xs.length → SmC (xs.getD i Cl.none))) ∧ Below w.heap.size w w' := by
 obtain ⟨ao, n, cap, rfl, hl, hr⟩ := h
 have hn : n ≤ 9223372036854775807 := by rw [← hl]; exact hf.1
 by_cases hbig : l - (n : Int) < 0
 ·go_enter Tryz.func125, Tryz.ntmps125
  go_wp2
  go_ret
  exact ⟨⟨-1, rfl, fun h => by omega⟩, Below.refl _ _⟩
 ·have HR : Hid (0 < n → ∃ b off, ao = some ⟨b, off, none⟩ ∧ 0 ≤ b ∧ b < w.heap.size ∧ ∀ i, i < n → ∃ cs : List Value, cs.length = 3 ∧ ClR 0 w cs (xs.getD i Cl.none) ∧ ∀ j, j < 3 → w.cell? ⟨b, off + i * 3 + j, none⟩ = cs[j]?) := hr
  have HS : Hid (∀ i, i < xs.length → FnC (xs.getD i Cl.none)) := hf.2
  have HL : Hid (xs.length = n) := hl
  clear hr hf hl
  go_enter Tryz.func125, Tryz.ntmps125
  go_wp2
  go_loopw [1, 5] (fun s i wr => ∃ (k : Nat) (m : Int), k ≤ n ∧ i = .int .i64 k ∧ s = .int .i64 m ∧ 0 ≤ m ∧ m ≤ l ∧ Hid (m + n + nsK xs k ≤ l) ∧ Hid (∀ i, i < k → SmC (xs.getD i Cl.none)) ∧ Below w.heap.size w wr)
   (fun _ i _ => n - (intOf i).toNat)
  case atStart => exact ⟨0, l - n, by omega, rfl, rfl, by omega, by omega, hideP (by show l - (n : Int) + n + ((0 : Nat) : Int) ≤ l; omega), fun i hi => absurd hi (by omega), Below.refl _ _⟩
  case round =>
   obtain ⟨k, m, hk, rfl, rfl, hm0, hm1, HWT, HM, hbel⟩ := hrel
   by_cases hkn : k < n
   ·have hki : (k : Int) < (n : Int) := by omega
    obtain ⟨b, off, rfl, hlo, hb, hc⟩ := HR (by omega)
    have hfk : FnC (xs.getD k Cl.none) := HS k (by rw [show xs.length = n from HL]; exact hkn)
    obtain ⟨cs, hcl, hRel, hcj⟩ := hc k hkn
    obtain ⟨t, ht⟩ := exq (xs.getD k Cl.none)
    rw [← ht] at hRel hfk
    have HT : Hid (t = xs.getD k Cl.none) := ht
    obtain ⟨u, hcs, hu⟩ := hRel
    obtain ⟨ua, un, uc, rfl⟩ : ∃ a n c, u = .slice a n c := by obtain ⟨a, c, rfl⟩ := hu.shape; exact ⟨_, _, _, rfl⟩
    have HC : Hid (∀ (l : Int) (W : World), Below w.heap.size w W → 0 ≤ l → l ≤ 1048576 → Calls Tryz.prog 145 #[clV t (.slice ua un uc), .int .i64 l] W fun r w' => (∃ m : Int, r = .returned (.int .i64 m) ∧ (0 ≤ m → m + t.ns.length ≤ l ∧ SmC t)) ∧ Below W.heap.size W w') := hideP (fun l W hW a b => szCell_w t (hu.below ndStable hW) hfk a b)
    clear hu
    obtain ⟨sp, al, ns⟩ := t
    rw [show cs = _ from hcs] at hcj
    dsimp only at hcj
    simp only [clV, rwV, tbV] at HC
    have g0 : wr.cell? ⟨b, off + k * 3, none⟩ = some (.int .i64 sp) := (hbel.cell (p := ⟨b, off + k * 3, none⟩) hb).trans (hcj 0 (by omega))
    have g1 : wr.cell? ⟨b, off + k * 3 + 1, none⟩ = some (.int .i64 al) := (hbel.cell (p := ⟨b, off + k * 3 + 1, none⟩) hb).trans (hcj 1 (by omega))
    have g2 : wr.cell? ⟨b, off + k * 3 + 2, none⟩ = some (.slice ua un uc) := (hbel.cell (p := ⟨b, off + k * 3 + 2, none⟩) hb).trans (hcj 2 (by omega))
    have HB : Hid (Below w.heap.size w wr) := hbel
    clear hc hcj hcl hbel ht hfk hcs
    go_wp2_with fail
    refine (HC.out _ _ HB.out hm0 (by omega)).mono ?_
    rintro e w2 ⟨⟨m2, rfl, hm2⟩, hb1⟩
    have B2 : Hid (Below w.heap.size w w2) := below_more HB hb1 (Below.size HB)
    have HM2 := hideP hm2
    clear hb1 hm2
    by_cases hneg : m2 < 0
    ·go_wp2
     go_ret
     exact ⟨⟨-1, rfl, fun h => by omega⟩, B2⟩
    ·go_wp2
     go_roundw
     case rel =>
      refine ⟨k + 1, m2, by omega, by go_num, rfl, by omega, by have := (HM2.out (by omega)).1; (try dsimp only at this); omega, hideP (by have h1 := (HM2.out (by omega)).1; have h2 := HWT.out; rw [nsK_succ, ← HT.out]; (try dsimp only at h1 ⊢); omega), fun i hi => ?_, B2⟩
      by_cases hik : i = k
      ·subst hik; rw [← HT.out]; exact (HM2.out (by omega)).2
      ·exact HM i (by omega)
     case measure => simp [intOf]; omega
   ·have hki : ¬ (k : Int) < (n : Int) := by omega
    obtain rfl : k = n := by omega
    have HB : Hid (Below w.heap.size w wr) := hbel
    clear hbel
    go_wp2
    go_ret
    refine ⟨⟨m, rfl, fun _ => ⟨?_, ?_, fun i hi => HM i ?_⟩⟩, HB⟩
    ·have hl : xs.length = k := HL
     have := HWT.out
     rw [hl]; exact this
    ·have hl : xs.length = k := HL
     omega
    ·have hl : xs.length = k := HL
     omega
set_option maxHeartbeats 1000000 in
theorem szRow_w (x : Rw) {v : Value} {w : World} {l : Int} (h : CRow 0 w v x.cs) (hf : FnW x) (hl0 : 0 ≤ l) (hl1 : l ≤ 1048576) :
 Calls Tryz.prog 99 #[rwV x v, .int .i64 l] w fun r w' => (∃ m : Int, r = .returned (.int .i64 m) ∧ (0 ≤ m → m + x.cs.length + nsK x.cs x.cs.length ≤ l ∧ SmW x)) ∧ Below w.heap.size w w' := by
 obtain ⟨ua, un, uc, rfl⟩ : ∃ a n c, v = .slice a n c := by obtain ⟨a, c, rfl⟩ := h.shape; exact ⟨_, _, _, rfl⟩
 have HC : Hid (∀ (W : World), Below w.heap.size w W → Calls Tryz.prog 125 #[.slice ua un uc, .int .i64 l] W fun r w' => (∃ m : Int, r = .returned (.int .i64 m) ∧ (0 ≤ m → m + x.cs.length + nsK x.cs x.cs.length ≤ l ∧ SmW x)) ∧ Below W.heap.size W w') := hideP (fun W hW => szCellS_w (h.below clStable hW) hf hl0 hl1)
 clear h hf
 obtain ⟨rcs, ru⟩ := x
 simp only [clV, rwV, tbV]
 go_enter Tryz.func99, Tryz.ntmps99
 go_wp2_with fail
 refine (HC.out _ (below1 _ _)).mono ?_
 rintro e w1 ⟨⟨m, rfl, hm⟩, hb1⟩
 have B1 : Hid (Below w.heap.size w w1) := hideP (below_more (below1 _ _) hb1 (by simp))
 have HM := hideP hm
 clear hb1 hm
 by_cases hneg : m < 0
 ·go_wp2
  go_ret
  exact ⟨⟨-1, rfl, fun h => by omega⟩, B1⟩
 ·go_wp2
  go_ret
  exact ⟨⟨m, rfl, HM.out⟩, B1⟩
set_option maxHeartbeats 4000000 in
theorem szRowS_w {v : Value} {xs : List Rw} {w : World} {l : Int} (h : RRow 0 w v xs) (hf : xs.length ≤ 9223372036854775807 ∧ ∀ i, i < xs.length → FnW (xs.getD i Rw.none)) (hl0 : 0 ≤ l) (hl1 : l ≤ 1048576) :
 Calls Tryz.prog 59 #[v, .int .i64 l] w fun e w' => (∃ m : Int, e = .returned (.int .i64 m) ∧ (0 ≤ m → 15 * m + mkK xs xs.length ≤ 15 * l ∧ xs.length ≤ 1048576 ∧ ∀ i, i < xs.length → SmW (xs.getD i Rw.none))) ∧ Below w.heap.size w w' := by
 obtain ⟨ao, n, cap, rfl, hl, hr⟩ := h
 have hn : n ≤ 9223372036854775807 := by rw [← hl]; exact hf.1
 by_cases hbig : l - (n : Int) < 0
 ·go_enter Tryz.func59, Tryz.ntmps59
  go_wp2
  go_ret
  exact ⟨⟨-1, rfl, fun h => by omega⟩, Below.refl _ _⟩
 ·have HR : Hid (0 < n → ∃ b off, ao = some ⟨b, off, none⟩ ∧ 0 ≤ b ∧ b < w.heap.size ∧ ∀ i, i < n → ∃ cs : List Value, cs.length = 2 ∧ RwR 0 w cs (xs.getD i Rw.none) ∧ ∀ j, j < 2 → w.cell? ⟨b, off + i * 2 + j, none⟩ = cs[j]?) := hr
  have HS : Hid (∀ i, i < xs.length → FnW (xs.getD i Rw.none)) := hf.2
  have HL : Hid (xs.length = n) := hl
  clear hr hf hl
  go_enter Tryz.func59, Tryz.ntmps59
  go_wp2
  go_loopw [1, 5] (fun s i wr => ∃ (k : Nat) (m : Int), k ≤ n ∧ i = .int .i64 k ∧ s = .int .i64 m ∧ 0 ≤ m ∧ m ≤ l ∧ Hid (15 * m + mkK xs k ≤ 15 * (l - n) + k) ∧ Hid (∀ i, i < k → SmW (xs.getD i Rw.none)) ∧ Below w.heap.size w wr)
   (fun _ i _ => n - (intOf i).toNat)
  case atStart => exact ⟨0, l - n, by omega, rfl, rfl, by omega, by omega, hideP (by show 15 * (l - (n : Int)) + ((0 : Nat) : Int) ≤ 15 * (l - n) + ((0 : Nat) : Int); omega), fun i hi => absurd hi (by omega), Below.refl _ _⟩
  case round =>
   obtain ⟨k, m, hk, rfl, rfl, hm0, hm1, HWT, HM, hbel⟩ := hrel
   by_cases hkn : k < n
   ·have hki : (k : Int) < (n : Int) := by omega
    obtain ⟨b, off, rfl, hlo, hb, hc⟩ := HR (by omega)
    have hfk : FnW (xs.getD k Rw.none) := HS k (by rw [show xs.length = n from HL]; exact hkn)
    obtain ⟨cs, hcl, hRel, hcj⟩ := hc k hkn
    obtain ⟨t, ht⟩ := exq (xs.getD k Rw.none)
    rw [← ht] at hRel hfk
    have HT : Hid (t = xs.getD k Rw.none) := ht
    obtain ⟨u, hcs, hu⟩ := hRel
    obtain ⟨ua, un, uc, rfl⟩ : ∃ a n c, u = .slice a n c := by obtain ⟨a, c, rfl⟩ := hu.shape; exact ⟨_, _, _, rfl⟩
    have HC : Hid (∀ (l : Int) (W : World), Below w.heap.size w W → 0 ≤ l → l ≤ 1048576 → Calls Tryz.prog 99 #[rwV t (.slice ua un uc), .int .i64 l] W fun r w' => (∃ m : Int, r = .returned (.int .i64 m) ∧ (0 ≤ m → m + t.cs.length + nsK t.cs t.cs.length ≤ l ∧ SmW t)) ∧ Below W.heap.size W w') := hideP (fun l W hW a b => szRow_w t (hu.below clStable hW) hfk a b)
    clear hu
    obtain ⟨rcs, ru⟩ := t
    rw [show cs = _ from hcs] at hcj
    dsimp only at hcj
    simp only [clV, rwV, tbV] at HC
    have g0 : wr.cell? ⟨b, off + k * 2, none⟩ = some (.slice ua un uc) := (hbel.cell (p := ⟨b, off + k * 2, none⟩) hb).trans (hcj 0 (by omega))
    have g1 : wr.cell? ⟨b, off + k * 2 + 1, none⟩ = some (.int .i64 ru) := (hbel.cell (p := ⟨b, off + k * 2 + 1, none⟩) hb).trans (hcj 1 (by omega))
    have HB : Hid (Below w.heap.size w wr) := hbel
    clear hc hcj hcl hbel ht hfk hcs
    go_wp2_with fail
    refine (HC.out _ _ HB.out hm0 (by omega)).mono ?_
    rintro e w2 ⟨⟨m2, rfl, hm2⟩, hb1⟩
    have B2 : Hid (Below w.heap.size w w2) := below_more HB hb1 (Below.size HB)
    have HM2 := hideP hm2
    clear hb1 hm2
    by_cases hneg : m2 < 0
    ·go_wp2
     go_ret
     exact ⟨⟨-1, rfl, fun h => by omega⟩, B2⟩
    ·go_wp2
     go_roundw
     case rel =>
      refine ⟨k + 1, m2, by omega, by go_num, rfl, by omega, by have := (HM2.out (by omega)).1; (try dsimp only at this); omega, hideP (by have h1 := (HM2.out (by omega)).1; have h2 := HWT.out; rw [mkK_succ, ← HT.out]; unfold mkW; (try dsimp only at h1 ⊢); omega), fun i hi => ?_, B2⟩
      by_cases hik : i = k
      ·subst hik; rw [← HT.out]; exact (HM2.out (by omega)).2
      ·exact HM i (by omega)
     case measure => simp [intOf]; omega
   ·have hki : ¬ (k : Int) < (n : Int) := by omega
    obtain rfl : k = n := by omega
    have HB : Hid (Below w.heap.size w wr) := hbel
    clear hbel
    go_wp2
    go_ret
    refine ⟨⟨m, rfl, fun _ => ⟨?_, ?_, fun i hi => HM i ?_⟩⟩, HB⟩
    ·have hl : xs.length = k := HL
     have := HWT.out
     rw [hl]; omega
    ·have hl : xs.length = k := HL
     omega
    ·have hl : xs.length = k := HL
     omega
set_option maxHeartbeats 1000000 in
theorem szTable_w (x : Tb) {v : Value} {w : World} {l : Int} (h : RRow 0 w v x.rs) (hf : FnT x) (hl0 : 0 ≤ l) (hl1 : l ≤ 1048576) :
 Calls Tryz.prog 23 #[tbV x v, .int .i64 l] w fun r w' => (∃ m : Int, r = .returned (.int .i64 m) ∧ (0 ≤ m → 15 * m + mkK x.rs x.rs.length ≤ 15 * l ∧ SmT x)) ∧ Below w.heap.size w w' := by
 obtain ⟨ua, un, uc, rfl⟩ : ∃ a n c, v = .slice a n c := by obtain ⟨a, c, rfl⟩ := h.shape; exact ⟨_, _, _, rfl⟩
 have HC : Hid (∀ (W : World), Below w.heap.size w W → Calls Tryz.prog 59 #[.slice ua un uc, .int .i64 l] W fun r w' => (∃ m : Int, r = .returned (.int .i64 m) ∧ (0 ≤ m → 15 * m + mkK x.rs x.rs.length ≤ 15 * l ∧ SmT x)) ∧ Below W.heap.size W w') := hideP (fun W hW => szRowS_w (h.below rwStable hW) hf hl0 hl1)
 clear h hf
 obtain ⟨co, gs, gp, gpo, gm, gmo, rs⟩ := x
 simp only [clV, rwV, tbV]
 go_enter Tryz.func23, Tryz.ntmps23
 go_wp2_with fail
 refine (HC.out _ (below1 _ _)).mono ?_
 rintro e w1 ⟨⟨m, rfl, hm⟩, hb1⟩
 have B1 : Hid (Below w.heap.size w w1) := hideP (below_more (below1 _ _) hb1 (by simp))
 have HM := hideP hm
 clear hb1 hm
 by_cases hneg : m < 0
 ·go_wp2
  go_ret
  exact ⟨⟨-1, rfl, fun h => by omega⟩, B1⟩
 ·go_wp2
  go_ret
  exact ⟨⟨m, rfl, HM.out⟩, B1⟩
set_option maxHeartbeats 2000000 in
theorem eqCell_same (x : Cl) {v v' : Value} {w : World} (h : NRow 0 w v x.ns) (h' : NRow 0 w v' x.ns) (hs : SmC x) :
 Calls Tryz.prog 154 #[clV x v, clV x v'] w fun e w' => e = .returned (.bool true) ∧ Below w.heap.size w w' := by
 obtain ⟨ua, un, uc, rfl⟩ : ∃ a n c, v = .slice a n c := by obtain ⟨a, c, rfl⟩ := h.shape; exact ⟨_, _, _, rfl⟩
 obtain ⟨va, vn, vc, rfl⟩ : ∃ a n c, v' = .slice a n c := by obtain ⟨a, c, rfl⟩ := h'.shape; exact ⟨_, _, _, rfl⟩
 have HC : Hid (∀ (W : World), Below w.heap.size w W → Calls Tryz.prog 28 #[.slice ua un uc, .slice va vn vc] W fun e w' => e = .returned (.bool true) ∧ Below W.heap.size W w') := hideP (fun W hW => eqNodeS_same (h.below ndStable hW) (h'.below ndStable hW) hs.1)
 clear h h' hs
 obtain ⟨sp, al, ns⟩ := x
 simp only [clV, rwV, tbV]
 go_enter Tryz.func154, Tryz.ntmps154
 go_wp2_with fail
 refine (HC.out _ (below2 _ _ _)).mono ?_
 rintro e w1 ⟨rfl, hb1⟩
 have hy1 : w.heap.size + 1 < w1.heap.size := by have := hb1.size; simp at this; omega
 have hx1 : w.heap.size < w1.heap.size := by omega
 have B1 : Hid (Below w.heap.size w w1) := hideP (below_more (below2 _ _ _) hb1 (by simp; omega))
 obtain ⟨hc1, hf1⟩ := bcell hb1
 simp only [World.size_alloc, World.size_setCell] at hc1 hf1
 clear hb1
 go_wp2
 go_ret
 exact ⟨rfl, B1⟩
set_option maxHeartbeats 4000000 in
theorem eqCellS_same {v1 v2 : Value} {xs : List Cl} {w : World} (h1 : CRowN 0 w v1 xs) (h2 : CRowN 0 w v2 xs) (hs : xs.length ≤ 1048576 ∧ ∀ i, i < xs.length → SmC (xs.getD i Cl.none)) :
 Calls Tryz.prog 134 #[v1, v2] w fun e w' => e = .returned (.bool true) ∧ Below w.heap.size w w' := by
 obtain ⟨ao1, n1, cap1, rfl, hn1, hr1⟩ := h1
 obtain ⟨ao2, n2, cap2, rfl, hn2, hr2⟩ := h2
 obtain rfl : n1 = n2 := by omega
 have hx : n1 ≤ 1048576 := by rw [← hn1]; exact hs.1
 have HL : Hid (xs.length = n1) := hn1
 have HS : Hid (∀ i, i < xs.length → SmC (xs.getD i Cl.none)) := hs.2
 have HR1 : Hid (0 < n1 → ∃ b off, ao1 = some ⟨b, off, none⟩ ∧ 0 ≤ b ∧ b < w.heap.size ∧ ∀ i, i < n1 → ∃ cs : List Value, cs.length = 3 ∧ ClN 0 w cs (xs.getD i Cl.none) ∧ ∀ j, j < 3 → w.cell? ⟨b, off + i * 3 + j, none⟩ = cs[j]?) := hr1
 have HR2 : Hid (0 < n1 → ∃ b off, ao2 = some ⟨b, off, none⟩ ∧ 0 ≤ b ∧ b < w.heap.size ∧ ∀ i, i < n1 → ∃ cs : List Value, cs.length = 3 ∧ ClN 0 w cs (xs.getD i Cl.none) ∧ ∀ j, j < 3 → w.cell? ⟨b, off + i * 3 + j, none⟩ = cs[j]?) := hr2
 clear hn1 hn2 hr1 hr2 hs
 go_enter Tryz.func134, Tryz.ntmps134
 go_wp2
 go_loopw [5] (fun i wr => ∃ k : Nat, k ≤ n1 ∧ i = .int .i64 k ∧ Below w.heap.size w wr) (fun i _ => n1 - (intOf i).toNat)
 case atStart => exact ⟨0, by omega, rfl, Below.refl _ _⟩
 case round =>
  obtain ⟨k, hk, rfl, hbel⟩ := hrel
  by_cases hkn : k < n1
  ·have hki : (k : Int) < (n1 : Int) := by omega
   obtain ⟨b, off, rfl, hlo, hb, hc⟩ := HR1 (by omega)
   obtain ⟨b', off', rfl, hlo', hb', hc'⟩ := HR2 (by omega)
   have hsk : SmC (xs.getD k Cl.none) := HS k (by rw [show xs.length = n1 from HL]; exact hkn)
   obtain ⟨cs, hcl, hRel, hcj⟩ := hc k hkn
   obtain ⟨cs', hcl', hRel', hcj'⟩ := hc' k hkn
   obtain ⟨t, ht⟩ := exq (xs.getD k Cl.none)
   rw [← ht] at hRel hRel' hsk
   obtain ⟨u, hcs, hu⟩ := hRel
   obtain ⟨u', hcs', hu'⟩ := hRel'
   obtain ⟨ua, un, uc, rfl⟩ : ∃ a n c, u = .slice a n c := by obtain ⟨a, c, rfl⟩ := hu.1.shape; exact ⟨_, _, _, rfl⟩
   obtain ⟨va, vn, vc, rfl⟩ : ∃ a n c, u' = .slice a n c := by obtain ⟨a, c, rfl⟩ := hu'.1.shape; exact ⟨_, _, _, rfl⟩
   have HC : Hid (∀ W : World, Below w.heap.size w W → Calls Tryz.prog 154 #[clV t (.slice ua un uc), clV t (.slice va vn vc)] W fun r w' => r = .returned (.bool true) ∧ Below W.heap.size W w') := hideP (fun W hW => eqCell_same t (hu.1.below ndStable hW) (hu'.1.below ndStable hW) hsk)
   clear hu hu' hsk
   obtain ⟨sp, al, ns⟩ := t
   rw [show cs = _ from hcs] at hcj
   rw [show cs' = _ from hcs'] at hcj'
   dsimp only at hcj hcj'
   simp only [clV, rwV, tbV] at HC
   have BD : Below w.heap.size w wr.drew := Below.drew hbel
   have QA : Hid (∀ x, Below w.heap.size w x → x.cell? ⟨b, off + k * 3, none⟩ = some (.int .i64 sp) ∧ x.cell? ⟨b, off + k * 3 + 1, none⟩ = some (.int .i64 al) ∧ x.cell? ⟨b, off + k * 3 + 2, none⟩ = some (.slice ua un uc)) := hideP (fun x hx => ⟨(Below.cell hx (p := ⟨b, off + k * 3 + 0, none⟩) hb).trans (hcj 0 (by omega)), (Below.cell hx (p := ⟨b, off + k * 3 + 1, none⟩) hb).trans (hcj 1 (by omega)), (Below.cell hx (p := ⟨b, off + k * 3 + 2, none⟩) hb).trans (hcj 2 (by omega))⟩)
   have QB : Hid (∀ x, Below w.heap.size w x → x.cell? ⟨b', off' + k * 3, none⟩ = some (.int .i64 sp) ∧ x.cell? ⟨b', off' + k * 3 + 1, none⟩ = some (.int .i64 al) ∧ x.cell? ⟨b', off' + k * 3 + 2, none⟩ = some (.slice va vn vc)) := hideP (fun x hx => ⟨(Below.cell hx (p := ⟨b', off' + k * 3 + 0, none⟩) hb').trans (hcj' 0 (by omega)), (Below.cell hx (p := ⟨b', off' + k * 3 + 1, none⟩) hb').trans (hcj' 1 (by omega)), (Below.cell hx (p := ⟨b', off' + k * 3 + 2, none⟩) hb').trans (hcj' 2 (by omega))⟩)
   have HB : Hid (Below w.heap.size w wr) := hbel
   have HBD : Hid (Below w.heap.size w wr.drew) := BD
   clear hc hc' hcl hcl' hcj hcj' hbel ht BD hcs hcs'
   go_wp2_with fail
   go_region_held3 (fun x => (x.cell? ⟨b, off + k * 3, none⟩ = some (.int .i64 sp) ∧ x.cell? ⟨b, off + k * 3 + 1, none⟩ = some (.int .i64 al) ∧ x.cell? ⟨b, off + k * 3 + 2, none⟩ = some (.slice ua un uc)) ∧ (x.cell? ⟨b', off' + k * 3, none⟩ = some (.int .i64 sp) ∧ x.cell? ⟨b', off' + k * 3 + 1, none⟩ = some (.int .i64 al) ∧ x.cell? ⟨b', off' + k * 3 + 2, none⟩ = some (.slice va vn vc))) (first | exact ⟨QA.out _ HBD.out, QB.out _ HBD.out⟩ | exact ⟨QA.out _ ‹Hid (Below w.heap.size w _)›, QB.out _ ‹Hid (Below w.heap.size w _)›⟩) ((go_at_call 154; refine (HC.out _ HBD.out).mono ?_; rintro e w2 ⟨rfl, hb1⟩; have hb2 : Hid (Below w.heap.size w w2) := below_more HBD.out hb1 HBD.out.size; clear hb1))
   all_goals
    go_wp2
    go_roundw
    case rel => exact ⟨k + 1, by omega, by go_num, ‹Hid (Below w.heap.size w w2)›⟩
    case measure => simp [intOf]; omega
  ·have hki : ¬ (k : Int) < (n1 : Int) := by omega
   have HB : Hid (Below w.heap.size w wr) := hbel
   clear hbel
   go_wp2
   go_ret
   exact ⟨rfl, HB⟩
set_option maxHeartbeats 2000000 in
theorem eqRow_same (x : Rw) {v v' : Value} {w : World} (h : CRowN 0 w v x.cs) (h' : CRowN 0 w v' x.cs) (hs : SmW x) :
 Calls Tryz.prog 107 #[rwV x v, rwV x v'] w fun e w' => e = .returned (.bool true) ∧ Below w.heap.size w w' := by
 obtain ⟨ua, un, uc, rfl⟩ : ∃ a n c, v = .slice a n c := by obtain ⟨a, c, rfl⟩ := h.shape; exact ⟨_, _, _, rfl⟩
 obtain ⟨va, vn, vc, rfl⟩ : ∃ a n c, v' = .slice a n c := by obtain ⟨a, c, rfl⟩ := h'.shape; exact ⟨_, _, _, rfl⟩
 have HC : Hid (∀ (W : World), Below w.heap.size w W → Calls Tryz.prog 134 #[.slice ua un uc, .slice va vn vc] W fun e w' => e = .returned (.bool true) ∧ Below W.heap.size W w') := hideP (fun W hW => eqCellS_same (h.below clNStable hW) (h'.below clNStable hW) hs)
 clear h h' hs
 obtain ⟨rcs, ru⟩ := x
 simp only [clV, rwV, tbV]
 go_enter Tryz.func107, Tryz.ntmps107
 go_wp2_with fail
 refine (HC.out _ (below2 _ _ _)).mono ?_
 rintro e w1 ⟨rfl, hb1⟩
 have hy1 : w.heap.size + 1 < w1.heap.size := by have := hb1.size; simp at this; omega
 have hx1 : w.heap.size < w1.heap.size := by omega
 have B1 : Hid (Below w.heap.size w w1) := hideP (below_more (below2 _ _ _) hb1 (by simp; omega))
 obtain ⟨hc1, hf1⟩ := bcell hb1
 simp only [World.size_alloc, World.size_setCell] at hc1 hf1
 clear hb1
 go_wp2
 go_ret
 exact ⟨rfl, B1⟩
set_option maxHeartbeats 4000000 in
theorem eqRowS_same {v1 v2 : Value} {xs : List Rw} {w : World} (h1 : RRowN 0 w v1 xs) (h2 : RRowN 0 w v2 xs) (hs : xs.length ≤ 1048576 ∧ ∀ i, i < xs.length → SmW (xs.getD i Rw.none)) :
 Calls Tryz.prog 67 #[v1, v2] w fun e w' => e = .returned (.bool true) ∧ Below w.heap.size w w' := by
 obtain ⟨ao1, n1, cap1, rfl, hn1, hr1⟩ := h1
 obtain ⟨ao2, n2, cap2, rfl, hn2, hr2⟩ := h2
 obtain rfl : n1 = n2 := by omega
 have hx : n1 ≤ 1048576 := by rw [← hn1]; exact hs.1
 have HL : Hid (xs.length = n1) := hn1
 have HS : Hid (∀ i, i < xs.length → SmW (xs.getD i Rw.none)) := hs.2
 have HR1 : Hid (0 < n1 → ∃ b off, ao1 = some ⟨b, off, none⟩ ∧ 0 ≤ b ∧ b < w.heap.size ∧ ∀ i, i < n1 → ∃ cs : List Value, cs.length = 2 ∧ RwN 0 w cs (xs.getD i Rw.none) ∧ ∀ j, j < 2 → w.cell? ⟨b, off + i * 2 + j, none⟩ = cs[j]?) := hr1
 have HR2 : Hid (0 < n1 → ∃ b off, ao2 = some ⟨b, off, none⟩ ∧ 0 ≤ b ∧ b < w.heap.size ∧ ∀ i, i < n1 → ∃ cs : List Value, cs.length = 2 ∧ RwN 0 w cs (xs.getD i Rw.none) ∧ ∀ j, j < 2 → w.cell? ⟨b, off + i * 2 + j, none⟩ = cs[j]?) := hr2
 clear hn1 hn2 hr1 hr2 hs
 go_enter Tryz.func67, Tryz.ntmps67
 go_wp2
 go_loopw [5] (fun i wr => ∃ k : Nat, k ≤ n1 ∧ i = .int .i64 k ∧ Below w.heap.size w wr) (fun i _ => n1 - (intOf i).toNat)
 case atStart => exact ⟨0, by omega, rfl, Below.refl _ _⟩
 case round =>
  obtain ⟨k, hk, rfl, hbel⟩ := hrel
  by_cases hkn : k < n1
  ·have hki : (k : Int) < (n1 : Int) := by omega
   obtain ⟨b, off, rfl, hlo, hb, hc⟩ := HR1 (by omega)
   obtain ⟨b', off', rfl, hlo', hb', hc'⟩ := HR2 (by omega)
   have hsk : SmW (xs.getD k Rw.none) := HS k (by rw [show xs.length = n1 from HL]; exact hkn)
   obtain ⟨cs, hcl, hRel, hcj⟩ := hc k hkn
   obtain ⟨cs', hcl', hRel', hcj'⟩ := hc' k hkn
   obtain ⟨t, ht⟩ := exq (xs.getD k Rw.none)
   rw [← ht] at hRel hRel' hsk
   obtain ⟨u, hcs, hu⟩ := hRel
   obtain ⟨u', hcs', hu'⟩ := hRel'
   obtain ⟨ua, un, uc, rfl⟩ : ∃ a n c, u = .slice a n c := by obtain ⟨a, c, rfl⟩ := hu.shape; exact ⟨_, _, _, rfl⟩
   obtain ⟨va, vn, vc, rfl⟩ : ∃ a n c, u' = .slice a n c := by obtain ⟨a, c, rfl⟩ := hu'.shape; exact ⟨_, _, _, rfl⟩
   have HC : Hid (∀ W : World, Below w.heap.size w W → Calls Tryz.prog 107 #[rwV t (.slice ua un uc), rwV t (.slice va vn vc)] W fun r w' => r = .returned (.bool true) ∧ Below W.heap.size W w') := hideP (fun W hW => eqRow_same t (hu.below clNStable hW) (hu'.below clNStable hW) hsk)
   clear hu hu' hsk
   obtain ⟨rcs, ru⟩ := t
   rw [show cs = _ from hcs] at hcj
   rw [show cs' = _ from hcs'] at hcj'
   dsimp only at hcj hcj'
   simp only [clV, rwV, tbV] at HC
   have BD : Below w.heap.size w wr.drew := Below.drew hbel
   have QA : Hid (∀ x, Below w.heap.size w x → x.cell? ⟨b, off + k * 2, none⟩ = some (.slice ua un uc) ∧ x.cell? ⟨b, off + k * 2 + 1, none⟩ = some (.int .i64 ru)) := hideP (fun x hx => ⟨(Below.cell hx (p := ⟨b, off + k * 2 + 0, none⟩) hb).trans (hcj 0 (by omega)), (Below.cell hx (p := ⟨b, off + k * 2 + 1, none⟩) hb).trans (hcj 1 (by omega))⟩)
   have QB : Hid (∀ x, Below w.heap.size w x → x.cell? ⟨b', off' + k * 2, none⟩ = some (.slice va vn vc) ∧ x.cell? ⟨b', off' + k * 2 + 1, none⟩ = some (.int .i64 ru)) := hideP (fun x hx => ⟨(Below.cell hx (p := ⟨b', off' + k * 2 + 0, none⟩) hb').trans (hcj' 0 (by omega)), (Below.cell hx (p := ⟨b', off' + k * 2 + 1, none⟩) hb').trans (hcj' 1 (by omega))⟩)
   have HB : Hid (Below w.heap.size w wr) := hbel
   have HBD : Hid (Below w.heap.size w wr.drew) := BD
   clear hc hc' hcl hcl' hcj hcj' hbel ht BD hcs hcs'
   go_wp2_with fail
   go_region_held3 (fun x => (x.cell? ⟨b, off + k * 2, none⟩ = some (.slice ua un uc) ∧ x.cell? ⟨b, off + k * 2 + 1, none⟩ = some (.int .i64 ru)) ∧ (x.cell? ⟨b', off' + k * 2, none⟩ = some (.slice va vn vc) ∧ x.cell? ⟨b', off' + k * 2 + 1, none⟩ = some (.int .i64 ru))) (first | exact ⟨QA.out _ HBD.out, QB.out _ HBD.out⟩ | exact ⟨QA.out _ ‹Hid (Below w.heap.size w _)›, QB.out _ ‹Hid (Below w.heap.size w _)›⟩) ((go_at_call 107; refine (HC.out _ HBD.out).mono ?_; rintro e w2 ⟨rfl, hb1⟩; have hb2 : Hid (Below w.heap.size w w2) := below_more HBD.out hb1 HBD.out.size; clear hb1))
   all_goals
    go_wp2
    go_roundw
    case rel => exact ⟨k + 1, by omega, by go_num, ‹Hid (Below w.heap.size w w2)›⟩
    case measure => simp [intOf]; omega
  ·have hki : ¬ (k : Int) < (n1 : Int) := by omega
   have HB : Hid (Below w.heap.size w wr) := hbel
   clear hbel
   go_wp2
   go_ret
   exact ⟨rfl, HB⟩
set_option maxHeartbeats 2000000 in
theorem eqTable_same (x : Tb) {v v' : Value} {w : World} (h : RRowN 0 w v x.rs) (h' : RRowN 0 w v' x.rs) (hs : SmT x) :
 Calls Tryz.prog 29 #[tbV x v, tbV x v'] w fun e w' => e = .returned (.bool true) ∧ Below w.heap.size w w' := by
 obtain ⟨ua, un, uc, rfl⟩ : ∃ a n c, v = .slice a n c := by obtain ⟨a, c, rfl⟩ := h.shape; exact ⟨_, _, _, rfl⟩
 obtain ⟨va, vn, vc, rfl⟩ : ∃ a n c, v' = .slice a n c := by obtain ⟨a, c, rfl⟩ := h'.shape; exact ⟨_, _, _, rfl⟩
 have HC : Hid (∀ (W : World), Below w.heap.size w W → Calls Tryz.prog 67 #[.slice ua un uc, .slice va vn vc] W fun e w' => e = .returned (.bool true) ∧ Below W.heap.size W w') := hideP (fun W hW => eqRowS_same (h.below rwNStable hW) (h'.below rwNStable hW) hs)
 clear h h' hs
 obtain ⟨co, gs, gp, gpo, gm, gmo, rs⟩ := x
 simp only [clV, rwV, tbV]
 go_enter Tryz.func29, Tryz.ntmps29
 go_wp2_with fail
 refine (eqGlue_same _ _ _ _ _ _).mono ?_
 rintro e w0 ⟨rfl, hb0⟩
 have hy0 : w.heap.size + 1 < w0.heap.size := by have := hb0.size; simp at this; omega
 have hx0 : w.heap.size < w0.heap.size := by omega
 have B0 : Hid (Below w.heap.size w w0) := hideP (below_more (below2 _ _ _) hb0 (by simp; omega))
 obtain ⟨hc0, hf0⟩ := bcell hb0
 simp only [World.size_alloc, World.size_setCell] at hc0 hf0
 clear hb0
 go_wp2_with fail
 refine (HC.out _ B0.out).mono ?_
 rintro e w1 ⟨rfl, hb1⟩
 have hy1 : w.heap.size + 1 < w1.heap.size := by have := hb1.size; omega
 have hx1 : w.heap.size < w1.heap.size := by omega
 have B1 : Hid (Below w.heap.size w w1) := hideP (below_more B0.out hb1 B0.out.size)
 obtain ⟨hc1, hf1⟩ := bcell hb1
 clear hc0 hf0 hy0 hx0
 clear hb1
 go_wp2
 go_ret
 exact ⟨rfl, B1⟩
end Go.Proofs.YtojoehdmjkgnnaaGreat
