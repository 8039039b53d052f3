import Derived.Test.YtojoehdmjkgnnaaGreatFit
import Derived.Test.YtojoehdmjkgnnaaGreatMkt
import Derived.Test.YtojoehdmjkgnnaaGreatHlp
import Derived.Test.YtojoehdmjkgnnaaGreatGrd
namespace Go.Proofs.YtojoehdmjkgnnaaGreat
open Go.RowKit
set_option linter.unusedVariables false
set_option linter.unusedSimpArgs false
theorem own_NNb {w : World} {base n : Nat} {v : Value} {xs : List Nd} (h : w.ownsRow base 36 15 v n (flatN xs)) (hn : xs.length = n) : NN base w v xs := by
 have hc := own_cap h
 rcases h.2 with ⟨rfl, h0⟩ | ⟨g, cap, cur, rfl, hb, hg, _⟩
 ·exact .inl ⟨rfl, List.eq_nil_of_length_eq_zero (by omega)⟩
 ·subst hn
  exact .inr ⟨g, 0, cap, rfl, (hc _ _ _ rfl).1, hb, fun _ => (glt hg), fun j u hj => by rw [Nat.zero_add]; exact (own_cell h hj).1⟩
def NNR (lo : Nat) (w : World) (v : Value) (xs : List Nd) : Prop := NRow lo w v xs ∧ NN lo w v xs
theorem NNR.abv {lo : Nat} {w w' : World} {v : Value} {xs : List Nd} (h : NNR lo w v xs) (ha : Abv lo w w') : NNR lo w' v xs := ⟨h.1.abv ndStable ha, h.2.abv ha⟩
theorem NNR.mono {lo lo' : Nat} {w : World} {v : Value} {xs : List Nd} (h : NNR lo w v xs) (hl : lo' ≤ lo) : NNR lo' w v xs := ⟨h.1.mono ndStable hl, h.2.mono hl⟩
def NOw (lo : Nat) (w : World) (v : Value) (n : Nat) : Prop := ∃ g L, v = .slice (some ⟨g, 0, none⟩) n n ∧ w.ownsRow lo 36 15 v n L
theorem NOw.abv {lo n : Nat} {w w' : World} {v : Value} (h : NOw lo w v n) (ha : Abv lo w w') : NOw lo w' v n := by
 obtain ⟨g, L, rfl, ho⟩ := h
 exact ⟨g, L, rfl, ownG_same ho (fun k hk => ha.block k (ho.lt k hk).1 (ho.lt k hk).2)⟩
theorem NOw.mono {lo lo' n : Nat} {w : World} {v : Value} (h : NOw lo w v n) (hl : lo' ≤ lo) : NOw lo' w v n := by
 obtain ⟨g, L, rfl, ho⟩ := h
 exact ⟨g, L, rfl, ownG_base ho hl⟩
def NNO (lo : Nat) (w : World) (v : Value) (xs : List Nd) : Prop := NNR lo w v xs ∧ NOw lo w v xs.length
theorem NNO.abv {lo : Nat} {w w' : World} {v : Value} {xs : List Nd} (h : NNO lo w v xs) (ha : Abv lo w w') : NNO lo w' v xs := ⟨h.1.abv ha, h.2.abv ha⟩
theorem NNO.mono {lo lo' : Nat} {w : World} {v : Value} {xs : List Nd} (h : NNO lo w v xs) (hl : lo' ≤ lo) : NNO lo' w v xs := ⟨h.1.mono hl, h.2.mono hl⟩
def ClO (lo : Nat) (w : World) (cs : List Value) (x : Cl) : Prop := ∃ v, cs = [.int .i64 x.sp, .int .i64 x.al, v] ∧ NNO lo w v x.ns
theorem clOStable : Stable ClO where
 abv := fun ⟨v, h1, h2⟩ ha => ⟨v, h1, h2.abv ha⟩
 mono := fun ⟨v, h1, h2⟩ hl => ⟨v, h1, h2.mono hl⟩
theorem SPart.abv {α : Type} {sz : Nat} {R : Nat → World → List Value → α → Prop} {d : α} {ty : Nat} (st : Stable R) {w w' : World} {lo g n k : Nat} {xs : List α} (h : SPart sz R d ty w g n k xs) (ha : Abv lo w w') (hl : lo ≤ g) : SPart sz R d ty w' g n k xs := by
 obtain ⟨cur, hg, hs, hc⟩ := h
 refine ⟨cur, (ha.block g hl (glt hg)).trans hg, hs, fun i hi => ?_⟩
 obtain ⟨cs, hl2, hr, hj⟩ := hc i hi
 exact ⟨cs, hl2, st.abv hr (ha.mono (by omega)), hj⟩
def COw (lo : Nat) (w : World) (v : Value) (cs : List Cl) : Prop := ∃ g, v = .slice (some ⟨g, 0, none⟩) cs.length cs.length ∧ lo ≤ g ∧ SPart 3 ClO Cl.none 53 w g cs.length cs.length cs
theorem COw.abv {lo : Nat} {w w' : World} {v : Value} {cs : List Cl} (h : COw lo w v cs) (ha : Abv lo w w') : COw lo w' v cs := by
 obtain ⟨g, h1, h2, h3⟩ := h
 exact ⟨g, h1, h2, h3.abv clOStable ha h2⟩
theorem COw.mono {lo lo' : Nat} {w : World} {v : Value} {cs : List Cl} (h : COw lo w v cs) (hl : lo' ≤ lo) : COw lo' w v cs := by
 obtain ⟨g, h1, h2, h3⟩ := h
 exact ⟨g, h1, Nat.le_trans hl h2, h3⟩
theorem COw.shape {lo : Nat} {w : World} {v : Value} {cs : List Cl} (h : COw lo w v cs) : ∃ a c, v = .slice a cs.length c := by
 obtain ⟨g, h1, _⟩ := h
 exact ⟨_, _, h1⟩
def RwO (lo : Nat) (w : World) (cs : List Value) (x : Rw) : Prop := ∃ v, cs = [v, .int .i64 x.ru] ∧ COw lo w v x.cs
theorem rwOStable : Stable RwO where
 abv := fun ⟨v, h1, h2⟩ ha => ⟨v, h1, h2.abv ha⟩
 mono := fun ⟨v, h1, h2⟩ hl => ⟨v, h1, h2.mono hl⟩
def ROw (lo : Nat) (w : World) (v : Value) (rs : List Rw) : Prop := ∃ g, v = .slice (some ⟨g, 0, none⟩) rs.length rs.length ∧ lo ≤ g ∧ SPart 2 RwO Rw.none 51 w g rs.length rs.length rs
theorem ROw.abv {lo : Nat} {w w' : World} {v : Value} {rs : List Rw} (h : ROw lo w v rs) (ha : Abv lo w w') : ROw lo w' v rs := by
 obtain ⟨g, h1, h2, h3⟩ := h
 exact ⟨g, h1, h2, h3.abv rwOStable ha h2⟩
theorem ROw.mono {lo lo' : Nat} {w : World} {v : Value} {rs : List Rw} (h : ROw lo w v rs) (hl : lo' ≤ lo) : ROw lo' w v rs := by
 obtain ⟨g, h1, h2, h3⟩ := h
 exact ⟨g, h1, Nat.le_trans hl h2, h3⟩
theorem ROw.shape {lo : Nat} {w : World} {v : Value} {rs : List Rw} (h : ROw lo w v rs) : ∃ a c, v = .slice a rs.length c := by
 obtain ⟨g, h1, _⟩ := h
 exact ⟨_, _, h1⟩
theorem SPart.map {α : Type} {sz : Nat} {R R' : Nat → World → List Value → α → Prop} {d : α} {ty : Nat} {w : World} {g n k : Nat} {xs : List α} (hR : ∀ lo w cs x, R lo w cs x → R' lo w cs x) (h : SPart sz R d ty w g n k xs) : SPart sz R' d ty w g n k xs := by
 obtain ⟨cur, hg, hs, hc⟩ := h
 refine ⟨cur, hg, hs, fun i hi => ?_⟩
 obtain ⟨cs, hl2, hr, hj⟩ := hc i hi
 exact ⟨cs, hl2, hR _ _ _ _ hr, hj⟩
theorem COw.row {lo : Nat} {w : World} {v : Value} {cs : List Cl} (h : COw lo w v cs) : CRowN lo w v cs := by
 obtain ⟨g, rfl, h2, h3⟩ := h
 exact ((h3.map (R' := ClN) (fun lo w cs x ⟨v, h1, h2⟩ => ⟨v, h1, h2.1.1, h2.1.2⟩)).row clNStable rfl).mono clNStable h2
theorem ROw.row {lo : Nat} {w : World} {v : Value} {rs : List Rw} (h : ROw lo w v rs) : RRowN lo w v rs := by
 obtain ⟨g, rfl, h2, h3⟩ := h
 exact ((h3.map (R' := RwN) (fun lo w cs x ⟨v, h1, h2⟩ => ⟨v, h1, h2.row⟩)).row rwNStable rfl).mono rwNStable h2
set_option maxHeartbeats 2000000 in
theorem toCell_o (x : Cl) {v : Value} {w : World} (h : NRow 0 w v x.ns) (hs : SmC x) :
 Calls Tryz.prog 153 #[clV x v] w fun e w' => ∃ v', e = .returned (clV x v') ∧ NNO w.heap.size w' v' x.ns ∧ Below w.heap.size w w' := by
 obtain ⟨ua, un, uc, rfl⟩ : ∃ a n c, v = .slice a n c := by obtain ⟨a, c, rfl⟩ := h.shape; exact ⟨_, _, _, rfl⟩
 have HC : Hid (∀ (W : World), Below w.heap.size w W → Calls Tryz.prog 169 #[.slice ua un uc] W fun e w' => ∃ v', e = .returned v' ∧ NNO W.heap.size w' v' x.ns ∧ Below W.heap.size W w') := hideP (fun W hW => (toNodeS_own (h.below ndStable hW) hs.1).mono (fun e w' ⟨he, ho, hb⟩ => ⟨_, he, ⟨⟨own_NRow ho rfl, own_NNb ho rfl⟩, _, _, rfl, ho⟩, hb⟩))
 clear h hs
 obtain ⟨sp, al, ns⟩ := x
 dsimp only at HC ⊢
 go_enter Tryz.func153, Tryz.ntmps153
 go_wp2_with fail
 refine (HC.out _ ?B0).mono ?_
 case B0 => repeat (first | exact below3 _ _ _ _ | refine Below.setCell ?_ (by first | (simp; done) | (simp; omega)) _)
 rintro e w1 ⟨v1, rfl, hp1, hb1⟩
 obtain ⟨a1, n1, c1, rfl⟩ : ∃ a n c, v1 = .slice a n c := by obtain ⟨a, c, rfl⟩ := hp1.1.1.shape; exact ⟨_, _, _, rfl⟩
 have hz1 : w.heap.size + 1 + 1 < w1.heap.size := by have := hb1.size; simp at this; omega
 have hy1 : w.heap.size + 1 < w1.heap.size := by omega
 have hx1 : w.heap.size < w1.heap.size := by omega
 have BW : Below w.heap.size w w1 := by
  refine below_more ?_ hb1 (by simp; omega)
  repeat (first | exact below3 _ _ _ _ | refine Below.setCell ?_ (by first | (simp; done) | (simp; omega)) _)
 obtain ⟨hc1, hf1⟩ := bcell hb1
 simp only [World.size_alloc, World.size_setCell] at hc1 hf1 hp1
 have P1 : Hid (NNO (w.heap.size + 1 + 1 + 1) w1 (.slice a1 n1 c1) ns) := hp1
 have B1 := hideP BW
 clear hb1 hp1 BW
 go_wp2
 refine bodyPost_ret (v := clV ⟨sp, al, ns⟩ (.slice a1 n1 c1)) (by simp [results, Tryz.results153, go_sem, hc1, hx1, hy1, hz1]) rfl ⟨_, rfl, ?_, ?_⟩
 ·exact ((((NNO.abv P1.out (Abv.set (by omega) _)).abv (Abv.set (by omega) _)).abv (Abv.set (by omega) _)).abv (Abv.set (by omega) _)).mono (by omega)
 ·exact (((Below.setCell B1.out (by simp; omega) _).setCell (by simp) _).setCell (by simp) _).setCell (by simp) _
theorem Tryz.info103o : (Tryz.prog.info? 53).map (fun i => (i.zero, i.size, i.bytes)) = some (some (.agg #[.int .i64 0, .int .i64 0, .slice none 0 0]), 3, 40) := by kernel_rfl
set_option maxHeartbeats 4000000 in
theorem toCellS_o {v : Value} {xs : List Cl} {w : World} (h : CRow 0 w v xs) (hs : xs.length ≤ 1048576 ∧ ∀ i, i < xs.length → SmC (xs.getD i Cl.none)) :
 Calls Tryz.prog 133 #[v] w fun e w' => ∃ v', e = .returned v' ∧ COw w.heap.size w' v' xs ∧ Below w.heap.size w w' := by
 obtain ⟨ao, n, cap, rfl, hn, hr⟩ := h
 have hsz : n ≤ 1048576 := by rw [← hn]; exact hs.1
 have HL : Hid (xs.length = n) := hn
 have HS : Hid (∀ i, i < xs.length → SmC (xs.getD i Cl.none)) := hs.2
 obtain ⟨i0, hi, hz0, hz1, hz2⟩ := info_parts Tryz.info103o
 have HI : Hid (i0.bytes = 40) := hz2
 have HR : Hid (0 < n → ∃ b off, ao = some ⟨b, off, none⟩ ∧ 0 ≤ b ∧ b < w.heap.size ∧ ∀ i, i < n → ∃ cs : List Value, cs.length = 3 ∧ ClR 0 w cs (xs.getD i Cl.none) ∧ ∀ j, j < 3 → w.cell? ⟨b, off + i * 3 + j, none⟩ = cs[j]?) := hr
 clear hr hs hn
 go_enter Tryz.func133, Tryz.ntmps133
 go_wp2_with (first
  | (refine wpList_make_full _ rfl _ _ 49 rfl w.heap.size 53 i0 (.agg #[.int .i64 0, .int .i64 0, .slice none 0 0]) 3 Tryz.underlying49 hi hz0 hz1 _ _ _ _ n rfl rfl rfl rfl (by rw [show i0.bytes = 40 from HI]; omega) (by unfold maxLen; omega) (Nat.le_refl _) ?_; intro w1 hown hgrow))
 have hbel : Below w.heap.size w w1 := Below.grown (Below.refl _ _) hgrow (Nat.le_refl _) (by simp)
 have HO : Hid (SPart 3 ClO Cl.none 53 w1 w.heap.size n 0 xs ∧ Below w.heap.size w w1) := by
  refine ⟨?_, hbel⟩
  rcases hown.2 with ⟨h', _⟩ | ⟨g', cap', cur, h', _, hg, _, _, hcs, _⟩
  ·simp at h'
  ·simp only [Value.slice.injEq, Option.some.injEq, Addr.mk.injEq, and_true, true_and] at h'
   obtain ⟨rfl, rfl⟩ := h'
   exact SPart.new hg hcs
 clear hown hgrow hbel
 go_wp2
 go_loopw [4] (fun i wr => ∃ k : Nat, k ≤ n ∧ i = .int .i64 k ∧ SPart 3 ClO Cl.none 53 wr w.heap.size n k xs ∧ Below w.heap.size w wr) (fun i _ => n - (intOf i).toNat)
 case atStart => exact ⟨0, by omega, rfl, HO.1, HO.2⟩
 case round =>
  obtain ⟨k, hk, rfl, hp, hbel⟩ := hrel
  by_cases hkn : k < n
  ·have hki : (k : Int) < (n : Int) := by omega
   obtain ⟨b, off, rfl, hlo, hb, hc⟩ := HR (by omega)
   obtain ⟨cs, hcl, hRel, hcj⟩ := hc k hkn
   have hsk : SmC (xs.getD k Cl.none) := HS k (by rw [show xs.length = n from HL]; exact hkn)
   obtain ⟨t, ht⟩ := exq (xs.getD k Cl.none)
   rw [← ht] at hRel hsk
   obtain ⟨u, hcs, hu⟩ := hRel
   obtain ⟨ua, un, uc, rfl⟩ : ∃ a n c, u = .slice a n c := by obtain ⟨a, c, rfl⟩ := hu.shape; exact ⟨_, _, _, rfl⟩
   have HC : Hid (∀ W : World, Below w.heap.size w W → w.heap.size + 1 ≤ W.heap.size → Calls Tryz.prog 153 #[clV t (.slice ua un uc)] W fun r w' => ∃ a n c, r = .returned (clV t (.slice a n c)) ∧ ClO (w.heap.size + 1) w' ([.int .i64 t.sp, .int .i64 t.al, .slice a n c]) (xs.getD k Cl.none) ∧ Below W.heap.size W w') := hideP (fun W hW hW2 => by
    refine (toCell_o t (hu.below ndStable hW) hsk).mono ?_
    rintro e w' ⟨v', rfl, hv, hb⟩
    obtain ⟨a, n, c, rfl⟩ : ∃ a n c, v' = .slice a n c := by obtain ⟨a, c, rfl⟩ := hv.1.1.shape; exact ⟨_, _, _, rfl⟩
    exact ⟨a, n, c, rfl, by rw [← ht]; exact (clOStable).mono ⟨_, rfl, hv⟩ hW2, hb⟩)
   clear hu
   obtain ⟨sp, al, ns⟩ := t
   rw [show cs = _ from hcs] at hcj
   dsimp only at hcj HC
   have g0 : wr.cell? ⟨b, off + k * 3, none⟩ = some (.int .i64 sp) := (hbel.cell (p := ⟨b, off + k * 3, none⟩) hb).trans (hcj 0 (by omega))
   have g1 : wr.cell? ⟨b, off + k * 3 + 1, none⟩ = some (.int .i64 al) := (hbel.cell (p := ⟨b, off + k * 3 + 1, none⟩) hb).trans (hcj 1 (by omega))
   have g2 : wr.cell? ⟨b, off + k * 3 + 2, none⟩ = some (.slice ua un uc) := (hbel.cell (p := ⟨b, off + k * 3 + 2, none⟩) hb).trans (hcj 2 (by omega))
   have HB : Hid (Below w.heap.size w wr) := hbel
   have HP : Hid (SPart 3 ClO Cl.none 53 wr w.heap.size n k xs) := hp
   have HW : Hid (w.heap.size + 1 ≤ wr.heap.size) := hideP hp.lt
   clear hc hcj hcl hbel ht hp hcs hsk
   go_wp2_with (go_at_call 153; refine (HC.out _ HB.out HW.out).mono ?_; rintro e w2 ⟨a2, n2, c2, rfl, hn2, hb1⟩; have hp2 := SPart.below clOStable HP hb1; have hfz := hp2.free; obtain ⟨x0, hx0⟩ := hp2.cells (k * 3) (by omega); obtain ⟨x1, hx1⟩ := hp2.cells (k * 3 + 1) (by omega); obtain ⟨x2, hx2⟩ := hp2.cells (k * 3 + 2) (by omega); have hlt2 := hp2.lt; have HN2 := hideP hn2; have HP2 : Hid (SPart 3 ClO Cl.none 53 w2 w.heap.size n k xs ∧ Below w.heap.size w w2) := ⟨hp2, below_more HB hb1 (Below.size HB)⟩; clear hp2 hb1 hn2)
   go_roundw
   case rel => exact ⟨k + 1, by omega, by go_num, SPart.put clOStable HP2.1 hkn (cs := [.int .i64 sp, .int .i64 al, .slice a2 n2 c2]) rfl HN2.out, putC_below (Nat.le_refl _) [.int .i64 sp, .int .i64 al, .slice a2 n2 c2] (k * 3) _ HP2.2⟩
   case measure => simp [intOf]; omega
  ·have hki : ¬ (k : Int) < (n : Int) := by omega
   obtain rfl : k = n := by omega
   have HP : Hid (SPart 3 ClO Cl.none 53 wr w.heap.size k k xs ∧ Below w.heap.size w wr) := ⟨hp, hbel⟩
   clear hp hbel
   go_wp2
   go_ret
   exact ⟨_, rfl, ⟨w.heap.size, by rw [show xs.length = k from HL]; rfl, Nat.le_refl _, by rw [show xs.length = k from HL]; exact HP.1⟩, HP.2⟩
set_option maxHeartbeats 2000000 in
theorem toRow_og (x : Rw) {v : Value} {w : World} (h : CRow 0 w v x.cs) (hC : ∀ (W : World), Below w.heap.size w W → Calls Tryz.prog 133 #[v] W fun e w' => ∃ v', e = .returned v' ∧ COw W.heap.size w' v' x.cs ∧ Below W.heap.size W w') :
 Calls Tryz.prog 106 #[rwV x v] w fun e w' => ∃ v', e = .returned (rwV x v') ∧ COw w.heap.size w' v' x.cs ∧ Below w.heap.size w w' := by
 obtain ⟨ua, un, uc, rfl⟩ : ∃ a n c, v = .slice a n c := by obtain ⟨a, c, rfl⟩ := h.shape; exact ⟨_, _, _, rfl⟩
 have HC := hideP hC
 clear h hC
 obtain ⟨rcs, ru⟩ := x
 dsimp only at HC ⊢
 go_enter Tryz.func106, Tryz.ntmps106
 go_wp2_with fail
 refine (HC.out _ (below3 _ _ _ _)).mono ?_
 rintro e w1 ⟨v1, rfl, hp1, hb1⟩
 obtain ⟨a1, n1, c1, rfl⟩ : ∃ a n c, v1 = .slice a n c := by obtain ⟨a, c, rfl⟩ := hp1.shape; exact ⟨_, _, _, rfl⟩
 have hz1 : w.heap.size + 1 + 1 < w1.heap.size := by have := hb1.size; simp at this; omega
 have hy1 : w.heap.size + 1 < w1.heap.size := by omega
 have hx1 : w.heap.size < w1.heap.size := by omega
 have BW : Below w.heap.size w w1 := below_more (below3 _ _ _ _) hb1 (by simp; omega)
 obtain ⟨hc1, hf1⟩ := bcell hb1
 simp only [World.size_alloc, World.size_setCell] at hc1 hf1 hp1
 have P1 : Hid (COw (w.heap.size + 1 + 1 + 1) w1 (.slice a1 n1 c1) rcs) := hp1
 have B1 := hideP BW
 clear hb1 hp1 BW
 go_wp2
 refine bodyPost_ret (v := rwV ⟨rcs, ru⟩ (.slice a1 n1 c1)) (by simp [results, Tryz.results106, go_sem, hc1, hx1, hy1, hz1]) rfl ⟨_, rfl, ?_, ?_⟩
 ·exact ((((COw.abv P1.out (Abv.set (by omega) _)).abv (Abv.set (by omega) _)).abv (Abv.set (by omega) _)).abv (Abv.set (by omega) _)).mono (by omega)
 ·exact (((Below.setCell B1.out (by simp; omega) _).setCell (by simp; omega) _).setCell (by simp) _).setCell (by simp) _
theorem toRow_o (x : Rw) {v : Value} {w : World} (h : CRow 0 w v x.cs) (hs : SmW x) :
 Calls Tryz.prog 106 #[rwV x v] w fun e w' => ∃ v', e = .returned (rwV x v') ∧ COw w.heap.size w' v' x.cs ∧ Below w.heap.size w w' :=
 toRow_og x h (fun W hW => toCellS_o (h.below clStable hW) hs)
theorem Tryz.info94o : (Tryz.prog.info? 51).map (fun i => (i.zero, i.size, i.bytes)) = some (some (.agg #[.slice none 0 0, .int .i64 0]), 2, 32) := by kernel_rfl
set_option maxHeartbeats 4000000 in
theorem toRowS_o {v : Value} {xs : List Rw} {w : World} (h : RRow 0 w v xs) (hs : xs.length ≤ 1048576 ∧ ∀ i, i < xs.length → SmW (xs.getD i Rw.none)) :
 Calls Tryz.prog 63 #[v] w fun e w' => ∃ v', e = .returned v' ∧ ROw w.heap.size w' v' xs ∧ Below w.heap.size w w' := by
 obtain ⟨ao, n, cap, rfl, hn, hr⟩ := h
 have hsz : n ≤ 1048576 := by rw [← hn]; exact hs.1
 have HL : Hid (xs.length = n) := hn
 have HS : Hid (∀ i, i < xs.length → SmW (xs.getD i Rw.none)) := hs.2
 obtain ⟨i0, hi, hz0, hz1, hz2⟩ := info_parts Tryz.info94o
 have HI : Hid (i0.bytes = 32) := hz2
 have HR : Hid (0 < n → ∃ b off, ao = some ⟨b, off, none⟩ ∧ 0 ≤ b ∧ b < w.heap.size ∧ ∀ i, i < n → ∃ cs : List Value, cs.length = 2 ∧ RwR 0 w cs (xs.getD i Rw.none) ∧ ∀ j, j < 2 → w.cell? ⟨b, off + i * 2 + j, none⟩ = cs[j]?) := hr
 clear hr hs hn
 go_enter Tryz.func63, Tryz.ntmps63
 go_wp2_with (first
  | (refine wpList_make_full _ rfl _ _ 42 rfl w.heap.size 51 i0 (.agg #[.slice none 0 0, .int .i64 0]) 2 Tryz.underlying42 hi hz0 hz1 _ _ _ _ n rfl rfl rfl rfl (by rw [show i0.bytes = 32 from HI]; omega) (by unfold maxLen; omega) (Nat.le_refl _) ?_; intro w1 hown hgrow))
 have hbel : Below w.heap.size w w1 := Below.grown (Below.refl _ _) hgrow (Nat.le_refl _) (by simp)
 have HO : Hid (SPart 2 RwO Rw.none 51 w1 w.heap.size n 0 xs ∧ Below w.heap.size w w1) := by
  refine ⟨?_, hbel⟩
  rcases hown.2 with ⟨h', _⟩ | ⟨g', cap', cur, h', _, hg, _, _, hcs, _⟩
  ·simp at h'
  ·simp only [Value.slice.injEq, Option.some.injEq, Addr.mk.injEq, and_true, true_and] at h'
   obtain ⟨rfl, rfl⟩ := h'
   exact SPart.new hg hcs
 clear hown hgrow hbel
 go_wp2
 go_loopw [4] (fun i wr => ∃ k : Nat, k ≤ n ∧ i = .int .i64 k ∧ SPart 2 RwO Rw.none 51 wr w.heap.size n k xs ∧ Below w.heap.size w wr) (fun i _ => n - (intOf i).toNat)
 case atStart => exact ⟨0, by omega, rfl, HO.1, HO.2⟩
 case round =>
  obtain ⟨k, hk, rfl, hp, hbel⟩ := hrel
  by_cases hkn : k < n
  ·have hki : (k : Int) < (n : Int) := by omega
   obtain ⟨b, off, rfl, hlo, hb, hc⟩ := HR (by omega)
   obtain ⟨cs, hcl, hRel, hcj⟩ := hc k hkn
   have hsk : SmW (xs.getD k Rw.none) := HS k (by rw [show xs.length = n from HL]; exact hkn)
   obtain ⟨t, ht⟩ := exq (xs.getD k Rw.none)
   rw [← ht] at hRel hsk
   obtain ⟨u, hcs, hu⟩ := hRel
   obtain ⟨ua, un, uc, rfl⟩ : ∃ a n c, u = .slice a n c := by obtain ⟨a, c, rfl⟩ := hu.shape; exact ⟨_, _, _, rfl⟩
   have HC : Hid (∀ W : World, Below w.heap.size w W → w.heap.size + 1 ≤ W.heap.size → Calls Tryz.prog 106 #[rwV t (.slice ua un uc)] W fun r w' => ∃ a n c, r = .returned (rwV t (.slice a n c)) ∧ RwO (w.heap.size + 1) w' ([.slice a n c, .int .i64 t.ru]) (xs.getD k Rw.none) ∧ Below W.heap.size W w') := hideP (fun W hW hW2 => by
    refine (toRow_o t (hu.below clStable hW) hsk).mono ?_
    rintro e w' ⟨v', rfl, hv, hb⟩
    obtain ⟨a, n, c, rfl⟩ : ∃ a n c, v' = .slice a n c := by obtain ⟨a, c, rfl⟩ := hv.shape; exact ⟨_, _, _, rfl⟩
    exact ⟨a, n, c, rfl, by rw [← ht]; exact (rwOStable).mono ⟨_, rfl, hv⟩ hW2, hb⟩)
   clear hu
   obtain ⟨rcs, ru⟩ := t
   rw [show cs = _ from hcs] at hcj
   dsimp only at hcj HC
   have g0 : wr.cell? ⟨b, off + k * 2, none⟩ = some (.slice ua un uc) := (hbel.cell (p := ⟨b, off + k * 2, none⟩) hb).trans (hcj 0 (by omega))
   have g1 : wr.cell? ⟨b, off + k * 2 + 1, none⟩ = some (.int .i64 ru) := (hbel.cell (p := ⟨b, off + k * 2 + 1, none⟩) hb).trans (hcj 1 (by omega))
   have HB : Hid (Below w.heap.size w wr) := hbel
   have HP : Hid (SPart 2 RwO Rw.none 51 wr w.heap.size n k xs) := hp
   have HW : Hid (w.heap.size + 1 ≤ wr.heap.size) := hideP hp.lt
   clear hc hcj hcl hbel ht hp hcs hsk
   go_wp2_with (go_at_call 106; refine (HC.out _ HB.out HW.out).mono ?_; rintro e w2 ⟨a2, n2, c2, rfl, hn2, hb1⟩; have hp2 := SPart.below rwOStable HP hb1; have hfz := hp2.free; obtain ⟨x0, hx0⟩ := hp2.cells (k * 2) (by omega); obtain ⟨x1, hx1⟩ := hp2.cells (k * 2 + 1) (by omega); have hlt2 := hp2.lt; have HN2 := hideP hn2; have HP2 : Hid (SPart 2 RwO Rw.none 51 w2 w.heap.size n k xs ∧ Below w.heap.size w w2) := ⟨hp2, below_more HB hb1 (Below.size HB)⟩; clear hp2 hb1 hn2)
   go_roundw
   case rel => exact ⟨k + 1, by omega, by go_num, SPart.put rwOStable HP2.1 hkn (cs := [.slice a2 n2 c2, .int .i64 ru]) rfl HN2.out, putC_below (Nat.le_refl _) [.slice a2 n2 c2, .int .i64 ru] (k * 2) _ HP2.2⟩
   case measure => simp [intOf]; omega
  ·have hki : ¬ (k : Int) < (n : Int) := by omega
   obtain rfl : k = n := by omega
   have HP : Hid (SPart 2 RwO Rw.none 51 wr w.heap.size k k xs ∧ Below w.heap.size w wr) := ⟨hp, hbel⟩
   clear hp hbel
   go_wp2
   go_ret
   exact ⟨_, rfl, ⟨w.heap.size, by rw [show xs.length = k from HL]; rfl, Nat.le_refl _, by rw [show xs.length = k from HL]; exact HP.1⟩, HP.2⟩
set_option maxHeartbeats 4000000 in
theorem toTable_o (x : Tb) {v : Value} {w : World} (h : RRow 0 w v x.rs) (hs : SmT x) :
 Calls Tryz.prog 25 #[tbV x v] w fun e w' => ∃ v', e = .returned (tbV x v') ∧ ROw w.heap.size w' v' x.rs ∧ Below w.heap.size w w' := by
 obtain ⟨ua, un, uc, rfl⟩ : ∃ a n c, v = .slice a n c := by obtain ⟨a, c, rfl⟩ := h.shape; exact ⟨_, _, _, rfl⟩
 have HC : Hid (∀ (W : World), Below w.heap.size w W → Calls Tryz.prog 63 #[.slice ua un uc] W fun e w' => ∃ v', e = .returned v' ∧ ROw W.heap.size w' v' x.rs ∧ Below W.heap.size W w') := hideP (fun W hW => toRowS_o (h.below rwStable hW) hs)
 clear h hs
 obtain ⟨co, gs, gp, gpo, gm, gmo, rs⟩ := x
 dsimp only at HC ⊢
 go_enter Tryz.func25, Tryz.ntmps25
 go_wp2_with fail
 refine (toGlue_any _ _ _ _ _ _).mono ?_
 rintro e w1 ⟨rfl, hb1⟩
 have hz1 : w.heap.size + 1 + 1 < w1.heap.size := by have := hb1.size; simp at this; omega
 have hy1 : w.heap.size + 1 < w1.heap.size := by omega
 have hx1 : w.heap.size < w1.heap.size := by omega
 have BW : Below w.heap.size w w1 := by
  refine below_more ?_ hb1 (by simp; omega)
  repeat (first | exact below3 _ _ _ _ | refine Below.setCell ?_ (by first | (simp; done) | (simp; omega)) _)
 obtain ⟨hc1, hf1⟩ := bcell hb1
 have B1 := hideP BW
 simp only [World.size_alloc, World.size_setCell] at hc1 hf1
 clear hb1 BW
 go_wp2_with fail
 refine (HC.out _ ?B0).mono ?_
 case B0 =>
  have B2 := B1.out
  clear hc1 hf1 B1 HC
  repeat (first | with_reducible exact B2 | (with_reducible refine Below.setCell ?_ ?_ _; rotate_left; focus (first | (simp; done) | (simp; omega))))
 rintro e w2 ⟨v2, rfl, hp2, hb2⟩
 obtain ⟨a1, n1, c1, rfl⟩ : ∃ a n c, v2 = .slice a n c := by obtain ⟨a, c, rfl⟩ := hp2.shape; exact ⟨_, _, _, rfl⟩
 have hz2 : w.heap.size + 1 + 1 < w2.heap.size := by have := hb2.size; simp at this; omega
 have hy2 : w.heap.size + 1 < w2.heap.size := by omega
 have hx2 : w.heap.size < w2.heap.size := by omega
 have BW : Below w.heap.size w w2 := by
  refine below_more ?_ hb2 (by simp; omega)
  have B2 := B1.out
  clear hc1 hf1 B1 HC
  repeat (first | with_reducible exact B2 | (with_reducible refine Below.setCell ?_ ?_ _; rotate_left; focus (first | (simp; done) | (simp; omega))))
 obtain ⟨hc2, hf2⟩ := bcell hb2
 simp only [World.size_alloc, World.size_setCell] at hc2 hf2 hp2
 have P2 : Hid (ROw (w.heap.size + 1 + 1 + 1) w2 (.slice a1 n1 c1) rs) := hideP (hp2.mono (by omega))
 have B2 := hideP BW
 clear hb2 hp2 BW B1
 go_wp2
 refine bodyPost_ret (v := tbV ⟨co, gs, gp, gpo, gm, gmo, rs⟩ (.slice a1 n1 c1)) (by simp [results, Tryz.results25, go_sem, hc1, hx1, hy1, hz1, hc2, hx2, hy2, hz2]) rfl ⟨_, rfl, ?_, ?_⟩
 ·have P3 := P2.out
  clear hc1 hf1 hc2 hf2 P2 HC
  refine ROw.mono (lo := w.heap.size + 1 + 1 + 1) ?_ (by omega)
  repeat (first | with_reducible exact P3 | (with_reducible refine ROw.abv ?_ (Abv.set ?_ _); rotate_left; focus omega))
 ·have B3 := B2.out
  clear hc1 hf1 hc2 hf2 P2 HC
  repeat (first | with_reducible exact B3 | (with_reducible refine Below.setCell ?_ ?_ _; rotate_left; focus (first | (simp; done) | (simp; omega))))
end Go.Proofs.YtojoehdmjkgnnaaGreat
