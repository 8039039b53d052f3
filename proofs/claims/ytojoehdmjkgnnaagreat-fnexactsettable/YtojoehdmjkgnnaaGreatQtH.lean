/-
 Proved: for every table laws.FnExactSetTable returns true and its argument reads behind the call as before it; no condition.
-/
import Derived.Test.YtojoehdmjkgnnaaGreatSsr
import Derived.Test.YtojoehdmjkgnnaaGreatTrs
import Derived.Test.YtojoehdmjkgnnaaGreatSpo
import Derived.Test.YtojoehdmjkgnnaaGreatSra
import Derived.Test.YtojoehdmjkgnnaaGreatSsx
import Derived.Test.YtojoehdmjkgnnaaGreatSsc
import Derived.Test.YtojoehdmjkgnnaaGreatTeq
import Derived.Test.YtojoehdmjkgnnaaGreatMkc
import Derived.Deep.RegionHeld3
import Derived.Test.YtojoehdmjkgnnaaGreatFit
import Derived.Deep.Slices
namespace Go.Proofs.YtojoehdmjkgnnaaGreat
open Go.RowKit
set_option linter.unusedVariables false
set_option linter.unusedSimpArgs false
theorem IntsAt.of_own {w : World} {base g n : Nat} {xs : List Value} {f : Nat → Int} (h : w.ownsRow base 2 1 (.slice (some ⟨g, 0, none⟩) n n) n xs) (hx : ∀ i, i < n → xs[i]? = some (.int .i64 (f i))) : IntsAt w g n f := by
 rcases h.2 with ⟨e, _⟩ | ⟨g', cap, cur, e, _, hh, _, _, hs, ht⟩
 ·simp at e
 ·simp at e
  obtain ⟨rfl, rfl⟩ := e
  refine ⟨cur, hh, by omega, fun i hi => ?_⟩
  have h1 := hx i hi
  rw [← ht, List.getElem?_take, if_pos (by omega)] at h1
  simpa using h1
theorem Tryz.info2w : (Tryz.prog.info? 2).map (fun i => (i.zero, i.size, i.bytes)) = some (some (.int .i64 0), 1, 8) := by kernel_rfl
def WidP (x : Tb) (b : Bool) (e : Ending) (w w' : World) : Prop := match b with
 | true => ∃ g, e = .returned (.slice (some ⟨g, 0, none⟩) x.co.toNat x.co.toNat) ∧ w.heap.size ≤ g ∧ IntsAt w' g x.co.toNat (colsStep x.gs x.rs x.co.toNat)
 | false => ∃ g, e = .returned (.slice (some ⟨g, 0, none⟩) 0 0) ∧ w.heap.size ≤ g ∧ w'.heap[g]? = some (Obj.cells #[] 2 (0, 0))
set_option maxRecDepth 20000 in
set_option maxHeartbeats 16000000 in
theorem specWidths_any (x : Tb) {v : Value} {w : World} (h : RRowN 0 w v x.rs) (hs : SmT x) :
 Calls Tryz.prog 70 #[tbV x v] w fun e w' => WidP x (tabB x && colsOk x.gs x.rs x.co.toNat) e w w' ∧ Below w.heap.size w w' := by
 have hTP : tabB x = true → 1 ≤ x.co ∧ x.co ≤ 20 ∧ (-1073741823 ≤ x.gs ∧ x.gs ≤ 1073741823) ∧ x.rs.length ≤ 200 ∧ ∀ i, i < x.rs.length → RowIn (x.rs.getD i Rw.none).cs x.co := by
  intro h
  unfold tabB headB glB at h
  simp only [Bool.and_eq_true, decide_eq_true_eq] at h
  obtain ⟨⟨⟨⟨h1, h2⟩, ⟨⟨⟨⟨h3, _⟩, _⟩, _⟩, _⟩⟩, h4⟩, h5⟩ := h
  unfold fitsB at h3
  simp only [decide_eq_true_eq] at h3
  exact ⟨h1, h2, h3, h4, fun i hi => rowB_in (rowsB_at h5 i hi) h1⟩
 have HC : Hid (∀ W, Below w.heap.size w W → Calls Tryz.prog 60 #[tbV x v] W fun e w' => e = .returned (.bool (tabB x)) ∧ Below W.heap.size W w') := hideP (fun W hW => specTableOk_any x (h.below rwNStable hW) hs)
 obtain ⟨ua, n, uc, rfl, hn, hr⟩ := h
 have HR : Hid (0 < n → ∃ b off, ua = some ⟨b, off, none⟩ ∧ 0 ≤ b ∧ b < w.heap.size ∧ ∀ i, i < n → ∃ cs : List Value, cs.length = 2 ∧ RwN 0 w cs (x.rs.getD i Rw.none) ∧ ∀ j, j < 2 → w.cell? ⟨b, off + i * 2 + j, none⟩ = cs[j]?) := hr
 have HS : Hid (∀ i, i < n → SmW (x.rs.getD i Rw.none)) := hideP (by rw [← hn]; exact hs.2)
 have HN : Hid (x.rs.length = n) := hideP hn
 clear hr hs hn
 obtain ⟨i0, hi, hz0, hz1, hz2⟩ := info_parts Tryz.info2w
 have HI : Hid (i0.bytes = 8) := hz2
 obtain ⟨T, hT⟩ := exq (tabB x)
 rw [← hT] at HC hTP ⊢
 clear hT
 obtain ⟨co, gs, gp, gpo, gm, gmo, rs⟩ := x
 dsimp only at hTP HR HS HN ⊢
 simp only [tbV] at HC ⊢
 cases T with
 | false =>
  have HP : Hid (∀ e w', (∃ g, e = Ending.returned (.slice (some ⟨g, 0, none⟩) 0 0) ∧ w.heap.size ≤ g ∧ w'.heap[g]? = some (Obj.cells #[] 2 (0, 0))) → WidP ⟨co, gs, gp, gpo, gm, gmo, rs⟩ (false && colsOk gs rs co.toNat) e w w') := hideP (fun e w' h => h)
  go_enter Tryz.func70, Tryz.ntmps70
  go_wp2_with fail
  refine (HC.out _ (below1 _ _)).mono ?_
  rintro e w1 ⟨rfl, hb1⟩
  have B1 : Hid (Below w.heap.size w w1) := hideP (below_more (below1 _ _) hb1 (by simp))
  clear hb1
  go_wp2
  go_ret
  exact ⟨HP.out _ _ ⟨_, rfl, B1.out.size, heap_alloc_new w1 _⟩, B1.out.alloc B1.out.size _⟩
 | true =>
  obtain ⟨hc1, hc2, hg, hlen, hin⟩ := hTP (by first | rfl | trivial)
  obtain ⟨cols, hcols⟩ : ∃ cols : Nat, (cols : Int) = co := ⟨co.toNat, by omega⟩
  subst hcols
  rw [show (cols : Int).toNat = cols by omega]
  rw [HN.out] at hlen hin
  have HIN := hideP hin
  have HG := hideP hg
  have HBD : Hid (∀ k, k ≤ 20 → Bd (colsStep gs rs k)) := hideP (colsStep_bd hg (by rw [HN.out]; exact hin) hc2)
  have HPY : Hid (∀ g w', colsOk gs rs cols = true → w.heap.size ≤ g → IntsAt w' g cols (colsStep gs rs cols) → WidP ⟨(cols : Int), gs, gp, gpo, gm, gmo, rs⟩ (true && colsOk gs rs cols) (.returned (.slice (some ⟨g, 0, none⟩) cols cols)) w w') := hideP (fun g w' h1 h2 h3 => by rw [h1]; exact ⟨g, rfl, h2, h3⟩)
  have HPN : Hid (∀ g w', colsOk gs rs cols = false → w.heap.size ≤ g → w'.heap[g]? = some (Obj.cells #[] 2 (0, 0)) → WidP ⟨(cols : Int), gs, gp, gpo, gm, gmo, rs⟩ (true && colsOk gs rs cols) (.returned (.slice (some ⟨g, 0, none⟩) 0 0)) w w') := hideP (fun g w' h1 h2 h3 => by rw [h1]; exact ⟨g, rfl, h2, h3⟩)
  have hc3 : cols ≤ 20 := by omega
  have hc4 : 1 ≤ cols := by omega
  clear hin hg hTP hc1 hc2
  go_enter Tryz.func70, Tryz.ntmps70
  go_wp2_with fail
  refine (HC.out _ (below1 _ _)).mono ?_
  rintro e w1 ⟨rfl, hb1⟩
  have BT1 : Hid (Below (w.heap.size + 1) (w.alloc (tbO ⟨(cols : Int), gs, gp, gpo, gm, gmo, rs⟩ (.slice ua n uc))) w1) := hideP (hb1.mono (by simp))
  have QT : Hid (∀ x, Below (w.heap.size + 1) (w.alloc (tbO ⟨(cols : Int), gs, gp, gpo, gm, gmo, rs⟩ (.slice ua n uc))) x → x.cell? ⟨w.heap.size, 0, none⟩ = some (.int .i64 (cols : Int)) ∧ x.cell? ⟨w.heap.size, 1, none⟩ = some (.int .i64 gs) ∧ x.cell? ⟨w.heap.size, 6, none⟩ = some (.slice ua n uc) ∧ w.heap.size < x.heap.size ∧ Below w.heap.size w x) := hideP (fun x hx => ⟨(hx.cell (p := ⟨w.heap.size, 0, none⟩) (by simp)).trans (by simp), (hx.cell (p := ⟨w.heap.size, 1, none⟩) (by simp)).trans (by simp), (hx.cell (p := ⟨w.heap.size, 6, none⟩) (by simp)).trans (by simp), (by have := hx.size; simp at this; omega), (below1 w _).trans (hx.mono (by omega))⟩)
  obtain ⟨t0, _, _, hws1, _⟩ := QT.out _ BT1.out
  clear hb1
  go_wp2_with (at_make; refine wpList_make_full _ rfl _ _ 46 rfl w1.heap.size 2 i0 (.int .i64 0) 1 Tryz.underlying46 hi hz0 hz1 _ _ _ _ cols rfl rfl (by omega) (by omega) (by rw [HI.out]; omega) (by unfold maxLen; omega) (Nat.le_refl _) ?_)
  intro w2 hown2 hgrow2
  obtain ⟨g, hgg⟩ := exq (w1.heap.size)
  rw [← hgg] at hown2 ⊢
  have A2 : Hid (IntsAt w2 g cols (fun _ => 0)) := hideP (IntsAt.of_own hown2 (fun i hi => by
   have e : (madeCells #[Value.int .i64 0] cols).toList = List.replicate cols (Value.int .i64 0) := toList_madeCells_one (.int .i64 0) cols
   rw [e, List.getElem?_replicate, if_pos hi]))
  have BT2 : Hid (Below (w.heap.size + 1) (w.alloc (tbO ⟨(cols : Int), gs, gp, gpo, gm, gmo, rs⟩ (.slice ua n uc))) w2) := hideP (Below.grown BT1.out hgrow2 (by omega) (by simp))
  have hgw : w.heap.size + 1 ≤ g := by omega
  clear hown2 hgrow2 hgg t0 BT1 HC hws1
  go_wp2_with fail
  go_loopw [4, 5, 6, 7] (fun s _ _ _ wr => ∃ k : Nat, k ≤ cols ∧ s = .int .i64 k ∧ Hid (colsOk gs rs k = true ∧ IntsAt wr g cols (colsStep gs rs k)) ∧ Below (w.heap.size + 1) (w.alloc (tbO ⟨(cols : Int), gs, gp, gpo, gm, gmo, rs⟩ (.slice ua n uc))) wr) (fun s _ _ _ _ => cols - (intOf s).toNat)
  case atStart => exact ⟨0, by omega, rfl, hideP ⟨rfl, A2.out⟩, BT2.out⟩
  case round =>
   obtain ⟨k, hk, rfl, HK, hbel⟩ := hrel
   obtain ⟨wo, rfl⟩ : ∃ wo : World, wo = wr := ⟨_, rfl⟩
   have BO := hideP hbel
   obtain ⟨t0, t1, t6, hws, _⟩ := QT.out _ hbel
   clear hbel A2 BT2
   by_cases hkc : k < cols
   ·have hki : (k : Int) < (cols : Int) := by omega
    go_wp2_with fail
    go_loopw [5, 6, 7] (fun s _ _ wr => ∃ i : Nat, i ≤ n ∧ s = .int .i64 i ∧ Hid (IntsAt wr g cols (rowsStep gs k rs (colsStep gs rs k) i)) ∧ Below (w.heap.size + 1) (w.alloc (tbO ⟨(cols : Int), gs, gp, gpo, gm, gmo, rs⟩ (.slice ua n uc))) wr) (fun s _ _ _ => n - (intOf s).toNat)
    case atStart => exact ⟨0, by omega, rfl, hideP HK.out.2, BO.out⟩
    case round =>
     obtain ⟨i, hi2, rfl, HII, hbel⟩ := hrel
     obtain ⟨wp, rfl⟩ : ∃ wp : World, wp = wr := ⟨_, rfl⟩
     have BP := hideP hbel
     clear t0 t1 t6 hws
     obtain ⟨t0, t1, t6, hws, _⟩ := QT.out _ hbel
     clear hbel
     by_cases hin : i < n
     ·have hii : (i : Int) < (n : Int) := by omega
      obtain ⟨b, off, rfl, _, hb, hrow⟩ := HR.out (by omega)
      obtain ⟨rc, _, ⟨rv, hrc, hrv⟩, hrj⟩ := hrow i hin
      rw [hrc] at hrj
      have hsw := HS.out i hin
      have hri := HIN.out i hin
      obtain ⟨cs, hcs⟩ := exq ((rs.getD i Rw.none).cs)
      have HST : Hid (rowsStep gs k rs (colsStep gs rs k) (i + 1) = laneStep gs k cs (rowsStep gs k rs (colsStep gs rs k) i) cs.length) := hideP (by rw [hcs]; rfl)
      have HSM : Hid (∀ j, j < cs.length → SmC (cs.getD j Cl.none)) := hideP (by rw [hcs]; exact hsw.2)
      rw [← hcs] at hri hrv
      obtain ⟨va, m, vc, rfl, hm, hcells⟩ := hrv
      have HRI := hideP hri
      have HCS := hideP hcells
      have HFB : Hid (Bd (rowsStep gs k rs (colsStep gs rs k) i)) := hideP (rowsStep_bd (HBD.out k (by omega)) HG.out (fun i hi => HIN.out i (by rw [← HN.out]; exact hi)) (by omega) (by omega) i (by rw [HN.out]; omega))
      obtain ⟨f0, hf0⟩ := exq (rowsStep gs k rs (colsStep gs rs k) i)
      rw [← hf0] at HII HST HFB
      rw [hm] at HST HSM
      have HM := hideP hm
      have QR : Hid (∀ x, Below w.heap.size w x → x.cell? ⟨b, off + i * 2, none⟩ = some (.slice va m vc)) := hideP (fun x hx => (hx.cell (p := ⟨b, off + i * 2, none⟩) hb).trans (hrj 0 (by omega)))
      have hcl : m ≤ 20 := by have h1 := spK_bound (show (cols : Int) ≤ 20 by omega) HRI.out.1; have h2 := HRI.out.2; rw [hm] at h1 h2; omega
      clear hrow hrj hrc hcells hri hcs hf0 hm hsw
      go_wp2_with fail
      go_loopw [6, 7] (fun s6 s7 wr => ∃ (j a : Nat), j ≤ m ∧ s6 = .int .i64 a ∧ s7 = .int .i64 j ∧ Hid ((a : Int) = spK cs j ∧ IntsAt wr g cols (laneStep gs k cs f0 j)) ∧ Below (w.heap.size + 1) (w.alloc (tbO ⟨(cols : Int), gs, gp, gpo, gm, gmo, rs⟩ (.slice (some ⟨b, off, none⟩) n uc))) wr) (fun _ s _ => m - (intOf s).toNat)
      case atStart => exact ⟨0, 0, by omega, rfl, rfl, hideP ⟨rfl, HII.out⟩, BP.out⟩
      case round =>
       obtain ⟨j, a, hj, rfl, rfl, HJ, hbel⟩ := hrel
       have BR := hideP hbel
       clear t0 t1 t6 hws
       obtain ⟨t0, t1, t6, hws, hbw⟩ := QT.out _ hbel
       have r0 := QR.out _ hbw
       have hbr : b < wr.heap.size := Nat.lt_of_lt_of_le hb hbw.size
       have HBW := hideP hbw
       clear hbel hbw HII BP BO
       by_cases hjm : j < m
       ·have hji : (j : Int) < (m : Int) := by omega
        obtain ⟨b2, off2, rfl, _, hb2, hcell⟩ := HCS.out (by omega)
        obtain ⟨cc, _, ⟨nv, hcc, hnv, hnN⟩, hcj⟩ := hcell j hjm
        rw [hcc] at hcj
        have hat := HRI.out.at (show (cols : Int) ≤ 20 by omega) (j := j) (by rw [HM.out]; omega)
        have hsm := HSM.out j hjm
        obtain ⟨t, ht⟩ := exq (cs.getD j Cl.none)
        rw [← ht] at hnv hnN hcj hat hsm
        have HT : Hid (t = cs.getD j Cl.none) := ht
        obtain ⟨na, nn, nc, rfl⟩ : ∃ a n c, nv = .slice a n c := by obtain ⟨a, c, rfl⟩ := hnv.shape; exact ⟨_, _, _, rfl⟩
        obtain ⟨nat, hnat⟩ := exq (natW t.ns)
        have HC10 : Hid (∀ X : World, Below w.heap.size w X → Calls Tryz.prog 104 #[.slice na nn nc, .int .i64 0, .int .i64 0] X fun e w' => ∃ gH hc hs nH, e = .returned (packV (.slice (some ⟨gH, 0, none⟩) nH hc) hs) ∧ 0 < nH ∧ gH < w'.heap.size ∧ w'.cell? ⟨gH, 1, none⟩ = some (.int .i64 nat) ∧ Below X.heap.size X w') := hideP (fun X hX => by
         refine (specHN 0 0 (hnv.below ndStable hX) (hnN.abv ⟨hX.size, fun k _ hk => hX.block k hk⟩) hsm.1).mono ?_
         rintro e w' ⟨u, rfl, ho, hb⟩
         obtain ⟨a, c, rfl⟩ := ownG_shape ho
         have hok := hat.2.2.2.2.2
         have hp : 0 < (hpR t.ns 0 0).length := by
          have h1 := @hpR_none t.ns
          rw [hok] at h1
          have h2 : ¬ (hpR t.ns 0 0).length = 0 := fun e => by have := h1.1 e; cases this
          omega
         obtain ⟨tl, htl⟩ := hpR_head hok
         rcases ho.2 with ⟨e, _⟩ | ⟨g, cap, cur, e, _, hh, _⟩
         ·simp at e; omega
         ·simp at e
          obtain ⟨rfl, rfl⟩ := e
          refine ⟨g, _, _, _, rfl, hp, (glt hh), ?_, hb⟩
          refine (own_cell ho (j := 1) ?_).1
          rw [htl, hnat]
          rfl)
        have HFJ : Hid (Bd (laneStep gs k cs f0 j)) := hideP (laneStep_bd HFB.out HG.out HRI.out (by omega) (by omega) j (by rw [HM.out]; omega))
        obtain ⟨f1, hf1⟩ := exq (laneStep gs k cs f0 j)
        have HS1 : Hid (laneStep gs k cs f0 (j + 1) = cellStep gs k cs f1 j) := hideP (by rw [hf1]; rfl)
        rw [← hf1] at HJ HFJ
        have hnb : -1073741823 ≤ nat ∧ nat ≤ 1073741823 := by rw [hnat]; exact ⟨hat.2.2.2.1, hat.2.2.2.2.1⟩
        have hsuc : spK cs (j + 1) = spK cs j + t.sp := by rw [spK_succ, ← ht]
        have hat1 : 1 ≤ t.sp := by have := hat.2.1; omega
        have hat2 : (a : Int) + t.sp ≤ cols := by have := hat.2.2.1; have := HJ.out.1; omega
        have HAT : Hid ((a : Int) = spK cs j) := hideP HJ.out.1
        have HSY0 : Hid ((a : Int) + t.sp - 1 = (k : Int) → laneStep gs k cs f0 (j + 1) = upd f1 k (f1 k + max (nat - acr f1 gs a k) 0)) := hideP (fun e => by
         rw [HS1.out]
         unfold cellStep
         rw [if_pos (by rw [hsuc, ← HAT.out]; exact e), ← ht, ← hnat, ← HAT.out]
         rfl)
        have HSN : Hid (¬ (a : Int) + t.sp - 1 = (k : Int) → laneStep gs k cs f0 (j + 1) = f1) := hideP (fun e => by
         rw [HS1.out]
         unfold cellStep
         rw [if_neg (by rw [hsuc, ← HAT.out]; exact e)])
        have d0 : wr.cell? ⟨b2, off2 + j * 3, none⟩ = some (.int .i64 t.sp) := (HBW.out.cell (p := ⟨b2, off2 + j * 3, none⟩) hb2).trans (hcj 0 (by omega))
        have d1 : wr.cell? ⟨b2, off2 + j * 3 + 1, none⟩ = some (.int .i64 t.al) := (HBW.out.cell (p := ⟨b2, off2 + j * 3 + 1, none⟩) hb2).trans (hcj 1 (by omega))
        have d2 : wr.cell? ⟨b2, off2 + j * 3 + 2, none⟩ = some (.slice na nn nc) := (HBW.out.cell (p := ⟨b2, off2 + j * 3 + 2, none⟩) hb2).trans (hcj 2 (by omega))
        have hb2r : b2 < wr.heap.size := Nat.lt_of_lt_of_le hb2 HBW.out.size
        clear hcell hcj hcc hnv hnN hat hsm ht hnat hf1 HS1 hsuc
        obtain ⟨sp, al, ns⟩ := t
        dsimp only at d0 d1 hat1 hat2 HSY0 HSN
        have wadd1 : IntKind.i64.wrap ((a : Int) + sp) = a + sp := by rw [IntKind.wrap_i64]; omega
        have wsub1 : IntKind.i64.wrap ((a : Int) + sp - 1) = a + sp - 1 := by rw [IntKind.wrap_i64]; omega
        by_cases hlk : (a : Int) + sp - 1 = (k : Int)
        ·have HSY1 := hideP (HSY0.out hlk)
         have hbq : ((a : Int) + sp - 1 == (k : Int)) = true := by simp [hlk]
         have HLK := hideP hlk
         clear HSY0 HSN hlk
         go_wp2_with fail
         obtain ⟨W, hW⟩ := exq (wr.alloc (.cells #[.int .i64 sp, .int .i64 al, .slice na nn nc] 53))
         obtain ⟨q, hq⟩ := exq (wr.heap.size)
         rw [← hW, ← hq]
         have AW : Hid (IntsAt W g cols f1) := hideP (by rw [hW]; exact HJ.out.2.below (below1 _ _))
         have BT : Hid (Below (w.heap.size + 1) (w.alloc (tbO ⟨(cols : Int), gs, gp, gpo, gm, gmo, rs⟩ (.slice (some ⟨b, off, none⟩) n uc))) W) := hideP (by rw [hW]; exact BR.out.alloc hws _)
         have BW : Hid (Below w.heap.size w W) := hideP (QT.out _ BT.out).2.2.2.2
         have CW : Hid (W.heap[q]? = some (.cells #[.int .i64 sp, .int .i64 al, .slice na nn nc] 53 (0, 0))) := hideP (by rw [hW, hq]; exact heap_alloc_new wr _)
         have hqW : q < W.heap.size := (glt CW.out)
         have hgq : g < q := by rw [hq]; exact HJ.out.2.lt
         have hsW : w.heap.size + 1 ≤ W.heap.size := by omega
         clear hW hq d0 d1 d2 hb2r hbr r0 t0 t1 t6
         obtain ⟨ac, hac⟩ := exq (acr f1 gs a k)
         have hacb := acr_bd HFJ.out HG.out (show a ≤ k by have := HLK.out; omega) (show k < 20 by omega)
         have hfkb := HFJ.out k
         obtain ⟨fk, hfk2⟩ := exq (f1 k)
         have HFK := hideP hfk2
         have HCA : Hid (∀ X, Below W.heap.size W X → Calls Tryz.prog 102 #[.slice (some ⟨g, 0, none⟩) cols cols, .int .i64 gs, .int .i64 (a : Int), .int .i64 sp] X fun e w' => e = .returned (.int .i64 ac) ∧ w' = X) := hideP (fun X hX => by rw [hac]; exact l12Across_any a k (AW.out.below hX) HFJ.out (by have := HLK.out; omega) hkc hc3 HG.out sp (by have := HLK.out; omega))
         have HSY : Hid (laneStep gs k cs f0 (j + 1) = upd f1 k (fk + max (nat - ac) 0)) := hideP (by rw [HSY1.out, hac, hfk2])
         rw [← hac] at hacb
         rw [← hfk2] at hfkb
         have wsub : IntKind.i64.wrap (nat - ac) = nat - ac := by rw [IntKind.wrap_i64]; omega
         have QS : Hid (∀ x : World, Below W.heap.size W x → x.cell? ⟨q, 0, none⟩ = some (.int .i64 sp) ∧ x.cell? ⟨q, 2, none⟩ = some (.slice na nn nc) ∧ x.cell? ⟨w.heap.size, 1, none⟩ = some (.int .i64 gs)) := hideP (fun x hx => ⟨cell_of_row _ _ 0 _ 53 _ ((hx.block _ hqW).trans CW.out), cell_of_row _ _ 2 _ 53 _ ((hx.block _ hqW).trans CW.out), (QT.out _ (BT.out.trans (hx.mono hsW))).2.1⟩)
         clear hac hfk2 HSY1 CW
         refine wp_region_held_drew (S := fun x => x.cell? ⟨q, 0, none⟩ = some (.int .i64 sp) ∧ x.cell? ⟨q, 2, none⟩ = some (.slice na nn nc) ∧ x.cell? ⟨w.heap.size, 1, none⟩ = some (.int .i64 gs)) (by kernel_rfl) (QS.out _ ((Below.refl _ _).drew)) (fun hS => ?_)
         refine tkS (i := 0) (v := .pointer (some ⟨q, 2, none⟩)) rfl hS ?_
         try simp only [sput]
         refine tkS (i := 1) (v := .slice na nn nc) rfl hS ?_
         try simp only [sput]
         refine tkS (i := 7) (v := .slice (some ⟨g, 0, none⟩) cols cols) rfl hS ?_
         try simp only [sput]
         refine tkS (i := 8) (v := .pointer (some ⟨w.heap.size, 1, none⟩)) rfl hS ?_
         try simp only [sput]
         refine tkS (i := 9) (v := .pointer (some ⟨w.heap.size, 1, none⟩)) rfl hS ?_
         try simp only [sput]
         refine tkS (i := 10) (v := .int .i64 gs) rfl hS ?_
         try simp only [sput]
         refine tkS (i := 11) (v := .int .i64 (a : Int)) rfl hS ?_
         try simp only [sput]
         refine tkS (i := 12) (v := .pointer (some ⟨q, 0, none⟩)) rfl hS ?_
         try simp only [sput]
         refine tkS (i := 13) (v := .int .i64 sp) rfl hS ?_
         try simp only [sput]
         refine rdS (i := 2) rfl (fun K hK => ?_)
         go_simp
         go_at_call 104
         refine (HC10.out _ (below_more BW.out ((Below.refl _ _).drew) BW.out.size)).mono ?_
         rintro e w2 ⟨gH, hc, hs, nH, rfl, hnH, hgH, cN, hb2⟩
         have B2 : Below W.heap.size W w2 := below_more ((Below.refl _ _).drew) hb2 (Nat.le_refl _)
         have hnI : (0 : Int) < (nH : Int) := by omega
         have hfd : ∀ X, (Instr.field 30 (packV (.slice (some ⟨gH, 0, none⟩) nH hc) hs) 0).run Tryz.prog X = .ok (.slice (some ⟨gH, 0, none⟩) nH hc) X := fun X => fld28 _ _ X
         clear hb2
         refine hK.out _ _ (QS.out _ B2) (fun hS => ?_)
         try simp only [sput]
         clear hK K
         refine tkS (i := 3) (v := .slice (some ⟨gH, 0, none⟩) nH hc) rfl hS ?_
         try simp only [sput]
         refine tkS (i := 4) (v := .pointer (some ⟨gH, 0, none⟩)) rfl hS ?_
         try simp only [sput]
         refine tkS (i := 5) (v := .pointer (some ⟨gH, 1, none⟩)) rfl hS ?_
         try simp only [sput]
         refine wpAnyH_ready (rs := [6, 14]) (by kernel_rfl) (by simp) ?_
         refine AllReadyH.cons rfl (fun K hK => ?_) (AllReadyH.cons rfl (fun K hK => ?_) AllReadyH.nil)
         ·rw [if_pos (by first | rfl | go_simp)]
          go_simp
          refine hK.out _ _ (QS.out _ B2) (fun hS => ?_)
          try simp only [sput]
          clear hK K
          refine rdS (i := 14) rfl (fun K hK => ?_)
          go_simp
          go_at_call 102
          refine (HCA.out _ B2).mono ?_
          rintro e w3 ⟨rfl, h3⟩
          have h4 := h3.symm
          subst h4
          clear h3
          refine hK.out _ _ (QS.out _ B2) (fun hS => ?_)
          try simp only [sput]
          clear hK K
          refine tkS (i := 15) (v := .int .i64 (nat - ac)) rfl hS ?_
          try simp only [sput]
          refine tkS (i := 16) (v := .int .i64 (nat - ac)) rfl hS ?_
          try simp only [sput]
          refine wpAnyH_done (by kernel_rfl) ?_ _
          clear hfd cN hnI hnH hgH hS
          have A2 := hideP (AW.out.below B2)
          have BT2 : Hid (Below (w.heap.size + 1) (w.alloc (tbO ⟨(cols : Int), gs, gp, gpo, gm, gmo, rs⟩ (.slice (some ⟨b, off, none⟩) n uc))) w2) := hideP (BT.out.trans (B2.mono hsW))
          have c0 : w2.cell? ⟨q, 0, none⟩ = some (.int .i64 sp) := (QS.out _ B2).1
          have hq2 : q < w2.heap.size := Nat.lt_of_lt_of_le hqW B2.size
          have cG : w2.cell? ⟨g, k, none⟩ = some (.int .i64 fk) := by rw [HFK.out]; exact A2.out.cell hkc
          have fG := A2.out.free
          have hgl2 := A2.out.lt
          clear B2
          by_cases hneed : 0 < nat - ac
          ·have hngq : ¬ q = g := by omega
           have hngq2 : ¬ g = q := by omega
           have wadd : IntKind.i64.wrap (fk + (nat - ac)) = fk + (nat - ac) := by rw [IntKind.wrap_i64]; omega
           go_wp2
           go_roundw
           case rel =>
            refine ⟨j + 1, a + sp.toNat, by omega, by congr 1; omega, by go_num, hideP ⟨by rw [spK_succ, ← HT.out, ← HAT.out]; dsimp only; omega, ?_⟩, (BT2.out.setCell (by simp; omega) _)⟩
            rw [HSY.out, show fk + max (nat - ac) 0 = fk + (nat - ac) by omega]
            exact A2.out.set hkc _
           case measure => simp [intOf]; omega
          ·go_wp2
           go_roundw
           case rel =>
            refine ⟨j + 1, a + sp.toNat, by omega, by congr 1; omega, by go_num, hideP ⟨by rw [spK_succ, ← HT.out, ← HAT.out]; dsimp only; omega, ?_⟩, BT2.out⟩
            rw [HSY.out, show fk + max (nat - ac) 0 = fk by omega]
            exact A2.out.congr (fun i _ => by unfold upd; split; (rename_i e; rw [e, HFK.out]); rfl)
           case measure => simp [intOf]; omega
         ·rw [if_pos (by first | rfl | go_simp)]
          go_simp
          go_at_call 102
          refine (HCA.out _ B2).mono ?_
          rintro e w3 ⟨rfl, h3⟩
          have h4 := h3.symm
          subst h4
          clear h3
          refine hK.out _ _ (QS.out _ B2) (fun hS => ?_)
          try simp only [sput]
          clear hK K
          refine rdS (i := 6) rfl (fun K hK => ?_)
          go_simp
          refine hK.out _ _ (QS.out _ B2) (fun hS => ?_)
          try simp only [sput]
          clear hK K
          refine tkS (i := 15) (v := .int .i64 (nat - ac)) rfl hS ?_
          try simp only [sput]
          refine tkS (i := 16) (v := .int .i64 (nat - ac)) rfl hS ?_
          try simp only [sput]
          refine wpAnyH_done (by kernel_rfl) ?_ _
          clear hfd cN hnI hnH hgH hS
          have A2 := hideP (AW.out.below B2)
          have BT2 : Hid (Below (w.heap.size + 1) (w.alloc (tbO ⟨(cols : Int), gs, gp, gpo, gm, gmo, rs⟩ (.slice (some ⟨b, off, none⟩) n uc))) w2) := hideP (BT.out.trans (B2.mono hsW))
          have c0 : w2.cell? ⟨q, 0, none⟩ = some (.int .i64 sp) := (QS.out _ B2).1
          have hq2 : q < w2.heap.size := Nat.lt_of_lt_of_le hqW B2.size
          have cG : w2.cell? ⟨g, k, none⟩ = some (.int .i64 fk) := by rw [HFK.out]; exact A2.out.cell hkc
          have fG := A2.out.free
          have hgl2 := A2.out.lt
          clear B2
          by_cases hneed : 0 < nat - ac
          ·have hngq : ¬ q = g := by omega
           have hngq2 : ¬ g = q := by omega
           have wadd : IntKind.i64.wrap (fk + (nat - ac)) = fk + (nat - ac) := by rw [IntKind.wrap_i64]; omega
           go_wp2
           go_roundw
           case rel =>
            refine ⟨j + 1, a + sp.toNat, by omega, by congr 1; omega, by go_num, hideP ⟨by rw [spK_succ, ← HT.out, ← HAT.out]; dsimp only; omega, ?_⟩, (BT2.out.setCell (by simp; omega) _)⟩
            rw [HSY.out, show fk + max (nat - ac) 0 = fk + (nat - ac) by omega]
            exact A2.out.set hkc _
           case measure => simp [intOf]; omega
          ·go_wp2
           go_roundw
           case rel =>
            refine ⟨j + 1, a + sp.toNat, by omega, by congr 1; omega, by go_num, hideP ⟨by rw [spK_succ, ← HT.out, ← HAT.out]; dsimp only; omega, ?_⟩, BT2.out⟩
            rw [HSY.out, show fk + max (nat - ac) 0 = fk by omega]
            exact A2.out.congr (fun i _ => by unfold upd; split; (rename_i e; rw [e, HFK.out]); rfl)
           case measure => simp [intOf]; omega
        ·have hbq : ((a : Int) + sp - 1 == (k : Int)) = false := by simp [hlk]
         have HLK := hideP (HSN.out hlk)
         clear HSY0 HSN hlk
         go_wp2
         go_roundw
         case rel => exact ⟨j + 1, a + sp.toNat, by omega, by congr 1; omega, by go_num, hideP ⟨by rw [spK_succ, ← HT.out, ← HAT.out]; dsimp only; omega, by rw [HLK.out]; exact HJ.out.2.below (below1 _ _)⟩, BR.out.alloc hws _⟩
         case measure => simp [intOf]; omega
       ·have hji : ¬ (j : Int) < (m : Int) := by omega
        obtain rfl : j = m := by omega
        go_wp2
        go_roundw
        case rel => exact ⟨i + 1, by omega, by go_num, hideP (by rw [HST.out]; exact HJ.out.2), BR.out⟩
        case measure => simp [intOf]; omega
     ·have hii : ¬ (i : Int) < (n : Int) := by omega
      obtain rfl : i = n := by omega
      have HCS : Hid (colsStep gs rs (k + 1) = rowsStep gs k rs (colsStep gs rs k) i) := hideP (by rw [← HN.out]; rfl)
      rw [← HCS.out] at HII
      obtain ⟨fk, hfk⟩ := exq (colsStep gs rs (k + 1) k)
      have cA : wp.cell? ⟨g, k, none⟩ = some (.int .i64 fk) := by rw [hfk]; exact HII.out.cell hkc
      have hAl := HII.out.lt
      have HOK : Hid (colsOk gs rs (k + 1) = fitsB fk) := hideP (by unfold colsOk; rw [HK.out.1, ← hfk]; rfl)
      have HFC : Hid (∀ W, Calls Tryz.prog 103 #[.int .i64 fk] W fun e w' => e = .returned (.bool (fitsB fk)) ∧ w' = W) := hideP (fun W => specFits_any fk W)
      clear hfk HCS
      cases hfb : fitsB fk with
      | true =>
       rw [hfb] at HFC HOK
       go_wp2_with (go_at_call 103; refine (HFC.out _).mono ?_; rintro e w2 ⟨rfl, rfl⟩)
       go_roundw
       case rel => exact ⟨k + 1, by omega, by go_num, hideP ⟨HOK.out, HII.out⟩, BP.out⟩
       case measure => simp [intOf]; omega
      | false =>
       rw [hfb] at HFC HOK
       have HFIN : Hid (colsOk gs rs cols = false) := hideP (colsOk_down (show k + 1 ≤ cols by omega) HOK.out)
       have HBE := hideP (QT.out _ BP.out).2.2.2.2
       go_wp2_with (go_at_call 103; refine (HFC.out _).mono ?_; rintro e w2 ⟨rfl, rfl⟩)
       go_ret
       exact ⟨HPN.out _ _ HFIN.out HBE.out.size (heap_alloc_new _ _), HBE.out.alloc HBE.out.size _⟩
   ·have hki : ¬ (k : Int) < (cols : Int) := by omega
    obtain rfl : k = cols := by omega
    have HBE := hideP (QT.out _ BO.out).2.2.2.2
    go_wp2
    go_ret
    exact ⟨HPY.out _ _ HK.out.1 (by omega) HK.out.2, HBE.out⟩
set_option maxRecDepth 20000 in
set_option maxHeartbeats 1600000 in
theorem nest_huge {ao : Option Addr} {n cap : Nat} {w : World} (h : 20000 < n) (h2 : n ≤ 5000000) :
 Calls Tryz.prog 109 #[.slice ao n cap] w fun e w' => e = .returned (.int .i64 (-1)) ∧ w' = w := by
 have hni : (20000 : Int) < (n : Int) := by omega
 go_enter Tryz.func109, Tryz.ntmps109
 go_wp2
 go_ret
 exact ⟨rfl, rfl⟩
set_option maxRecDepth 20000 in
set_option maxHeartbeats 1600000 in
theorem specList_any {v : Value} {xs : List Nd} {w : World} (h : NRow 0 w v xs) (hs : xs.length ≤ 5000000) :
 Calls Tryz.prog 71 #[v] w fun e w' => e = .returned (.bool (listB xs)) ∧ Below w.heap.size w w' := by
 have HC : Hid (Calls Tryz.prog 109 #[v] w fun e w' => ∃ m : Int, e = .returned (.int .i64 m) ∧ (decide (0 ≤ m) && decide (m ≤ 41)) = listB xs ∧ Below w.heap.size w w') := hideP (by
  by_cases hb : xs.length ≤ 20000
  ·refine (nestD_any h hb).mono ?_
   rintro e w1 ⟨m, rfl, hm, hw⟩
   refine ⟨m, rfl, ?_, hw⟩
   unfold listB
   rw [decide_eq_true hb, Bool.true_and, ← okD_40, ← hm 40]
   rfl
  ·obtain ⟨ao, n, cap, rfl, hl, hr⟩ := h
   refine (nest_huge (by omega) (by omega)).mono ?_
   rintro e w1 ⟨rfl, rfl⟩
   refine ⟨-1, rfl, ?_, Below.refl _ _⟩
   rw [show listB xs = false by unfold listB; rw [decide_eq_false hb]; rfl]
   rfl)
 obtain ⟨ao, n, cap, rfl, hl, hr⟩ := h
 obtain ⟨R, hR⟩ := exq (listB xs)
 rw [← hR] at HC ⊢
 clear hR hl hr hs
 go_enter Tryz.func71, Tryz.ntmps71
 go_wp2_with fail
 refine HC.out.mono ?_
 rintro e w1 ⟨m, rfl, hm, hb⟩
 have HB := hideP hb
 have HMM := hideP hm
 clear HC hb hm
 by_cases h1 : 0 ≤ m
 ·have dh1 : decide (0 ≤ m) = true := decide_eq_true h1
  clear h1
  go_wp2
  go_ret
  exact ⟨by rw [← HMM.out, dh1, Bool.true_and]; rfl, HB.out⟩
 ·have dh1 : decide (0 ≤ m) = false := decide_eq_false h1
  clear h1
  go_wp2
  go_ret
  exact ⟨by rw [← HMM.out, dh1, Bool.false_and]; rfl, HB.out⟩
set_option maxRecDepth 20000 in
set_option maxHeartbeats 8000000 in
theorem specSetTable_any (x : Tb) {v : Value} {w : World} (h : RRowN 0 w v x.rs) (hs : SmT x) :
 Calls Tryz.prog 35 #[tbV x v] w fun e w' => ∃ a c, e = .returned (.slice a (stR x).length c) ∧ w'.ownsRow w.heap.size 36 15 (.slice a (stR x).length c) (stR x).length (flatN (stR x)) ∧ Below w.heap.size w w' := by
 have HT : Hid (∀ W, Below w.heap.size w W → Calls Tryz.prog 70 #[tbV x v] W fun e w' => WidP x (tabB x && colsOk x.gs x.rs x.co.toNat) e W w' ∧ Below W.heap.size W w') := hideP (fun W hW => specWidths_any x (h.below rwNStable hW) hs)
 have hTP : tabB x = true → 1 ≤ x.co ∧ x.co ≤ 20 ∧ (-1073741823 ≤ x.gs ∧ x.gs ≤ 1073741823) ∧ x.rs.length ≤ 200 ∧ ∀ i, i < x.rs.length → RowIn (x.rs.getD i Rw.none).cs x.co := tabB_parts
 obtain ⟨ua, m, uc, rfl, hm, hr⟩ := h
 have hm0 : m ≤ 1048576 := by rw [← hm]; exact hs.1
 have HRR : Hid (∀ i, i < m → ∃ b off, ua = some ⟨b, off, none⟩ ∧ ∃ (ca : Option Addr) (cn cc : Nat), (∀ W, Below w.heap.size w W → b < W.heap.size ∧ W.cell? ⟨b, off + i * 2, none⟩ = some (.slice ca cn cc) ∧ W.cell? ⟨b, off + i * 2 + 1, none⟩ = some (.int .i64 (x.rs.getD i Rw.none).ru) ∧ CRowN 0 W (.slice ca cn cc) (x.rs.getD i Rw.none).cs)) := hideP (fun i hi => by
  obtain ⟨b, off, rfl, hlo, hb, hc⟩ := hr (by omega)
  obtain ⟨vs, hcl, hRel, hcj⟩ := hc i hi
  obtain ⟨u, hcs, hu⟩ := hRel
  obtain ⟨ca, cc, rfl⟩ := hu.shape
  refine ⟨b, off, rfl, ca, (x.rs.getD i Rw.none).cs.length, cc, fun W hW => ?_⟩
  rw [show vs = _ from hcs] at hcj
  exact ⟨Nat.lt_of_lt_of_le hb hW.size, (hW.cell (p := ⟨b, off + i * 2, none⟩) hb).trans (hcj 0 (by omega)), (hW.cell (p := ⟨b, off + i * 2 + 1, none⟩) hb).trans (hcj 1 (by omega)), hu.below clNStable hW⟩)
 obtain ⟨R, hR⟩ := exq (stR x)
 rw [← hR]
 unfold stR at hR
 obtain ⟨T, hT⟩ := exq ((tabB x && colsOk x.gs x.rs x.co.toNat))
 rw [← hT] at HT
 rw [← Bool.and_assoc, ← hT] at hR
 have hTP2 : T = true → 1 ≤ x.co ∧ x.co ≤ 20 ∧ (-1073741823 ≤ x.gs ∧ x.gs ≤ 1073741823) ∧ x.rs.length ≤ 200 ∧ ∀ i, i < x.rs.length → RowIn (x.rs.getD i Rw.none).cs x.co := fun e => hTP (by rw [hT, Bool.and_eq_true] at e; exact e.1)
 have HR := hideP hR
 clear hT hR hs hr hTP
 obtain ⟨co, gs, gp, gpo, gm, gmo, rs⟩ := x
 dsimp only at hTP2 HR HRR hm ⊢
 simp only [tbV] at HT ⊢
 have HM := hideP hm
 rw [hm] at hTP2 HR
 clear hm
 have BOX : Hid (∀ w1, Below (w.heap.size + 1) (w.alloc (.cells #[.int .i64 co, .int .i64 gs, .int .i64 gp, .int .i64 gpo, .int .i64 gm, .int .i64 gmo, .slice ua m uc] 44)) w1 → w1.heap[w.heap.size]? = some (tbC co gs gp gpo gm gmo (.slice ua m uc))) := hideP (fun w1 hb => (hb.block _ (by omega)).trans (heap_alloc_new w _))
 cases T with
 | false =>
  have hR0 : R = [] := by rw [HR.out]; rfl
  subst hR0
  go_enter Tryz.func35, Tryz.ntmps35
  go_wp2_with fail
  refine (HT.out _ (below1 _ _)).mono ?_
  rintro e w1 ⟨hW, hb1⟩
  obtain ⟨g, rfl, _, _⟩ := hW
  have B1 : Hid (Below w.heap.size w w1) := hideP (below_more (below1 _ _) hb1 (by simp))
  clear hb1
  go_wp2
  go_ret
  exact ⟨_, 0, rfl, own_mt B1.out.size (heap_alloc_new w1 _), B1.out.alloc B1.out.size _⟩
 | true =>
  obtain ⟨hc1, hc2, hg, hlen, hin⟩ := hTP2 (by first | rfl | trivial)
  obtain ⟨cols, hcols⟩ : ∃ cols : Nat, (cols : Int) = co := ⟨co.toNat, by omega⟩
  subst hcols
  have hco : ((cols : Int)).toNat = cols := by omega
  obtain ⟨F, hF⟩ := exq (colsStep gs rs cols)
  obtain ⟨gap, hgap⟩ := exq (gapN gs gp gpo gm gmo)
  have HBD : Hid (Bd F) := hideP (by rw [hF]; exact colsStep_bd hg (by rw [HM.out]; exact hin) hc2 cols (by omega))
  have HR1 : Hid (R = if (rowsOk F gs gap (cols : Int) rs m && decide ((outK F gs gap (cols : Int) rs m).length ≤ 20000)) = true then outK F gs gap (cols : Int) rs m else []) := hideP (by rw [HR.out, hco, ← hF, ← hgap]; rfl)
  have HGP := hideP hgap
  have HIN := hideP hin
  have HG := hideP hg
  have HW : Hid (∀ e W w', WidP ⟨(cols : Int), gs, gp, gpo, gm, gmo, rs⟩ true e W w' → ∃ g, e = .returned (.slice (some ⟨g, 0, none⟩) cols cols) ∧ W.heap.size ≤ g ∧ IntsAt w' g cols F) := hideP (fun e W w' h => by rw [hF]; exact h)
  have hcn : ((cols : Int) == 0) = false := by simp; omega
  clear HR hTP2 hin hg hgap hF hco
  go_enter Tryz.func35, Tryz.ntmps35
  go_wp2_with fail
  refine (HT.out _ (below1 _ _)).mono ?_
  rintro e w1 ⟨hW, hb1⟩
  obtain ⟨g, rfl, hg0, hA⟩ := HW.out _ _ _ hW
  have B1 : Hid (Below w.heap.size w w1) := hideP (below_more (below1 _ _) hb1 (by simp))
  rw [World.size_alloc] at hb1
  have BX := hideP (BOX.out w1 hb1)
  have hl1 := (glt BX.out)
  have HA := hideP hA
  clear hb1 BOX HT HW hW hA hg0
  go_wp2_with fail
  generalize hWZ : w1.alloc _ = wz
  obtain ⟨g0, hg0⟩ := exq (w1.heap.size)
  have HZ : Hid (Below w1.heap.size w1 wz ∧ wz.ownsRow w1.heap.size 36 15 (.slice (some ⟨g0, 0, none⟩) 0 0) 0 (flatN [])) := hideP (by
   rw [← hWZ, hg0]
   exact ⟨below1 _ _, own_mt (Nat.le_refl _) (heap_alloc_new w1 _)⟩)
  rw [← hg0]
  clear hWZ hg0
  go_loopw [4, 5, 6] (fun s4 s5 _ wr => ∃ (k : Nat) (a : Option Addr) (nn c : Nat), k ≤ m ∧ s5 = .int .i64 (k : Int) ∧ s4 = .slice a nn c ∧ Hid (rowsOk F gs gap (cols : Int) rs k = true ∧ Below w1.heap.size w1 wr ∧ wr.ownsRow w1.heap.size 36 15 (.slice a nn c) nn (flatN (outK F gs gap (cols : Int) rs k)))) (fun _ s5 _ _ => m - (intOf s5).toNat)
  case atStart => exact ⟨0, _, 0, 0, by omega, rfl, rfl, hideP ⟨rfl, HZ.out⟩⟩
  case round =>
   obtain ⟨k, a, nn, c, hk, rfl, rfl, HJ⟩ := hrel
   obtain ⟨hok, hbl, hac⟩ := id HJ.out
   have HOK := hideP hok
   have HBL := hideP hbl
   have HAC := hideP hac
   have hnl : nn ≤ 20000 * k := by
    have q1 := hac.1
    rw [flatN_len] at q1
    have := outK_le F gs gap (cols : Int) rs k
    omega
   have HNL : Hid ((outK F gs gap (cols : Int) rs k).length = nn) := hideP (by have q1 := hac.1; rw [flatN_len] at q1; omega)
   have BXr : Hid (wr.heap[w.heap.size]? = some (tbC (cols : Int) gs gp gpo gm gmo (.slice ua m uc))) := hideP ((hbl.block _ hl1).trans BX.out)
   have t6 : wr.cell? ⟨w.heap.size, 6, none⟩ = some (.slice ua m uc) := cell_of_row _ _ 6 _ 44 _ BXr.out
   have hlr := (glt BXr.out)
   have Bwr : Hid (Below w.heap.size w wr) := hideP (below_more B1.out hbl B1.out.size)
   clear HZ HJ hok hbl hac
   by_cases hkm : k < m
   ·have hki : (k : Int) < (m : Int) := by omega
    obtain ⟨b, off, rfl, ca, cn, cc, hrr⟩ := HRR.out k hkm
    obtain ⟨r, hr⟩ := exq (rs.getD k Rw.none)
    rw [← hr] at hrr
    obtain ⟨q, hq⟩ := exq (rowR F gs gap (cols : Int) r)
    have HST : Hid (outK F gs gap (cols : Int) rs (k + 1) = outK F gs gap (cols : Int) rs k ++ q) := hideP (by rw [hq, hr]; rfl)
    have HSO : Hid (rowsOk F gs gap (cols : Int) rs (k + 1) = decide (0 < q.length)) := hideP (by rw [hq, hr]; unfold rowsOk; rw [HOK.out, Bool.true_and])
    have hql : q.length ≤ 20000 := by rw [hq]; exact rowR_le
    have HL : Hid (∀ W, Below w1.heap.size w1 W → Calls Tryz.prog 61 #[.agg #[.int .i64 (cols : Int), .int .i64 gs, .int .i64 gp, .int .i64 gpo, .int .i64 gm, .int .i64 gmo, .slice (some ⟨b, off, none⟩) m uc], .agg #[.slice ca cn cc, .int .i64 r.ru], .slice (some ⟨g, 0, none⟩) cols cols] W fun e w' => ∃ a c, e = .returned (.slice a q.length c) ∧ w'.ownsRow W.heap.size 36 15 (.slice a q.length c) q.length (flatN q) ∧ Below W.heap.size W w') := hideP (fun W hW => by
     rw [hq, HGP.out]
     exact l12Row_any (rs := rs) (hrr W (below_more B1.out hW B1.out.size)).2.2.2 (by rw [hr]; exact HIN.out k hkm) rfl (by omega) (by omega) HG.out (HA.out.below hW) HBD.out)
    have HRX : Hid (∀ W, Below w.heap.size w W → b < W.heap.size ∧ W.cell? ⟨b, off + k * 2, none⟩ = some (.slice ca cn cc) ∧ W.cell? ⟨b, off + k * 2 + 1, none⟩ = some (.int .i64 r.ru)) := hideP (fun W hW => ⟨(hrr W hW).1, (hrr W hW).2.1, (hrr W hW).2.2.1⟩)
    obtain ⟨ru, hru⟩ := exq (r.ru)
    rw [← hru] at HL HRX
    have HQ : Hid (∀ X : World, Below w1.heap.size w1 X → (X.cell? ⟨w.heap.size, 0, none⟩ = some (.int .i64 (cols : Int)) ∧ X.cell? ⟨w.heap.size, 1, none⟩ = some (.int .i64 gs) ∧ X.cell? ⟨w.heap.size, 2, none⟩ = some (.int .i64 gp) ∧ X.cell? ⟨w.heap.size, 3, none⟩ = some (.int .i64 gpo) ∧ X.cell? ⟨w.heap.size, 4, none⟩ = some (.int .i64 gm) ∧ X.cell? ⟨w.heap.size, 5, none⟩ = some (.int .i64 gmo) ∧ X.cell? ⟨w.heap.size, 6, none⟩ = some (.slice (some ⟨b, off, none⟩) m uc)) ∧ X.cell? ⟨b, off + k * 2, none⟩ = some (.slice ca cn cc) ∧ X.cell? ⟨b, off + k * 2 + 1, none⟩ = some (.int .i64 ru)) := hideP (fun X hX => by
     have q := (hX.block _ hl1).trans BX.out
     exact ⟨⟨cell_of_row _ _ 0 _ 44 _ q, cell_of_row _ _ 1 _ 44 _ q, cell_of_row _ _ 2 _ 44 _ q, cell_of_row _ _ 3 _ 44 _ q, cell_of_row _ _ 4 _ 44 _ q, cell_of_row _ _ 5 _ 44 _ q, cell_of_row _ _ 6 _ 44 _ q⟩, (HRX.out X (below_more B1.out hX B1.out.size)).2.1, (HRX.out X (below_more B1.out hX B1.out.size)).2.2⟩)
    have hb1 := (HRX.out wr Bwr.out).1
    obtain ⟨qn, hqn⟩ := exq (q.length)
    rw [← hqn] at HL hql
    have HQN := hideP hqn
    clear hrr hr hru HRX hq hqn
    go_wp2_with fail
    refine wp_region_held_drew (S := fun X => (X.cell? ⟨w.heap.size, 0, none⟩ = some (.int .i64 (cols : Int)) ∧ X.cell? ⟨w.heap.size, 1, none⟩ = some (.int .i64 gs) ∧ X.cell? ⟨w.heap.size, 2, none⟩ = some (.int .i64 gp) ∧ X.cell? ⟨w.heap.size, 3, none⟩ = some (.int .i64 gpo) ∧ X.cell? ⟨w.heap.size, 4, none⟩ = some (.int .i64 gm) ∧ X.cell? ⟨w.heap.size, 5, none⟩ = some (.int .i64 gmo) ∧ X.cell? ⟨w.heap.size, 6, none⟩ = some (.slice (some ⟨b, off, none⟩) m uc)) ∧ X.cell? ⟨b, off + k * 2, none⟩ = some (.slice ca cn cc) ∧ X.cell? ⟨b, off + k * 2 + 1, none⟩ = some (.int .i64 ru)) (by kernel_rfl) (HQ.out _ (HBL.out.drew)) (fun hS => ?_)
    refine tkS (i := 0) (v := .agg #[.int .i64 (cols : Int), .int .i64 gs, .int .i64 gp, .int .i64 gpo, .int .i64 gm, .int .i64 gmo, .slice (some ⟨b, off, none⟩) m uc]) rfl hS ?_
    try simp only [sput]
    refine tkS (i := 1) (v := .pointer (some ⟨w.heap.size, 6, none⟩)) rfl hS ?_
    try simp only [sput]
    refine tkS (i := 2) (v := .slice (some ⟨b, off, none⟩) m uc) rfl hS ?_
    try simp only [sput]
    refine tkS (i := 3) (v := .int .i64 (k : Int)) rfl hS ?_
    try simp only [sput]
    refine tkS (i := 4) (v := .pointer (some ⟨b, off + k * 2, none⟩)) rfl hS ?_
    try simp only [sput]
    refine tkS (i := 5) (v := .agg #[.slice ca cn cc, .int .i64 ru]) rfl hS ?_
    try simp only [sput]
    refine tkS (i := 6) (v := .slice (some ⟨g, 0, none⟩) cols cols) rfl hS ?_
    try simp only [sput]
    refine rdS (i := 7) rfl (fun K hK => ?_)
    go_simp
    go_at_call 61
    refine (HL.out _ (HBL.out.drew)).mono ?_
    rintro e w3 ⟨a3, c3, rfl, ho3, hb3⟩
    have B3 : Hid (Below wr.heap.size wr w3) := hideP (below_more ((Below.refl _ _).drew) hb3 (Nat.le_refl _))
    have N3 : Hid (NN 0 w3 (.slice a3 qn c3) q) := hideP (own_NN ho3 HQN.out.symm)
    clear ho3 hb3
    refine hK.out _ _ (HQ.out _ (below_more HBL.out B3.out HBL.out.size)) (fun hS => ?_)
    try simp only [sput]
    clear hK K
    refine tkS (i := 8) (v := .slice a3 qn c3) rfl hS ?_
    try simp only [sput]
    refine wpAnyH_done (by kernel_rfl) ?_ _
    clear hS
    have O3 : Hid (w3.ownsRow w1.heap.size 36 15 (.slice a nn c) nn (flatN (outK F gs gap (cols : Int) rs k))) := hideP (ownG_below HAC.out B3.out)
    have Bw3 : Hid (Below w1.heap.size w1 w3) := hideP (below_more HBL.out B3.out HBL.out.size)
    have Bww : Hid (Below w.heap.size w w3) := hideP (below_more B1.out Bw3.out B1.out.size)
    have hw3 : w1.heap.size ≤ w3.heap.size := Bw3.out.size
    clear HL HQ t6 hlr BXr Bwr HAC HBL B3
    by_cases hq0 : qn = 0
    ·have hR0 : R = [] := by
      rw [HR1.out, rowsOk_down (show k + 1 ≤ m by omega) (by rw [HSO.out, ← HQN.out, hq0]; rfl)]
      rfl
     subst hR0
     subst hq0
     go_wp2
     go_ret
     exact ⟨_, 0, rfl, own_mt Bww.out.size (heap_alloc_new w3 _), Bww.out.alloc Bww.out.size _⟩
    ·have hq1 : ((qn : Int) == 0) = false := by simp; omega
     have HSO2 : Hid (rowsOk F gs gap (cols : Int) rs (k + 1) = true) := hideP (by rw [HSO.out, ← HQN.out]; simp; omega)
     go_wp2_with (at_builtin; refine wpList_appN rfl _ _ rfl w1.heap.size (.slice a nn c) nn (outK F gs gap (cols : Int) rs k) rfl O3.out (.slice a3 qn c3) q rfl N3.out (by rw [← HQN.out]; omega) (by omega) ?_; intro v7 w7 ho hg ha; rw [← HQN.out, ← HST.out] at ho; obtain ⟨N7, hN7⟩ := exq (nn + qn); rw [← hN7] at ho; obtain ⟨u7, d7, rfl⟩ := ownG_shape ho; have J7 : Hid (Below w1.heap.size w1 w7 ∧ w7.ownsRow w1.heap.size 36 15 (.slice u7 N7 d7) N7 (flatN (outK F gs gap (cols : Int) rs (k + 1)))) := hideP ⟨Below.grown Bw3.out hg Bw3.out.size (fun b hb => (O3.out.lt b hb).1), ho⟩; clear ho hg ha hN7)
     go_roundw
     case rel => exact ⟨k + 1, u7, N7, d7, by omega, by go_num, rfl, hideP ⟨HSO2.out, J7.out⟩⟩
     case measure => simp [intOf]; omega
   ·have hki : ¬ (k : Int) < (m : Int) := by omega
    obtain rfl : k = m := by omega
    have HC : Hid (Calls Tryz.prog 71 #[.slice a nn c] wr fun e w' => e = .returned (.bool (decide (nn ≤ 20000))) ∧ Below wr.heap.size wr w') := hideP (by
     have h0 := specList_any (SRow.mono ndStable (own_NRow HAC.out HNL.out) (Nat.zero_le _)) (by rw [HNL.out]; omega)
     rw [outK_list HOK.out, HNL.out] at h0
     exact h0)
    by_cases hb20 : nn ≤ 20000
    ·have hR0 : R = outK F gs gap (cols : Int) rs k := by rw [HR1.out, HOK.out, decide_eq_true (show (outK F gs gap (cols : Int) rs k).length ≤ 20000 by rw [HNL.out]; exact hb20)]; rfl
     have hRn : R.length = nn := by rw [hR0, HNL.out]
     have HOA : Hid (wr.ownsRow w.heap.size 36 15 (.slice a R.length c) R.length (flatN R)) := hideP (by rw [hRn, hR0]; exact ownG_base HAC.out B1.out.size)
     rw [decide_eq_true hb20] at HC
     subst hRn
     clear hR0 HAC HR1 HNL
     go_wp2_with fail
     refine HC.out.mono ?_
     rintro e w4 ⟨rfl, hb4⟩
     have O4 := hideP (ownG_below HOA.out hb4)
     have B4 := hideP (below_more Bwr.out hb4 Bwr.out.size)
     clear HC hb4 HOA
     go_wp2
     go_ret
     exact ⟨a, c, rfl, O4.out, B4.out⟩
    ·have hR0 : R = [] := by
      rw [HR1.out, decide_eq_false (show ¬ (outK F gs gap (cols : Int) rs k).length ≤ 20000 by rw [HNL.out]; exact hb20), Bool.and_false]
      rfl
     subst hR0
     rw [decide_eq_false hb20] at HC
     go_wp2_with fail
     refine HC.out.mono ?_
     rintro e w4 ⟨rfl, hb4⟩
     have B4 := hideP (below_more Bwr.out hb4 Bwr.out.size)
     clear HC hb4
     go_wp2
     go_ret
     exact ⟨_, 0, rfl, own_mt B4.out.size (heap_alloc_new w4 _), B4.out.alloc B4.out.size _⟩
set_option maxRecDepth 20000 in
set_option maxHeartbeats 16000000 in
theorem lawSetTable_any (x : Tb) {v : Value} {w : World} (h : RRow 0 w v x.rs) (hf : FnT x) :
 Calls Tryz.prog 7 #[tbV x v] w fun e w' => e = .returned (.bool true) ∧ Below w.heap.size w w' := by
 obtain ⟨va, vn, vc, rfl⟩ : ∃ a n c, v = .slice a n c := by obtain ⟨a, c, rfl⟩ := h.shape; exact ⟨_, _, _, rfl⟩
 obtain ⟨R, hR⟩ := exq (stR x)
 have hRl : R.length ≤ 20000 := by rw [hR]; exact stR_len x
 obtain ⟨n, hn⟩ := exq (R.length)
 obtain ⟨s, hs⟩ := exq (1 + 15 * n)
 obtain ⟨S1, hS1⟩ : ∃ S1 : Nat → World → Option Addr → Nat → Prop, S1 = fun B W a c => W.ownsRow B 36 15 (.slice a n c) n (flatN R) := ⟨_, rfl⟩
 obtain ⟨S2, hS2⟩ : ∃ S2 : Nat → World → Option Addr → Nat → Prop, S2 = fun B W a c => W.ownsRow B 36 15 (.slice a n c) n (flatN (marksN 1 n)) := ⟨_, rfl⟩
 have CZ : Hid (∀ W, Below w.heap.size w W → Calls Tryz.prog 23 #[tbV x (.slice va vn vc), .int .i64 1048576] W fun r w' => (∃ m : Int, r = .returned (.int .i64 m) ∧ (0 ≤ m → 15 * m + mkK x.rs x.rs.length ≤ 15 * 1048576 ∧ SmT x)) ∧ Below W.heap.size W w') := hideP (fun W hW => szTable_w x (h.below rwStable hW) hf (by omega) (by omega))
 have CT : Hid (SmT x → ∀ W, Below w.heap.size w W → Calls Tryz.prog 25 #[tbV x (.slice va vn vc)] W fun e w' => ∃ a n c, e = .returned (tbV x (.slice a n c)) ∧ ROw W.heap.size w' (.slice a n c) x.rs ∧ Below W.heap.size W w') := hideP (fun hs W hW => (toTable_o x (h.below rwStable hW) hs).mono (fun e w' ⟨v', h1, h2, h3⟩ => by
  obtain ⟨a, c, rfl⟩ := h2.shape
  exact ⟨a, _, c, h1, h2, h3⟩))
 have CS : Hid (SmT x → ∀ u W, RRowN 0 W u x.rs → Calls Tryz.prog 35 #[tbV x u] W fun e w' => ∃ a c, e = .returned (.slice a n c) ∧ S1 W.heap.size w' a c ∧ Below W.heap.size W w') := hideP (fun hs u W hu => by
  refine (specSetTable_any x hu hs).mono (fun e w' ⟨a, c, h1, h2, h3⟩ => ?_)
  rw [← hR, ← hn] at h1 h2
  exact ⟨a, c, h1, by rw [hS1]; exact h2, h3⟩)
 have CI : Hid (SmT x → ∀ u W, RRowN 0 W u x.rs → Calls Tryz.prog 20 #[tbV x u] W fun e w' => ∃ a c, e = .returned (.slice a n c) ∧ S1 W.heap.size w' a c ∧ Below W.heap.size W w') := hideP (fun hs u W hu => by
  refine (implSetTable_any x hu hs).mono (fun e w' ⟨a, c, h1, h2, h3⟩ => ?_)
  rw [← hR, ← hn] at h1 h2
  exact ⟨a, c, h1, by rw [hS1]; exact h2, h3⟩)
 have CE : Hid (SmT x → ∀ u u' W, RRowN 0 W u x.rs → RRowN 0 W u' x.rs → Calls Tryz.prog 29 #[tbV x u, tbV x u'] W fun e w' => e = .returned (.bool true) ∧ Below W.heap.size W w') := hideP (fun hs u u' W h1 h2 => eqTable_same x h1 h2 hs)
 have CM : Hid (SmT x → 1 + mkK x.rs x.rs.length ≤ 16777216 → ∀ P u W, RShP P W u x.rs → Calls Tryz.prog 31 #[tbV x u, .int .i64 1] W fun e w' => e = .returned (.int .i64 ((1 + mkK x.rs x.rs.length : Nat) : Int)) ∧ MkP P W w') := hideP (fun hs hk P u W hu => markTable_P (k := 1) x hu hs (by omega) hk)
 have CQ : Hid (∀ B a c B' a' c' (W : World), S1 B W a c → S1 B' W a' c' → Calls Tryz.prog 28 #[.slice a n c, .slice a' n c'] W fun e w' => e = .returned (.bool true) ∧ Below W.heap.size W w') := hideP (fun B a c B' a' c' W h1 h2 => by
  rw [hS1] at h1 h2
  exact eqNodeS_same (SRow.mono ndStable (own_NRow h1 hn.symm) (Nat.zero_le _)) (SRow.mono ndStable (own_NRow h2 hn.symm) (Nat.zero_le _)) (by omega))
 have CMI : Hid (∀ B a c (W : World), S1 B W a c → B ≤ W.heap.size → Calls Tryz.prog 33 #[.slice a n c, .int .i64 1] W fun e w' => e = .returned (.int .i64 (s : Int)) ∧ S2 B w' a c ∧ Below B W w') := hideP (fun B a c W h1 hB => by
  rw [hS1] at h1
  refine (mark_own (k := 1) h1 (by omega) (by omega) (by omega)).mono ?_
  rintro e w' ⟨e1, e2, e3, _⟩
  rw [hS2, hs]
  rw [Nat.min_eq_left hB] at e3
  exact ⟨e1, e2, e3⟩)
 have CH : Hid (∀ B a c (W : World), S2 B W a c → Calls Tryz.prog 34 #[.slice a n c, .int .i64 1] W fun e w' => e = .returned (.int .i64 (s : Int)) ∧ Below W.heap.size W w') := hideP (fun B a c W h1 => by
  rw [hS2] at h1
  rw [hs]
  exact heldNodeS_any (k := 1) (SRow.mono ndStable (own_NRow h1 (marksN_len 1 n)) (Nat.zero_le _)) (by omega) (by omega) (by omega))
 have SB : Hid (∀ B a c (W W' : World), S1 B W a c → Below W.heap.size W W' → S1 B W' a c) := hideP (fun B a c W W' h1 hb => by rw [hS1] at h1 ⊢; exact ownG_below h1 hb)
 have SB2 : Hid (∀ B a c (W W' : World), S2 B W a c → Below W.heap.size W W' → S2 B W' a c) := hideP (fun B a c W W' h1 hb => by rw [hS2] at h1 ⊢; exact ownG_below h1 hb)
 have SX : Hid (∀ B a c (W : World), S1 B W a c → ∀ b, (Value.slice a n c).ownBlock = some b → B ≤ b ∧ b < W.heap.size) := hideP (fun B a c W h1 b hb => by rw [hS1] at h1; exact h1.lt b hb)
 have SF : Hid (∀ P B a c (W W' : World), S1 B W a c → Frs P W W' → (∀ b, (Value.slice a n c).ownBlock = some b → ¬ P b) → S1 B W' a c) := hideP (fun P B a c W W' h1 hb hP => by rw [hS1] at h1 ⊢; exact ownG_same h1 (fun b hbb => hb.block b (h1.lt b hbb).2 (hP b hbb)))
 have hng : ¬ (s : Int) < 0 := by omega
 have hn2 : n ≤ 20000 := by rw [hn]; exact hRl
 obtain ⟨SM, hSM⟩ : ∃ SM : Prop, SM = SmT x := ⟨_, rfl⟩
 rw [← hSM] at CZ CT CS CI CE CM
 obtain ⟨RN, hRN⟩ : ∃ RN : World → Value → Prop, RN = fun W u => RRowN 0 W u x.rs := ⟨_, rfl⟩
 obtain ⟨RO, hRO⟩ : ∃ RO : Nat → World → Value → Prop, RO = fun lo W u => ROw lo W u x.rs := ⟨_, rfl⟩
 obtain ⟨RP, hRP⟩ : ∃ RP : (Nat → Prop) → World → Value → Prop, RP = fun P W u => RShP P W u x.rs := ⟨_, rfl⟩
 obtain ⟨mk, hmk⟩ := exq (mkK x.rs x.rs.length)
 rw [← hmk] at CZ CM
 have CT2 : Hid (SM → ∀ W, Below w.heap.size w W → Calls Tryz.prog 25 #[tbV x (.slice va vn vc)] W fun e w' => ∃ a n c, e = .returned (tbV x (.slice a n c)) ∧ RO W.heap.size w' (.slice a n c) ∧ Below W.heap.size W w') := by rw [hRO]; exact CT
 have CS2 : Hid (SM → ∀ u W, RN W u → Calls Tryz.prog 35 #[tbV x u] W fun e w' => ∃ a c, e = .returned (.slice a n c) ∧ S1 W.heap.size w' a c ∧ Below W.heap.size W w') := by rw [hRN]; exact CS
 have CI2 : Hid (SM → ∀ u W, RN W u → Calls Tryz.prog 20 #[tbV x u] W fun e w' => ∃ a c, e = .returned (.slice a n c) ∧ S1 W.heap.size w' a c ∧ Below W.heap.size W w') := by rw [hRN]; exact CI
 have CE2 : Hid (SM → ∀ u u' W, RN W u → RN W u' → Calls Tryz.prog 29 #[tbV x u, tbV x u'] W fun e w' => e = .returned (.bool true) ∧ Below W.heap.size W w') := by rw [hRN]; exact CE
 have CM2 : Hid (SM → 1 + mk ≤ 16777216 → ∀ P u W, RP P W u → Calls Tryz.prog 31 #[tbV x u, .int .i64 1] W fun e w' => e = .returned (.int .i64 ((1 + mk : Nat) : Int)) ∧ MkP P W w') := by rw [hRP]; exact CM
 have RB : Hid (∀ lo u W W', RO lo W u → Below W.heap.size W W' → RO lo W' u) := hideP (by rw [hRO]; exact fun lo u W W' h hb => ROw.abv h (Abv.below hb))
 have RR : Hid (∀ lo u W, RO lo W u → RN W u) := hideP (by rw [hRO, hRN]; exact fun lo u W h => (ROw.row h).mono rwNStable (Nat.zero_le _))
 have RT : Hid (∀ P lo u W, (∀ g, lo ≤ g → g < W.heap.size → P g) → RO lo W u → RP P W u) := hideP (by rw [hRO, hRP]; exact fun P lo u W hP h => ROw.shP hP h)
 have RPB : Hid (∀ P u W W', RP P W u → Below W.heap.size W W' → RP P W' u) := hideP (by rw [hRP]; exact fun P u W W' h hb => RShP.mk h (MkP.below hb))
 clear h hf hR CT CS CI CE CM hSM hRN hRO hRP hRl hn hmk hS1 hS2 hs
 obtain ⟨co, gs, gp, gpo, gm, gmo, rs⟩ := x
 simp only [tbV] at CZ CT2 CS2 CI2 CE2 CM2 ⊢
 go_enter Tryz.func7, Tryz.ntmps7
 go_wp2_with fail
 refine (CZ.out _ (below1 _ _)).mono ?_
 rintro e w1 ⟨⟨mz, rfl, hmz⟩, hb1⟩
 have B1 : Hid (Below w.heap.size w w1) := hideP (below_more (below1 _ _) hb1 (by simp))
 have P1 : Hid (w1.heap[w.heap.size]? = some (.cells #[.int .i64 co, .int .i64 gs, .int .i64 gp, .int .i64 gpo, .int .i64 gm, .int .i64 gmo, .slice va vn vc] 64 (0, 0))) := hideP ((hb1.block _ (by simp)).trans (heap_alloc_new w _))
 have HM := hideP hmz
 clear hb1 hmz
 by_cases hneg : mz < 0
 ·go_wp2
  go_ret
  exact ⟨rfl, B1.out⟩
 ·have HS : Hid SM := hideP (HM.out (by omega)).2
  have HMK : Hid (1 + mk ≤ 16777216) := hideP (by have := (HM.out (by omega)).1; omega)
  clear HM CZ
  have QX : Hid (∀ X : World, X.heap[w.heap.size]? = some (.cells #[.int .i64 co, .int .i64 gs, .int .i64 gp, .int .i64 gpo, .int .i64 gm, .int .i64 gmo, .slice va vn vc] 64 (0, 0)) → w.heap.size < X.heap.size ∧ X.cell? ⟨w.heap.size, 0, none⟩ = some (.int .i64 co) ∧ X.cell? ⟨w.heap.size, 1, none⟩ = some (.int .i64 gs) ∧ X.cell? ⟨w.heap.size, 2, none⟩ = some (.int .i64 gp) ∧ X.cell? ⟨w.heap.size, 3, none⟩ = some (.int .i64 gpo) ∧ X.cell? ⟨w.heap.size, 4, none⟩ = some (.int .i64 gm) ∧ X.cell? ⟨w.heap.size, 5, none⟩ = some (.int .i64 gmo) ∧ X.cell? ⟨w.heap.size, 6, none⟩ = some (.slice va vn vc)) := hideP (fun X hX => ⟨(glt hX), cell_of_row _ _ 0 _ 64 _ hX, cell_of_row _ _ 1 _ 64 _ hX, cell_of_row _ _ 2 _ 64 _ hX, cell_of_row _ _ 3 _ 64 _ hX, cell_of_row _ _ 4 _ 64 _ hX, cell_of_row _ _ 5 _ 64 _ hX, cell_of_row _ _ 6 _ 64 _ hX⟩)
  obtain ⟨l1, c0, c1, c2, c3, c4, c5, c6⟩ := QX.out _ P1.out
  go_wp2_with fail
  refine (CT2.out HS.out _ B1.out).mono ?_
  rintro e w2 ⟨a2, n2, d2, rfl, hr2, hb2⟩
  have B2 : Hid (Below w.heap.size w w2) := hideP (below_more B1.out hb2 B1.out.size)
  have P2 := hideP ((hb2.block _ (glt P1.out)).trans P1.out)
  have R2 := hideP hr2
  clear hb2 hr2 l1 c0 c1 c2 c3 c4 c5 c6 P1
  go_wp2_with fail
  refine (CS2.out HS.out _ _ (RR.out _ _ _ R2.out)).mono ?_
  rintro e w3 ⟨a0, d0, rfl, hi3, hb3⟩
  have B3 : Hid (Below w.heap.size w w3) := hideP (below_more B2.out hb3 B2.out.size)
  have P3 := hideP ((hb3.block _ (glt P2.out)).trans P2.out)
  obtain ⟨b0, hb0⟩ := exq (w2.heap.size)
  rw [← hb0] at hi3
  have I3 := hideP hi3
  clear hb3 R2 P2 hi3 hb0 B2
  obtain ⟨l1, c0, c1, c2, c3, c4, c5, c6⟩ := QX.out _ P3.out
  have hwl : w.heap.size < w3.heap.size := l1
  go_wp2_with fail
  refine (CT2.out HS.out _ B3.out).mono ?_
  rintro e w4 ⟨a4, n4, d4, rfl, hr4, hb4⟩
  have B4 : Hid (Below w.heap.size w w4) := hideP (below_more B3.out hb4 B3.out.size)
  have P4 := hideP ((hb4.block _ (glt P3.out)).trans P3.out)
  have I4 := hideP (SB.out _ _ _ _ _ I3.out hb4)
  have R4 := hideP hr4
  obtain ⟨lo, hlo2⟩ := exq (w3.heap.size)
  rw [← hlo2] at R4
  obtain ⟨hi, hhi⟩ := exq (w4.heap.size)
  obtain ⟨PP, hPP⟩ : ∃ PP : Nat → Prop, PP = fun b => lo ≤ b ∧ b < hi := ⟨_, rfl⟩
  have RQ4 : Hid (RP PP w4 (.slice a4 n4 d4)) := hideP (RT.out PP lo _ _ (fun g h1 h2 => by rw [hPP]; exact ⟨by omega, by omega⟩) R4.out)
  have ILO : Hid (∀ b, (Value.slice a0 n d0).ownBlock = some b → ¬ PP b) := hideP (fun b hb => by rw [hPP]; have := (SX.out _ _ _ _ I3.out b hb).2; omega)
  have PLO : Hid (¬ PP w.heap.size) := hideP (by rw [hPP]; omega)
  have PHI : Hid (∀ b, hi ≤ b → ¬ PP b) := hideP (fun b hb => by rw [hPP]; omega)
  have PBE : Hid (∀ b, PP b → w.heap.size ≤ b) := hideP (fun b hb => by rw [hPP] at hb; omega)
  have hhl : hi ≤ w4.heap.size := by omega
  have hwlo : w.heap.size ≤ lo := by omega
  clear hb4 hr4 l1 c0 c1 c2 c3 c4 c5 c6 P3 I3 hlo2 hPP hwl RT B3 hhi
  go_wp2_with fail
  obtain ⟨W4, hW4⟩ := exq (w4.alloc (.cells #[.int .i64 co, .int .i64 gs, .int .i64 gp, .int .i64 gpo, .int .i64 gm, .int .i64 gmo, .slice a4 n4 d4] 44))
  rw [← hW4]
  obtain ⟨p5, hp5⟩ := exq (w4.heap.size)
  rw [← hp5]
  have BW4 : Hid (Below w.heap.size w W4) := hideP (by rw [hW4]; exact B4.out.alloc B4.out.size _)
  have PW4 : Hid (W4.heap[w.heap.size]? = some (.cells #[.int .i64 co, .int .i64 gs, .int .i64 gp, .int .i64 gpo, .int .i64 gm, .int .i64 gmo, .slice va vn vc] 64 (0, 0))) := hideP (by rw [hW4]; exact (Below.heap_alloc _ _ _ (glt P4.out)).trans P4.out)
  have XW4 : Hid (W4.heap[p5]? = some (.cells #[.int .i64 co, .int .i64 gs, .int .i64 gp, .int .i64 gpo, .int .i64 gm, .int .i64 gmo, .slice a4 n4 d4] 44 (0, 0))) := hideP (by rw [hW4, hp5]; exact heap_alloc_new w4 _)
  have RW4 : Hid (RO lo W4 (.slice a4 n4 d4)) := hideP (by rw [hW4]; exact RB.out _ _ _ _ R4.out (below1 _ _))
  have RQW4 : Hid (RP PP W4 (.slice a4 n4 d4)) := hideP (by rw [hW4]; exact RPB.out _ _ _ _ RQ4.out (below1 _ _))
  have IW4 : Hid (S1 b0 W4 a0 d0) := hideP (by rw [hW4]; exact SB.out _ _ _ _ _ I4.out (below1 _ _))
  have hhl4 : hi ≤ W4.heap.size := by rw [hW4]; simp; omega
  clear hW4 hp5 P4 R4 RQ4 B4 I4 hhl
  refine (CI2.out HS.out _ _ (RR.out _ _ _ RW4.out)).mono ?_
  rintro e w5 ⟨a6, d6, rfl, ho5, hb5⟩
  have B5 : Hid (Below w.heap.size w w5) := hideP (below_more BW4.out hb5 BW4.out.size)
  have P5 := hideP ((hb5.block _ (glt PW4.out)).trans PW4.out)
  have X5 := hideP ((hb5.block _ (glt XW4.out)).trans XW4.out)
  have R5 := hideP (RB.out _ _ _ _ RW4.out hb5)
  have RQ5 := hideP (RPB.out _ _ _ _ RQW4.out hb5)
  have I5 := hideP (SB.out _ _ _ _ _ IW4.out hb5)
  have hg5 : W4.heap.size ≤ w5.heap.size := hb5.size
  have hs6 : w.heap.size < W4.heap.size := (glt PW4.out)
  have ILT : Hid (∀ b, (Value.slice a0 n d0).ownBlock = some b → b < W4.heap.size) := hideP (fun b hb => (SX.out _ _ _ _ IW4.out b hb).2)
  have IBL : Hid (∀ W W', S1 b0 W a0 d0 → Below W4.heap.size W W' → S1 b0 W' a0 d0) := hideP (fun W W' h1 h2 => SF.out (fun b => W4.heap.size ≤ b) _ _ _ _ _ h1 ⟨h2.os, h2.tape, h2.output, h2.size, fun b _ hb => h2.block b (by omega)⟩ (fun b hb => by have := ILT.out b hb; omega))
  obtain ⟨b6, hb6e⟩ := exq (W4.heap.size)
  rw [← hb6e] at ho5 hg5 hs6 IBL hhl4
  have O5 := hideP ho5
  clear hb5 BW4 PW4 XW4 RW4 RQW4 IW4 ho5 hb6e ILT
  go_wp2_with fail
  refine (CQ.out _ _ _ _ _ _ _ O5.out I5.out).mono ?_
  rintro e w6 ⟨rfl, hb6⟩
  have B6 : Hid (Below w.heap.size w w6) := hideP (below_more B5.out hb6 B5.out.size)
  have P6 := hideP ((hb6.block _ (glt P5.out)).trans P5.out)
  have X6 := hideP ((hb6.block _ (glt X5.out)).trans X5.out)
  have R6 := hideP (RB.out _ _ _ _ R5.out hb6)
  have RQ6 := hideP (RPB.out _ _ _ _ RQ5.out hb6)
  have I6 := hideP (SB.out _ _ _ _ _ I5.out hb6)
  have O6 := hideP (SB.out _ _ _ _ _ O5.out hb6)
  have hg6 : b6 ≤ w6.heap.size := Nat.le_trans hg5 hb6.size
  clear hb6 B5 P5 X5 R5 RQ5 I5 O5 hg5
  have Q : Hid (∀ x : World, Below w6.heap.size w6 x → (x.cell? ⟨w.heap.size, 0, none⟩ = some (.int .i64 co) ∧ x.cell? ⟨w.heap.size, 1, none⟩ = some (.int .i64 gs) ∧ x.cell? ⟨w.heap.size, 2, none⟩ = some (.int .i64 gp) ∧ x.cell? ⟨w.heap.size, 3, none⟩ = some (.int .i64 gpo) ∧ x.cell? ⟨w.heap.size, 4, none⟩ = some (.int .i64 gm) ∧ x.cell? ⟨w.heap.size, 5, none⟩ = some (.int .i64 gmo) ∧ x.cell? ⟨w.heap.size, 6, none⟩ = some (.slice va vn vc)) ∧ x.cell? ⟨p5, 0, none⟩ = some (.int .i64 co) ∧ x.cell? ⟨p5, 1, none⟩ = some (.int .i64 gs) ∧ x.cell? ⟨p5, 2, none⟩ = some (.int .i64 gp) ∧ x.cell? ⟨p5, 3, none⟩ = some (.int .i64 gpo) ∧ x.cell? ⟨p5, 4, none⟩ = some (.int .i64 gm) ∧ x.cell? ⟨p5, 5, none⟩ = some (.int .i64 gmo) ∧ x.cell? ⟨p5, 6, none⟩ = some (.slice a4 n4 d4)) := hideP (fun x hx => by
   have h1 := (hx.block _ (glt P6.out)).trans P6.out
   have h2 := (hx.block _ (glt X6.out)).trans X6.out
   exact ⟨(QX.out _ h1).2, cell_of_row _ _ 0 _ 44 _ h2, cell_of_row _ _ 1 _ 44 _ h2, cell_of_row _ _ 2 _ 44 _ h2, cell_of_row _ _ 3 _ 44 _ h2, cell_of_row _ _ 4 _ 44 _ h2, cell_of_row _ _ 5 _ 44 _ h2, cell_of_row _ _ 6 _ 44 _ h2⟩)
  have BD : Hid (Below w6.heap.size w6 w6.drew) := hideP ((Below.refl _ _).drew)
  go_wp2_with fail
  go_region_held3 (fun x => (x.cell? ⟨w.heap.size, 0, none⟩ = some (.int .i64 co) ∧ x.cell? ⟨w.heap.size, 1, none⟩ = some (.int .i64 gs) ∧ x.cell? ⟨w.heap.size, 2, none⟩ = some (.int .i64 gp) ∧ x.cell? ⟨w.heap.size, 3, none⟩ = some (.int .i64 gpo) ∧ x.cell? ⟨w.heap.size, 4, none⟩ = some (.int .i64 gm) ∧ x.cell? ⟨w.heap.size, 5, none⟩ = some (.int .i64 gmo) ∧ x.cell? ⟨w.heap.size, 6, none⟩ = some (.slice va vn vc)) ∧ x.cell? ⟨p5, 0, none⟩ = some (.int .i64 co) ∧ x.cell? ⟨p5, 1, none⟩ = some (.int .i64 gs) ∧ x.cell? ⟨p5, 2, none⟩ = some (.int .i64 gp) ∧ x.cell? ⟨p5, 3, none⟩ = some (.int .i64 gpo) ∧ x.cell? ⟨p5, 4, none⟩ = some (.int .i64 gm) ∧ x.cell? ⟨p5, 5, none⟩ = some (.int .i64 gmo) ∧ x.cell? ⟨p5, 6, none⟩ = some (.slice a4 n4 d4)) (first | exact Q.out _ BD.out | exact Q.out _ ‹Hid (Below w6.heap.size w6 _)›) (first | (go_at_call 25; refine (CT2.out HS.out _ (below_more B6.out BD.out B6.out.size)).mono ?_; rintro e w7 ⟨a7, n7, d7, rfl, hr7, hb7⟩; have B67 : Hid (Below w6.heap.size w6 w7) := hideP (below_more BD.out hb7 BD.out.size); have R7 := hideP (RR.out _ _ _ hr7); clear hb7 hr7) | (go_at_call 29; refine (CE2.out HS.out _ _ _ (RR.out _ _ _ (RB.out _ _ _ _ R6.out B67.out)) R7.out).mono ?_; rintro e w8 ⟨rfl, hb8⟩; have B8 : Hid (Below w6.heap.size w6 w8) := hideP (below_more B67.out hb8 B67.out.size); clear hb8))
  all_goals
   have B08 : Hid (Below w.heap.size w w8) := hideP (below_more B6.out B8.out B6.out.size)
   have P8 := hideP ((B8.out.block _ (glt P6.out)).trans P6.out)
   have X8 := hideP ((B8.out.block _ (glt X6.out)).trans X6.out)
   have RQ8 := hideP (RPB.out _ _ _ _ RQ6.out B8.out)
   have I8 := hideP (SB.out _ _ _ _ _ I6.out B8.out)
   have O8 := hideP (SB.out _ _ _ _ _ O6.out B8.out)
   have hg8 : b6 ≤ w8.heap.size := Nat.le_trans hg6 B8.out.size
   clear B6 P6 X6 R6 RQ6 I6 O6 Q BD B8 hg6
   have z0 : w8.cell? ⟨p5, 0, none⟩ = some (.int .i64 co) := cell_of_row _ _ 0 _ 44 _ X8.out
   have z1 : w8.cell? ⟨p5, 1, none⟩ = some (.int .i64 gs) := cell_of_row _ _ 1 _ 44 _ X8.out
   have z2 : w8.cell? ⟨p5, 2, none⟩ = some (.int .i64 gp) := cell_of_row _ _ 2 _ 44 _ X8.out
   have z3 : w8.cell? ⟨p5, 3, none⟩ = some (.int .i64 gpo) := cell_of_row _ _ 3 _ 44 _ X8.out
   have z4 : w8.cell? ⟨p5, 4, none⟩ = some (.int .i64 gm) := cell_of_row _ _ 4 _ 44 _ X8.out
   have z5 : w8.cell? ⟨p5, 5, none⟩ = some (.int .i64 gmo) := cell_of_row _ _ 5 _ 44 _ X8.out
   have z6 : w8.cell? ⟨p5, 6, none⟩ = some (.slice a4 n4 d4) := cell_of_row _ _ 6 _ 44 _ X8.out
   have hp8 : p5 < w8.heap.size := (glt X8.out)
   go_wp2_with fail
   refine (CM2.out HS.out HMK.out _ _ _ RQ8.out).mono ?_
   rintro e w9 ⟨rfl, hm9⟩
   have F9 := hideP hm9.bel
   have B9 : Hid (Below w.heap.size w w9) := hideP (Frs.toBelow B08.out hm9.bel PBE.out B08.out.size)
   have P9 := hideP ((hm9.bel.block _ (glt P8.out) PLO.out).trans P8.out)
   have I9 := hideP (SF.out _ _ _ _ _ _ I8.out hm9.bel ILO.out)
   have O9 := hideP (SF.out _ _ _ _ _ _ O8.out hm9.bel (fun b hb => PHI.out b (by have := (SX.out _ _ _ _ O8.out b hb).1; omega)))
   have hg9 : b6 ≤ w9.heap.size := Nat.le_trans hg8 hm9.bel.size
   obtain ⟨s9, hs9⟩ := exq (1 + mk)
   rw [← hs9]
   have hneg9 : ¬ (s9 : Int) < 0 := by omega
   have hdec9 : decide ((s9 : Int) < 0) = false := decide_eq_false hneg9
   clear hm9 z0 z1 z2 z3 z4 z5 z6 hp8 X8 RQ8 P8 I8 O8 B08 hs9 hg8 F9
   go_wp2_with fail
   refine (CQ.out _ _ _ _ _ _ _ O9.out I9.out).mono ?_
   rintro e w10 ⟨rfl, hb10⟩
   have B10 : Hid (Below w.heap.size w w10) := hideP (below_more B9.out hb10 B9.out.size)
   have P10 := hideP ((hb10.block _ (glt P9.out)).trans P9.out)
   have I10 := hideP (SB.out _ _ _ _ _ I9.out hb10)
   have O10 := hideP (SB.out _ _ _ _ _ O9.out hb10)
   have hg10 : b6 ≤ w10.heap.size := Nat.le_trans hg9 hb10.size
   clear hb10 B9 P9 I9 O9 hg9
   go_wp2_with fail
   refine (CMI.out _ _ _ _ O10.out hg10).mono ?_
   rintro e w11 ⟨rfl, ho11, hbg⟩
   have B11 : Hid (Below w.heap.size w w11) := hideP (B10.out.trans (hbg.mono (Nat.le_of_lt hs6)))
   have P11 := hideP ((hbg.block _ hs6).trans P10.out)
   have I11 := hideP (IBL.out _ _ I10.out hbg)
   have O11 := hideP ho11
   clear ho11 hbg B10 P10 I10 O10 hg10
   go_wp2_with fail
   refine (CH.out _ _ _ _ O11.out).mono ?_
   rintro e w12 ⟨rfl, hb12⟩
   have B12 : Hid (Below w.heap.size w w12) := hideP (below_more B11.out hb12 B11.out.size)
   have P12 := hideP ((hb12.block _ (glt P11.out)).trans P11.out)
   have I12 := hideP (SB.out _ _ _ _ _ I11.out hb12)
   have O12 := hideP (SB2.out _ _ _ _ _ O11.out hb12)
   clear hb12 B11 P11 I11 O11
   obtain ⟨l1, c0, c1, c2, c3, c4, c5, c6⟩ := QX.out _ P12.out
   go_wp2_with fail
   refine (CT2.out HS.out _ B12.out).mono ?_
   rintro e w13 ⟨a13, n13, d13, rfl, hr13, hb13⟩
   have B13 : Hid (Below w.heap.size w w13) := hideP (below_more B12.out hb13 B12.out.size)
   have I13 := hideP (SB.out _ _ _ _ _ I12.out hb13)
   have O13 := hideP (SB2.out _ _ _ _ _ O12.out hb13)
   have R13 := hideP hr13
   clear hb13 hr13 l1 c0 c1 c2 c3 c4 c5 c6 P12 B12 I12 O12
   go_wp2_with fail
   refine (CI2.out HS.out _ _ (RR.out _ _ _ R13.out)).mono ?_
   rintro e w14 ⟨a14, d14, rfl, ho14, hb14⟩
   have B14 : Hid (Below w.heap.size w w14) := hideP (below_more B13.out hb14 B13.out.size)
   have I14 := hideP (SB.out _ _ _ _ _ I13.out hb14)
   have O14 := hideP (SB2.out _ _ _ _ _ O13.out hb14)
   have N14 := hideP ho14
   clear hb14 ho14 B13 I13 O13 R13
   go_wp2_with fail
   refine (CQ.out _ _ _ _ _ _ _ N14.out I14.out).mono ?_
   rintro e w15 ⟨rfl, hb15⟩
   have B15 : Hid (Below w.heap.size w w15) := hideP (below_more B14.out hb15 B14.out.size)
   have O15 := hideP (SB2.out _ _ _ _ _ O14.out hb15)
   clear hb15 B14 I14 O14 N14
   go_wp2_with fail
   refine (CH.out _ _ _ _ O15.out).mono ?_
   rintro e w16 ⟨rfl, hb16⟩
   have B16 : Hid (Below w.heap.size w w16) := hideP (below_more B15.out hb16 B15.out.size)
   clear hb16
   go_wp2
   go_ret
   exact ⟨rfl, B16.out⟩
end Go.Proofs.YtojoehdmjkgnnaaGreat
namespace Go.Proofs.YtojoehdmjkgnnaaGreat
open Go.ChangeShapes Go.WideShapes Go.ChangeAt Go.RowKit Go.Joins
set_option linter.unusedVariables false
set_option linter.unusedSimpArgs false
set_option maxRecDepth 100000 in
theorem setTable_lifted (os : Os) (started : os.Started) (H : Type) (enc : TypeId × Value → H) :
 ReturnsInHanded {} Tryz.checked os 7 .any (Rows.fnExactSetTableSpec.pre6 enc Tryz.prog Tryz.f7 Rows.fnExactSetTableRow.domain false) (Rows.fnExactSetTableSpec.post enc Tryz.prog Tryz.f7 false true false false) := by
 refine returnsInHanded_of_change (C := Tryz.checked) ownT started (by kernel_rfl) Tryz.func7
  (ChangeSpec.witness6 (enc := enc) (C := Tryz.checked) false ⟨#[], #[.agg #[.int .i64 0, .int .i64 0, .int .i64 0, .int .i64 0, .int .i64 0, .int .i64 0, .slice none 0 0]], []⟩ 8 (by kernel_rfl) (by kernel_rfl) (by kernel_rfl) (by kernel_rfl)) ?_
 intro W base args ds gs before hval0 hW hcnd _
 have hval : ∀ (j : Nat) t v, Tryz.f7.params[j]? = some t → args[j]? = some v → Value.okWide Tryz.prog W .any base t v := hval0
 have hW' := hW
 obtain ⟨p, q, hA0, hV, rfl, hfz, hnd⟩ := hW
 have hA : DataW.TrodAll enc Tryz.prog W 0 (fun _ => true) true Tryz.f7.params.toList args.toList ds p := hA0
 rw [Tryz.params7] at hA hval
 obtain ⟨v0, vs0, d0, ds0, p0, q0, hargs, rfl, rfl, h0, r0⟩ := trodAll_cons hA
 obtain ⟨rfl, rfl, rfl⟩ := trodAll_nil r0
 obtain rfl : args = #[v0] := by cases args; simp_all
 obtain ⟨rfl, rfl⟩ := trodVars_none hV
 have k0 := h0
 have lt0 : ∀ x ∈ p0, x.block < W.heap.size := by obtain ⟨m, hm⟩ := k0; exact DataW.trod_lt m _ _ _ hm
 obtain ⟨t, u, rfl, hr, hF⟩ := openTable (hval 0 64 v0 rfl rfl) h0
 clear hA0 hval0
 refine (lawSetTable_any t hr hF).mono fun e W' ⟨he, bel⟩ => ?_
 subst he
 exact ⟨_, rfl, _, _, _, [], _, [], hW', trodAll_mk1 (shut_bool Tryz.underlying4 _), (trodAll_cons_mk (Below.trod laidOut (by kernel_rfl) (of_decide_eq_true (by kernel_rfl)) k0 bel lt0) trodAll_mk0), rfl, bel.frame _, fun h => by cases h⟩
theorem setTable_holds : Rows.FnExactSetTableSaid :=
 OpenClaim.holds_of_wide 7 Tryz.f7 rfl rfl rfl rfl rfl rfl rfl ⟨rfl, rfl, rfl, rfl, rfl⟩ rfl rfl rfl rfl rfl (by kernel_rfl) Tryz.func7 (by kernel_rfl)
  (of_decide_eq_true (by kernel_rfl)) (by unfold Func.isWrapper; first | (rw [if_pos (by decide +kernel)]; kernel_rfl) | (rw [if_neg (by decide +kernel)]; exact ⟨rfl, rfl⟩))
  (fun os started H enc _ => setTable_lifted os started H enc)
#print axioms setTable_holds
end Go.Proofs.YtojoehdmjkgnnaaGreat
