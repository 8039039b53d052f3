import Derived.Test.YtojoehdmjkgnnaaGreatSsr
import Derived.Test.YtojoehdmjkgnnaaGreatTrs
import Derived.Test.YtojoehdmjkgnnaaGreatSpo
import Derived.Test.YtojoehdmjkgnnaaGreatSra
import Derived.Test.YtojoehdmjkgnnaaGreatSsx
namespace Go.Proofs.YtojoehdmjkgnnaaGreat
open Go.RowKit
set_option linter.unusedVariables false
set_option linter.unusedSimpArgs false
theorem IntsAt.of_own {w : World} {base g n : Nat} {xs : List Value} {f : Nat → Int} (h : w.ownsRow base 2 1 (.slice (some ⟨g, 0, none⟩) n n) n xs) (hx : ∀ i, i < n → xs[i]? = some (.int .i64 (f i))) : IntsAt w g n f := by
 rcases h.2 with ⟨e, _⟩ | ⟨g', cap, cur, e, _, hh, _, _, hs, ht⟩
 ·simp at e
 ·simp at e
  obtain ⟨rfl, rfl⟩ := e
  refine ⟨cur, hh, by omega, fun i hi => ?_⟩
  have h1 := hx i hi
  rw [← ht, List.getElem?_take, if_pos (by omega)] at h1
  simpa using h1
theorem Tryz.info2w : (Tryz.prog.info? 2).map (fun i => (i.zero, i.size, i.bytes)) = some (some (.int .i64 0), 1, 8) := by kernel_rfl
def WidP (x : Tb) (b : Bool) (e : Ending) (w w' : World) : Prop := match b with
 | true => ∃ g, e = .returned (.slice (some ⟨g, 0, none⟩) x.co.toNat x.co.toNat) ∧ w.heap.size ≤ g ∧ IntsAt w' g x.co.toNat (colsStep x.gs x.rs x.co.toNat)
 | false => ∃ g, e = .returned (.slice (some ⟨g, 0, none⟩) 0 0) ∧ w.heap.size ≤ g ∧ w'.heap[g]? = some (Obj.cells #[] 2 (0, 0))
set_option maxRecDepth 20000 in
set_option maxHeartbeats 16000000 in
theorem specWidths_any (x : Tb) {v : Value} {w : World} (h : RRowN 0 w v x.rs) (hs : SmT x) :
 Calls Tryz.prog 70 #[tbV x v] w fun e w' => WidP x (tabB x && colsOk x.gs x.rs x.co.toNat) e w w' ∧ Below w.heap.size w w' := by
 have hTP : tabB x = true → 1 ≤ x.co ∧ x.co ≤ 20 ∧ (-1073741823 ≤ x.gs ∧ x.gs ≤ 1073741823) ∧ x.rs.length ≤ 200 ∧ ∀ i, i < x.rs.length → RowIn (x.rs.getD i Rw.none).cs x.co := by
  intro h
  unfold tabB headB glB at h
  simp only [Bool.and_eq_true, decide_eq_true_eq] at h
  obtain ⟨⟨⟨⟨h1, h2⟩, ⟨⟨⟨⟨h3, _⟩, _⟩, _⟩, _⟩⟩, h4⟩, h5⟩ := h
  unfold fitsB at h3
  simp only [decide_eq_true_eq] at h3
  exact ⟨h1, h2, h3, h4, fun i hi => rowB_in (rowsB_at h5 i hi) h1⟩
 have HC : Hid (∀ W, Below w.heap.size w W → Calls Tryz.prog 60 #[tbV x v] W fun e w' => e = .returned (.bool (tabB x)) ∧ Below W.heap.size W w') := hideP (fun W hW => specTableOk_any x (h.below rwNStable hW) hs)
 obtain ⟨ua, n, uc, rfl, hn, hr⟩ := h
 have HR : Hid (0 < n → ∃ b off, ua = some ⟨b, off, none⟩ ∧ 0 ≤ b ∧ b < w.heap.size ∧ ∀ i, i < n → ∃ cs : List Value, cs.length = 2 ∧ RwN 0 w cs (x.rs.getD i Rw.none) ∧ ∀ j, j < 2 → w.cell? ⟨b, off + i * 2 + j, none⟩ = cs[j]?) := hr
 have HS : Hid (∀ i, i < n → SmW (x.rs.getD i Rw.none)) := hideP (by rw [← hn]; exact hs.2)
 have HN : Hid (x.rs.length = n) := hideP hn
 clear hr hs hn
 obtain ⟨i0, hi, hz0, hz1, hz2⟩ := info_parts Tryz.info2w
 have HI : Hid (i0.bytes = 8) := hz2
 obtain ⟨T, hT⟩ := exq (tabB x)
 rw [← hT] at HC hTP ⊢
 clear hT
 obtain ⟨co, gs, gp, gpo, gm, gmo, rs⟩ := x
 dsimp only at hTP HR HS HN ⊢
 simp only [tbV] at HC ⊢
 cases T with
 | false =>
  have HP : Hid (∀ e w', (∃ g, e = Ending.returned (.slice (some ⟨g, 0, none⟩) 0 0) ∧ w.heap.size ≤ g ∧ w'.heap[g]? = some (Obj.cells #[] 2 (0, 0))) → WidP ⟨co, gs, gp, gpo, gm, gmo, rs⟩ (false && colsOk gs rs co.toNat) e w w') := hideP (fun e w' h => h)
  go_enter Tryz.func70, Tryz.ntmps70
  go_wp2_with fail
  refine (HC.out _ (below1 _ _)).mono ?_
  rintro e w1 ⟨rfl, hb1⟩
  have B1 : Hid (Below w.heap.size w w1) := hideP (below_more (below1 _ _) hb1 (by simp))
  clear hb1
  go_wp2
  go_ret
  exact ⟨HP.out _ _ ⟨_, rfl, B1.out.size, heap_alloc_new w1 _⟩, B1.out.alloc B1.out.size _⟩
 | true =>
  obtain ⟨hc1, hc2, hg, hlen, hin⟩ := hTP (by first | rfl | trivial)
  obtain ⟨cols, hcols⟩ : ∃ cols : Nat, (cols : Int) = co := ⟨co.toNat, by omega⟩
  subst hcols
  rw [show (cols : Int).toNat = cols by omega]
  rw [HN.out] at hlen hin
  have HIN := hideP hin
  have HG := hideP hg
  have HBD : Hid (∀ k, k ≤ 20 → Bd (colsStep gs rs k)) := hideP (colsStep_bd hg (by rw [HN.out]; exact hin) hc2)
  have HPY : Hid (∀ g w', colsOk gs rs cols = true → w.heap.size ≤ g → IntsAt w' g cols (colsStep gs rs cols) → WidP ⟨(cols : Int), gs, gp, gpo, gm, gmo, rs⟩ (true && colsOk gs rs cols) (.returned (.slice (some ⟨g, 0, none⟩) cols cols)) w w') := hideP (fun g w' h1 h2 h3 => by rw [h1]; exact ⟨g, rfl, h2, h3⟩)
  have HPN : Hid (∀ g w', colsOk gs rs cols = false → w.heap.size ≤ g → w'.heap[g]? = some (Obj.cells #[] 2 (0, 0)) → WidP ⟨(cols : Int), gs, gp, gpo, gm, gmo, rs⟩ (true && colsOk gs rs cols) (.returned (.slice (some ⟨g, 0, none⟩) 0 0)) w w') := hideP (fun g w' h1 h2 h3 => by rw [h1]; exact ⟨g, rfl, h2, h3⟩)
  have hc3 : cols ≤ 20 := by omega
  have hc4 : 1 ≤ cols := by omega
  clear hin hg hTP hc1 hc2
  go_enter Tryz.func70, Tryz.ntmps70
  go_wp2_with fail
  refine (HC.out _ (below1 _ _)).mono ?_
  rintro e w1 ⟨rfl, hb1⟩
  have BT1 : Hid (Below (w.heap.size + 1) (w.alloc (tbO ⟨(cols : Int), gs, gp, gpo, gm, gmo, rs⟩ (.slice ua n uc))) w1) := hideP (hb1.mono (by simp))
  have QT : Hid (∀ x, Below (w.heap.size + 1) (w.alloc (tbO ⟨(cols : Int), gs, gp, gpo, gm, gmo, rs⟩ (.slice ua n uc))) x → x.cell? ⟨w.heap.size, 0, none⟩ = some (.int .i64 (cols : Int)) ∧ x.cell? ⟨w.heap.size, 1, none⟩ = some (.int .i64 gs) ∧ x.cell? ⟨w.heap.size, 6, none⟩ = some (.slice ua n uc) ∧ w.heap.size < x.heap.size ∧ Below w.heap.size w x) := hideP (fun x hx => ⟨(hx.cell (p := ⟨w.heap.size, 0, none⟩) (by simp)).trans (by simp), (hx.cell (p := ⟨w.heap.size, 1, none⟩) (by simp)).trans (by simp), (hx.cell (p := ⟨w.heap.size, 6, none⟩) (by simp)).trans (by simp), (by have := hx.size; simp at this; omega), (below1 w _).trans (hx.mono (by omega))⟩)
  obtain ⟨t0, _, _, hws1, _⟩ := QT.out _ BT1.out
  clear hb1
  go_wp2_with (at_make; refine wpList_make_full _ rfl _ _ 46 rfl w1.heap.size 2 i0 (.int .i64 0) 1 Tryz.underlying46 hi hz0 hz1 _ _ _ _ cols rfl rfl (by omega) (by omega) (by rw [HI.out]; omega) (by unfold maxLen; omega) (Nat.le_refl _) ?_)
  intro w2 hown2 hgrow2
  obtain ⟨g, hgg⟩ := exq (w1.heap.size)
  rw [← hgg] at hown2 ⊢
  have A2 : Hid (IntsAt w2 g cols (fun _ => 0)) := hideP (IntsAt.of_own hown2 (fun i hi => by
   have e : (madeCells #[Value.int .i64 0] cols).toList = List.replicate cols (Value.int .i64 0) := toList_madeCells_one (.int .i64 0) cols
   rw [e, List.getElem?_replicate, if_pos hi]))
  have BT2 : Hid (Below (w.heap.size + 1) (w.alloc (tbO ⟨(cols : Int), gs, gp, gpo, gm, gmo, rs⟩ (.slice ua n uc))) w2) := hideP (Below.grown BT1.out hgrow2 (by omega) (by simp))
  have hgw : w.heap.size + 1 ≤ g := by omega
  clear hown2 hgrow2 hgg t0 BT1 HC hws1
  go_wp2_with fail
  go_loopw [4, 5, 6, 7] (fun s _ _ _ wr => ∃ k : Nat, k ≤ cols ∧ s = .int .i64 k ∧ Hid (colsOk gs rs k = true ∧ IntsAt wr g cols (colsStep gs rs k)) ∧ Below (w.heap.size + 1) (w.alloc (tbO ⟨(cols : Int), gs, gp, gpo, gm, gmo, rs⟩ (.slice ua n uc))) wr) (fun s _ _ _ _ => cols - (intOf s).toNat)
  case atStart => exact ⟨0, by omega, rfl, hideP ⟨rfl, A2.out⟩, BT2.out⟩
  case round =>
   obtain ⟨k, hk, rfl, HK, hbel⟩ := hrel
   obtain ⟨wo, rfl⟩ : ∃ wo : World, wo = wr := ⟨_, rfl⟩
   have BO := hideP hbel
   obtain ⟨t0, t1, t6, hws, _⟩ := QT.out _ hbel
   clear hbel A2 BT2
   by_cases hkc : k < cols
   ·have hki : (k : Int) < (cols : Int) := by omega
    go_wp2_with fail
    go_loopw [5, 6, 7] (fun s _ _ wr => ∃ i : Nat, i ≤ n ∧ s = .int .i64 i ∧ Hid (IntsAt wr g cols (rowsStep gs k rs (colsStep gs rs k) i)) ∧ Below (w.heap.size + 1) (w.alloc (tbO ⟨(cols : Int), gs, gp, gpo, gm, gmo, rs⟩ (.slice ua n uc))) wr) (fun s _ _ _ => n - (intOf s).toNat)
    case atStart => exact ⟨0, by omega, rfl, hideP HK.out.2, BO.out⟩
    case round =>
     obtain ⟨i, hi2, rfl, HII, hbel⟩ := hrel
     obtain ⟨wp, rfl⟩ : ∃ wp : World, wp = wr := ⟨_, rfl⟩
     have BP := hideP hbel
     clear t0 t1 t6 hws
     obtain ⟨t0, t1, t6, hws, _⟩ := QT.out _ hbel
     clear hbel
     by_cases hin : i < n
     ·have hii : (i : Int) < (n : Int) := by omega
      obtain ⟨b, off, rfl, _, hb, hrow⟩ := HR.out (by omega)
      obtain ⟨rc, _, ⟨rv, hrc, hrv⟩, hrj⟩ := hrow i hin
      rw [hrc] at hrj
      have hsw := HS.out i hin
      have hri := HIN.out i hin
      obtain ⟨cs, hcs⟩ := exq ((rs.getD i Rw.none).cs)
      have HST : Hid (rowsStep gs k rs (colsStep gs rs k) (i + 1) = laneStep gs k cs (rowsStep gs k rs (colsStep gs rs k) i) cs.length) := hideP (by rw [hcs]; rfl)
      have HSM : Hid (∀ j, j < cs.length → SmC (cs.getD j Cl.none)) := hideP (by rw [hcs]; exact hsw.2)
      rw [← hcs] at hri hrv
      obtain ⟨va, m, vc, rfl, hm, hcells⟩ := hrv
      have HRI := hideP hri
      have HCS := hideP hcells
      have HFB : Hid (Bd (rowsStep gs k rs (colsStep gs rs k) i)) := hideP (rowsStep_bd (HBD.out k (by omega)) HG.out (fun i hi => HIN.out i (by rw [← HN.out]; exact hi)) (by omega) (by omega) i (by rw [HN.out]; omega))
      obtain ⟨f0, hf0⟩ := exq (rowsStep gs k rs (colsStep gs rs k) i)
      rw [← hf0] at HII HST HFB
      rw [hm] at HST HSM
      have HM := hideP hm
      have QR : Hid (∀ x, Below w.heap.size w x → x.cell? ⟨b, off + i * 2, none⟩ = some (.slice va m vc)) := hideP (fun x hx => (hx.cell (p := ⟨b, off + i * 2, none⟩) hb).trans (hrj 0 (by omega)))
      have hcl : m ≤ 20 := by have h1 := spK_bound (show (cols : Int) ≤ 20 by omega) HRI.out.1; have h2 := HRI.out.2; rw [hm] at h1 h2; omega
      clear hrow hrj hrc hcells hri hcs hf0 hm hsw
      go_wp2_with fail
      go_loopw [6, 7] (fun s6 s7 wr => ∃ (j a : Nat), j ≤ m ∧ s6 = .int .i64 a ∧ s7 = .int .i64 j ∧ Hid ((a : Int) = spK cs j ∧ IntsAt wr g cols (laneStep gs k cs f0 j)) ∧ Below (w.heap.size + 1) (w.alloc (tbO ⟨(cols : Int), gs, gp, gpo, gm, gmo, rs⟩ (.slice (some ⟨b, off, none⟩) n uc))) wr) (fun _ s _ => m - (intOf s).toNat)
      case atStart => exact ⟨0, 0, by omega, rfl, rfl, hideP ⟨rfl, HII.out⟩, BP.out⟩
      case round =>
       obtain ⟨j, a, hj, rfl, rfl, HJ, hbel⟩ := hrel
       have BR := hideP hbel
       clear t0 t1 t6 hws
       obtain ⟨t0, t1, t6, hws, hbw⟩ := QT.out _ hbel
       have r0 := QR.out _ hbw
       have hbr : b < wr.heap.size := Nat.lt_of_lt_of_le hb hbw.size
       have HBW := hideP hbw
       clear hbel hbw HII BP BO
       by_cases hjm : j < m
       ·have hji : (j : Int) < (m : Int) := by omega
        obtain ⟨b2, off2, rfl, _, hb2, hcell⟩ := HCS.out (by omega)
        obtain ⟨cc, _, ⟨nv, hcc, hnv, hnN⟩, hcj⟩ := hcell j hjm
        rw [hcc] at hcj
        have hat := HRI.out.at (show (cols : Int) ≤ 20 by omega) (j := j) (by rw [HM.out]; omega)
        have hsm := HSM.out j hjm
        obtain ⟨t, ht⟩ := exq (cs.getD j Cl.none)
        rw [← ht] at hnv hnN hcj hat hsm
        have HT : Hid (t = cs.getD j Cl.none) := ht
        obtain ⟨na, nn, nc, rfl⟩ : ∃ a n c, nv = .slice a n c := by obtain ⟨a, c, rfl⟩ := hnv.shape; exact ⟨_, _, _, rfl⟩
        obtain ⟨nat, hnat⟩ := exq (natW t.ns)
        have HC10 : Hid (∀ X : World, Below w.heap.size w X → Calls Tryz.prog 104 #[.slice na nn nc, .int .i64 0, .int .i64 0] X fun e w' => ∃ gH hc hs nH, e = .returned (packV (.slice (some ⟨gH, 0, none⟩) nH hc) hs) ∧ 0 < nH ∧ gH < w'.heap.size ∧ w'.cell? ⟨gH, 1, none⟩ = some (.int .i64 nat) ∧ Below X.heap.size X w') := hideP (fun X hX => by
         refine (specHN 0 0 (hnv.below ndStable hX) (hnN.abv ⟨hX.size, fun k _ hk => hX.block k hk⟩) hsm.1).mono ?_
         rintro e w' ⟨u, rfl, ho, hb⟩
         obtain ⟨a, c, rfl⟩ := ownG_shape ho
         have hok := hat.2.2.2.2.2
         have hp : 0 < (hpR t.ns 0 0).length := by
          have h1 := @hpR_none t.ns
          rw [hok] at h1
          have h2 : ¬ (hpR t.ns 0 0).length = 0 := fun e => by have := h1.1 e; cases this
          omega
         obtain ⟨tl, htl⟩ := hpR_head hok
         rcases ho.2 with ⟨e, _⟩ | ⟨g, cap, cur, e, _, hh, _⟩
         ·simp at e; omega
         ·simp at e
          obtain ⟨rfl, rfl⟩ := e
          refine ⟨g, _, _, _, rfl, hp, (glt hh), ?_, hb⟩
          refine (own_cell ho (j := 1) ?_).1
          rw [htl, hnat]
          rfl)
        have HFJ : Hid (Bd (laneStep gs k cs f0 j)) := hideP (laneStep_bd HFB.out HG.out HRI.out (by omega) (by omega) j (by rw [HM.out]; omega))
        obtain ⟨f1, hf1⟩ := exq (laneStep gs k cs f0 j)
        have HS1 : Hid (laneStep gs k cs f0 (j + 1) = cellStep gs k cs f1 j) := hideP (by rw [hf1]; rfl)
        rw [← hf1] at HJ HFJ
        have hnb : -1073741823 ≤ nat ∧ nat ≤ 1073741823 := by rw [hnat]; exact ⟨hat.2.2.2.1, hat.2.2.2.2.1⟩
        have hsuc : spK cs (j + 1) = spK cs j + t.sp := by rw [spK_succ, ← ht]
        have hat1 : 1 ≤ t.sp := by have := hat.2.1; omega
        have hat2 : (a : Int) + t.sp ≤ cols := by have := hat.2.2.1; have := HJ.out.1; omega
        have HAT : Hid ((a : Int) = spK cs j) := hideP HJ.out.1
        have HSY0 : Hid ((a : Int) + t.sp - 1 = (k : Int) → laneStep gs k cs f0 (j + 1) = upd f1 k (f1 k + max (nat - acr f1 gs a k) 0)) := hideP (fun e => by
         rw [HS1.out]
         unfold cellStep
         rw [if_pos (by rw [hsuc, ← HAT.out]; exact e), ← ht, ← hnat, ← HAT.out]
         rfl)
        have HSN : Hid (¬ (a : Int) + t.sp - 1 = (k : Int) → laneStep gs k cs f0 (j + 1) = f1) := hideP (fun e => by
         rw [HS1.out]
         unfold cellStep
         rw [if_neg (by rw [hsuc, ← HAT.out]; exact e)])
        have d0 : wr.cell? ⟨b2, off2 + j * 3, none⟩ = some (.int .i64 t.sp) := (HBW.out.cell (p := ⟨b2, off2 + j * 3, none⟩) hb2).trans (hcj 0 (by omega))
        have d1 : wr.cell? ⟨b2, off2 + j * 3 + 1, none⟩ = some (.int .i64 t.al) := (HBW.out.cell (p := ⟨b2, off2 + j * 3 + 1, none⟩) hb2).trans (hcj 1 (by omega))
        have d2 : wr.cell? ⟨b2, off2 + j * 3 + 2, none⟩ = some (.slice na nn nc) := (HBW.out.cell (p := ⟨b2, off2 + j * 3 + 2, none⟩) hb2).trans (hcj 2 (by omega))
        have hb2r : b2 < wr.heap.size := Nat.lt_of_lt_of_le hb2 HBW.out.size
        clear hcell hcj hcc hnv hnN hat hsm ht hnat hf1 HS1 hsuc
        obtain ⟨sp, al, ns⟩ := t
        dsimp only at d0 d1 hat1 hat2 HSY0 HSN
        have wadd1 : IntKind.i64.wrap ((a : Int) + sp) = a + sp := by rw [IntKind.wrap_i64]; omega
        have wsub1 : IntKind.i64.wrap ((a : Int) + sp - 1) = a + sp - 1 := by rw [IntKind.wrap_i64]; omega
        by_cases hlk : (a : Int) + sp - 1 = (k : Int)
        ·have HSY1 := hideP (HSY0.out hlk)
         have hbq : ((a : Int) + sp - 1 == (k : Int)) = true := by simp [hlk]
         have HLK := hideP hlk
         clear HSY0 HSN hlk
         go_wp2_with fail
         obtain ⟨W, hW⟩ := exq (wr.alloc (.cells #[.int .i64 sp, .int .i64 al, .slice na nn nc] 53))
         obtain ⟨q, hq⟩ := exq (wr.heap.size)
         rw [← hW, ← hq]
         have AW : Hid (IntsAt W g cols f1) := hideP (by rw [hW]; exact HJ.out.2.below (below1 _ _))
         have BT : Hid (Below (w.heap.size + 1) (w.alloc (tbO ⟨(cols : Int), gs, gp, gpo, gm, gmo, rs⟩ (.slice (some ⟨b, off, none⟩) n uc))) W) := hideP (by rw [hW]; exact BR.out.alloc hws _)
         have BW : Hid (Below w.heap.size w W) := hideP (QT.out _ BT.out).2.2.2.2
         have CW : Hid (W.heap[q]? = some (.cells #[.int .i64 sp, .int .i64 al, .slice na nn nc] 53 (0, 0))) := hideP (by rw [hW, hq]; exact heap_alloc_new wr _)
         have hqW : q < W.heap.size := (glt CW.out)
         have hgq : g < q := by rw [hq]; exact HJ.out.2.lt
         have hsW : w.heap.size + 1 ≤ W.heap.size := by omega
         clear hW hq d0 d1 d2 hb2r hbr r0 t0 t1 t6
         obtain ⟨ac, hac⟩ := exq (acr f1 gs a k)
         have hacb := acr_bd HFJ.out HG.out (show a ≤ k by have := HLK.out; omega) (show k < 20 by omega)
         have hfkb := HFJ.out k
         obtain ⟨fk, hfk2⟩ := exq (f1 k)
         have HFK := hideP hfk2
         have HCA : Hid (∀ X, Below W.heap.size W X → Calls Tryz.prog 102 #[.slice (some ⟨g, 0, none⟩) cols cols, .int .i64 gs, .int .i64 (a : Int), .int .i64 sp] X fun e w' => e = .returned (.int .i64 ac) ∧ w' = X) := hideP (fun X hX => by rw [hac]; exact l12Across_any a k (AW.out.below hX) HFJ.out (by have := HLK.out; omega) hkc hc3 HG.out sp (by have := HLK.out; omega))
         have HSY : Hid (laneStep gs k cs f0 (j + 1) = upd f1 k (fk + max (nat - ac) 0)) := hideP (by rw [HSY1.out, hac, hfk2])
         rw [← hac] at hacb
         rw [← hfk2] at hfkb
         have wsub : IntKind.i64.wrap (nat - ac) = nat - ac := by rw [IntKind.wrap_i64]; omega
         have QS : Hid (∀ x : World, Below W.heap.size W x → x.cell? ⟨q, 0, none⟩ = some (.int .i64 sp) ∧ x.cell? ⟨q, 2, none⟩ = some (.slice na nn nc) ∧ x.cell? ⟨w.heap.size, 1, none⟩ = some (.int .i64 gs)) := hideP (fun x hx => ⟨cell_of_row _ _ 0 _ 53 _ ((hx.block _ hqW).trans CW.out), cell_of_row _ _ 2 _ 53 _ ((hx.block _ hqW).trans CW.out), (QT.out _ (BT.out.trans (hx.mono hsW))).2.1⟩)
         clear hac hfk2 HSY1 CW
         refine wp_region_held_drew (S := fun x => x.cell? ⟨q, 0, none⟩ = some (.int .i64 sp) ∧ x.cell? ⟨q, 2, none⟩ = some (.slice na nn nc) ∧ x.cell? ⟨w.heap.size, 1, none⟩ = some (.int .i64 gs)) (by kernel_rfl) (QS.out _ ((Below.refl _ _).drew)) (fun hS => ?_)
         refine tkS (i := 0) (v := .pointer (some ⟨q, 2, none⟩)) rfl hS ?_
         try simp only [sput]
         refine tkS (i := 1) (v := .slice na nn nc) rfl hS ?_
         try simp only [sput]
         refine tkS (i := 7) (v := .slice (some ⟨g, 0, none⟩) cols cols) rfl hS ?_
         try simp only [sput]
         refine tkS (i := 8) (v := .pointer (some ⟨w.heap.size, 1, none⟩)) rfl hS ?_
         try simp only [sput]
         refine tkS (i := 9) (v := .pointer (some ⟨w.heap.size, 1, none⟩)) rfl hS ?_
         try simp only [sput]
         refine tkS (i := 10) (v := .int .i64 gs) rfl hS ?_
         try simp only [sput]
         refine tkS (i := 11) (v := .int .i64 (a : Int)) rfl hS ?_
         try simp only [sput]
         refine tkS (i := 12) (v := .pointer (some ⟨q, 0, none⟩)) rfl hS ?_
         try simp only [sput]
         refine tkS (i := 13) (v := .int .i64 sp) rfl hS ?_
         try simp only [sput]
         refine rdS (i := 2) rfl (fun K hK => ?_)
         go_simp
         go_at_call 104
         refine (HC10.out _ (below_more BW.out ((Below.refl _ _).drew) BW.out.size)).mono ?_
         rintro e w2 ⟨gH, hc, hs, nH, rfl, hnH, hgH, cN, hb2⟩
         have B2 : Below W.heap.size W w2 := below_more ((Below.refl _ _).drew) hb2 (Nat.le_refl _)
         have hnI : (0 : Int) < (nH : Int) := by omega
         have hfd : ∀ X, (Instr.field 30 (packV (.slice (some ⟨gH, 0, none⟩) nH hc) hs) 0).run Tryz.prog X = .ok (.slice (some ⟨gH, 0, none⟩) nH hc) X := fun X => fld28 _ _ X
         clear hb2
         refine hK.out _ _ (QS.out _ B2) (fun hS => ?_)
         try simp only [sput]
         clear hK K
         refine tkS (i := 3) (v := .slice (some ⟨gH, 0, none⟩) nH hc) rfl hS ?_
         try simp only [sput]
         refine tkS (i := 4) (v := .pointer (some ⟨gH, 0, none⟩)) rfl hS ?_
         try simp only [sput]
         refine tkS (i := 5) (v := .pointer (some ⟨gH, 1, none⟩)) rfl hS ?_
         try simp only [sput]
         refine wpAnyH_ready (rs := [6, 14]) (by kernel_rfl) (by simp) ?_
         refine AllReadyH.cons rfl (fun K hK => ?_) (AllReadyH.cons rfl (fun K hK => ?_) AllReadyH.nil)
         ·rw [if_pos (by first | rfl | go_simp)]
          go_simp
          refine hK.out _ _ (QS.out _ B2) (fun hS => ?_)
          try simp only [sput]
          clear hK K
          refine rdS (i := 14) rfl (fun K hK => ?_)
          go_simp
          go_at_call 102
          refine (HCA.out _ B2).mono ?_
          rintro e w3 ⟨rfl, h3⟩
          have h4 := h3.symm
          subst h4
          clear h3
          refine hK.out _ _ (QS.out _ B2) (fun hS => ?_)
          try simp only [sput]
          clear hK K
          refine tkS (i := 15) (v := .int .i64 (nat - ac)) rfl hS ?_
          try simp only [sput]
          refine tkS (i := 16) (v := .int .i64 (nat - ac)) rfl hS ?_
          try simp only [sput]
          refine wpAnyH_done (by kernel_rfl) ?_ _
          clear hfd cN hnI hnH hgH hS
          have A2 := hideP (AW.out.below B2)
          have BT2 : Hid (Below (w.heap.size + 1) (w.alloc (tbO ⟨(cols : Int), gs, gp, gpo, gm, gmo, rs⟩ (.slice (some ⟨b, off, none⟩) n uc))) w2) := hideP (BT.out.trans (B2.mono hsW))
          have c0 : w2.cell? ⟨q, 0, none⟩ = some (.int .i64 sp) := (QS.out _ B2).1
          have hq2 : q < w2.heap.size := Nat.lt_of_lt_of_le hqW B2.size
          have cG : w2.cell? ⟨g, k, none⟩ = some (.int .i64 fk) := by rw [HFK.out]; exact A2.out.cell hkc
          have fG := A2.out.free
          have hgl2 := A2.out.lt
          clear B2
          by_cases hneed : 0 < nat - ac
          ·have hngq : ¬ q = g := by omega
           have hngq2 : ¬ g = q := by omega
           have wadd : IntKind.i64.wrap (fk + (nat - ac)) = fk + (nat - ac) := by rw [IntKind.wrap_i64]; omega
           go_wp2
           go_roundw
           case rel =>
            refine ⟨j + 1, a + sp.toNat, by omega, by congr 1; omega, by go_num, hideP ⟨by rw [spK_succ, ← HT.out, ← HAT.out]; dsimp only; omega, ?_⟩, (BT2.out.setCell (by simp; omega) _)⟩
            rw [HSY.out, show fk + max (nat - ac) 0 = fk + (nat - ac) by omega]
            exact A2.out.set hkc _
           case measure => simp [intOf]; omega
          ·go_wp2
           go_roundw
           case rel =>
            refine ⟨j + 1, a + sp.toNat, by omega, by congr 1; omega, by go_num, hideP ⟨by rw [spK_succ, ← HT.out, ← HAT.out]; dsimp only; omega, ?_⟩, BT2.out⟩
            rw [HSY.out, show fk + max (nat - ac) 0 = fk by omega]
            exact A2.out.congr (fun i _ => by unfold upd; split; (rename_i e; rw [e, HFK.out]); rfl)
           case measure => simp [intOf]; omega
         ·rw [if_pos (by first | rfl | go_simp)]
          go_simp
          go_at_call 102
          refine (HCA.out _ B2).mono ?_
          rintro e w3 ⟨rfl, h3⟩
          have h4 := h3.symm
          subst h4
          clear h3
          refine hK.out _ _ (QS.out _ B2) (fun hS => ?_)
          try simp only [sput]
          clear hK K
          refine rdS (i := 6) rfl (fun K hK => ?_)
          go_simp
          refine hK.out _ _ (QS.out _ B2) (fun hS => ?_)
          try simp only [sput]
          clear hK K
          refine tkS (i := 15) (v := .int .i64 (nat - ac)) rfl hS ?_
          try simp only [sput]
          refine tkS (i := 16) (v := .int .i64 (nat - ac)) rfl hS ?_
          try simp only [sput]
          refine wpAnyH_done (by kernel_rfl) ?_ _
          clear hfd cN hnI hnH hgH hS
          have A2 := hideP (AW.out.below B2)
          have BT2 : Hid (Below (w.heap.size + 1) (w.alloc (tbO ⟨(cols : Int), gs, gp, gpo, gm, gmo, rs⟩ (.slice (some ⟨b, off, none⟩) n uc))) w2) := hideP (BT.out.trans (B2.mono hsW))
          have c0 : w2.cell? ⟨q, 0, none⟩ = some (.int .i64 sp) := (QS.out _ B2).1
          have hq2 : q < w2.heap.size := Nat.lt_of_lt_of_le hqW B2.size
          have cG : w2.cell? ⟨g, k, none⟩ = some (.int .i64 fk) := by rw [HFK.out]; exact A2.out.cell hkc
          have fG := A2.out.free
          have hgl2 := A2.out.lt
          clear B2
          by_cases hneed : 0 < nat - ac
          ·have hngq : ¬ q = g := by omega
           have hngq2 : ¬ g = q := by omega
           have wadd : IntKind.i64.wrap (fk + (nat - ac)) = fk + (nat - ac) := by rw [IntKind.wrap_i64]; omega
           go_wp2
           go_roundw
           case rel =>
            refine ⟨j + 1, a + sp.toNat, by omega, by congr 1; omega, by go_num, hideP ⟨by rw [spK_succ, ← HT.out, ← HAT.out]; dsimp only; omega, ?_⟩, (BT2.out.setCell (by simp; omega) _)⟩
            rw [HSY.out, show fk + max (nat - ac) 0 = fk + (nat - ac) by omega]
            exact A2.out.set hkc _
           case measure => simp [intOf]; omega
          ·go_wp2
           go_roundw
           case rel =>
            refine ⟨j + 1, a + sp.toNat, by omega, by congr 1; omega, by go_num, hideP ⟨by rw [spK_succ, ← HT.out, ← HAT.out]; dsimp only; omega, ?_⟩, BT2.out⟩
            rw [HSY.out, show fk + max (nat - ac) 0 = fk by omega]
            exact A2.out.congr (fun i _ => by unfold upd; split; (rename_i e; rw [e, HFK.out]); rfl)
           case measure => simp [intOf]; omega
        ·have hbq : ((a : Int) + sp - 1 == (k : Int)) = false := by simp [hlk]
         have HLK := hideP (HSN.out hlk)
         clear HSY0 HSN hlk
         go_wp2
         go_roundw
         case rel => exact ⟨j + 1, a + sp.toNat, by omega, by congr 1; omega, by go_num, hideP ⟨by rw [spK_succ, ← HT.out, ← HAT.out]; dsimp only; omega, by rw [HLK.out]; exact HJ.out.2.below (below1 _ _)⟩, BR.out.alloc hws _⟩
         case measure => simp [intOf]; omega
       ·have hji : ¬ (j : Int) < (m : Int) := by omega
        obtain rfl : j = m := by omega
        go_wp2
        go_roundw
        case rel => exact ⟨i + 1, by omega, by go_num, hideP (by rw [HST.out]; exact HJ.out.2), BR.out⟩
        case measure => simp [intOf]; omega
     ·have hii : ¬ (i : Int) < (n : Int) := by omega
      obtain rfl : i = n := by omega
      have HCS : Hid (colsStep gs rs (k + 1) = rowsStep gs k rs (colsStep gs rs k) i) := hideP (by rw [← HN.out]; rfl)
      rw [← HCS.out] at HII
      obtain ⟨fk, hfk⟩ := exq (colsStep gs rs (k + 1) k)
      have cA : wp.cell? ⟨g, k, none⟩ = some (.int .i64 fk) := by rw [hfk]; exact HII.out.cell hkc
      have hAl := HII.out.lt
      have HOK : Hid (colsOk gs rs (k + 1) = fitsB fk) := hideP (by unfold colsOk; rw [HK.out.1, ← hfk]; rfl)
      have HFC : Hid (∀ W, Calls Tryz.prog 103 #[.int .i64 fk] W fun e w' => e = .returned (.bool (fitsB fk)) ∧ w' = W) := hideP (fun W => specFits_any fk W)
      clear hfk HCS
      cases hfb : fitsB fk with
      | true =>
       rw [hfb] at HFC HOK
       go_wp2_with (go_at_call 103; refine (HFC.out _).mono ?_; rintro e w2 ⟨rfl, rfl⟩)
       go_roundw
       case rel => exact ⟨k + 1, by omega, by go_num, hideP ⟨HOK.out, HII.out⟩, BP.out⟩
       case measure => simp [intOf]; omega
      | false =>
       rw [hfb] at HFC HOK
       have HFIN : Hid (colsOk gs rs cols = false) := hideP (colsOk_down (show k + 1 ≤ cols by omega) HOK.out)
       have HBE := hideP (QT.out _ BP.out).2.2.2.2
       go_wp2_with (go_at_call 103; refine (HFC.out _).mono ?_; rintro e w2 ⟨rfl, rfl⟩)
       go_ret
       exact ⟨HPN.out _ _ HFIN.out HBE.out.size (heap_alloc_new _ _), HBE.out.alloc HBE.out.size _⟩
   ·have hki : ¬ (k : Int) < (cols : Int) := by omega
    obtain rfl : k = cols := by omega
    have HBE := hideP (QT.out _ BO.out).2.2.2.2
    go_wp2
    go_ret
    exact ⟨HPY.out _ _ HK.out.1 (by omega) HK.out.2, HBE.out⟩
set_option maxRecDepth 20000 in
set_option maxHeartbeats 1600000 in
theorem nest_huge {ao : Option Addr} {n cap : Nat} {w : World} (h : 20000 < n) (h2 : n ≤ 5000000) :
 Calls Tryz.prog 109 #[.slice ao n cap] w fun e w' => e = .returned (.int .i64 (-1)) ∧ w' = w := by
 have hni : (20000 : Int) < (n : Int) := by omega
 go_enter Tryz.func109, Tryz.ntmps109
 go_wp2
 go_ret
 exact ⟨rfl, rfl⟩
set_option maxRecDepth 20000 in
set_option maxHeartbeats 1600000 in
theorem specList_any {v : Value} {xs : List Nd} {w : World} (h : NRow 0 w v xs) (hs : xs.length ≤ 5000000) :
 Calls Tryz.prog 71 #[v] w fun e w' => e = .returned (.bool (listB xs)) ∧ Below w.heap.size w w' := by
 have HC : Hid (Calls Tryz.prog 109 #[v] w fun e w' => ∃ m : Int, e = .returned (.int .i64 m) ∧ (decide (0 ≤ m) && decide (m ≤ 41)) = listB xs ∧ Below w.heap.size w w') := hideP (by
  by_cases hb : xs.length ≤ 20000
  ·refine (nestD_any h hb).mono ?_
   rintro e w1 ⟨m, rfl, hm, hw⟩
   refine ⟨m, rfl, ?_, hw⟩
   unfold listB
   rw [decide_eq_true hb, Bool.true_and, ← okD_40, ← hm 40]
   rfl
  ·obtain ⟨ao, n, cap, rfl, hl, hr⟩ := h
   refine (nest_huge (by omega) (by omega)).mono ?_
   rintro e w1 ⟨rfl, rfl⟩
   refine ⟨-1, rfl, ?_, Below.refl _ _⟩
   rw [show listB xs = false by unfold listB; rw [decide_eq_false hb]; rfl]
   rfl)
 obtain ⟨ao, n, cap, rfl, hl, hr⟩ := h
 obtain ⟨R, hR⟩ := exq (listB xs)
 rw [← hR] at HC ⊢
 clear hR hl hr hs
 go_enter Tryz.func71, Tryz.ntmps71
 go_wp2_with fail
 refine HC.out.mono ?_
 rintro e w1 ⟨m, rfl, hm, hb⟩
 have HB := hideP hb
 have HMM := hideP hm
 clear HC hb hm
 by_cases h1 : 0 ≤ m
 ·have dh1 : decide (0 ≤ m) = true := decide_eq_true h1
  clear h1
  go_wp2
  go_ret
  exact ⟨by rw [← HMM.out, dh1, Bool.true_and]; rfl, HB.out⟩
 ·have dh1 : decide (0 ≤ m) = false := decide_eq_false h1
  clear h1
  go_wp2
  go_ret
  exact ⟨by rw [← HMM.out, dh1, Bool.false_and]; rfl, HB.out⟩
set_option maxRecDepth 20000 in
set_option maxHeartbeats 8000000 in
theorem specSetTable_any (x : Tb) {v : Value} {w : World} (h : RRowN 0 w v x.rs) (hs : SmT x) :
 Calls Tryz.prog 35 #[tbV x v] w fun e w' => ∃ a c, e = .returned (.slice a (stR x).length c) ∧ w'.ownsRow w.heap.size 36 15 (.slice a (stR x).length c) (stR x).length (flatN (stR x)) ∧ Below w.heap.size w w' := by
 have HT : Hid (∀ W, Below w.heap.size w W → Calls Tryz.prog 70 #[tbV x v] W fun e w' => WidP x (tabB x && colsOk x.gs x.rs x.co.toNat) e W w' ∧ Below W.heap.size W w') := hideP (fun W hW => specWidths_any x (h.below rwNStable hW) hs)
 have hTP : tabB x = true → 1 ≤ x.co ∧ x.co ≤ 20 ∧ (-1073741823 ≤ x.gs ∧ x.gs ≤ 1073741823) ∧ x.rs.length ≤ 200 ∧ ∀ i, i < x.rs.length → RowIn (x.rs.getD i Rw.none).cs x.co := tabB_parts
 obtain ⟨ua, m, uc, rfl, hm, hr⟩ := h
 have hm0 : m ≤ 1048576 := by rw [← hm]; exact hs.1
 have HRR : Hid (∀ i, i < m → ∃ b off, ua = some ⟨b, off, none⟩ ∧ ∃ (ca : Option Addr) (cn cc : Nat), (∀ W, Below w.heap.size w W → b < W.heap.size ∧ W.cell? ⟨b, off + i * 2, none⟩ = some (.slice ca cn cc) ∧ W.cell? ⟨b, off + i * 2 + 1, none⟩ = some (.int .i64 (x.rs.getD i Rw.none).ru) ∧ CRowN 0 W (.slice ca cn cc) (x.rs.getD i Rw.none).cs)) := hideP (fun i hi => by
  obtain ⟨b, off, rfl, hlo, hb, hc⟩ := hr (by omega)
  obtain ⟨vs, hcl, hRel, hcj⟩ := hc i hi
  obtain ⟨u, hcs, hu⟩ := hRel
  obtain ⟨ca, cc, rfl⟩ := hu.shape
  refine ⟨b, off, rfl, ca, (x.rs.getD i Rw.none).cs.length, cc, fun W hW => ?_⟩
  rw [show vs = _ from hcs] at hcj
  exact ⟨Nat.lt_of_lt_of_le hb hW.size, (hW.cell (p := ⟨b, off + i * 2, none⟩) hb).trans (hcj 0 (by omega)), (hW.cell (p := ⟨b, off + i * 2 + 1, none⟩) hb).trans (hcj 1 (by omega)), hu.below clNStable hW⟩)
 obtain ⟨R, hR⟩ := exq (stR x)
 rw [← hR]
 unfold stR at hR
 obtain ⟨T, hT⟩ := exq ((tabB x && colsOk x.gs x.rs x.co.toNat))
 rw [← hT] at HT
 rw [← Bool.and_assoc, ← hT] at hR
 have hTP2 : T = true → 1 ≤ x.co ∧ x.co ≤ 20 ∧ (-1073741823 ≤ x.gs ∧ x.gs ≤ 1073741823) ∧ x.rs.length ≤ 200 ∧ ∀ i, i < x.rs.length → RowIn (x.rs.getD i Rw.none).cs x.co := fun e => hTP (by rw [hT, Bool.and_eq_true] at e; exact e.1)
 have HR := hideP hR
 clear hT hR hs hr hTP
 obtain ⟨co, gs, gp, gpo, gm, gmo, rs⟩ := x
 dsimp only at hTP2 HR HRR hm ⊢
 simp only [tbV] at HT ⊢
 have HM := hideP hm
 rw [hm] at hTP2 HR
 clear hm
 have BOX : Hid (∀ w1, Below (w.heap.size + 1) (w.alloc (.cells #[.int .i64 co, .int .i64 gs, .int .i64 gp, .int .i64 gpo, .int .i64 gm, .int .i64 gmo, .slice ua m uc] 44)) w1 → w1.heap[w.heap.size]? = some (tbC co gs gp gpo gm gmo (.slice ua m uc))) := hideP (fun w1 hb => (hb.block _ (by omega)).trans (heap_alloc_new w _))
 cases T with
 | false =>
  have hR0 : R = [] := by rw [HR.out]; rfl
  subst hR0
  go_enter Tryz.func35, Tryz.ntmps35
  go_wp2_with fail
  refine (HT.out _ (below1 _ _)).mono ?_
  rintro e w1 ⟨hW, hb1⟩
  obtain ⟨g, rfl, _, _⟩ := hW
  have B1 : Hid (Below w.heap.size w w1) := hideP (below_more (below1 _ _) hb1 (by simp))
  clear hb1
  go_wp2
  go_ret
  exact ⟨_, 0, rfl, own_mt B1.out.size (heap_alloc_new w1 _), B1.out.alloc B1.out.size _⟩
 | true =>
  obtain ⟨hc1, hc2, hg, hlen, hin⟩ := hTP2 (by first | rfl | trivial)
  obtain ⟨cols, hcols⟩ : ∃ cols : Nat, (cols : Int) = co := ⟨co.toNat, by omega⟩
  subst hcols
  have hco : ((cols : Int)).toNat = cols := by omega
  obtain ⟨F, hF⟩ := exq (colsStep gs rs cols)
  obtain ⟨gap, hgap⟩ := exq (gapN gs gp gpo gm gmo)
  have HBD : Hid (Bd F) := hideP (by rw [hF]; exact colsStep_bd hg (by rw [HM.out]; exact hin) hc2 cols (by omega))
  have HR1 : Hid (R = if (rowsOk F gs gap (cols : Int) rs m && decide ((outK F gs gap (cols : Int) rs m).length ≤ 20000)) = true then outK F gs gap (cols : Int) rs m else []) := hideP (by rw [HR.out, hco, ← hF, ← hgap]; rfl)
  have HGP := hideP hgap
  have HIN := hideP hin
  have HG := hideP hg
  have HW : Hid (∀ e W w', WidP ⟨(cols : Int), gs, gp, gpo, gm, gmo, rs⟩ true e W w' → ∃ g, e = .returned (.slice (some ⟨g, 0, none⟩) cols cols) ∧ W.heap.size ≤ g ∧ IntsAt w' g cols F) := hideP (fun e W w' h => by rw [hF]; exact h)
  have hcn : ((cols : Int) == 0) = false := by simp; omega
  clear HR hTP2 hin hg hgap hF hco
  go_enter Tryz.func35, Tryz.ntmps35
  go_wp2_with fail
  refine (HT.out _ (below1 _ _)).mono ?_
  rintro e w1 ⟨hW, hb1⟩
  obtain ⟨g, rfl, hg0, hA⟩ := HW.out _ _ _ hW
  have B1 : Hid (Below w.heap.size w w1) := hideP (below_more (below1 _ _) hb1 (by simp))
  rw [World.size_alloc] at hb1
  have BX := hideP (BOX.out w1 hb1)
  have hl1 := (glt BX.out)
  have HA := hideP hA
  clear hb1 BOX HT HW hW hA hg0
  go_wp2_with fail
  generalize hWZ : w1.alloc _ = wz
  obtain ⟨g0, hg0⟩ := exq (w1.heap.size)
  have HZ : Hid (Below w1.heap.size w1 wz ∧ wz.ownsRow w1.heap.size 36 15 (.slice (some ⟨g0, 0, none⟩) 0 0) 0 (flatN [])) := hideP (by
   rw [← hWZ, hg0]
   exact ⟨below1 _ _, own_mt (Nat.le_refl _) (heap_alloc_new w1 _)⟩)
  rw [← hg0]
  clear hWZ hg0
  go_loopw [4, 5, 6] (fun s4 s5 _ wr => ∃ (k : Nat) (a : Option Addr) (nn c : Nat), k ≤ m ∧ s5 = .int .i64 (k : Int) ∧ s4 = .slice a nn c ∧ Hid (rowsOk F gs gap (cols : Int) rs k = true ∧ Below w1.heap.size w1 wr ∧ wr.ownsRow w1.heap.size 36 15 (.slice a nn c) nn (flatN (outK F gs gap (cols : Int) rs k)))) (fun _ s5 _ _ => m - (intOf s5).toNat)
  case atStart => exact ⟨0, _, 0, 0, by omega, rfl, rfl, hideP ⟨rfl, HZ.out⟩⟩
  case round =>
   obtain ⟨k, a, nn, c, hk, rfl, rfl, HJ⟩ := hrel
   obtain ⟨hok, hbl, hac⟩ := id HJ.out
   have HOK := hideP hok
   have HBL := hideP hbl
   have HAC := hideP hac
   have hnl : nn ≤ 20000 * k := by
    have q1 := hac.1
    rw [flatN_len] at q1
    have := outK_le F gs gap (cols : Int) rs k
    omega
   have HNL : Hid ((outK F gs gap (cols : Int) rs k).length = nn) := hideP (by have q1 := hac.1; rw [flatN_len] at q1; omega)
   have BXr : Hid (wr.heap[w.heap.size]? = some (tbC (cols : Int) gs gp gpo gm gmo (.slice ua m uc))) := hideP ((hbl.block _ hl1).trans BX.out)
   have t6 : wr.cell? ⟨w.heap.size, 6, none⟩ = some (.slice ua m uc) := cell_of_row _ _ 6 _ 44 _ BXr.out
   have hlr := (glt BXr.out)
   have Bwr : Hid (Below w.heap.size w wr) := hideP (below_more B1.out hbl B1.out.size)
   clear HZ HJ hok hbl hac
   by_cases hkm : k < m
   ·have hki : (k : Int) < (m : Int) := by omega
    obtain ⟨b, off, rfl, ca, cn, cc, hrr⟩ := HRR.out k hkm
    obtain ⟨r, hr⟩ := exq (rs.getD k Rw.none)
    rw [← hr] at hrr
    obtain ⟨q, hq⟩ := exq (rowR F gs gap (cols : Int) r)
    have HST : Hid (outK F gs gap (cols : Int) rs (k + 1) = outK F gs gap (cols : Int) rs k ++ q) := hideP (by rw [hq, hr]; rfl)
    have HSO : Hid (rowsOk F gs gap (cols : Int) rs (k + 1) = decide (0 < q.length)) := hideP (by rw [hq, hr]; unfold rowsOk; rw [HOK.out, Bool.true_and])
    have hql : q.length ≤ 20000 := by rw [hq]; exact rowR_le
    have HL : Hid (∀ W, Below w1.heap.size w1 W → Calls Tryz.prog 61 #[.agg #[.int .i64 (cols : Int), .int .i64 gs, .int .i64 gp, .int .i64 gpo, .int .i64 gm, .int .i64 gmo, .slice (some ⟨b, off, none⟩) m uc], .agg #[.slice ca cn cc, .int .i64 r.ru], .slice (some ⟨g, 0, none⟩) cols cols] W fun e w' => ∃ a c, e = .returned (.slice a q.length c) ∧ w'.ownsRow W.heap.size 36 15 (.slice a q.length c) q.length (flatN q) ∧ Below W.heap.size W w') := hideP (fun W hW => by
     rw [hq, HGP.out]
     exact l12Row_any (rs := rs) (hrr W (below_more B1.out hW B1.out.size)).2.2.2 (by rw [hr]; exact HIN.out k hkm) rfl (by omega) (by omega) HG.out (HA.out.below hW) HBD.out)
    have HRX : Hid (∀ W, Below w.heap.size w W → b < W.heap.size ∧ W.cell? ⟨b, off + k * 2, none⟩ = some (.slice ca cn cc) ∧ W.cell? ⟨b, off + k * 2 + 1, none⟩ = some (.int .i64 r.ru)) := hideP (fun W hW => ⟨(hrr W hW).1, (hrr W hW).2.1, (hrr W hW).2.2.1⟩)
    obtain ⟨ru, hru⟩ := exq (r.ru)
    rw [← hru] at HL HRX
    have HQ : Hid (∀ X : World, Below w1.heap.size w1 X → (X.cell? ⟨w.heap.size, 0, none⟩ = some (.int .i64 (cols : Int)) ∧ X.cell? ⟨w.heap.size, 1, none⟩ = some (.int .i64 gs) ∧ X.cell? ⟨w.heap.size, 2, none⟩ = some (.int .i64 gp) ∧ X.cell? ⟨w.heap.size, 3, none⟩ = some (.int .i64 gpo) ∧ X.cell? ⟨w.heap.size, 4, none⟩ = some (.int .i64 gm) ∧ X.cell? ⟨w.heap.size, 5, none⟩ = some (.int .i64 gmo) ∧ X.cell? ⟨w.heap.size, 6, none⟩ = some (.slice (some ⟨b, off, none⟩) m uc)) ∧ X.cell? ⟨b, off + k * 2, none⟩ = some (.slice ca cn cc) ∧ X.cell? ⟨b, off + k * 2 + 1, none⟩ = some (.int .i64 ru)) := hideP (fun X hX => by
     have q := (hX.block _ hl1).trans BX.out
     exact ⟨⟨cell_of_row _ _ 0 _ 44 _ q, cell_of_row _ _ 1 _ 44 _ q, cell_of_row _ _ 2 _ 44 _ q, cell_of_row _ _ 3 _ 44 _ q, cell_of_row _ _ 4 _ 44 _ q, cell_of_row _ _ 5 _ 44 _ q, cell_of_row _ _ 6 _ 44 _ q⟩, (HRX.out X (below_more B1.out hX B1.out.size)).2.1, (HRX.out X (below_more B1.out hX B1.out.size)).2.2⟩)
    have hb1 := (HRX.out wr Bwr.out).1
    obtain ⟨qn, hqn⟩ := exq (q.length)
    rw [← hqn] at HL hql
    have HQN := hideP hqn
    clear hrr hr hru HRX hq hqn
    go_wp2_with fail
    refine wp_region_held_drew (S := fun X => (X.cell? ⟨w.heap.size, 0, none⟩ = some (.int .i64 (cols : Int)) ∧ X.cell? ⟨w.heap.size, 1, none⟩ = some (.int .i64 gs) ∧ X.cell? ⟨w.heap.size, 2, none⟩ = some (.int .i64 gp) ∧ X.cell? ⟨w.heap.size, 3, none⟩ = some (.int .i64 gpo) ∧ X.cell? ⟨w.heap.size, 4, none⟩ = some (.int .i64 gm) ∧ X.cell? ⟨w.heap.size, 5, none⟩ = some (.int .i64 gmo) ∧ X.cell? ⟨w.heap.size, 6, none⟩ = some (.slice (some ⟨b, off, none⟩) m uc)) ∧ X.cell? ⟨b, off + k * 2, none⟩ = some (.slice ca cn cc) ∧ X.cell? ⟨b, off + k * 2 + 1, none⟩ = some (.int .i64 ru)) (by kernel_rfl) (HQ.out _ (HBL.out.drew)) (fun hS => ?_)
    refine tkS (i := 0) (v := .agg #[.int .i64 (cols : Int), .int .i64 gs, .int .i64 gp, .int .i64 gpo, .int .i64 gm, .int .i64 gmo, .slice (some ⟨b, off, none⟩) m uc]) rfl hS ?_
    try simp only [sput]
    refine tkS (i := 1) (v := .pointer (some ⟨w.heap.size, 6, none⟩)) rfl hS ?_
    try simp only [sput]
    refine tkS (i := 2) (v := .slice (some ⟨b, off, none⟩) m uc) rfl hS ?_
    try simp only [sput]
    refine tkS (i := 3) (v := .int .i64 (k : Int)) rfl hS ?_
    try simp only [sput]
    refine tkS (i := 4) (v := .pointer (some ⟨b, off + k * 2, none⟩)) rfl hS ?_
    try simp only [sput]
    refine tkS (i := 5) (v := .agg #[.slice ca cn cc, .int .i64 ru]) rfl hS ?_
    try simp only [sput]
    refine tkS (i := 6) (v := .slice (some ⟨g, 0, none⟩) cols cols) rfl hS ?_
    try simp only [sput]
    refine rdS (i := 7) rfl (fun K hK => ?_)
    go_simp
    go_at_call 61
    refine (HL.out _ (HBL.out.drew)).mono ?_
    rintro e w3 ⟨a3, c3, rfl, ho3, hb3⟩
    have B3 : Hid (Below wr.heap.size wr w3) := hideP (below_more ((Below.refl _ _).drew) hb3 (Nat.le_refl _))
    have N3 : Hid (NN 0 w3 (.slice a3 qn c3) q) := hideP (own_NN ho3 HQN.out.symm)
    clear ho3 hb3
    refine hK.out _ _ (HQ.out _ (below_more HBL.out B3.out HBL.out.size)) (fun hS => ?_)
    try simp only [sput]
    clear hK K
    refine tkS (i := 8) (v := .slice a3 qn c3) rfl hS ?_
    try simp only [sput]
    refine wpAnyH_done (by kernel_rfl) ?_ _
    clear hS
    have O3 : Hid (w3.ownsRow w1.heap.size 36 15 (.slice a nn c) nn (flatN (outK F gs gap (cols : Int) rs k))) := hideP (ownG_below HAC.out B3.out)
    have Bw3 : Hid (Below w1.heap.size w1 w3) := hideP (below_more HBL.out B3.out HBL.out.size)
    have Bww : Hid (Below w.heap.size w w3) := hideP (below_more B1.out Bw3.out B1.out.size)
    have hw3 : w1.heap.size ≤ w3.heap.size := Bw3.out.size
    clear HL HQ t6 hlr BXr Bwr HAC HBL B3
    by_cases hq0 : qn = 0
    ·have hR0 : R = [] := by
      rw [HR1.out, rowsOk_down (show k + 1 ≤ m by omega) (by rw [HSO.out, ← HQN.out, hq0]; rfl)]
      rfl
     subst hR0
     subst hq0
     go_wp2
     go_ret
     exact ⟨_, 0, rfl, own_mt Bww.out.size (heap_alloc_new w3 _), Bww.out.alloc Bww.out.size _⟩
    ·have hq1 : ((qn : Int) == 0) = false := by simp; omega
     have HSO2 : Hid (rowsOk F gs gap (cols : Int) rs (k + 1) = true) := hideP (by rw [HSO.out, ← HQN.out]; simp; omega)
     go_wp2_with (at_builtin; refine wpList_appN rfl _ _ rfl w1.heap.size (.slice a nn c) nn (outK F gs gap (cols : Int) rs k) rfl O3.out (.slice a3 qn c3) q rfl N3.out (by rw [← HQN.out]; omega) (by omega) ?_; intro v7 w7 ho hg ha; rw [← HQN.out, ← HST.out] at ho; obtain ⟨N7, hN7⟩ := exq (nn + qn); rw [← hN7] at ho; obtain ⟨u7, d7, rfl⟩ := ownG_shape ho; have J7 : Hid (Below w1.heap.size w1 w7 ∧ w7.ownsRow w1.heap.size 36 15 (.slice u7 N7 d7) N7 (flatN (outK F gs gap (cols : Int) rs (k + 1)))) := hideP ⟨Below.grown Bw3.out hg Bw3.out.size (fun b hb => (O3.out.lt b hb).1), ho⟩; clear ho hg ha hN7)
     go_roundw
     case rel => exact ⟨k + 1, u7, N7, d7, by omega, by go_num, rfl, hideP ⟨HSO2.out, J7.out⟩⟩
     case measure => simp [intOf]; omega
   ·have hki : ¬ (k : Int) < (m : Int) := by omega
    obtain rfl : k = m := by omega
    have HC : Hid (Calls Tryz.prog 71 #[.slice a nn c] wr fun e w' => e = .returned (.bool (decide (nn ≤ 20000))) ∧ Below wr.heap.size wr w') := hideP (by
     have h0 := specList_any (SRow.mono ndStable (own_NRow HAC.out HNL.out) (Nat.zero_le _)) (by rw [HNL.out]; omega)
     rw [outK_list HOK.out, HNL.out] at h0
     exact h0)
    by_cases hb20 : nn ≤ 20000
    ·have hR0 : R = outK F gs gap (cols : Int) rs k := by rw [HR1.out, HOK.out, decide_eq_true (show (outK F gs gap (cols : Int) rs k).length ≤ 20000 by rw [HNL.out]; exact hb20)]; rfl
     have hRn : R.length = nn := by rw [hR0, HNL.out]
     have HOA : Hid (wr.ownsRow w.heap.size 36 15 (.slice a R.length c) R.length (flatN R)) := hideP (by rw [hRn, hR0]; exact ownG_base HAC.out B1.out.size)
     rw [decide_eq_true hb20] at HC
     subst hRn
     clear hR0 HAC HR1 HNL
     go_wp2_with fail
     refine HC.out.mono ?_
     rintro e w4 ⟨rfl, hb4⟩
     have O4 := hideP (ownG_below HOA.out hb4)
     have B4 := hideP (below_more Bwr.out hb4 Bwr.out.size)
     clear HC hb4 HOA
     go_wp2
     go_ret
     exact ⟨a, c, rfl, O4.out, B4.out⟩
    ·have hR0 : R = [] := by
      rw [HR1.out, decide_eq_false (show ¬ (outK F gs gap (cols : Int) rs k).length ≤ 20000 by rw [HNL.out]; exact hb20), Bool.and_false]
      rfl
     subst hR0
     rw [decide_eq_false hb20] at HC
     go_wp2_with fail
     refine HC.out.mono ?_
     rintro e w4 ⟨rfl, hb4⟩
     have B4 := hideP (below_more Bwr.out hb4 Bwr.out.size)
     clear HC hb4
     go_wp2
     go_ret
     exact ⟨_, 0, rfl, own_mt B4.out.size (heap_alloc_new w4 _), B4.out.alloc B4.out.size _⟩
end Go.Proofs.YtojoehdmjkgnnaaGreat
