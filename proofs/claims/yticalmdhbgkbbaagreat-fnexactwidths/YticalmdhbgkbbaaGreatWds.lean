/-
  The specification's Widths.
-/
import Derived.Test.YticalmdhbgkbbaaGreatTrs
namespace Go.Proofs.YticalmdhbgkbbaaGreat
open Go.RowKit
set_option linter.unusedVariables false
set_option linter.unusedSimpArgs false

theorem IntsAt.of_own {w : World} {base g n : Nat} {xs : List Value} {f : Nat → Int} (h : w.ownsRow base 2 1 (.slice (some ⟨g, 0, none⟩) n n) n xs) (hx : ∀ i, i < n → xs[i]? = some (.int .i64 (f i))) : IntsAt w g n f := by
  rcases h.2 with ⟨e, _⟩ | ⟨g', cap, cur, e, _, hh, _, _, hs, ht⟩
  · simp at e
  · simp at e
    obtain ⟨rfl, rfl⟩ := e
    refine ⟨cur, hh, by omega, fun i hi => ?_⟩
    have h1 := hx i hi
    rw [← ht, List.getElem?_take, if_pos (by omega)] at h1
    simpa using h1
theorem Tryz.info2w : (Tryz.prog.info? 2).map (fun i => (i.zero, i.size, i.bytes)) = some (some (.int .i64 0), 1, 8) := by kernel_rfl
def WidP (x : Tb) (b : Bool) (e : Ending) (w w' : World) : Prop := match b with
  | true => ∃ g, e = .returned (.slice (some ⟨g, 0, none⟩) x.co.toNat x.co.toNat) ∧ w.heap.size ≤ g ∧ IntsAt w' g x.co.toNat (colsStep x.gs x.rs x.co.toNat)
  | false => ∃ g, e = .returned (.slice (some ⟨g, 0, none⟩) 0 0) ∧ w.heap.size ≤ g ∧ w'.heap[g]? = some (Obj.cells #[] 2 (0, 0))

set_option maxRecDepth 20000 in
set_option maxHeartbeats 16000000 in
theorem specWidths_any (x : Tb) {v : Value} {w : World} (h : RRowN 0 w v x.rs) (hs : SmT x) :
    Calls Tryz.prog 28 #[tbV x v] w fun e w' => WidP x (tabB x && colsOk x.gs x.rs x.co.toNat) e w w' ∧ Below w.heap.size w w' := by
  have hTP : tabB x = true → 1 ≤ x.co ∧ x.co ≤ 20 ∧ (-1073741823 ≤ x.gs ∧ x.gs ≤ 1073741823) ∧ x.rs.length ≤ 200 ∧ ∀ i, i < x.rs.length → RowIn (x.rs.getD i Rw.none).cs x.co := by
    intro h
    unfold tabB headB glB at h
    simp only [Bool.and_eq_true, decide_eq_true_eq] at h
    obtain ⟨⟨⟨⟨h1, h2⟩, ⟨⟨⟨⟨h3, _⟩, _⟩, _⟩, _⟩⟩, h4⟩, h5⟩ := h
    unfold fitsB at h3
    simp only [decide_eq_true_eq] at h3
    exact ⟨h1, h2, h3, h4, fun i hi => rowB_in (rowsB_at h5 i hi) h1⟩
  have HC : Hid (∀ W, Below w.heap.size w W → Calls Tryz.prog 24 #[tbV x v] W fun e w' => e = .returned (.bool (tabB x)) ∧ Below W.heap.size W w') := hideP (fun W hW => specTableOk_any x (h.below rwNStable hW) hs)
  obtain ⟨ua, n, uc, rfl, hn, hr⟩ := h
  have HR : Hid (0 < n → ∃ b off, ua = some ⟨b, off, none⟩ ∧ 0 ≤ b ∧ b < w.heap.size ∧ ∀ i, i < n → ∃ cs : List Value, cs.length = 2 ∧ RwN 0 w cs (x.rs.getD i Rw.none) ∧ ∀ j, j < 2 → w.cell? ⟨b, off + i * 2 + j, none⟩ = cs[j]?) := hr
  have HS : Hid (∀ i, i < n → SmW (x.rs.getD i Rw.none)) := hideP (by rw [← hn]; exact hs.2)
  have HN : Hid (x.rs.length = n) := hideP hn
  clear hr hs hn
  obtain ⟨i0, hi, hz0, hz1, hz2⟩ := info_parts Tryz.info2w
  have HI : Hid (i0.bytes = 8) := hz2
  obtain ⟨T, hT⟩ : ∃ T, T = tabB x := ⟨_, rfl⟩
  rw [← hT] at HC hTP ⊢
  clear hT
  obtain ⟨co, gs, gp, gpo, gm, gmo, rs⟩ := x
  dsimp only at hTP HR HS HN ⊢
  simp only [tbV] at HC ⊢
  cases T with
  | false =>
    have HP : Hid (∀ e w', (∃ g, e = Ending.returned (.slice (some ⟨g, 0, none⟩) 0 0) ∧ w.heap.size ≤ g ∧ w'.heap[g]? = some (Obj.cells #[] 2 (0, 0))) → WidP ⟨co, gs, gp, gpo, gm, gmo, rs⟩ (false && colsOk gs rs co.toNat) e w w') := hideP (fun e w' h => h)
    go_enter Tryz.func28, Tryz.ntmps28
    go_wp2_with fail
    refine (HC.out _ (below1 _ _)).mono ?_
    rintro e w1 ⟨rfl, hb1⟩
    have B1 : Hid (Below w.heap.size w w1) := hideP (below_more (below1 _ _) hb1 (by simp))
    clear hb1
    go_wp2
    go_ret
    exact ⟨HP.out _ _ ⟨_, rfl, B1.out.size, heap_alloc_new w1 _⟩, B1.out.alloc B1.out.size _⟩
  | true =>
    obtain ⟨hc1, hc2, hg, hlen, hin⟩ := hTP (by first | rfl | trivial)
    obtain ⟨cols, hcols⟩ : ∃ cols : Nat, (cols : Int) = co := ⟨co.toNat, by omega⟩
    subst hcols
    rw [show (cols : Int).toNat = cols by omega]
    rw [HN.out] at hlen hin
    have HIN := hideP hin
    have HG := hideP hg
    have HBD : Hid (∀ k, k ≤ 20 → Bd (colsStep gs rs k)) := hideP (colsStep_bd hg (by rw [HN.out]; exact hin) hc2)
    have HPY : Hid (∀ g w', colsOk gs rs cols = true → w.heap.size ≤ g → IntsAt w' g cols (colsStep gs rs cols) → WidP ⟨(cols : Int), gs, gp, gpo, gm, gmo, rs⟩ (true && colsOk gs rs cols) (.returned (.slice (some ⟨g, 0, none⟩) cols cols)) w w') := hideP (fun g w' h1 h2 h3 => by rw [h1]; exact ⟨g, rfl, h2, h3⟩)
    have HPN : Hid (∀ g w', colsOk gs rs cols = false → w.heap.size ≤ g → w'.heap[g]? = some (Obj.cells #[] 2 (0, 0)) → WidP ⟨(cols : Int), gs, gp, gpo, gm, gmo, rs⟩ (true && colsOk gs rs cols) (.returned (.slice (some ⟨g, 0, none⟩) 0 0)) w w') := hideP (fun g w' h1 h2 h3 => by rw [h1]; exact ⟨g, rfl, h2, h3⟩)
    have hc3 : cols ≤ 20 := by omega
    have hc4 : 1 ≤ cols := by omega
    clear hin hg hTP hc1 hc2
    go_enter Tryz.func28, Tryz.ntmps28
    go_wp2_with fail
    refine (HC.out _ (below1 _ _)).mono ?_
    rintro e w1 ⟨rfl, hb1⟩
    have BT1 : Hid (Below (w.heap.size + 1) (w.alloc (tbO ⟨(cols : Int), gs, gp, gpo, gm, gmo, rs⟩ (.slice ua n uc))) w1) := hideP (hb1.mono (by simp))
    have QT : Hid (∀ x, Below (w.heap.size + 1) (w.alloc (tbO ⟨(cols : Int), gs, gp, gpo, gm, gmo, rs⟩ (.slice ua n uc))) x → x.cell? ⟨w.heap.size, 0, none⟩ = some (.int .i64 (cols : Int)) ∧ x.cell? ⟨w.heap.size, 1, none⟩ = some (.int .i64 gs) ∧ x.cell? ⟨w.heap.size, 6, none⟩ = some (.slice ua n uc) ∧ w.heap.size < x.heap.size ∧ Below w.heap.size w x) := hideP (fun x hx => ⟨(hx.cell (p := ⟨w.heap.size, 0, none⟩) (by simp)).trans (by simp), (hx.cell (p := ⟨w.heap.size, 1, none⟩) (by simp)).trans (by simp), (hx.cell (p := ⟨w.heap.size, 6, none⟩) (by simp)).trans (by simp), (by have := hx.size; simp at this; omega), (below1 w _).trans (hx.mono (by omega))⟩)
    obtain ⟨t0, _, _, hws1, _⟩ := QT.out _ BT1.out
    clear hb1
    go_wp2_with (at_make; refine wpList_make_full _ rfl _ _ 57 rfl w1.heap.size 2 i0 (.int .i64 0) 1 Tryz.underlying57 hi hz0 hz1 _ _ _ _ cols rfl rfl (by omega) (by omega) (by rw [HI.out]; omega) (by unfold maxLen; omega) (Nat.le_refl _) ?_)
    intro w2 hown2 hgrow2
    obtain ⟨g, hgg⟩ : ∃ g, g = w1.heap.size := ⟨_, rfl⟩
    rw [← hgg] at hown2 ⊢
    have A2 : Hid (IntsAt w2 g cols (fun _ => 0)) := hideP (IntsAt.of_own hown2 (fun i hi => by
      have e : (madeCells #[Value.int .i64 0] cols).toList = List.replicate cols (Value.int .i64 0) := toList_madeCells_one (.int .i64 0) cols
      rw [e, List.getElem?_replicate, if_pos hi]))
    have BT2 : Hid (Below (w.heap.size + 1) (w.alloc (tbO ⟨(cols : Int), gs, gp, gpo, gm, gmo, rs⟩ (.slice ua n uc))) w2) := hideP (Below.grown BT1.out hgrow2 (by omega) (by simp))
    have hgw : w.heap.size + 1 ≤ g := by omega
    clear hown2 hgrow2 hgg t0 BT1 HC hws1
    go_wp2_with fail
    go_loopw [4, 5, 6, 7] (fun s _ _ _ wr => ∃ k : Nat, k ≤ cols ∧ s = .int .i64 k ∧ Hid (colsOk gs rs k = true ∧ IntsAt wr g cols (colsStep gs rs k)) ∧ Below (w.heap.size + 1) (w.alloc (tbO ⟨(cols : Int), gs, gp, gpo, gm, gmo, rs⟩ (.slice ua n uc))) wr) (fun s _ _ _ _ => cols - (intOf s).toNat)
    case atStart => exact ⟨0, by omega, rfl, hideP ⟨rfl, A2.out⟩, BT2.out⟩
    case round =>
      obtain ⟨k, hk, rfl, HK, hbel⟩ := hrel
      obtain ⟨wo, rfl⟩ : ∃ wo : World, wo = wr := ⟨_, rfl⟩
      have BO := hideP hbel
      obtain ⟨t0, t1, t6, hws, _⟩ := QT.out _ hbel
      clear hbel A2 BT2
      by_cases hkc : k < cols
      · have hki : (k : Int) < (cols : Int) := by omega
        go_wp2_with fail
        go_loopw [5, 6, 7] (fun s _ _ wr => ∃ i : Nat, i ≤ n ∧ s = .int .i64 i ∧ Hid (IntsAt wr g cols (rowsStep gs k rs (colsStep gs rs k) i)) ∧ Below (w.heap.size + 1) (w.alloc (tbO ⟨(cols : Int), gs, gp, gpo, gm, gmo, rs⟩ (.slice ua n uc))) wr) (fun s _ _ _ => n - (intOf s).toNat)
        case atStart => exact ⟨0, by omega, rfl, hideP HK.out.2, BO.out⟩
        case round =>
          obtain ⟨i, hi2, rfl, HII, hbel⟩ := hrel
          obtain ⟨wp, rfl⟩ : ∃ wp : World, wp = wr := ⟨_, rfl⟩
          have BP := hideP hbel
          clear t0 t1 t6 hws
          obtain ⟨t0, t1, t6, hws, _⟩ := QT.out _ hbel
          clear hbel
          by_cases hin : i < n
          · have hii : (i : Int) < (n : Int) := by omega
            obtain ⟨b, off, rfl, _, hb, hrow⟩ := HR.out (by omega)
            obtain ⟨rc, _, ⟨rv, hrc, hrv⟩, hrj⟩ := hrow i hin
            rw [hrc] at hrj
            have hsw := HS.out i hin
            have hri := HIN.out i hin
            obtain ⟨cs, hcs⟩ : ∃ cs, cs = (rs.getD i Rw.none).cs := ⟨_, rfl⟩
            have HST : Hid (rowsStep gs k rs (colsStep gs rs k) (i + 1) = laneStep gs k cs (rowsStep gs k rs (colsStep gs rs k) i) cs.length) := hideP (by rw [hcs]; rfl)
            have HSM : Hid (∀ j, j < cs.length → SmC (cs.getD j Cl.none)) := hideP (by rw [hcs]; exact hsw.2)
            rw [← hcs] at hri hrv
            obtain ⟨va, m, vc, rfl, hm, hcells⟩ := hrv
            have HRI := hideP hri
            have HCS := hideP hcells
            have HFB : Hid (Bd (rowsStep gs k rs (colsStep gs rs k) i)) := hideP (rowsStep_bd (HBD.out k (by omega)) HG.out (fun i hi => HIN.out i (by rw [← HN.out]; exact hi)) (by omega) (by omega) i (by rw [HN.out]; omega))
            obtain ⟨f0, hf0⟩ : ∃ f0, f0 = rowsStep gs k rs (colsStep gs rs k) i := ⟨_, rfl⟩
            rw [← hf0] at HII HST HFB
            rw [hm] at HST HSM
            have HM := hideP hm
            have QR : Hid (∀ x, Below w.heap.size w x → x.cell? ⟨b, off + i * 2, none⟩ = some (.slice va m vc)) := hideP (fun x hx => (hx.cell (p := ⟨b, off + i * 2, none⟩) hb).trans (hrj 0 (by omega)))
            have hcl : m ≤ 20 := by have h1 := spK_bound (show (cols : Int) ≤ 20 by omega) HRI.out.1; have h2 := HRI.out.2; rw [hm] at h1 h2; omega
            clear hrow hrj hrc hcells hri hcs hf0 hm hsw
            go_wp2_with fail
            go_loopw [6, 7] (fun s6 s7 wr => ∃ (j a : Nat), j ≤ m ∧ s6 = .int .i64 a ∧ s7 = .int .i64 j ∧ Hid ((a : Int) = spK cs j ∧ IntsAt wr g cols (laneStep gs k cs f0 j)) ∧ Below (w.heap.size + 1) (w.alloc (tbO ⟨(cols : Int), gs, gp, gpo, gm, gmo, rs⟩ (.slice (some ⟨b, off, none⟩) n uc))) wr) (fun _ s _ => m - (intOf s).toNat)
            case atStart => exact ⟨0, 0, by omega, rfl, rfl, hideP ⟨rfl, HII.out⟩, BP.out⟩
            case round =>
              obtain ⟨j, a, hj, rfl, rfl, HJ, hbel⟩ := hrel
              have BR := hideP hbel
              clear t0 t1 t6 hws
              obtain ⟨t0, t1, t6, hws, hbw⟩ := QT.out _ hbel
              have r0 := QR.out _ hbw
              have hbr : b < wr.heap.size := Nat.lt_of_lt_of_le hb hbw.size
              have HBW := hideP hbw
              clear hbel hbw HII BP BO
              by_cases hjm : j < m
              · have hji : (j : Int) < (m : Int) := by omega
                obtain ⟨b2, off2, rfl, _, hb2, hcell⟩ := HCS.out (by omega)
                obtain ⟨cc, _, ⟨nv, hcc, hnv, hnN⟩, hcj⟩ := hcell j hjm
                rw [hcc] at hcj
                have hat := HRI.out.at (show (cols : Int) ≤ 20 by omega) (j := j) (by rw [HM.out]; omega)
                have hsm := HSM.out j hjm
                obtain ⟨t, ht⟩ : ∃ t, t = cs.getD j Cl.none := ⟨_, rfl⟩
                rw [← ht] at hnv hnN hcj hat hsm
                have HT : Hid (t = cs.getD j Cl.none) := ht
                obtain ⟨na, nn, nc, rfl⟩ : ∃ a n c, nv = .slice a n c := by obtain ⟨a, c, rfl⟩ := hnv.shape; exact ⟨_, _, _, rfl⟩
                obtain ⟨nat, hnat⟩ : ∃ nat, nat = natW t.ns := ⟨_, rfl⟩
                have HC10 : Hid (∀ X : World, Below w.heap.size w X → Calls Tryz.prog 10 #[.slice na nn nc, .int .i64 0, .int .i64 0] X fun e w' => ∃ gH hc hs nH, e = .returned (packV (.slice (some ⟨gH, 0, none⟩) nH hc) hs) ∧ 0 < nH ∧ gH < w'.heap.size ∧ w'.cell? ⟨gH, 1, none⟩ = some (.int .i64 nat) ∧ Below X.heap.size X w') := hideP (fun X hX => by
                  refine (specHN 0 0 (hnv.below ndStable hX) (hnN.abv ⟨hX.size, fun k _ hk => hX.block k hk⟩) hsm.1).mono ?_
                  rintro e w' ⟨u, rfl, ho, hb⟩
                  obtain ⟨a, c, rfl⟩ := ownG_shape ho
                  have hok := hat.2.2.2.2.2
                  have hp : 0 < (hpR t.ns 0 0).length := by
                    have h1 := @hpR_none t.ns
                    rw [hok] at h1
                    have h2 : ¬ (hpR t.ns 0 0).length = 0 := fun e => by have := h1.1 e; cases this
                    omega
                  obtain ⟨tl, htl⟩ := hpR_head hok
                  rcases ho.2 with ⟨e, _⟩ | ⟨g, cap, cur, e, _, hh, _⟩
                  · simp at e; omega
                  · simp at e
                    obtain ⟨rfl, rfl⟩ := e
                    refine ⟨g, _, _, _, rfl, hp, (Array.getElem?_eq_some_iff.1 hh).1, ?_, hb⟩
                    refine (own_cell ho (j := 1) ?_).1
                    rw [htl, hnat]
                    rfl)
                have HFJ : Hid (Bd (laneStep gs k cs f0 j)) := hideP (laneStep_bd HFB.out HG.out HRI.out (by omega) (by omega) j (by rw [HM.out]; omega))
                obtain ⟨f1, hf1⟩ : ∃ f1, f1 = laneStep gs k cs f0 j := ⟨_, rfl⟩
                have HS1 : Hid (laneStep gs k cs f0 (j + 1) = cellStep gs k cs f1 j) := hideP (by rw [hf1]; rfl)
                rw [← hf1] at HJ HFJ
                have hnb : -1073741823 ≤ nat ∧ nat ≤ 1073741823 := by rw [hnat]; exact ⟨hat.2.2.2.1, hat.2.2.2.2.1⟩
                have hsuc : spK cs (j + 1) = spK cs j + t.sp := by rw [spK_succ, ← ht]
                have hat1 : 1 ≤ t.sp := by have := hat.2.1; omega
                have hat2 : (a : Int) + t.sp ≤ cols := by have := hat.2.2.1; have := HJ.out.1; omega
                have HAT : Hid ((a : Int) = spK cs j) := hideP HJ.out.1
                have HSY0 : Hid ((a : Int) + t.sp - 1 = (k : Int) → laneStep gs k cs f0 (j + 1) = upd f1 k (f1 k + max (nat - acr f1 gs a k) 0)) := hideP (fun e => by
                  rw [HS1.out]
                  unfold cellStep
                  rw [if_pos (by rw [hsuc, ← HAT.out]; exact e), ← ht, ← hnat, ← HAT.out]
                  rfl)
                have HSN : Hid (¬ (a : Int) + t.sp - 1 = (k : Int) → laneStep gs k cs f0 (j + 1) = f1) := hideP (fun e => by
                  rw [HS1.out]
                  unfold cellStep
                  rw [if_neg (by rw [hsuc, ← HAT.out]; exact e)])
                have d0 : wr.cell? ⟨b2, off2 + j * 3, none⟩ = some (.int .i64 t.sp) := (HBW.out.cell (p := ⟨b2, off2 + j * 3, none⟩) hb2).trans (hcj 0 (by omega))
                have d1 : wr.cell? ⟨b2, off2 + j * 3 + 1, none⟩ = some (.int .i64 t.al) := (HBW.out.cell (p := ⟨b2, off2 + j * 3 + 1, none⟩) hb2).trans (hcj 1 (by omega))
                have d2 : wr.cell? ⟨b2, off2 + j * 3 + 2, none⟩ = some (.slice na nn nc) := (HBW.out.cell (p := ⟨b2, off2 + j * 3 + 2, none⟩) hb2).trans (hcj 2 (by omega))
                have hb2r : b2 < wr.heap.size := Nat.lt_of_lt_of_le hb2 HBW.out.size
                clear hcell hcj hcc hnv hnN hat hsm ht hnat hf1 HS1 hsuc
                obtain ⟨sp, al, ns⟩ := t
                dsimp only at d0 d1 hat1 hat2 HSY0 HSN
                have wadd1 : IntKind.i64.wrap ((a : Int) + sp) = a + sp := by rw [IntKind.wrap_i64]; omega
                have wsub1 : IntKind.i64.wrap ((a : Int) + sp - 1) = a + sp - 1 := by rw [IntKind.wrap_i64]; omega
                by_cases hlk : (a : Int) + sp - 1 = (k : Int)
                · have HSY1 := hideP (HSY0.out hlk)
                  have hbq : ((a : Int) + sp - 1 == (k : Int)) = true := by simp [hlk]
                  have HLK := hideP hlk
                  clear HSY0 HSN hlk
                  go_wp2_with fail
                  obtain ⟨W, hW⟩ : ∃ W, W = wr.alloc (.cells #[.int .i64 sp, .int .i64 al, .slice na nn nc] 103) := ⟨_, rfl⟩
                  obtain ⟨q, hq⟩ : ∃ q, q = wr.heap.size := ⟨_, rfl⟩
                  rw [← hW, ← hq]
                  have AW : Hid (IntsAt W g cols f1) := hideP (by rw [hW]; exact HJ.out.2.below (below1 _ _))
                  have BT : Hid (Below (w.heap.size + 1) (w.alloc (tbO ⟨(cols : Int), gs, gp, gpo, gm, gmo, rs⟩ (.slice (some ⟨b, off, none⟩) n uc))) W) := hideP (by rw [hW]; exact BR.out.alloc hws _)
                  have BW : Hid (Below w.heap.size w W) := hideP (QT.out _ BT.out).2.2.2.2
                  have CW : Hid (W.heap[q]? = some (.cells #[.int .i64 sp, .int .i64 al, .slice na nn nc] 103 (0, 0))) := hideP (by rw [hW, hq]; exact heap_alloc_new wr _)
                  have hqW : q < W.heap.size := (Array.getElem?_eq_some_iff.1 CW.out).1
                  have hgq : g < q := by rw [hq]; exact HJ.out.2.lt
                  have hsW : w.heap.size + 1 ≤ W.heap.size := by omega
                  clear hW hq d0 d1 d2 hb2r hbr r0 t0 t1 t6
                  obtain ⟨ac, hac⟩ : ∃ ac, ac = acr f1 gs a k := ⟨_, rfl⟩
                  have hacb := acr_bd HFJ.out HG.out (show a ≤ k by have := HLK.out; omega) (show k < 20 by omega)
                  have hfkb := HFJ.out k
                  obtain ⟨fk, hfk2⟩ : ∃ fk, fk = f1 k := ⟨_, rfl⟩
                  have HFK := hideP hfk2
                  have HCA : Hid (∀ X, Below W.heap.size W X → Calls Tryz.prog 64 #[.slice (some ⟨g, 0, none⟩) cols cols, .int .i64 gs, .int .i64 (a : Int), .int .i64 sp] X fun e w' => e = .returned (.int .i64 ac) ∧ w' = X) := hideP (fun X hX => by rw [hac]; exact l12Across_any a k (AW.out.below hX) HFJ.out (by have := HLK.out; omega) hkc hc3 HG.out sp (by have := HLK.out; omega))
                  have HSY : Hid (laneStep gs k cs f0 (j + 1) = upd f1 k (fk + max (nat - ac) 0)) := hideP (by rw [HSY1.out, hac, hfk2])
                  rw [← hac] at hacb
                  rw [← hfk2] at hfkb
                  have wsub : IntKind.i64.wrap (nat - ac) = nat - ac := by rw [IntKind.wrap_i64]; omega
                  have QS : Hid (∀ x : World, Below W.heap.size W x → x.cell? ⟨q, 0, none⟩ = some (.int .i64 sp) ∧ x.cell? ⟨q, 2, none⟩ = some (.slice na nn nc) ∧ x.cell? ⟨w.heap.size, 1, none⟩ = some (.int .i64 gs)) := hideP (fun x hx => ⟨cell_of_row _ _ 0 _ 103 _ ((hx.block _ hqW).trans CW.out), cell_of_row _ _ 2 _ 103 _ ((hx.block _ hqW).trans CW.out), (QT.out _ (BT.out.trans (hx.mono hsW))).2.1⟩)
                  clear hac hfk2 HSY1 CW
                  refine wp_region_held_drew (S := fun x => x.cell? ⟨q, 0, none⟩ = some (.int .i64 sp) ∧ x.cell? ⟨q, 2, none⟩ = some (.slice na nn nc) ∧ x.cell? ⟨w.heap.size, 1, none⟩ = some (.int .i64 gs)) (by kernel_rfl) (QS.out _ ((Below.refl _ _).drew)) (fun hS => ?_)
                  refine wpAnyH_take (i := 0) (v := .pointer (some ⟨q, 2, none⟩)) rfl (by kernel_rfl) (by kernel_rfl) (by kernel_rfl) (fun _ _ _ h => h) (Or.inl ⟨by first | rfl | go_simp, fun wx hx => by obtain ⟨hx0, hx1, hx2⟩ := hx; go_simp⟩) hS ?_
                  try simp only [Act.put, List.getElem_toArray, List.getElem_cons_zero, List.getElem_cons_succ, List.setIfInBounds_toArray, List.set_cons_zero, List.set_cons_succ]
                  refine wpAnyH_take (i := 1) (v := .slice na nn nc) rfl (by kernel_rfl) (by kernel_rfl) (by kernel_rfl) (fun _ _ _ h => h) (Or.inl ⟨by first | rfl | go_simp, fun wx hx => by obtain ⟨hx0, hx1, hx2⟩ := hx; go_simp⟩) hS ?_
                  try simp only [Act.put, List.getElem_toArray, List.getElem_cons_zero, List.getElem_cons_succ, List.setIfInBounds_toArray, List.set_cons_zero, List.set_cons_succ]
                  refine wpAnyH_take (i := 7) (v := .slice (some ⟨g, 0, none⟩) cols cols) rfl (by kernel_rfl) (by kernel_rfl) (by kernel_rfl) (fun _ _ _ h => h) (Or.inl ⟨by first | rfl | go_simp, fun wx hx => by obtain ⟨hx0, hx1, hx2⟩ := hx; go_simp⟩) hS ?_
                  try simp only [Act.put, List.getElem_toArray, List.getElem_cons_zero, List.getElem_cons_succ, List.setIfInBounds_toArray, List.set_cons_zero, List.set_cons_succ]
                  refine wpAnyH_take (i := 8) (v := .pointer (some ⟨w.heap.size, 1, none⟩)) rfl (by kernel_rfl) (by kernel_rfl) (by kernel_rfl) (fun _ _ _ h => h) (Or.inl ⟨by first | rfl | go_simp, fun wx hx => by obtain ⟨hx0, hx1, hx2⟩ := hx; go_simp⟩) hS ?_
                  try simp only [Act.put, List.getElem_toArray, List.getElem_cons_zero, List.getElem_cons_succ, List.setIfInBounds_toArray, List.set_cons_zero, List.set_cons_succ]
                  refine wpAnyH_take (i := 9) (v := .pointer (some ⟨w.heap.size, 1, none⟩)) rfl (by kernel_rfl) (by kernel_rfl) (by kernel_rfl) (fun _ _ _ h => h) (Or.inl ⟨by first | rfl | go_simp, fun wx hx => by obtain ⟨hx0, hx1, hx2⟩ := hx; go_simp⟩) hS ?_
                  try simp only [Act.put, List.getElem_toArray, List.getElem_cons_zero, List.getElem_cons_succ, List.setIfInBounds_toArray, List.set_cons_zero, List.set_cons_succ]
                  refine wpAnyH_take (i := 10) (v := .int .i64 gs) rfl (by kernel_rfl) (by kernel_rfl) (by kernel_rfl) (fun _ _ _ h => h) (Or.inl ⟨by first | rfl | go_simp, fun wx hx => by obtain ⟨hx0, hx1, hx2⟩ := hx; go_simp⟩) hS ?_
                  try simp only [Act.put, List.getElem_toArray, List.getElem_cons_zero, List.getElem_cons_succ, List.setIfInBounds_toArray, List.set_cons_zero, List.set_cons_succ]
                  refine wpAnyH_take (i := 11) (v := .int .i64 (a : Int)) rfl (by kernel_rfl) (by kernel_rfl) (by kernel_rfl) (fun _ _ _ h => h) (Or.inl ⟨by first | rfl | go_simp, fun wx hx => by obtain ⟨hx0, hx1, hx2⟩ := hx; go_simp⟩) hS ?_
                  try simp only [Act.put, List.getElem_toArray, List.getElem_cons_zero, List.getElem_cons_succ, List.setIfInBounds_toArray, List.set_cons_zero, List.set_cons_succ]
                  refine wpAnyH_take (i := 12) (v := .pointer (some ⟨q, 0, none⟩)) rfl (by kernel_rfl) (by kernel_rfl) (by kernel_rfl) (fun _ _ _ h => h) (Or.inl ⟨by first | rfl | go_simp, fun wx hx => by obtain ⟨hx0, hx1, hx2⟩ := hx; go_simp⟩) hS ?_
                  try simp only [Act.put, List.getElem_toArray, List.getElem_cons_zero, List.getElem_cons_succ, List.setIfInBounds_toArray, List.set_cons_zero, List.set_cons_succ]
                  refine wpAnyH_take (i := 13) (v := .int .i64 sp) rfl (by kernel_rfl) (by kernel_rfl) (by kernel_rfl) (fun _ _ _ h => h) (Or.inl ⟨by first | rfl | go_simp, fun wx hx => by obtain ⟨hx0, hx1, hx2⟩ := hx; go_simp⟩) hS ?_
                  try simp only [Act.put, List.getElem_toArray, List.getElem_cons_zero, List.getElem_cons_succ, List.setIfInBounds_toArray, List.set_cons_zero, List.set_cons_succ]
                  refine wpAnyH_ready (rs := [2]) (by kernel_rfl) (by simp) ?_
                  refine AllReadyH.cons rfl (fun K hK => ?_) AllReadyH.nil
                  rw [if_pos (by first | rfl | go_simp)]
                  go_simp
                  go_at_call 10
                  refine (HC10.out _ (below_more BW.out ((Below.refl _ _).drew) BW.out.size)).mono ?_
                  rintro e w2 ⟨gH, hc, hs, nH, rfl, hnH, hgH, cN, hb2⟩
                  have B2 : Below W.heap.size W w2 := below_more ((Below.refl _ _).drew) hb2 (Nat.le_refl _)
                  have hnI : (0 : Int) < (nH : Int) := by omega
                  have hfd : ∀ X, (Instr.field 28 (packV (.slice (some ⟨gH, 0, none⟩) nH hc) hs) 0).run Tryz.prog X = .ok (.slice (some ⟨gH, 0, none⟩) nH hc) X := fun X => fld28 _ _ X
                  clear hb2
                  refine hK.out _ _ (QS.out _ B2) (fun hS => ?_)
                  try simp only [Act.put, List.getElem_toArray, List.getElem_cons_zero, List.getElem_cons_succ, List.setIfInBounds_toArray, List.set_cons_zero, List.set_cons_succ]
                  clear hK K
                  refine wpAnyH_take (i := 3) (v := .slice (some ⟨gH, 0, none⟩) nH hc) rfl (by kernel_rfl) (by kernel_rfl) (by kernel_rfl) (fun _ _ _ h => h) (Or.inl ⟨by first | rfl | go_simp, fun wx hx => by obtain ⟨hx0, hx1, hx2⟩ := hx; go_simp⟩) hS ?_
                  try simp only [Act.put, List.getElem_toArray, List.getElem_cons_zero, List.getElem_cons_succ, List.setIfInBounds_toArray, List.set_cons_zero, List.set_cons_succ]
                  refine wpAnyH_take (i := 4) (v := .pointer (some ⟨gH, 0, none⟩)) rfl (by kernel_rfl) (by kernel_rfl) (by kernel_rfl) (fun _ _ _ h => h) (Or.inl ⟨by first | rfl | go_simp, fun wx hx => by obtain ⟨hx0, hx1, hx2⟩ := hx; go_simp⟩) hS ?_
                  try simp only [Act.put, List.getElem_toArray, List.getElem_cons_zero, List.getElem_cons_succ, List.setIfInBounds_toArray, List.set_cons_zero, List.set_cons_succ]
                  refine wpAnyH_take (i := 5) (v := .pointer (some ⟨gH, 1, none⟩)) rfl (by kernel_rfl) (by kernel_rfl) (by kernel_rfl) (fun _ _ _ h => h) (Or.inl ⟨by first | rfl | go_simp, fun wx hx => by obtain ⟨hx0, hx1, hx2⟩ := hx; go_simp⟩) hS ?_
                  try simp only [Act.put, List.getElem_toArray, List.getElem_cons_zero, List.getElem_cons_succ, List.setIfInBounds_toArray, List.set_cons_zero, List.set_cons_succ]
                  refine wpAnyH_ready (rs := [6, 14]) (by kernel_rfl) (by simp) ?_
                  refine AllReadyH.cons rfl (fun K hK => ?_) (AllReadyH.cons rfl (fun K hK => ?_) AllReadyH.nil)
                  · rw [if_pos (by first | rfl | go_simp)]
                    go_simp
                    refine hK.out _ _ (QS.out _ B2) (fun hS => ?_)
                    try simp only [Act.put, List.getElem_toArray, List.getElem_cons_zero, List.getElem_cons_succ, List.setIfInBounds_toArray, List.set_cons_zero, List.set_cons_succ]
                    clear hK K
                    refine wpAnyH_ready (rs := [14]) (by kernel_rfl) (by simp) ?_
                    refine AllReadyH.cons rfl (fun K hK => ?_) AllReadyH.nil
                    rw [if_pos (by first | rfl | go_simp)]
                    go_simp
                    go_at_call 64
                    refine (HCA.out _ B2).mono ?_
                    rintro e w3 ⟨rfl, h3⟩
                    have h4 := h3.symm
                    subst h4
                    clear h3
                    refine hK.out _ _ (QS.out _ B2) (fun hS => ?_)
                    try simp only [Act.put, List.getElem_toArray, List.getElem_cons_zero, List.getElem_cons_succ, List.setIfInBounds_toArray, List.set_cons_zero, List.set_cons_succ]
                    clear hK K
                    refine wpAnyH_take (i := 15) (v := .int .i64 (nat - ac)) rfl (by kernel_rfl) (by kernel_rfl) (by kernel_rfl) (fun _ _ _ h => h) (Or.inl ⟨by first | rfl | go_simp, fun wx hx => by obtain ⟨hx0, hx1, hx2⟩ := hx; go_simp⟩) hS ?_
                    try simp only [Act.put, List.getElem_toArray, List.getElem_cons_zero, List.getElem_cons_succ, List.setIfInBounds_toArray, List.set_cons_zero, List.set_cons_succ]
                    refine wpAnyH_take (i := 16) (v := .int .i64 (nat - ac)) rfl (by kernel_rfl) (by kernel_rfl) (by kernel_rfl) (fun _ _ _ h => h) (Or.inl ⟨by first | rfl | go_simp, fun wx hx => by obtain ⟨hx0, hx1, hx2⟩ := hx; go_simp⟩) hS ?_
                    try simp only [Act.put, List.getElem_toArray, List.getElem_cons_zero, List.getElem_cons_succ, List.setIfInBounds_toArray, List.set_cons_zero, List.set_cons_succ]
                    refine wpAnyH_done (by kernel_rfl) ?_ _
                    clear hfd cN hnI hnH hgH hS
                    have A2 := hideP (AW.out.below B2)
                    have BT2 : Hid (Below (w.heap.size + 1) (w.alloc (tbO ⟨(cols : Int), gs, gp, gpo, gm, gmo, rs⟩ (.slice (some ⟨b, off, none⟩) n uc))) w2) := hideP (BT.out.trans (B2.mono hsW))
                    have c0 : w2.cell? ⟨q, 0, none⟩ = some (.int .i64 sp) := (QS.out _ B2).1
                    have hq2 : q < w2.heap.size := Nat.lt_of_lt_of_le hqW B2.size
                    have cG : w2.cell? ⟨g, k, none⟩ = some (.int .i64 fk) := by rw [HFK.out]; exact A2.out.cell hkc
                    have fG := A2.out.free
                    have hgl2 := A2.out.lt
                    clear B2
                    by_cases hneed : 0 < nat - ac
                    · have hngq : ¬ q = g := by omega
                      have hngq2 : ¬ g = q := by omega
                      have wadd : IntKind.i64.wrap (fk + (nat - ac)) = fk + (nat - ac) := by rw [IntKind.wrap_i64]; omega
                      go_wp2
                      go_roundw
                      case rel =>
                        refine ⟨j + 1, a + sp.toNat, by omega, by congr 1; omega, by go_num, hideP ⟨by rw [spK_succ, ← HT.out, ← HAT.out]; dsimp only; omega, ?_⟩, (BT2.out.setCell (by simp; omega) _)⟩
                        rw [HSY.out, show fk + max (nat - ac) 0 = fk + (nat - ac) by omega]
                        exact A2.out.set hkc _
                      case measure => simp [intOf]; omega
                    · go_wp2
                      go_roundw
                      case rel =>
                        refine ⟨j + 1, a + sp.toNat, by omega, by congr 1; omega, by go_num, hideP ⟨by rw [spK_succ, ← HT.out, ← HAT.out]; dsimp only; omega, ?_⟩, BT2.out⟩
                        rw [HSY.out, show fk + max (nat - ac) 0 = fk by omega]
                        exact A2.out.congr (fun i _ => by unfold upd; split; (rename_i e; rw [e, HFK.out]); rfl)
                      case measure => simp [intOf]; omega
                  · rw [if_pos (by first | rfl | go_simp)]
                    go_simp
                    go_at_call 64
                    refine (HCA.out _ B2).mono ?_
                    rintro e w3 ⟨rfl, h3⟩
                    have h4 := h3.symm
                    subst h4
                    clear h3
                    refine hK.out _ _ (QS.out _ B2) (fun hS => ?_)
                    try simp only [Act.put, List.getElem_toArray, List.getElem_cons_zero, List.getElem_cons_succ, List.setIfInBounds_toArray, List.set_cons_zero, List.set_cons_succ]
                    clear hK K
                    refine wpAnyH_ready (rs := [6]) (by kernel_rfl) (by simp) ?_
                    refine AllReadyH.cons rfl (fun K hK => ?_) AllReadyH.nil
                    rw [if_pos (by first | rfl | go_simp)]
                    go_simp
                    refine hK.out _ _ (QS.out _ B2) (fun hS => ?_)
                    try simp only [Act.put, List.getElem_toArray, List.getElem_cons_zero, List.getElem_cons_succ, List.setIfInBounds_toArray, List.set_cons_zero, List.set_cons_succ]
                    clear hK K
                    refine wpAnyH_take (i := 15) (v := .int .i64 (nat - ac)) rfl (by kernel_rfl) (by kernel_rfl) (by kernel_rfl) (fun _ _ _ h => h) (Or.inl ⟨by first | rfl | go_simp, fun wx hx => by obtain ⟨hx0, hx1, hx2⟩ := hx; go_simp⟩) hS ?_
                    try simp only [Act.put, List.getElem_toArray, List.getElem_cons_zero, List.getElem_cons_succ, List.setIfInBounds_toArray, List.set_cons_zero, List.set_cons_succ]
                    refine wpAnyH_take (i := 16) (v := .int .i64 (nat - ac)) rfl (by kernel_rfl) (by kernel_rfl) (by kernel_rfl) (fun _ _ _ h => h) (Or.inl ⟨by first | rfl | go_simp, fun wx hx => by obtain ⟨hx0, hx1, hx2⟩ := hx; go_simp⟩) hS ?_
                    try simp only [Act.put, List.getElem_toArray, List.getElem_cons_zero, List.getElem_cons_succ, List.setIfInBounds_toArray, List.set_cons_zero, List.set_cons_succ]
                    refine wpAnyH_done (by kernel_rfl) ?_ _
                    clear hfd cN hnI hnH hgH hS
                    have A2 := hideP (AW.out.below B2)
                    have BT2 : Hid (Below (w.heap.size + 1) (w.alloc (tbO ⟨(cols : Int), gs, gp, gpo, gm, gmo, rs⟩ (.slice (some ⟨b, off, none⟩) n uc))) w2) := hideP (BT.out.trans (B2.mono hsW))
                    have c0 : w2.cell? ⟨q, 0, none⟩ = some (.int .i64 sp) := (QS.out _ B2).1
                    have hq2 : q < w2.heap.size := Nat.lt_of_lt_of_le hqW B2.size
                    have cG : w2.cell? ⟨g, k, none⟩ = some (.int .i64 fk) := by rw [HFK.out]; exact A2.out.cell hkc
                    have fG := A2.out.free
                    have hgl2 := A2.out.lt
                    clear B2
                    by_cases hneed : 0 < nat - ac
                    · have hngq : ¬ q = g := by omega
                      have hngq2 : ¬ g = q := by omega
                      have wadd : IntKind.i64.wrap (fk + (nat - ac)) = fk + (nat - ac) := by rw [IntKind.wrap_i64]; omega
                      go_wp2
                      go_roundw
                      case rel =>
                        refine ⟨j + 1, a + sp.toNat, by omega, by congr 1; omega, by go_num, hideP ⟨by rw [spK_succ, ← HT.out, ← HAT.out]; dsimp only; omega, ?_⟩, (BT2.out.setCell (by simp; omega) _)⟩
                        rw [HSY.out, show fk + max (nat - ac) 0 = fk + (nat - ac) by omega]
                        exact A2.out.set hkc _
                      case measure => simp [intOf]; omega
                    · go_wp2
                      go_roundw
                      case rel =>
                        refine ⟨j + 1, a + sp.toNat, by omega, by congr 1; omega, by go_num, hideP ⟨by rw [spK_succ, ← HT.out, ← HAT.out]; dsimp only; omega, ?_⟩, BT2.out⟩
                        rw [HSY.out, show fk + max (nat - ac) 0 = fk by omega]
                        exact A2.out.congr (fun i _ => by unfold upd; split; (rename_i e; rw [e, HFK.out]); rfl)
                      case measure => simp [intOf]; omega
                · have hbq : ((a : Int) + sp - 1 == (k : Int)) = false := by simp [hlk]
                  have HLK := hideP (HSN.out hlk)
                  clear HSY0 HSN hlk
                  go_wp2
                  go_roundw
                  case rel => exact ⟨j + 1, a + sp.toNat, by omega, by congr 1; omega, by go_num, hideP ⟨by rw [spK_succ, ← HT.out, ← HAT.out]; dsimp only; omega, by rw [HLK.out]; exact HJ.out.2.below (below1 _ _)⟩, BR.out.alloc hws _⟩
                  case measure => simp [intOf]; omega
              · have hji : ¬ (j : Int) < (m : Int) := by omega
                obtain rfl : j = m := by omega
                go_wp2
                go_roundw
                case rel => exact ⟨i + 1, by omega, by go_num, hideP (by rw [HST.out]; exact HJ.out.2), BR.out⟩
                case measure => simp [intOf]; omega
          · have hii : ¬ (i : Int) < (n : Int) := by omega
            obtain rfl : i = n := by omega
            have HCS : Hid (colsStep gs rs (k + 1) = rowsStep gs k rs (colsStep gs rs k) i) := hideP (by rw [← HN.out]; rfl)
            rw [← HCS.out] at HII
            obtain ⟨fk, hfk⟩ : ∃ fk, fk = colsStep gs rs (k + 1) k := ⟨_, rfl⟩
            have cA : wp.cell? ⟨g, k, none⟩ = some (.int .i64 fk) := by rw [hfk]; exact HII.out.cell hkc
            have hAl := HII.out.lt
            have HOK : Hid (colsOk gs rs (k + 1) = fitsB fk) := hideP (by unfold colsOk; rw [HK.out.1, ← hfk]; rfl)
            have HFC : Hid (∀ W, Calls Tryz.prog 40 #[.int .i64 fk] W fun e w' => e = .returned (.bool (fitsB fk)) ∧ w' = W) := hideP (fun W => specFits_any fk W)
            clear hfk HCS
            cases hfb : fitsB fk with
            | true =>
              rw [hfb] at HFC HOK
              go_wp2_with (go_at_call 40; refine (HFC.out _).mono ?_; rintro e w2 ⟨rfl, rfl⟩)
              go_roundw
              case rel => exact ⟨k + 1, by omega, by go_num, hideP ⟨HOK.out, HII.out⟩, BP.out⟩
              case measure => simp [intOf]; omega
            | false =>
              rw [hfb] at HFC HOK
              have HFIN : Hid (colsOk gs rs cols = false) := hideP (colsOk_down (show k + 1 ≤ cols by omega) HOK.out)
              have HBE := hideP (QT.out _ BP.out).2.2.2.2
              go_wp2_with (go_at_call 40; refine (HFC.out _).mono ?_; rintro e w2 ⟨rfl, rfl⟩)
              go_ret
              exact ⟨HPN.out _ _ HFIN.out HBE.out.size (heap_alloc_new _ _), HBE.out.alloc HBE.out.size _⟩
      · have hki : ¬ (k : Int) < (cols : Int) := by omega
        obtain rfl : k = cols := by omega
        have HBE := hideP (QT.out _ BO.out).2.2.2.2
        go_wp2
        go_ret
        exact ⟨HPY.out _ _ HK.out.1 (by omega) HK.out.2, HBE.out⟩
end Go.Proofs.YticalmdhbgkbbaaGreat

