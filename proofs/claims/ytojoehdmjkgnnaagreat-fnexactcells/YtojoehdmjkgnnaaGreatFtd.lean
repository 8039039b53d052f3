/-
  The program's fitted: the least widths with which every cell has room.
-/
import Derived.Test.YtojoehdmjkgnnaaGreatTrs
import Derived.Test.YtojoehdmjkgnnaaGreatWdp
import Derived.Test.YtojoehdmjkgnnaaGreatBsl
namespace Go.Proofs.YtojoehdmjkgnnaaGreat
open Go.RowKit
set_option linter.unusedVariables false
set_option linter.unusedSimpArgs false

/-- Three numbers. -/
structure T3 where
  a : Int
  b : Int
  c : Int
def T3.none : T3 := ⟨0, 0, 0⟩
abbrev t3O (t : T3) : Obj := .cells #[.int .i64 t.a, .int .i64 t.b, .int .i64 t.c] 2 (0, 0)
abbrev slG (g : Nat) : Value := .slice (some ⟨g, 0, none⟩) 3 3
/-- A row of rows of three numbers, each in a block of its own, one behind the other. -/
structure SSO (base : Nat) (w : World) (v : Value) (ts : List T3) (gs : List Nat) : Prop where
  own : w.ownsRow base 46 1 v gs.length (gs.map slG)
  len : gs.length = ts.length
  at_ : ∀ i, i < gs.length → base ≤ gs.getD i 0 ∧ w.heap[gs.getD i 0]? = some (t3O (ts.getD i T3.none))
  up : ∀ i j, i < j → j < gs.length → gs.getD i 0 < gs.getD j 0
theorem SSO.below {base : Nat} {w w' : World} {v : Value} {ts : List T3} {gs : List Nat} (h : SSO base w v ts gs) (hb : Below w.heap.size w w') : SSO base w' v ts gs :=
  ⟨ownG_below h.own hb, h.len, fun i hi => ⟨(h.at_ i hi).1, (hb.block _ (Array.getElem?_eq_some_iff.1 (h.at_ i hi).2).1).trans (h.at_ i hi).2⟩, h.up⟩
theorem getD_snoc {α : Type} {xs : List α} {x d : α} {i : Nat} : (xs ++ [x]).getD i d = if i < xs.length then xs.getD i d else if i = xs.length then x else d := by
  simp only [List.getD_eq_getElem?_getD]
  split
  · rename_i h
    rw [List.getElem?_append_left h]
  · rename_i h
    split
    · rename_i e
      subst e
      simp
    · rw [List.getElem?_eq_none (by simp; omega)]
      rfl
/-- One more row of three numbers: a block made, and the slice that holds it put behind. -/
theorem SSO.snoc {base : Nat} {w w' : World} {v v' : Value} {ts : List T3} {gs : List Nat} {t : T3} {o : Obj} (h : SSO base w v ts gs) (hb : base ≤ w.heap.size)
    (ho : w'.ownsRow base 46 1 v' (gs.length + 1) (gs.map slG ++ [slG w.heap.size])) (hg : ((w.alloc (t3O t)).alloc o).grownBy w' v.ownBlock) : SSO base w' v' (ts ++ [t]) (gs ++ [w.heap.size]) := by
  have hkeep : ∀ g (t : T3), g < w.heap.size + 1 → ((w.alloc (t3O t)).alloc o).heap[g]? = ((w.alloc (t3O t)).alloc o).heap[g]? := fun _ _ _ => rfl
  have hblk : ∀ g (t' : T3), ((w.alloc (t3O t)).alloc o).heap[g]? = some (t3O t') → w'.heap[g]? = some (t3O t') := fun g t' hh => by
    refine (hg.block g (Array.getElem?_eq_some_iff.1 hh).1 (fun e => ?_)).trans hh
    exact own_neB hh ((h.own.alloc _).alloc _) (by decide) e.symm
  have hlt : ∀ i, i < gs.length → gs.getD i 0 < w.heap.size := fun i hi => (Array.getElem?_eq_some_iff.1 (h.at_ i hi).2).1
  refine ⟨by simpa using ho, by simp [h.len], fun i hi => ?_, fun i j hij hj => ?_⟩
  · simp only [List.length_append, List.length_cons, List.length_nil] at hi
    rw [getD_snoc, getD_snoc]
    by_cases e : i < gs.length
    · rw [if_pos e, if_pos (by rw [← h.len]; exact e)]
      refine ⟨(h.at_ i e).1, hblk _ _ ?_⟩
      rw [Below.heap_alloc _ _ _ (by rw [World.size_alloc]; have := hlt i e; omega), Below.heap_alloc _ _ _ (hlt i e)]
      exact (h.at_ i e).2
    · have e2 : i = gs.length := by omega
      rw [if_neg e, if_pos e2, if_neg (by rw [← h.len]; exact e), if_pos (by rw [← h.len]; exact e2)]
      refine ⟨hb, hblk _ _ ?_⟩
      rw [Below.heap_alloc _ _ _ (by simp)]
      exact heap_alloc_new w _
  · simp only [List.length_append, List.length_cons, List.length_nil] at hj
    rw [getD_snoc, getD_snoc, if_pos (by omega)]
    by_cases e : j < gs.length
    · rw [if_pos e]
      exact h.up i j hij e
    · rw [if_neg e, if_pos (by omega)]
      exact hlt i (by omega)
theorem Tryz.info46s : (Tryz.prog.info? 46).map (fun i => (i.zero, i.size, i.bytes)) = some (some (.slice none 0 0), 1, 24) := by kernel_rfl
def cT (i : Nat) (cs : List Cl) : Nat → List T3
  | 0 => []
  | j + 1 => cT i cs j ++ [⟨(i : Int), spK cs j, (cs.getD j Cl.none).sp⟩]
def rT (rs : List Rw) : Nat → List T3
  | 0 => []
  | i + 1 => rT rs i ++ cT i (rs.getD i Rw.none).cs (rs.getD i Rw.none).cs.length
theorem cT_len (i : Nat) (cs : List Cl) : ∀ j, (cT i cs j).length = j
  | 0 => rfl
  | j + 1 => by unfold cT; rw [List.length_append, cT_len i cs j]; rfl
theorem rT_len {rs : List Rw} : ∀ {i : Nat}, (∀ k, k < i → (rs.getD k Rw.none).cs.length ≤ 20) → (rT rs i).length ≤ 20 * i
  | 0, _ => Nat.le_refl _
  | i + 1, h => by
    have h1 := rT_len (i := i) (fun k hk => h k (by omega))
    have h2 := h i (by omega)
    unfold rT
    rw [List.length_append, cT_len]
    omega
theorem RowIn.le {cs : List Cl} {cols : Int} (h : RowIn cs cols) (h20 : cols ≤ 20) : cs.length ≤ 20 := by
  have h1 := spK_bound h20 h.1
  have h2 := h.2
  omega
/-- What Cells tells. -/
def celL (x : Tb) : List T3 := if tabB x = true then rT x.rs x.rs.length else []
theorem celB {t : Tb} (h : tabB t = true) : 1 ≤ t.co ∧ t.co ≤ 20 ∧ t.rs.length ≤ 200 ∧ ∀ i, i < t.rs.length → RowIn (t.rs.getD i Rw.none).cs t.co := by
  unfold tabB headB at h
  simp only [Bool.and_eq_true, decide_eq_true_eq] at h
  obtain ⟨⟨⟨⟨h1, h2⟩, _⟩, h4⟩, h5⟩ := h
  exact ⟨h1, h2, h4, fun i hi => rowB_in (rowsB_at h5 i hi) h1⟩
theorem new1c (w : World) (o : Obj) (a : Value) (t : TypeId) : ∀ j u, [a][j]? = some u → ((w.alloc o).alloc (.cells #[a] t)).cell? ((⟨w.heap.size + 1, 0, none⟩ : Addr).add j) = some u := by
  intro j u hj
  match j, hj with
  | 0, hj => simp at hj; subst hj; simp [Addr.add, go_sem]

set_option maxRecDepth 20000 in
set_option maxHeartbeats 16000000 in
theorem specCells_any (x : Tb) {v : Value} {w : World} (h : RRowN 0 w v x.rs) (hs : SmT x) :
    Calls Tryz.prog 36 #[tbV x v] w fun e w' => ∃ a c gs, e = .returned (.slice a gs.length c) ∧ SSO w.heap.size w' (.slice a gs.length c) (celL x) gs ∧ Below w.heap.size w w' := by
  have hTP : tabB x = true → 1 ≤ x.co ∧ x.co ≤ 20 ∧ x.rs.length ≤ 200 ∧ ∀ i, i < x.rs.length → RowIn (x.rs.getD i Rw.none).cs x.co := celB
  have HC : Hid (∀ W, Below w.heap.size w W → Calls Tryz.prog 60 #[tbV x v] W fun e w' => e = .returned (.bool (tabB x)) ∧ Below W.heap.size W w') := hideP (fun W hW => specTableOk_any x (h.below rwNStable hW) hs)
  obtain ⟨ua, n, uc, rfl, hn, hr⟩ := h
  have HR : Hid (0 < n → ∃ b off, ua = some ⟨b, off, none⟩ ∧ 0 ≤ b ∧ b < w.heap.size ∧ ∀ i, i < n → ∃ cs : List Value, cs.length = 2 ∧ RwN 0 w cs (x.rs.getD i Rw.none) ∧ ∀ j, j < 2 → w.cell? ⟨b, off + i * 2 + j, none⟩ = cs[j]?) := hr
  have HN : Hid (x.rs.length = n) := hideP hn
  clear hr hs hn
  obtain ⟨i0, hi, hz0, hz1, hz2⟩ := info_parts Tryz.info46s
  have HI : Hid (i0.bytes = 24) := hz2
  have HL : Hid (celL x = if tabB x = true then rT x.rs x.rs.length else []) := hideP rfl
  obtain ⟨R, hR⟩ : ∃ R, R = celL x := ⟨_, rfl⟩
  obtain ⟨T, hT⟩ : ∃ T, T = tabB x := ⟨_, rfl⟩
  rw [← hR] at HL ⊢
  rw [← hT] at HC hTP HL
  clear hT hR
  obtain ⟨co, gs, gp, gpo, gm, gmo, rs⟩ := x
  dsimp only at hTP HR HN HL ⊢
  simp only [tbV] at HC ⊢
  have S0 : Hid (∀ (W : World), W.heap[w.heap.size + 1]? = some (.cells #[] 46 (0, 0)) → SSO w.heap.size W (.slice (some ⟨w.heap.size + 1, 0, none⟩) 0 0) [] []) := hideP (fun W hW => ⟨⟨rfl, .inr ⟨w.heap.size + 1, 0, #[], rfl, by omega, hW, Nat.le_refl _, by decide, rfl, rfl⟩⟩, rfl, fun i hi => absurd hi (by simp), fun i j _ hj => absurd hj (by simp)⟩)
  have E0 : Hid (∀ o, ((w.alloc o).alloc (.cells #[] 46)).heap[w.heap.size + 1]? = some (.cells #[] 46 (0, 0))) := hideP (fun o => by have h := heap_alloc_new (w.alloc o) (.cells #[] 46); rwa [World.size_alloc] at h)
  cases T with
  | false =>
    have hR0 : R = [] := by rw [HL.out]; rfl
    subst hR0
    go_enter Tryz.func36, Tryz.ntmps36
    go_wp2_with fail
    refine (HC.out _ (below2 _ _ _)).mono ?_
    rintro e w1 ⟨rfl, hb1⟩
    have B1 : Hid (Below w.heap.size w w1) := hideP (below_more (below2 _ _ _) hb1 (by simp; omega))
    have S1 : Hid (SSO w.heap.size w1 (.slice (some ⟨w.heap.size + 1, 0, none⟩) 0 0) [] []) := hideP ((S0.out _ (E0.out _)).below hb1)
    clear hb1
    go_wp2
    go_ret
    exact ⟨_, _, [], rfl, S1.out, B1.out⟩
  | true =>
    obtain ⟨hc1, hc2, hlen, hin⟩ := hTP (by first | rfl | trivial)
    rw [HN.out] at hlen hin
    have HIN := hideP hin
    have HR0 : Hid (R = rT rs n) := hideP (by rw [HL.out, ← HN.out]; rfl)
    have HLE : Hid (∀ i, i ≤ n → (rT rs i).length ≤ 20 * i) := hideP (fun i hi => rT_len (fun k hk => (HIN.out k (by omega)).le hc2))
    clear hin hTP HL
    go_enter Tryz.func36, Tryz.ntmps36
    go_wp2_with fail
    refine (HC.out _ (below2 _ _ _)).mono ?_
    rintro e w1 ⟨rfl, hb1⟩
    have BT1 : Hid (Below (w.heap.size + 1) (w.alloc (tbO ⟨co, gs, gp, gpo, gm, gmo, rs⟩ (.slice ua n uc))) w1) := hideP (((below1 _ _).mono (by simp)).trans (hb1.mono (by simp)))
    have S1 : Hid (SSO w.heap.size w1 (.slice (some ⟨w.heap.size + 1, 0, none⟩) 0 0) [] []) := hideP ((S0.out _ (E0.out _)).below hb1)
    have QT : Hid (∀ x, Below (w.heap.size + 1) (w.alloc (tbO ⟨co, gs, gp, gpo, gm, gmo, rs⟩ (.slice ua n uc))) x → x.cell? ⟨w.heap.size, 6, none⟩ = some (.slice ua n uc) ∧ w.heap.size < x.heap.size ∧ Below w.heap.size w x) := hideP (fun x hx => ⟨(hx.cell (p := ⟨w.heap.size, 6, none⟩) (by simp)).trans (by simp), (by have := hx.size; simp at this; omega), (below1 w _).trans (hx.mono (by omega))⟩)
    clear hb1 S0 E0 HC
    go_wp2_with fail
    go_loopw [3, 4, 5, 6] (fun s3 s4 _ _ wr => ∃ (i : Nat) (a : Option Addr) (c : Nat) (ks : List Nat), i ≤ n ∧ s4 = .int .i64 i ∧ s3 = .slice a ks.length c ∧ Hid (SSO w.heap.size wr (.slice a ks.length c) (rT rs i) ks) ∧ Below (w.heap.size + 1) (w.alloc (tbO ⟨co, gs, gp, gpo, gm, gmo, rs⟩ (.slice ua n uc))) wr) (fun _ s4 _ _ _ => n - (intOf s4).toNat)
    case atStart => exact ⟨0, _, _, [], by omega, rfl, rfl, S1, BT1.out⟩
    case round =>
      obtain ⟨i, a, c, ks, hi2, rfl, rfl, HS3, hbel⟩ := hrel
      obtain ⟨wp, rfl⟩ : ∃ wp : World, wp = wr := ⟨_, rfl⟩
      have BP := hideP hbel
      obtain ⟨t6, hws, _⟩ := QT.out _ hbel
      clear hbel S1 BT1
      by_cases hin : i < n
      · have hii : (i : Int) < (n : Int) := by omega
        obtain ⟨b, off, rfl, _, hb, hrow⟩ := HR.out (by omega)
        obtain ⟨rc, _, ⟨rv, hrc, hrv⟩, hrj⟩ := hrow i hin
        rw [hrc] at hrj
        have hri := HIN.out i hin
        obtain ⟨cs, hcs⟩ : ∃ cs, cs = (rs.getD i Rw.none).cs := ⟨_, rfl⟩
        have HST : Hid (rT rs (i + 1) = rT rs i ++ cT i cs cs.length) := hideP (by rw [hcs]; rfl)
        rw [← hcs] at hri hrv
        obtain ⟨va, m, vc, rfl, hm, hcells⟩ := hrv
        have HRI := hideP hri
        have HCS := hideP hcells
        rw [hm] at HST
        have HM := hideP hm
        have QR : Hid (∀ x, Below w.heap.size w x → x.cell? ⟨b, off + i * 2, none⟩ = some (.slice va m vc)) := hideP (fun x hx => (hx.cell (p := ⟨b, off + i * 2, none⟩) hb).trans (hrj 0 (by omega)))
        have hcl : m ≤ 20 := by rw [← hm]; exact hri.le hc2
        have hl0 := HLE.out i hi2
        obtain ⟨L0, hL0⟩ : ∃ L0, L0 = rT rs i := ⟨_, rfl⟩
        rw [← hL0] at HS3 HST hl0
        clear hrow hrj hrc hcells hri hcs hm hL0
        go_wp2_with fail
        go_loopw [3, 5, 6] (fun s3 s5 s6 wr => ∃ (j q : Nat) (a : Option Addr) (c : Nat) (ks : List Nat), j ≤ m ∧ s5 = .int .i64 q ∧ s6 = .int .i64 j ∧ s3 = .slice a ks.length c ∧ Hid ((q : Int) = spK cs j ∧ SSO w.heap.size wr (.slice a ks.length c) (L0 ++ cT i cs j) ks) ∧ Below (w.heap.size + 1) (w.alloc (tbO ⟨co, gs, gp, gpo, gm, gmo, rs⟩ (.slice (some ⟨b, off, none⟩) n uc))) wr) (fun _ _ s _ => m - (intOf s).toNat)
        case atStart => exact ⟨0, 0, a, c, ks, by omega, rfl, rfl, rfl, hideP ⟨rfl, by simpa [cT] using HS3.out⟩, BP.out⟩
        case round =>
          obtain ⟨j, q, a, c, ks, hj, rfl, rfl, rfl, HJ, hbel⟩ := hrel
          have BR := hideP hbel
          clear t6 hws
          obtain ⟨t6, hws, hbw⟩ := QT.out _ hbel
          have r0 := QR.out _ hbw
          have hbr : b < wr.heap.size := Nat.lt_of_lt_of_le hb hbw.size
          have HBW := hideP hbw
          clear hbel hbw HS3 BP
          by_cases hjm : j < m
          · have hji : (j : Int) < (m : Int) := by omega
            obtain ⟨b2, off2, rfl, _, hb2, hcell⟩ := HCS.out (by omega)
            obtain ⟨cc, _, ⟨nv, hcc, _, _⟩, hcj⟩ := hcell j hjm
            rw [hcc] at hcj
            have hat := HRI.out.at hc2 (j := j) (by rw [HM.out]; omega)
            obtain ⟨sp, hsp⟩ : ∃ sp, sp = (cs.getD j Cl.none).sp := ⟨_, rfl⟩
            rw [← hsp] at hcj
            have hsuc : spK cs (j + 1) = spK cs j + sp := by rw [spK_succ, ← hsp]
            have hsp1 : 1 ≤ sp := by have := hat.2.1; omega
            have hsp2 : (q : Int) + sp ≤ 20 := by have := hat.2.2.1; have := HJ.out.1; omega
            have HNX : Hid (L0 ++ cT i cs (j + 1) = (L0 ++ cT i cs j) ++ [⟨(i : Int), (q : Int), sp⟩]) := hideP (by rw [HJ.out.1, hsp, List.append_assoc]; rfl)
            have HQS : Hid (((q + sp.toNat : Nat) : Int) = spK cs (j + 1)) := hideP (by rw [hsuc, ← HJ.out.1]; omega)
            have hkl : ks.length ≤ 8000 := by have h1 := HJ.out.2.len; rw [h1, List.length_append, cT_len]; omega
            have HD0 : Hid (∀ x, Below w.heap.size w x → x.cell? ⟨b2, off2 + j * 3, none⟩ = some (.int .i64 sp)) := hideP (fun x hx => (hx.cell (p := ⟨b2, off2 + j * 3, none⟩) hb2).trans (hcj 0 (by omega)))
            have d0 := HD0.out _ HBW.out
            have H44 : Hid (wr.heap[w.heap.size]? = some (tbO ⟨co, gs, gp, gpo, gm, gmo, rs⟩ (.slice (some ⟨b, off, none⟩) n uc))) := hideP ((BR.out.block _ (by simp)).trans (heap_alloc_new w _))
            have wadd : IntKind.i64.wrap ((q : Int) + sp) = q + sp := by rw [IntKind.wrap_i64]; omega
            have hb2r : b2 < wr.heap.size := Nat.lt_of_lt_of_le hb2 HBW.out.size
            have hsz : w.heap.size ≤ wr.heap.size := HBW.out.size
            clear hcell hcj hcc hat hsp hsuc
            go_wp2_with (at_builtin; refine wpList_append_own _ rfl _ _ 59 rfl w.heap.size 46 i0 (.slice none 0 0) 1 24 Tryz.underlying59 hi hz0 hz1 HI.out rfl (by decide) (.slice a ks.length c) ks.length (ks.map slG) rfl ((HJ.out.2.own.alloc _).alloc _) ⟨wr.heap.size + 1, 0, none⟩ 1 1 [slG wr.heap.size] rfl rfl (new1c _ _ _ _) (by intro u hu; simp at hu; subst hu; rfl) (by unfold maxLen; omega) (by omega) (by simp; omega) ?_; intro v4 w4 ho4 hg4 hn4; obtain ⟨a4, c4, rfl⟩ := ownG_shape ho4; have S4 := hideP (SSO.snoc (t := ⟨(i : Int), (q : Int), sp⟩) HJ.out.2 hsz ho4 hg4); have BT4 : Hid (Below (w.heap.size + 1) (w.alloc (tbO ⟨co, gs, gp, gpo, gm, gmo, rs⟩ (.slice (some ⟨b, off, none⟩) n uc))) w4) := hideP (Below.grown ((BR.out.alloc hws _).alloc (by simp; omega) _) hg4 (by simp; omega) (fun k hk => by have h1 := (HJ.out.2.own.lt k hk).1; have h2 : k ≠ w.heap.size := (fun e => own_neB H44.out HJ.out.2.own (by decide) (by rw [hk, e])); omega)); obtain ⟨t64, hws4, hbw4⟩ := QT.out _ BT4.out; have r04 := QR.out _ hbw4; have d04 := HD0.out _ hbw4; have hbr4 : b < w4.heap.size := Nat.lt_of_lt_of_le hb hbw4.size; have hb24 : b2 < w4.heap.size := Nat.lt_of_lt_of_le hb2 hbw4.size; clear ho4 hg4 hn4 hbw4 t6 r0 d0 hws hbr hb2r)
            go_roundw
            case rel =>
              refine ⟨j + 1, q + sp.toNat, a4, c4, ks ++ [wr.heap.size], by omega, by congr 1; omega, by go_num, by simp, hideP ⟨HQS.out, ?_⟩, BT4.out⟩
              rw [HNX.out]
              simpa using S4.out
            case measure => simp [intOf]; omega
          · have hji : ¬ (j : Int) < (m : Int) := by omega
            obtain rfl : j = m := by omega
            go_wp2
            go_roundw
            case rel => exact ⟨i + 1, a, c, ks, by omega, by go_num, rfl, hideP (by rw [HST.out]; exact HJ.out.2), BR.out⟩
            case measure => simp [intOf]; omega
      · have hii : ¬ (i : Int) < (n : Int) := by omega
        obtain rfl : i = n := by omega
        have HBE := hideP (QT.out _ BP.out).2.2
        go_wp2
        go_ret
        exact ⟨a, c, ks, rfl, by rw [HR0.out]; exact HS3.out, HBE.out⟩
end Go.Proofs.YtojoehdmjkgnnaaGreat

namespace Go.Proofs.YtojoehdmjkgnnaaGreat
open Go.RowKit
set_option linter.unusedVariables false
set_option linter.unusedSimpArgs false

theorem ownG_cell {base g n cap e s : Nat} {w : World} {xs : List Value} (h : w.ownsRow base e s (.slice (some ⟨g, 0, none⟩) n cap) n xs) {j : Nat} {x : Value} (hj : xs[j]? = some x) : w.cell? ⟨g, j, none⟩ = some x := by
  obtain ⟨hl, h | ⟨g', cap', cur, e, hg, hb, hn, hm, hs, hx⟩⟩ := h
  · exact absurd h.1 (by simp)
  · simp at e
    obtain ⟨rfl, rfl⟩ := e
    rw [cell_of_row _ _ j _ _ _ hb]
    have h1 : j < xs.length := (List.getElem?_eq_some_iff.1 hj).1
    rw [← hx] at hj
    rw [List.getElem?_take] at hj
    split at hj
    · simpa using hj
    · cases hj
theorem ownG_addr {w : World} {base e s n : Nat} {a : Option Addr} {c : Nat} {xs : List Value} (h : w.ownsRow base e s (.slice a n c) n xs) (hn : 0 < n) : ∃ g, a = some ⟨g, 0, none⟩ ∧ g < w.heap.size := by
  rcases h.2 with ⟨e, _⟩ | ⟨g, cap, cur, e, _, hh, _⟩
  · simp at e; omega
  · simp at e
    exact ⟨g, e.1, (Array.getElem?_eq_some_iff.1 hh).1⟩
end Go.Proofs.YtojoehdmjkgnnaaGreat

