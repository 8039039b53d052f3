import Derived.Test.YtojoehdmjkgnnaaGreatSsr
import Derived.Test.YtojoehdmjkgnnaaGreatSrx
namespace Go.Proofs.YtojoehdmjkgnnaaGreat
open Go.RowKit
set_option linter.unusedVariables false
set_option linter.unusedSimpArgs false
structure RoI (w wr : World) (co gs gp gpo gm gmo : Int) (tv cv : Value) (ru : Int) (gap : Nd) (a : Option Addr) (n c : Nat) (L : List Nd) : Prop where
 bel : Below w.heap.size w wr
 bxT : wr.heap[w.heap.size]? = some (tbC co gs gp gpo gm gmo tv)
 bxR : wr.heap[w.heap.size + 1]? = some (.cells #[cv, .int .i64 ru] 51 (0, 0))
 gp_ : wr.heap[w.heap.size + 1 + 1 + 1]? = some (ndO gap)
 own : wr.ownsRow (w.heap.size + 1 + 1) 36 15 (.slice a n c) n (flatN L)
 aG : (Value.slice a n c).ownBlock ≠ some (w.heap.size + 1 + 1 + 1)
section
variable {w wr : World} {co gs gp gpo gm gmo ru : Int} {tv cv : Value} {gap : Nd} {a : Option Addr} {n c : Nat} {L : List Nd}
theorem RoI.lt (h : RoI w wr co gs gp gpo gm gmo tv cv ru gap a n c L) : w.heap.size + 1 + 1 + 1 < wr.heap.size := (glt h.gp_)
theorem RoI.len (h : RoI w wr co gs gp gpo gm gmo tv cv ru gap a n c L) : L.length = n := by have := h.own.1; rw [flatN_len] at this; omega
theorem RoI.below {w2 : World} (h : RoI w wr co gs gp gpo gm gmo tv cv ru gap a n c L) (hb : Below wr.heap.size wr w2) : RoI w w2 co gs gp gpo gm gmo tv cv ru gap a n c L :=
 ⟨below_more h.bel hb h.bel.size, (hb.block _ (by have := h.lt; omega)).trans h.bxT, (hb.block _ (by have := h.lt; omega)).trans h.bxR, (hb.block _ h.lt).trans h.gp_, ownG_below h.own hb, h.aG⟩
theorem RoI.app {w2 : World} {a' : Option Addr} {n' c' : Nat} {L' : List Nd} (h : RoI w wr co gs gp gpo gm gmo tv cv ru gap a n c L) (hg : wr.grownBy w2 (Value.slice a n c).ownBlock) (ho : w2.ownsRow (w.heap.size + 1 + 1) 36 15 (.slice a' n' c') n' (flatN L')) (ha : (Value.slice a' n' c').ownBlock = (Value.slice a n c).ownBlock ∨ (Value.slice a' n' c').ownBlock = some wr.heap.size) : RoI w w2 co gs gp gpo gm gmo tv cv ru gap a' n' c' L' := by
 have hl := h.lt
 refine ⟨Below.grown h.bel hg h.bel.size (fun j hj => by have := (h.own.lt j hj).1; omega), (hg.block _ (by omega) (fun e => by have := (h.own.lt _ e.symm).1; omega)).trans h.bxT, (hg.block _ (by omega) (fun e => by have := (h.own.lt _ e.symm).1; omega)).trans h.bxR, (hg.block _ hl (fun e => h.aG e.symm)).trans h.gp_, ho, ?_⟩
 rcases ha with e | e
 ·rw [e]; exact h.aG
 ·rw [e]; intro e2; injection e2 with e3; omega
theorem RoI.cells (h : RoI w wr co gs gp gpo gm gmo tv cv ru gap a n c L) : wr.cell? ⟨w.heap.size, 0, none⟩ = some (.int .i64 co) ∧ wr.cell? ⟨w.heap.size, 1, none⟩ = some (.int .i64 gs) ∧ wr.cell? ⟨w.heap.size + 1, 0, none⟩ = some cv := ⟨cell_of_row _ _ 0 _ 44 _ h.bxT, cell_of_row _ _ 1 _ 44 _ h.bxT, cell_of_row _ _ 0 _ 51 _ h.bxR⟩
end
set_option maxRecDepth 20000 in
set_option maxHeartbeats 16000000 in
theorem l12Row_cells {w : World} {co gs gp gpo gm gmo ru : Int} {rs : List Rw} {cs : List Cl} {tv rv : Value} {g n cap : Nat} {f : Nat → Int} (hru : ¬ 0 < ru) (hcr : CRowN 0 w rv cs) (hin : RowIn cs co) (hn : (n : Int) = co) (h1 : 1 ≤ n) (h2 : n ≤ 20) (hgs : -1073741823 ≤ gs ∧ gs ≤ 1073741823) (hA : IntsAt w g n f) (hf : Bd f) :
 Calls Tryz.prog 61 #[tbV ⟨co, gs, gp, gpo, gm, gmo, rs⟩ tv, rwV ⟨cs, ru⟩ rv, .slice (some ⟨g, 0, none⟩) n cap] w fun e w' => ∃ a c, e = .returned (.slice a (rowR f gs (gapN gs gp gpo gm gmo) co ⟨cs, ru⟩).length c) ∧ w'.ownsRow w.heap.size 36 15 (.slice a (rowR f gs (gapN gs gp gpo gm gmo) co ⟨cs, ru⟩).length c) (rowR f gs (gapN gs gp gpo gm gmo) co ⟨cs, ru⟩).length (flatN (rowR f gs (gapN gs gp gpo gm gmo) co ⟨cs, ru⟩)) ∧ Below w.heap.size w w' := by
 obtain ⟨gap, hgap⟩ := exq (gapN gs gp gpo gm gmo)
 rw [← hgap]
 obtain ⟨R, hR⟩ := exq (rowR f gs gap co ⟨cs, ru⟩)
 rw [← hR]
 unfold rowR at hR
 rw [if_neg hru] at hR
 dsimp only at hR
 obtain ⟨ua, m, uc, rfl, hm, hr⟩ := hcr
 have hgl : g < w.heap.size := hA.lt
 have hm20 : m ≤ 20 := by rw [← hm]; have q1 := spK_bound (cols := co) (by omega) hin.1; have q2 := hin.2; omega
 have HEN : Hid (0 ≤ spK cs m ∧ spK cs m ≤ (n : Int) ∧ (m = 0 → spK cs m = 0)) := hideP (by
  rw [← hm]
  refine ⟨?_, by rw [hn]; exact hin.2, fun h => by rw [h]; rfl⟩
  have := spK_bound (cols := co) (by omega) hin.1
  omega)
 have HK1 : Hid (∀ k, 0 < k → k ≤ m → 0 < spK cs k) := hideP (fun k hk hkm => by
  have := (spK_bound (cols := co) (n := k) (by omega) (by
   have h9 := hin.1
   cases hkk : cellsB cs co k with
   | true => rfl
   | false => rw [cellsB_down (show k ≤ cs.length by omega) hkk] at h9; exact h9)).1
  omega)
 have HCL : Hid (∀ k, k < m → ∃ b off, ua = some ⟨b, off, none⟩ ∧ ∃ (fi la : Nat) (sp al : Int) (va : Option Addr) (vn vc : Nat), spK cs k = fi ∧ spK cs (k + 1) = (fi : Int) + sp ∧ (la : Int) = (fi : Int) + sp - 1 ∧ fi ≤ la ∧ la < n ∧ (k = 0 ↔ fi = 0) ∧ al = (cs.getD k Cl.none).al ∧ (∀ wr, Below w.heap.size w wr → b < wr.heap.size ∧ wr.cell? ⟨b, off + k * 3, none⟩ = some (.int .i64 sp) ∧ wr.cell? ⟨b, off + k * 3 + 1, none⟩ = some (.int .i64 al) ∧ wr.cell? ⟨b, off + k * 3 + 2, none⟩ = some (.slice va vn vc)) ∧ (∀ wr, Below w.heap.size w wr → ∀ width, Calls Tryz.prog 105 #[.agg #[.int .i64 sp, .int .i64 al, .slice va vn vc], .int .i64 width] wr fun e w' => ∃ a c, e = .returned (.slice a (hpR (celN al (cs.getD k Cl.none).ns) 1 width).length c) ∧ w'.ownsRow wr.heap.size 36 15 (.slice a (hpR (celN al (cs.getD k Cl.none).ns) 1 width).length c) (hpR (celN al (cs.getD k Cl.none).ns) 1 width).length (flatN (hpR (celN al (cs.getD k Cl.none).ns) 1 width)) ∧ Below wr.heap.size wr w')) := hideP (fun k hk => by
  obtain ⟨b, off, rfl, hlo, hb, hc⟩ := hr (by omega)
  obtain ⟨vs, hcl, hRel, hcj⟩ := hc k hk
  obtain ⟨u, hcs, hu, huN⟩ := hRel
  obtain ⟨va, vc, rfl⟩ := hu.shape
  obtain ⟨t1, t2, t3, _, _, t6⟩ := hin.at (by omega) (show k < cs.length by omega)
  have t7 := spK_succ cs k
  have t8 : k = 0 ↔ (spK cs k).toNat = 0 := by
   constructor
   ·intro e; subst e; rfl
   ·intro e
    have := (spK_bound (cols := co) (n := k) (by omega) (by
     have h9 := hin.1
     cases hkk : cellsB cs co k with
     | true => rfl
     | false => rw [cellsB_down (show k ≤ cs.length by omega) hkk] at h9; exact h9)).1
    omega
  have hsl := Nat.le_of_lt (hpOk_parts t6).1
  refine ⟨b, off, rfl, (spK cs k).toNat, (spK cs (k + 1) - 1).toNat, (cs.getD k Cl.none).sp, (cs.getD k Cl.none).al, va, (cs.getD k Cl.none).ns.length, vc, by omega, by omega, by omega, by omega, by omega, t8, rfl, fun wr hw => ?_, fun wr hw width => ?_⟩
  ·rw [show vs = _ from hcs] at hcj
   exact ⟨Nat.lt_of_lt_of_le hb hw.size, (hw.cell (p := ⟨b, off + k * 3, none⟩) hb).trans (hcj 0 (by omega)), (hw.cell (p := ⟨b, off + k * 3 + 1, none⟩) hb).trans (hcj 1 (by omega)), (hw.cell (p := ⟨b, off + k * 3 + 2, none⟩) hb).trans (hcj 2 (by omega))⟩
  ·refine (l12Cell_any (cs.getD k Cl.none) width (huN.bel hw) hsl).mono (fun e w' ⟨r, q1, q2, q3⟩ => ?_)
   obtain ⟨a9, c9, rfl⟩ := ownG_shape q2
   exact ⟨a9, c9, q1, q2, q3⟩)
 have HAC : Hid (∀ W, Below w.heap.size w W → ∀ (fi la : Nat) (sp : Int), fi ≤ la → la < n → (la : Int) = (fi : Int) + sp - 1 → Calls Tryz.prog 102 #[.slice (some ⟨g, 0, none⟩) n cap, .int .i64 gs, .int .i64 (fi : Int), .int .i64 sp] W fun e w' => e = .returned (.int .i64 (acr f gs fi la)) ∧ w' = W) := hideP (fun W hW fi la sp h3 h4 h5 => l12Across_any (cap := cap) fi la (hA.below hW) hf h3 h4 h2 hgs sp (by omega))
 have HAX : Hid (∀ W, Below w.heap.size w W → ∀ i, i < n → W.cell? ⟨g, i, none⟩ = some (.int .i64 (f i))) := hideP (fun W hW i hi => (hA.below hW).cell hi)
 have HHP : Hid (∀ (W : World) (a : Option Addr) (n c : Nat) (L : List Nd), W.ownsRow (w.heap.size + 1 + 1) 36 15 (.slice a n c) n (flatN L) → L.length = n → n ≤ 1048576 → R = hpR L 0 0 → Calls Tryz.prog 104 #[.slice a n c, .int .i64 0, .int .i64 0] W fun e w' => ∃ a c s, e = .returned (packV (.slice a R.length c) s) ∧ w'.ownsRow W.heap.size 36 15 (.slice a R.length c) R.length (flatN R) ∧ Below W.heap.size W w') := hideP (fun W a n c L ho hl hn e => by
  rw [e]
  refine (specH 0 0 ho hl hn).mono (fun e w' ⟨u, q1, q2, q3⟩ => ?_)
  obtain ⟨a9, c9, rfl⟩ := ownG_shape q2
  exact ⟨a9, c9, _, q1, q2, q3⟩)
 rw [hm] at hR
 have HR := hideP hR
 have HM := hideP hm
 have HGP := hideP hgap
 subst hn
 clear hR hm hA hf hgs hin hgap hr
 have hru2 : decide (0 < ru) = false := decide_eq_false hru
 go_enter Tryz.func61, Tryz.ntmps61
 go_wp2_with fail
 generalize hWW : (((w.alloc _).alloc _).alloc _).alloc _ = wz
 have HZ : Hid (RoI w wz n gs gp gpo gm gmo tv (.slice ua m uc) ru gap (some ⟨w.heap.size + 1 + 1, 0, none⟩) 0 0 (aK f gs gap cs 0).dropLast) := hideP (by
  have q1 := heap_alloc_new w (.cells #[.int .i64 (n : Int), .int .i64 gs, .int .i64 gp, .int .i64 gpo, .int .i64 gm, .int .i64 gmo, tv] 44)
  have q2 := heap_alloc_new (w.alloc (.cells #[.int .i64 (n : Int), .int .i64 gs, .int .i64 gp, .int .i64 gpo, .int .i64 gm, .int .i64 gmo, tv] 44)) (.cells #[.slice ua m uc, .int .i64 ru] 51)
  have q3 := heap_alloc_new ((w.alloc (.cells #[.int .i64 (n : Int), .int .i64 gs, .int .i64 gp, .int .i64 gpo, .int .i64 gm, .int .i64 gmo, tv] 44)).alloc (.cells #[.slice ua m uc, .int .i64 ru] 51)) (.cells #[] 36)
  have q4 := heap_alloc_new (((w.alloc (.cells #[.int .i64 (n : Int), .int .i64 gs, .int .i64 gp, .int .i64 gpo, .int .i64 gm, .int .i64 gmo, tv] 44)).alloc (.cells #[.slice ua m uc, .int .i64 ru] 51)).alloc (.cells #[] 36)) (.cells (ndA (gapN gs gp gpo gm gmo)) 36)
  rw [World.size_alloc] at q2
  rw [World.size_alloc, World.size_alloc] at q3
  rw [World.size_alloc, World.size_alloc, World.size_alloc] at q4
  have e1 : wz = ((((w.alloc (.cells #[.int .i64 (n : Int), .int .i64 gs, .int .i64 gp, .int .i64 gpo, .int .i64 gm, .int .i64 gmo, tv] 44)).alloc (.cells #[.slice ua m uc, .int .i64 ru] 51)).alloc (.cells #[] 36)).alloc (.cells (ndA (gapN gs gp gpo gm gmo)) 36)) := by rw [← hWW]; rfl
  rw [e1]
  refine ⟨((below2 _ _ _).alloc (by simp; omega) _).alloc (by simp; omega) _, ?_, ?_, ?_, ?_, by intro e; simp only [Value.ownBlock, Option.some.injEq] at e; omega⟩
  ·rw [Below.heap_alloc _ _ _ (by simp; omega), Below.heap_alloc _ _ _ (by first | (simp; done) | (simp; omega)), Below.heap_alloc _ _ _ (by simp)]; exact q1
  ·rw [Below.heap_alloc _ _ _ (by first | (simp; done) | (simp; omega)), Below.heap_alloc _ _ _ (by simp)]; exact q2
  ·rw [HGP.out]; exact q4
  ·exact own_mtS (Nat.le_refl _) (by rw [Below.heap_alloc _ _ _ (by simp)]; exact q3))
 clear hWW
 go_loopw [8, 9, 11, 12, 13] (fun s8 s9 s11 _ _ wr => ∃ (k : Nat) (a : Option Addr) (nn c : Nat), k ≤ m ∧ s11 = .int .i64 (k : Int) ∧ s9 = .int .i64 (spK cs k) ∧ s8 = .slice a nn c ∧ Hid (celsOk f gs cs k = true ∧ RoI w wr n gs gp gpo gm gmo tv (.slice ua m uc) ru gap a nn c (aK f gs gap cs k).dropLast)) (fun _ _ s11 _ _ _ => m - (intOf s11).toNat)
 case atStart => exact ⟨0, _, 0, 0, by omega, rfl, rfl, rfl, hideP ⟨rfl, HZ.out⟩⟩
 case round =>
  obtain ⟨k, a, nn, c, hk, rfl, rfl, rfl, HJ0⟩ := hrel
  have HJ := hideP HJ0.out.2
  have HOK0 := hideP HJ0.out.1
  have hnl : nn ≤ 400020 := by
   have q1 := HJ.out.len
   have q2 := aK_len f gs gap cs k
   rw [List.length_dropLast] at q1
   omega
  have hlt := HJ.out.lt
  obtain ⟨cT, cG, cR⟩ := HJ.out.cells
  clear HZ HJ0
  by_cases hkm : k < m
  ·have hki : (k : Int) < (m : Int) := by omega
   obtain ⟨b, off, rfl, fi, la, sp, al, va, vn, vc, hfi, hsp, hla, hfl, hln, hk0, hal, hcl, hC5⟩ := HCL.out k hkm
   obtain ⟨hg0, g0, g1, g2⟩ := hcl wr HJ.out.bel
   rw [hfi]
   have HNX : Hid (spK cs (k + 1) = (fi : Int) + sp) := hideP hsp
   obtain ⟨X, hX⟩ := exq (acr f gs fi la)
   have HC2 : Hid (∀ W, Below w.heap.size w W → Calls Tryz.prog 102 #[.slice (some ⟨g, 0, none⟩) n cap, .int .i64 gs, .int .i64 (fi : Int), .int .i64 sp] W fun e w' => e = .returned (.int .i64 X) ∧ w' = W) := hideP (fun W hW => by rw [hX]; exact HAC.out W hW fi la sp hfl hln hla)
   have e1 : hpR (celN al (cs.getD k Cl.none).ns) 1 X = celR f gs cs k := by
    unfold celR celW
    rw [hal, hX, show (spK cs k).toNat = fi by omega, show (spK cs (k + 1) - 1).toNat = la by omega]
   have HE1 := hideP e1
   obtain ⟨rn, hrn⟩ := exq ((celR f gs cs k).length)
   have hrl : rn ≤ 20000 := by rw [hrn]; exact hpR_le
   have HC5 : Hid (∀ wr, Below w.heap.size w wr → Calls Tryz.prog 105 #[.agg #[.int .i64 sp, .int .i64 al, .slice va vn vc], .int .i64 X] wr fun e w' => ∃ a c, e = .returned (.slice a rn c) ∧ w'.ownsRow wr.heap.size 36 15 (.slice a rn c) rn (flatN (celR f gs cs k)) ∧ Below wr.heap.size wr w') := hideP (fun wr hw => by
    have h := hC5 wr hw X
    rw [e1, ← hrn] at h
    exact h)
   have HFC : Hid (∀ W, Calls Tryz.prog 103 #[.int .i64 X] W fun e w' => e = .returned (.bool (fitsB X)) ∧ w' = W) := hideP (fun W => Shr.specFits_any X W)
   have Q : Hid (∀ x : World, Below wr.heap.size wr x → x.cell? ⟨w.heap.size, 1, none⟩ = some (.int .i64 gs) ∧ x.cell? ⟨w.heap.size + 1, 0, none⟩ = some (.slice (some ⟨b, off, none⟩) m uc) ∧ x.cell? ⟨b, off + k * 3, none⟩ = some (.int .i64 sp)) := hideP (fun x hx => ⟨(HJ.out.below hx).cells.2.1, (HJ.out.below hx).cells.2.2, (hcl x (HJ.out.below hx).bel).2.1⟩)
   have BD : Hid (Below wr.heap.size wr wr.drew) := hideP ((Below.refl _ _).drew)
   have BWD : Hid (Below w.heap.size w wr.drew) := hideP (HJ.out.bel.drew)
   have hfi20 : fi ≤ 20 := by omega
   have HSPB : Hid (0 ≤ sp ∧ sp ≤ 20) := hideP ⟨by omega, by omega⟩
   have HK0 := hideP hk0
   have HCLX := hideP hcl
   clear hC5 hX hal hla hfi hsp HCL e1 hk0 hcl hfl hln
   go_wp2_with fail
   go_region_held3 (fun x => x.cell? ⟨w.heap.size, 1, none⟩ = some (.int .i64 gs) ∧ x.cell? ⟨w.heap.size + 1, 0, none⟩ = some (.slice (some ⟨b, off, none⟩) m uc) ∧ x.cell? ⟨b, off + k * 3, none⟩ = some (.int .i64 sp)) (exact Q.out _ BD.out) (first | (go_at_call 102; refine (HC2.out _ BWD.out).mono ?_; rintro e w7 ⟨rfl, rfl⟩))
   obtain ⟨wd, hwd⟩ := exq (wr.drew)
   have JD : Hid (RoI w wd n gs gp gpo gm gmo tv (.slice (some ⟨b, off, none⟩) m uc) ru gap a nn c ((aK f gs gap cs k).dropLast)) := hideP (by rw [hwd]; exact HJ.out.below BD.out)
   rw [← hwd] at BWD BD ⊢
   clear hwd HC2 Q HJ hg0 g0 g1 g2 cT cG cR hlt
   obtain ⟨hg0, g0, g1, g2⟩ := HCLX.out wd BWD.out
   obtain ⟨cT, cG, cR⟩ := JD.out.cells
   have hlt := JD.out.lt
   cases hfb : fitsB X with
   | false =>
    rw [hfb] at HFC
    have hR0 : R = [] := by rw [HR.out, celsOk_no hkm (by rw [← HE1.out, hpR_unfit hfb]; rfl)]; rfl
    subst hR0
    go_wp2_with (go_at_call 103; refine (HFC.out _).mono ?_; rintro e w2 ⟨rfl, h3⟩; have h4 := h3.symm; subst h4; clear h3)
    go_ret
    have q := heap_alloc_new wd (.cells #[] 36)
    exact ⟨_, 0, rfl, own_mtS JD.out.bel.size q, JD.out.bel.alloc JD.out.bel.size _⟩
   | true =>
    rw [hfb] at HFC
    go_wp2_with (go_at_call 103; refine (HFC.out _).mono ?_; rintro e w2 ⟨rfl, h3⟩; have h4 := h3.symm; subst h4; clear h3)
    refine (HC5.out _ BWD.out).mono ?_
    rintro e w2 ⟨ra, rc, rfl, ho2, hb2⟩
    have J2 : Hid (RoI w w2 n gs gp gpo gm gmo tv (.slice (some ⟨b, off, none⟩) m uc) ru gap a nn c ((aK f gs gap cs k).dropLast)) := hideP (JD.out.below hb2)
    have NR : Hid (NN 0 w2 (.slice ra rn rc) (celR f gs cs k)) := hideP (own_NN ho2 hrn.symm)
    have HO2 := hideP (ownG_base ho2 BWD.out.size)
    have HNE : Hid ((Value.slice ra rn rc).ownBlock = none ∨ (Value.slice ra rn rc).ownBlock ≠ (Value.slice a nn c).ownBlock) := hideP (by
     cases h : (Value.slice ra rn rc).ownBlock with
     | none => exact .inl rfl
     | some b =>
      right
      intro e
      have q1 := (ho2.lt b h).1
      have q2 := (JD.out.own.lt b e.symm).2
      omega)
    clear ho2 hb2 hg0 g0 g1 g2 cT cG cR hlt HC5 HFC JD BWD BD
    have HRN := hideP hrn
    by_cases hr0 : rn = 0
    ·have hz0 : celR f gs cs k = [] := List.eq_nil_of_length_eq_zero (by rw [← hrn]; exact hr0)
     have hR0 : R = [] := by rw [HR.out, celsOk_no hkm (by rw [hz0]; rfl)]; rfl
     rw [hz0] at HO2
     subst hr0
     subst hR0
     clear hrn hz0
     go_wp2
     go_ret
     exact ⟨ra, rc, rfl, HO2.out, J2.out.bel⟩
    ·have hr1 : ((rn : Int) == 0) = false := by simp; omega
     have HOK : Hid (celsOk f gs cs (k + 1) = true) := hideP (by unfold celsOk; rw [HOK0.out, ← hrn]; simp; omega)
     clear hrn
     obtain ⟨hs0, hs1⟩ := HSPB.out
     obtain ⟨cT, cG, cR⟩ := J2.out.cells
     have hlt := J2.out.lt
     obtain ⟨hg0, g0, g1, g2⟩ := HCLX.out w2 J2.out.bel
     by_cases hf0 : fi = 0
     ·have hno0 : ¬ (0 : Int) < (fi : Int) := by omega
      have hno : decide ((0 : Int) < (fi : Int)) = false := decide_eq_false hno0
      have J5 : Hid (RoI w w2 n gs gp gpo gm gmo tv (.slice (some ⟨b, off, none⟩) m uc) ru gap a nn c (aK f gs gap cs k)) := hideP (by
       have h0 := HK0.out.2 hf0
       have h5 := J2.out
       have e : (aK f gs gap cs k).dropLast = aK f gs gap cs k := by rw [h0]; rfl
       rw [e] at h5
       exact h5)
      have hno1 : ¬ 0 < fi := by omega
      have hno2 : decide (0 < fi) = false := decide_eq_false hno1
      clear hf0
      go_wp2_with (at_builtin; refine wpList_appN rfl _ _ rfl (w.heap.size + 1 + 1) (.slice a nn c) nn (aK f gs gap cs k) rfl J5.out.own (.slice ra rn rc) (celR f gs cs k) rfl NR.out (by rw [← HRN.out]; omega) (by have := J5.out.lt; omega) ?_; intro v7 w7 ho hg ha; rw [← HRN.out] at ho; obtain ⟨N7, hN7⟩ := exq (nn + rn); rw [← hN7] at ho; obtain ⟨u7, d7, rfl⟩ := ownG_shape ho; have J7 : Hid (RoI w w7 n gs gp gpo gm gmo tv (.slice (some ⟨b, off, none⟩) m uc) ru gap u7 N7 d7 ((aK f gs gap cs (k + 1)).dropLast)) := hideP (by rw [aK_drop]; exact J5.out.app hg ho ha); clear ho hg ha hN7; have c7 := J7.out.cells.2.2; have p7 := (HCLX.out w7 J7.out.bel).2.1; have l7 := J7.out.lt; have b7 := (HCLX.out w7 J7.out.bel).1)
      go_roundw
      case rel => exact ⟨k + 1, u7, N7, d7, by omega, by go_num, by rw [HNX.out], rfl, hideP ⟨HOK.out, J7.out⟩⟩
      case measure => simp [intOf]; omega
     ·have hyes : (0 : Int) < (fi : Int) := by omega
      have hyd : decide ((0 : Int) < (fi : Int)) = true := decide_eq_true hyes
      have hkp : 0 < k := by
       rcases Nat.eq_zero_or_pos k with e | e
       ·exact absurd (HK0.out.1 e) hf0
       ·exact e
      obtain ⟨q0, q1, q2, q3, q4, q5, q6, q7, q8, q9, q10, q11, q12, q13, q14⟩ := nd_cells J2.out.gp_
      go_upto_region 20 with (at_builtin; refine wpList_appN rfl _ _ rfl (w.heap.size + 1 + 1) (.slice a nn c) nn (aK f gs gap cs k).dropLast rfl (J2.out.below (below1 _ _)).own (.slice (some ⟨w2.heap.size, 0, none⟩) 1 1) [gap] rfl (nn_one (heap_alloc_new w2 _)) (by simp; omega) (by simp; omega) ?_; intro v5 w5 ho hg ha; obtain ⟨N5, hN5⟩ := exq (nn + [gap].length); rw [← hN5] at ho; obtain ⟨u5, d5, rfl⟩ := ownG_shape ho; have J5 : Hid (RoI w w5 n gs gp gpo gm gmo tv (.slice (some ⟨b, off, none⟩) m uc) ru gap u5 N5 d5 (aK f gs gap cs k)) := hideP (by rw [← aK_end f gs gap cs k hkp]; exact (J2.out.below (below1 _ _)).app hg ho ha); have N5R : Hid (NN 0 w5 (.slice ra rn rc) (celR f gs cs k)) := hideP (own_NN (World.ownsRow.kept (HO2.out.alloc _) hg HNE.out) HRN.out.symm); have hN5b : N5 ≤ 400021 := (by rw [hN5]; simp; omega); clear ho hg ha hN5)
      have c5 := J5.out.cells.2.2
      have p5 := (HCLX.out w5 J5.out.bel).2.1
      have l5 := J5.out.lt
      clear q0 q1 q2 q3 q4 q5 q6 q7 q8 q9 q10 q11 q12 q13 q14 cT cG cR hlt hg0 g0 g1 g2
      obtain ⟨hg0, g0, g1, g2⟩ := HCLX.out w5 J5.out.bel
      go_wp2_with (at_builtin; refine wpList_appN rfl _ _ rfl (w.heap.size + 1 + 1) (.slice u5 N5 d5) N5 (aK f gs gap cs k) rfl J5.out.own (.slice ra rn rc) (celR f gs cs k) rfl N5R.out (by rw [← HRN.out]; omega) (by have := J5.out.lt; omega) ?_; intro v7 w7 ho hg ha; rw [← HRN.out] at ho; obtain ⟨N7, hN7⟩ := exq (N5 + rn); rw [← hN7] at ho; obtain ⟨u7, d7, rfl⟩ := ownG_shape ho; have J7 : Hid (RoI w w7 n gs gp gpo gm gmo tv (.slice (some ⟨b, off, none⟩) m uc) ru gap u7 N7 d7 ((aK f gs gap cs (k + 1)).dropLast)) := hideP (by rw [aK_drop]; exact J5.out.app hg ho ha); clear ho hg ha hN7; have c7 := J7.out.cells.2.2; have p7 := (HCLX.out w7 J7.out.bel).2.1; have l7 := J7.out.lt; have b7 := (HCLX.out w7 J7.out.bel).1)
      go_roundw
      case rel => exact ⟨k + 1, u7, N7, d7, by omega, by go_num, by rw [HNX.out], rfl, hideP ⟨HOK.out, J7.out⟩⟩
      case measure => simp [intOf]; omega
  ·have hki : ¬ (k : Int) < (m : Int) := by omega
   obtain rfl : k = m := by omega
   obtain ⟨q1, q2, q3⟩ := HEN.out
   obtain ⟨a0, ha0⟩ : ∃ a0 : Nat, spK cs k = (a0 : Int) := ⟨(spK cs k).toNat, by omega⟩
   obtain ⟨LA, hLA⟩ := exq (aK f gs gap cs k)
   rw [ha0]
   have hLl : LA.length ≤ 400020 := by rw [hLA]; have := aK_len f gs gap cs k; omega
   have HFN : Hid (R = hpR (kK f gap a0 LA (n - a0)).dropLast 0 0) := hideP (by
    rw [HR.out, HOK0.out, if_pos rfl]
    unfold rowI
    rw [HM.out, ha0, ← hLA, show ((a0 : Int)).toNat = a0 by omega, show ((n : Int) - (a0 : Int)).toNat = n - a0 by omega])
   have HDP : Hid (∀ j, (kK f gap a0 LA j).dropLast ++ (if 0 < a0 + j then [gap] else []) = kK f gap a0 LA j) := hideP (fun j => by
    by_cases h0 : 0 < a0 + j
    ·rw [if_pos h0, hLA]
     refine drop_put f gs gap cs k j a0 ?_
     rcases Nat.eq_zero_or_pos j with e | e
     ·left
      rcases Nat.eq_zero_or_pos k with e2 | e2
      ·have := q3 e2; omega
      ·exact e2
     ·exact .inr e
    ·rw [if_neg h0, List.append_nil]
     have e1 : j = 0 := by omega
     have e2 : k = 0 := by
      rcases Nat.eq_zero_or_pos k with e2 | e2
      ·exact e2
      ·exfalso
       have e3 := (HK1.out k e2 (Nat.le_refl _))
       omega
     subst e1
     rw [hLA]
     subst e2
     rfl)
   rw [← hLA] at HJ
   have ha0n : a0 ≤ n := by omega
   clear ha0 hLA q1 q2 q3 HEN HCL HR cG HOK0
   go_wp2_with fail
   clear cR cT hlt
   go_loopw [8, 9] (fun s8 s9 wr => ∃ (j : Nat) (a : Option Addr) (nn c : Nat), a0 + j ≤ n ∧ s9 = .int .i64 ((a0 + j : Nat) : Int) ∧ s8 = .slice a nn c ∧ Hid (RoI w wr n gs gp gpo gm gmo tv (.slice ua k uc) ru gap a nn c (kK f gap a0 LA j).dropLast)) (fun _ s9 _ => n - (intOf s9).toNat)
   case atStart => exact ⟨0, a, nn, c, by omega, rfl, rfl, HJ⟩
   case round =>
    clear HJ
    obtain ⟨j, a, nn, c, hj, rfl, rfl, HJ⟩ := hrel
    have hnb : nn ≤ 400100 := by have q1 := HJ.out.len; rw [List.length_dropLast, kK_len] at q1; omega
    obtain ⟨p, hp⟩ := exq (a0 + j)
    rw [← hp] at hj ⊢
    have HP := hideP hp
    obtain ⟨cT, cG, cR⟩ := HJ.out.cells
    have hlt := HJ.out.lt
    have hgw : ∀ W : World, Below w.heap.size w W → g < W.heap.size := fun W hW => Nat.lt_of_lt_of_le hgl hW.size
    have HGW := hideP hgw
    clear hgw hp
    by_cases hpn : p < n
    ·have hpi : (p : Int) < (n : Int) := by omega
     have HST : Hid ((kK f gap a0 LA (j + 1)).dropLast = kK f gap a0 LA j ++ [krnN (f p)]) := hideP (by rw [kK_drop, HP.out])
     obtain ⟨X, hX⟩ := exq (f p)
     rw [← hX] at HST
     have HXA : Hid (∀ W, Below w.heap.size w W → W.cell? ⟨g, p, none⟩ = some (.int .i64 X)) := hideP (fun W hW => by rw [hX]; exact HAX.out W hW p hpn)
     have HDJ := hideP (HDP.out j)
     rw [← HP.out] at HDJ
     clear hX
     by_cases hp0 : 0 < p
     ·have hpi0 : (0 : Int) < (p : Int) := by omega
      have hpd : decide ((0 : Int) < (p : Int)) = true := decide_eq_true hpi0
      have e5 : (kK f gap a0 LA j).dropLast ++ [gap] = kK f gap a0 LA j := by have := HDJ.out; rwa [if_pos hp0] at this
      have HE5 := hideP e5
      clear e5
      obtain ⟨q0, q1, q2, q3, q4, q5, q6, q7, q8, q9, q10, q11, q12, q13, q14⟩ := nd_cells HJ.out.gp_
      go_upto_region 26 with (at_builtin; refine wpList_appN rfl _ _ rfl (w.heap.size + 1 + 1) (.slice a nn c) nn (kK f gap a0 LA j).dropLast rfl (HJ.out.below (below1 _ _)).own (.slice (some ⟨wr.heap.size, 0, none⟩) 1 1) [gap] rfl (nn_one (heap_alloc_new wr _)) (by simp; omega) (by simp; omega) ?_; intro v5 w5 ho hg ha; obtain ⟨N5, hN5⟩ := exq (nn + [gap].length); rw [← hN5] at ho; obtain ⟨u5, d5, rfl⟩ := ownG_shape ho; have J5 : Hid (RoI w w5 n gs gp gpo gm gmo tv (.slice ua k uc) ru gap u5 N5 d5 (kK f gap a0 LA j)) := hideP (by rw [← HE5.out]; exact (HJ.out.below (below1 _ _)).app hg ho ha); have hN5b : N5 ≤ 400101 := (by rw [hN5]; simp; omega); clear ho hg ha hN5)
      clear q0 q1 q2 q3 q4 q5 q6 q7 q8 q9 q10 q11 q12 q13 q14 cT cG cR hlt
      have g5 := HXA.out w5 J5.out.bel
      have l5 := J5.out.lt
      have gw5 := HGW.out w5 J5.out.bel
      go_wp2_with (at_builtin; refine wpList_appN rfl _ _ rfl (w.heap.size + 1 + 1) (.slice u5 N5 d5) N5 (kK f gap a0 LA j) rfl (J5.out.below (below1 _ _)).own (.slice (some ⟨w5.heap.size, 0, none⟩) 1 1) [krnN X] rfl (nn_one (heap_alloc_new w5 _)) (by simp; omega) (by simp; omega) ?_; intro v7 w7 ho hg ha; obtain ⟨N7, hN7⟩ := exq (N5 + [krnN X].length); rw [← hN7] at ho; obtain ⟨u7, d7, rfl⟩ := ownG_shape ho; have J7 : Hid (RoI w w7 n gs gp gpo gm gmo tv (.slice ua k uc) ru gap u7 N7 d7 (kK f gap a0 LA (j + 1)).dropLast) := hideP (by rw [HST.out]; exact (J5.out.below (below1 _ _)).app hg ho ha); clear ho hg ha hN7)
      go_roundw
      case rel => exact ⟨j + 1, u7, N7, d7, by have := HP.out; omega, by rw [← Nat.add_assoc, ← HP.out]; go_num, rfl, J7⟩
      case measure => simp [intOf]; omega
     ·have hno1 : ¬ 0 < p := hp0
      have hno2 : ¬ (0 : Int) < (p : Int) := by omega
      have hno3 : decide (0 < p) = false := decide_eq_false hno1
      have hno4 : decide ((0 : Int) < (p : Int)) = false := decide_eq_false hno2
      have J5 : Hid (RoI w wr n gs gp gpo gm gmo tv (.slice ua k uc) ru gap a nn c (kK f gap a0 LA j)) := hideP (by
       have h5 := HJ.out
       have e := HDJ.out
       rw [if_neg hp0, List.append_nil] at e
       rw [e] at h5
       exact h5)
      clear hp0 HJ
      have g5 := HXA.out wr J5.out.bel
      have gw5 := HGW.out wr J5.out.bel
      go_wp2_with (at_builtin; refine wpList_appN rfl _ _ rfl (w.heap.size + 1 + 1) (.slice a nn c) nn (kK f gap a0 LA j) rfl (J5.out.below (below1 _ _)).own (.slice (some ⟨wr.heap.size, 0, none⟩) 1 1) [krnN X] rfl (nn_one (heap_alloc_new wr _)) (by simp; omega) (by simp; omega) ?_; intro v7 w7 ho hg ha; obtain ⟨N7, hN7⟩ := exq (nn + [krnN X].length); rw [← hN7] at ho; obtain ⟨u7, d7, rfl⟩ := ownG_shape ho; have J7 : Hid (RoI w w7 n gs gp gpo gm gmo tv (.slice ua k uc) ru gap u7 N7 d7 (kK f gap a0 LA (j + 1)).dropLast) := hideP (by rw [HST.out]; exact (J5.out.below (below1 _ _)).app hg ho ha); clear ho hg ha hN7)
      go_roundw
      case rel => exact ⟨j + 1, u7, N7, d7, by have := HP.out; omega, by rw [← Nat.add_assoc, ← HP.out]; go_num, rfl, J7⟩
      case measure => simp [intOf]; omega
    ·have hpi : ¬ (p : Int) < (n : Int) := by omega
     have HC : Hid (Calls Tryz.prog 104 #[.slice a nn c, .int .i64 0, .int .i64 0] wr _) := hideP (HHP.out wr _ _ _ _ HJ.out.own HJ.out.len (by omega) (by rw [HFN.out, show n - a0 = j by have := HP.out; omega]))
     clear HFN HHP HDP
     go_wp2_with fail
     refine HC.out.mono ?_
     rintro e w3 ⟨a3, c3, s3, rfl, ho3, hb3⟩
     have hfd := fld28 (.slice a3 R.length c3) s3 w3
     have O3 := hideP (ownG_base ho3 HJ.out.bel.size)
     have B3 := hideP (below_more HJ.out.bel hb3 HJ.out.bel.size)
     clear ho3 hb3 HC HJ
     go_wp2
     go_ret
     exact ⟨_, _, rfl, O3.out, B3.out⟩
theorem l12Row_any {w : World} {co gs gp gpo gm gmo : Int} {rs : List Rw} {r : Rw} {tv rv : Value} {g n cap : Nat} {f : Nat → Int} (hcr : CRowN 0 w rv r.cs) (hin : RowIn r.cs co) (hn : (n : Int) = co) (h1 : 1 ≤ n) (h2 : n ≤ 20) (hgs : -1073741823 ≤ gs ∧ gs ≤ 1073741823) (hA : IntsAt w g n f) (hf : Bd f) :
 Calls Tryz.prog 61 #[tbV ⟨co, gs, gp, gpo, gm, gmo, rs⟩ tv, rwV r rv, .slice (some ⟨g, 0, none⟩) n cap] w fun e w' => ∃ a c, e = .returned (.slice a (rowR f gs (gapN gs gp gpo gm gmo) co r).length c) ∧ w'.ownsRow w.heap.size 36 15 (.slice a (rowR f gs (gapN gs gp gpo gm gmo) co r).length c) (rowR f gs (gapN gs gp gpo gm gmo) co r).length (flatN (rowR f gs (gapN gs gp gpo gm gmo) co r)) ∧ Below w.heap.size w w' := by
 by_cases hru : 0 < r.ru
 ·refine (l12Row_rule ⟨co, gs, gp, gpo, gm, gmo, rs⟩ r hru hn h1 h2 hgs hA hf).mono (fun e w' ⟨u, q1, q2, q3⟩ => ?_)
  obtain ⟨a, c, rfl⟩ := ownG_shape q2
  exact ⟨a, c, q1, q2, q3⟩
 ·obtain ⟨cs, ru⟩ := r
  exact l12Row_cells hru hcr hin hn h1 h2 hgs hA hf
end Go.Proofs.YtojoehdmjkgnnaaGreat
