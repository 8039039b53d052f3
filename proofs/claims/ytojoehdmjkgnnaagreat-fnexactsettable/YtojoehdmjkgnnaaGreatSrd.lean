import Derived.Test.YtojoehdmjkgnnaaGreatTrs
import Derived.Test.YtojoehdmjkgnnaaGreatSpo
namespace Go.Proofs.YtojoehdmjkgnnaaGreat
open Go.RowKit
set_option linter.unusedVariables false
set_option linter.unusedSimpArgs false
theorem ex_loadN {o : Oper} {ev : Operand → Value} {p : Operand} {g : Nat} {w : World} {x : Nd} (ho : o.op = Op.load 36 p) (hp : ev p = .pointer (some ⟨g, 0, none⟩)) (h : w.heap[g]? = some (ndO x)) : (execOp ev o).run Tryz.prog w = .ok (.value (ndV x)) w := by
 have hr := loadNd h
 unfold execOp
 simp only [ho, hp, Instr.loadAt, Instr.sureAddr, Sem.run_bind, Sem.run_pure, Result.andThen_ok, hr]
theorem wp_bsN {w : World} {o : Oper} {a : Act} {K : Act → World → Prop} {Q : Exit → Act → World → Prop} {p : Operand} {x : Nd} (ho : o.op = .buildSlice 24 1 #[(0, p)]) (hp : a.eval p = ndV x)
 (h : K (a.put o.dst (.slice (some ⟨w.heap.size, 0, none⟩) 1 1)) (w.alloc (.cells (ndA x) 36))) : o.wp Tryz.prog a w K Q := by
 have hr := run_bsN w x
 unfold Oper.wp
 simp only [execOp, ho, List.map_toArray, List.map_cons, List.map_nil, hp, Sem.run_bind, hr, Result.andThen_ok, Sem.run_pure]
 exact h
theorem ty_ne {W : World} {g h : Nat} {x y : Array Value} {t s : TypeId} {r q : Nat × Nat} (h1 : W.heap[g]? = some (.cells x t r)) (h2 : W.heap[h]? = some (.cells y s q)) (hn : t ≠ s) : g ≠ h := by
 intro e
 subst e
 rw [h1] at h2
 cases h2
 exact hn rfl
structure PI (w wr : World) (S G A F : Nat) (lv : Value) (fi la na al : Int) (v : Value) (a : Option Addr) (n c : Nat) (L : List Nd) (B0 : Nat) : Prop where
 frs : Frs (fun b => b = S ∨ lv.ownBlock = some b) w wr
 box : wr.heap[w.heap.size]? = some (plO fi la na al v)
 fil : wr.heap[F]? = some (ndO filN)
 hF : w.heap.size < F
 st : wr.heap[S]? = some (stO G A (.slice a n c))
 own : wr.ownsRow B0 36 15 (.slice a n c) n (flatN L)
 nF : (Value.slice a n c).ownBlock ≠ some F
 at_ : ∀ b, (Value.slice a n c).ownBlock = some b → lv.ownBlock = some b ∨ w.heap.size ≤ b
 hB : B0 ≤ S
section
variable {w wr : World} {S G A F : Nat} {lv : Value} {fi la na al : Int} {v : Value} {a : Option Addr} {n c : Nat} {L : List Nd} {B0 : Nat}
theorem PI.lt (h : PI w wr S G A F lv fi la na al v a n c L B0) : S < wr.heap.size ∧ F < wr.heap.size ∧ w.heap.size < wr.heap.size ∧ B0 ≤ wr.heap.size := ⟨(glt h.st), (glt h.fil), (glt h.box), Nat.le_trans h.hB (Nat.le_of_lt (glt h.st))⟩
theorem PI.c2 (h : PI w wr S G A F lv fi la na al v a n c L B0) : wr.cell? ⟨S, 2, none⟩ = some (.slice a n c) := cell_of_row _ _ 2 _ 115 _ h.st
theorem PI.below {w2 : World} (h : PI w wr S G A F lv fi la na al v a n c L B0) (hb : Below wr.heap.size wr w2) : PI w w2 S G A F lv fi la na al v a n c L B0 :=
 ⟨h.frs.below hb, (hb.block _ h.lt.2.2.1).trans h.box, (hb.block _ h.lt.2.1).trans h.fil, h.hF, (hb.block _ h.lt.1).trans h.st, ownG_below h.own hb, h.nF, h.at_, h.hB⟩
theorem PI.keepB {w2 : World} (h : PI w wr S G A F lv fi la na al v a n c L B0) (hg : wr.grownBy w2 (Value.slice a n c).ownBlock) : w2.heap[S]? = some (stO G A (.slice a n c)) ∧ w2.heap[F]? = some (ndO filN) ∧ w2.heap[w.heap.size]? = some (plO fi la na al v) :=
 ⟨(hg.block _ h.lt.1 (fun e => own_neB h.st h.own (by decide) e.symm)).trans h.st, (hg.block _ h.lt.2.1 (fun e => h.nF e.symm)).trans h.fil, (hg.block _ h.lt.2.2.1 (fun e => own_neB h.box h.own (by decide) e.symm)).trans h.box⟩
theorem PI.keep {w2 : World} (h : PI w wr S G A F lv fi la na al v a n c L B0) (hg : wr.grownBy w2 (Value.slice a n c).ownBlock) : w2.cell? ⟨S, 2, none⟩ = some (.slice a n c) := cell_of_row _ _ 2 _ 115 _ (h.keepB hg).1
theorem PI.keepF {w2 : World} (h : PI w wr S G A F lv fi la na al v a n c L B0) (hg : wr.grownBy w2 (Value.slice a n c).ownBlock) : w2.frozen? ⟨S, 2, none⟩ = false := frozen_of_row _ _ 2 _ _ (h.keepB hg).1
theorem PI.keepS {w2 : World} (h : PI w wr S G A F lv fi la na al v a n c L B0) (hg : wr.grownBy w2 (Value.slice a n c).ownBlock) : w2.heap[F]? = some (ndO filN) ∧ ∀ x, (w2.setCell ⟨S, 2, none⟩ x).heap[F]? = some (ndO filN) :=
 ⟨(h.keepB hg).2.1, fun x => (Below.heap_setCell _ _ _ _ (ty_ne h.fil h.st (by decide))).trans (h.keepB hg).2.1⟩
theorem PI.keepX {w2 : World} (h : PI w wr S G A F lv fi la na al v a n c L B0) (hg : wr.grownBy w2 (Value.slice a n c).ownBlock) : w2.heap[w.heap.size]? = some (plO fi la na al v) ∧ ∀ x, (w2.setCell ⟨S, 2, none⟩ x).heap[w.heap.size]? = some (plO fi la na al v) :=
 ⟨(h.keepB hg).2.2, fun x => (Below.heap_setCell _ _ _ _ (ty_ne h.box h.st (by decide))).trans (h.keepB hg).2.2⟩
theorem PI.put {w2 : World} {a' : Option Addr} {n' c' : Nat} {L' : List Nd} (h : PI w wr S G A F lv fi la na al v a n c L B0) (hg : wr.grownBy w2 (Value.slice a n c).ownBlock) (ho : w2.ownsRow B0 36 15 (.slice a' n' c') n' (flatN L')) (ha : (Value.slice a' n' c').ownBlock = (Value.slice a n c).ownBlock ∨ (Value.slice a' n' c').ownBlock = some wr.heap.size) :
 PI w (w2.setCell ⟨S, 2, none⟩ (.slice a' n' c')) S G A F lv fi la na al v a' n' c' L' B0 := by
 obtain ⟨k1, k2, k3⟩ := h.keepB hg
 obtain ⟨l1, l2, l3, _⟩ := h.lt
 have hsz := h.frs.size
 refine ⟨(h.frs.grown hg (fun j hj => ?_)).set (.inl rfl) _, (Below.heap_setCell _ _ _ _ (ty_ne k3 k1 (by decide))).trans k3, (Below.heap_setCell _ _ _ _ (ty_ne k2 k1 (by decide))).trans k2, h.hF, heap_setCell_same _ S 2 _ 115 _ k1, own_setR ho (own_neB k1 ho (by decide)) 2 _, ?_, ?_, h.hB⟩
 ·rcases h.at_ j hj with h1 | h1
  ·exact .inl (.inr h1)
  ·exact .inr h1
 ·rcases ha with e | e
  ·rw [e]; exact h.nF
  ·rw [e]; intro e2; injection e2 with e3; omega
 ·intro b hb
  rcases ha with e | e
  ·rw [e] at hb; exact h.at_ b hb
  ·rw [e] at hb; injection hb with e3; right; omega
end
set_option maxRecDepth 20000 in
set_option maxHeartbeats 8000000 in
theorem cell_any {w0 w : World} {S G A n0 : Nat} {co gs gp gpo gm gmo : Int} {u lv : Value} {f : Nat → Int} {L0 : List Value} (fi la : Nat) (na al : Int) {v : Value} {ns : List Nd}
 (hb0 : Below w0.heap.size w0 w) (hS0 : w0.heap.size ≤ S) (hS : w.heap[S]? = some (stO G A lv)) (hG : w.heap[G]? = some (grO co gs gp gpo gm gmo u)) (hA : ArrAt w A f) (hf : Bd f) (hgs : -1073741823 ≤ gs ∧ gs ≤ 1073741823) (o : w.ownsRow w0.heap.size 36 15 lv n0 L0) (hN : NN 0 w0 v ns) (hs : ns.length ≤ 20000) (h2 : fi ≤ la) (h3 : la < 20) :
 Calls Tryz.prog 97 #[.pointer (some ⟨S, 0, none⟩), plV fi la na al v] w fun e w' => ∃ r lv' n' L', e = .returned r ∧ w'.ownsRow w.heap.size 36 15 r (hpR (celN al ns) 1 (acr f gs fi la)).length (flatN (hpR (celN al ns) 1 (acr f gs fi la))) ∧ w'.heap[S]? = some (stO G A lv') ∧ w'.ownsRow w0.heap.size 36 15 lv' n' L' ∧ (∀ b, lv'.ownBlock = some b → lv.ownBlock = some b ∨ w.heap.size ≤ b) ∧ Frs (fun b => b = S ∨ lv.ownBlock = some b) w w' := by
 obtain ⟨va, vc, rfl⟩ : ∃ a c, v = .slice a ns.length c := by
  rcases hN with ⟨rfl, h⟩ | ⟨b, off, cap, rfl, _⟩
  ·exact ⟨_, _, by rw [h]; rfl⟩
  ·exact ⟨_, _, rfl⟩
 obtain ⟨R, hR⟩ := exq (hpR (celN al ns) 1 (acr f gs fi la))
 rw [← hR]
 obtain ⟨B0, hB0⟩ := exq (w0.heap.size)
 rw [← hB0] at hS0 o ⊢
 have hSl : S < w.heap.size := (glt hS)
 have hGl : G < w.heap.size := (glt hG)
 have hAl := hA.lt
 have HKG : Hid (∀ wr, Frs (fun b => b = S ∨ lv.ownBlock = some b) w wr → wr.heap[G]? = some (grO co gs gp gpo gm gmo u) ∧ ArrAt wr A f ∧ NN 0 wr (.slice va ns.length vc) ns) := hideP (fun wr hr => by
  obtain ⟨arr, h1, _, _⟩ := id hA
  refine ⟨(hr.block _ hGl ?_).trans hG, hA.same (hr.block _ hAl ?_), hN.bel (Frs.toBelow (by rw [← hB0] at hb0; rw [← hB0]; exact hb0) hr ?_ (by rw [← hB0]; omega))⟩
  ·rintro (e | e)
   ·exact ty_ne hG hS (by decide) e
   ·exact own_neB hG o (by decide) e
  ·rintro (e | e)
   ·exact ty_ne h1 hS (by decide) e
   ·exact own_neB h1 o (by decide) e
  ·rintro b (e | e)
   ·rw [← hB0]; omega
   ·rw [← hB0]; exact (o.lt b e).1)
 have HST : Hid (∀ wr, Below w.heap.size w wr → Calls Tryz.prog 124 #[.pointer (some ⟨S, 0, none⟩)] wr fun e w' => (∃ v, e = .returned v) ∧ ∃ a c, w'.heap[S]? = some (stO G A (.slice a 0 c)) ∧ w'.ownsRow B0 36 15 (.slice a 0 c) 0 (flatN []) ∧ (Value.slice a 0 c).ownBlock = lv.ownBlock ∧ Frs (fun b => b = S ∨ lv.ownBlock = some b) wr w') := hideP (fun wr hr => startList_any ((hr.block _ hSl).trans hS) (ownG_below o hr))
 have HLV : Hid (∀ b, lv.ownBlock = some b → b < w.heap.size) := hideP (fun b hb => (o.lt b hb).2)
 obtain ⟨m, hm⟩ := exq (ns.length)
 rw [← hm] at hs HKG ⊢
 obtain ⟨v, hv⟩ := exq (Value.slice va m vc)
 have HR := hideP hR
 have HM := hideP hm
 have HF2 := hideP hf
 have HGS := hideP hgs
 clear hR hm hf hgs hN hb0 hA hG hS o hB0 hAl hGl
 go_enter Tryz.func97, Tryz.ntmps97
 go_wp2_with fail
 refine (filler_any _).mono ?_
 rintro e w1 ⟨rfl, hb1⟩
 have E1 : Hid (w1.heap[w.heap.size]? = some (plO fi la na al (.slice va m vc))) := hideP ((hb1.block _ (by simp)).trans (heap_alloc_new w _))
 have B1 : Hid (Below w.heap.size w w1) := hideP (below_more (below1 _ _) hb1 (by simp))
 have hx1 : w.heap.size < w1.heap.size := (glt E1.out)
 clear hb1
 go_wp2_with fail
 obtain ⟨W2, hW2⟩ := exq (w1.alloc (.cells (ndA filN) 36))
 rw [← hW2]
 have E2 : Hid (W2.heap[w.heap.size]? = some (plO fi la na al (.slice va m vc))) := hideP (by rw [hW2]; exact (Below.heap_alloc _ _ _ hx1).trans E1.out)
 have F2 : Hid (W2.heap[w1.heap.size]? = some (ndO filN)) := hideP (by rw [hW2]; exact heap_alloc_new w1 _)
 have B2 : Hid (Below w.heap.size w W2) := hideP (by rw [hW2]; exact B1.out.alloc B1.out.size _)
 obtain ⟨F, hF⟩ := exq (w1.heap.size)
 rw [← hF] at F2 hx1 ⊢
 clear hW2 hF E1 B1
 refine (HST.out _ B2.out).mono ?_
 rintro e wr ⟨⟨z, rfl⟩, a, c, hst, hown, hoe, hfr⟩
 have HP : Hid (PI w wr S G A F lv fi la na al (.slice va m vc) a 0 c [] B0) := hideP (by
  have hFn : ∀ b, lv.ownBlock = some b → b ≠ F ∧ b ≠ w.heap.size := fun b hb => by have := HLV.out b hb; omega
  refine ⟨⟨hfr.os.trans B2.out.os, hfr.tape.trans B2.out.tape, hfr.out.trans B2.out.output, Nat.le_trans B2.out.size hfr.size, fun b hb hn => (hfr.block b (Nat.lt_of_lt_of_le hb B2.out.size) hn).trans (B2.out.block b hb)⟩, (hfr.block _ (glt E2.out) ?_).trans E2.out, (hfr.block _ (glt F2.out) ?_).trans F2.out, hx1, hst, hown, ?_, ?_, hS0⟩
  ·rintro (e | e)
   ·omega
   ·exact (hFn _ e).2 rfl
  ·rintro (e | e)
   ·omega
   ·exact (hFn _ e).1 rfl
  ·rw [hoe]; intro e; exact (hFn _ e).1 rfl
  ·intro b hb; rw [hoe] at hb; exact .inl hb)
 clear hst hown hoe hfr E2 F2 B2 hx1 HST
 rw [← hv] at HP
 obtain ⟨L1, hL1⟩ : ∃ L1 : List Nd, L1 = if al = 0 then [] else [filN] := ⟨_, rfl⟩
 obtain ⟨L2, hL2⟩ : ∃ L2 : List Nd, L2 = if al = 2 then [] else [filN] := ⟨_, rfl⟩
 have hl1 : L1.length ≤ 1 := by rw [hL1]; split <;> simp
 have hl2 : L2.length ≤ 1 := by rw [hL2]; split <;> simp
 have HL1 := hideP hL1
 have HL2 := hideP hL2
 clear hL1 hL2
 have hsz := HP.out.lt
 have d3 : wr.cell? ⟨w.heap.size, 3, none⟩ = some (.int .i64 al) := cell_of_row _ _ 3 _ 123 _ HP.out.box
 go_upto_if 11 with fail
 clear d3
 go_cut [] (fun wc => ∃ a n c, Hid (PI w wc S G A F lv fi la na al v a n c L1 B0))
 case first =>
  obtain ⟨n, L, hn0, hL0⟩ : ∃ (n : Nat) (L : List Nd), n = 0 ∧ L = [] := ⟨_, _, rfl, rfl⟩
  rw [← hn0, ← hL0] at HP
  by_cases e0 : al = 0
  ·have HLN : Hid (L1 = []) := hideP (by rw [HL1.out, if_pos e0])
   have ne : (al != 0) = false := by simpa using e0
   clear e0
   go_wp2
   go_meet
   case rel => exact ⟨a, n, c, by rw [HLN.out]; rw [hL0] at HP; exact HP⟩
  ·have ne : (al != 0) = true := by simpa using e0
   have hLN : L1 = L ++ [filN] := by rw [HL1.out, if_neg e0, hL0]; rfl
   have HLN := hideP hLN
   have hn1 : n ≤ 0 := by omega
   clear hn0 hL0 hLN
   go_wp2_with fail
   refine wp_region_held_drew (S := fun x => x.heap[F]? = some (ndO filN)) (by kernel_rfl) HP.out.fil (fun hS => ?_)
   refine tkS (i := 0) (v := .pointer (some ⟨S, 0, none⟩)) rfl hS ?_
   try simp only [sput]
   refine tkS (i := 1) (v := .pointer (some ⟨S, 0, none⟩)) rfl hS ?_
   try simp only [sput]
   refine tkS (i := 2) (v := .pointer (some ⟨S, 0, none⟩)) rfl hS ?_
   try simp only [sput]
   refine tkS (i := 3) (v := .pointer (some ⟨S, 2, none⟩)) rfl hS ?_
   try simp only [sput]
   refine tkS (i := 5) (v := ndV filN) rfl hS ?_ (hr := fun wx hx => ex_loadN rfl rfl hx)
   try simp only [sput]
   obtain ⟨WB, hWB⟩ := exq (wr.drew.alloc (.cells (ndA filN) 36))
   have PB : Hid (PI w WB S G A F lv fi la na al v a n c (L) B0) := hideP (by rw [hWB]; exact HP.out.below (((Below.refl _ _).drew).alloc (Nat.le_refl _) _))
   have NB : Hid (NN 0 WB (.slice (some ⟨wr.heap.size, 0, none⟩) 1 1) [filN]) := hideP (nn_one (by rw [hWB]; exact heap_alloc_new wr.drew _))
   have HWB := hideP hWB
   clear hWB
   have b2 : wr.cell? ⟨S, 2, none⟩ = some (.slice a n c) := HP.out.c2
   have bB2 : WB.cell? ⟨S, 2, none⟩ = some (.slice a n c) := PB.out.c2
   have hSr := HP.out.lt.1
   have hSB := PB.out.lt.1
   refine wpAnyH_ready (rs := [4, 6]) (by kernel_rfl) (by simp) ?_
   refine AllReadyH.cons rfl (fun K hK => ?_) (AllReadyH.cons rfl (fun K hK => ?_) AllReadyH.nil)
   ·rw [if_pos (by first | rfl | go_simp)]
    go_simp
    refine hK.out _ _ HP.out.fil (fun hS => ?_)
    try simp only [sput]
    clear hK K
    refine rdS (i := 6) rfl (fun K hK => ?_)
    refine wp_bsN rfl rfl ?_
    rw [← HWB.out]
    refine hK.out _ _ PB.out.fil (fun hS => ?_)
    try simp only [sput]
    clear hK K
    refine rdS (i := 7) rfl (fun K hK => ?_)
    refine wp_appN _ _ rfl B0 (.slice a n c) n L rfl PB.out.own (.slice (some ⟨wr.heap.size, 0, none⟩) 1 1) [filN] rfl NB.out (by simp; omega) (by have := PB.out.lt; omega) ?_
    intro v6 w6 ho6 hg6 ha6
    obtain ⟨N6, hN6⟩ := exq (n + [filN].length)
    rw [← hN6] at ho6
    clear hN6
    obtain ⟨u6, d6, rfl⟩ := ownG_shape ho6
    have Q6 : Hid (PI w (w6.setCell ⟨S, 2, none⟩ (.slice u6 N6 d6)) S G A F lv fi la na al v u6 N6 d6 (L ++ [filN]) B0) := hideP (PB.out.put hg6 ho6 ha6)
    have q2 : w6.cell? ⟨S, 2, none⟩ = some (.slice a n c) := PB.out.keep hg6
    have qf : w6.frozen? ⟨S, 2, none⟩ = false := PB.out.keepF hg6
    have qs : S < w6.heap.size := Nat.lt_of_lt_of_le PB.out.lt.1 hg6.size
    have T6 := hideP (PB.out.keepS hg6)
    clear ho6 hg6 ha6
    refine hK.out _ _ T6.out.1 (fun hS => ?_)
    try simp only [sput]
    clear hK K
    refine tkS (i := 8) (v := .pointer (some ⟨S, 0, none⟩)) rfl hS ?_
    try simp only [sput]
    refine tkS (i := 9) (v := .pointer (some ⟨S, 2, none⟩)) rfl hS ?_
    try simp only [sput]
    refine rdS (i := 10) rfl (fun K hK => ?_)
    go_simp
    refine hK.out _ _ (T6.out.2 _) (fun hS => ?_)
    try simp only [sput]
    clear hK K
    refine wpAnyH_done (by kernel_rfl) ?_ _
    obtain ⟨W7, hW7⟩ := exq (w6.setCell ⟨S, 2, none⟩ (.slice u6 N6 d6))
    rw [← hW7] at Q6 ⊢
    clear hW7 q2 qf qs T6 hS
    go_wp2
    go_meet
    case rel => exact ⟨u6, N6, d6, by rw [HLN.out]; exact Q6⟩
   ·rw [if_pos (by first | rfl | go_simp)]
    refine wp_bsN rfl rfl ?_
    rw [← HWB.out]
    refine hK.out _ _ PB.out.fil (fun hS => ?_)
    try simp only [sput]
    clear hK K
    refine rdS (i := 4) rfl (fun K hK => ?_)
    go_simp
    refine hK.out _ _ PB.out.fil (fun hS => ?_)
    try simp only [sput]
    clear hK K
    refine rdS (i := 7) rfl (fun K hK => ?_)
    refine wp_appN _ _ rfl B0 (.slice a n c) n L rfl PB.out.own (.slice (some ⟨wr.heap.size, 0, none⟩) 1 1) [filN] rfl NB.out (by simp; omega) (by have := PB.out.lt; omega) ?_
    intro v6 w6 ho6 hg6 ha6
    obtain ⟨N6, hN6⟩ := exq (n + [filN].length)
    rw [← hN6] at ho6
    clear hN6
    obtain ⟨u6, d6, rfl⟩ := ownG_shape ho6
    have Q6 : Hid (PI w (w6.setCell ⟨S, 2, none⟩ (.slice u6 N6 d6)) S G A F lv fi la na al v u6 N6 d6 (L ++ [filN]) B0) := hideP (PB.out.put hg6 ho6 ha6)
    have q2 : w6.cell? ⟨S, 2, none⟩ = some (.slice a n c) := PB.out.keep hg6
    have qf : w6.frozen? ⟨S, 2, none⟩ = false := PB.out.keepF hg6
    have qs : S < w6.heap.size := Nat.lt_of_lt_of_le PB.out.lt.1 hg6.size
    have T6 := hideP (PB.out.keepS hg6)
    clear ho6 hg6 ha6
    refine hK.out _ _ T6.out.1 (fun hS => ?_)
    try simp only [sput]
    clear hK K
    refine tkS (i := 8) (v := .pointer (some ⟨S, 0, none⟩)) rfl hS ?_
    try simp only [sput]
    refine tkS (i := 9) (v := .pointer (some ⟨S, 2, none⟩)) rfl hS ?_
    try simp only [sput]
    refine rdS (i := 10) rfl (fun K hK => ?_)
    go_simp
    refine hK.out _ _ (T6.out.2 _) (fun hS => ?_)
    try simp only [sput]
    clear hK K
    refine wpAnyH_done (by kernel_rfl) ?_ _
    obtain ⟨W7, hW7⟩ := exq (w6.setCell ⟨S, 2, none⟩ (.slice u6 N6 d6))
    rw [← hW7] at Q6 ⊢
    clear hW7 q2 qf qs T6 hS
    go_wp2
    go_meet
    case rel => exact ⟨u6, N6, d6, by rw [HLN.out]; exact Q6⟩
 case rest =>
  obtain ⟨a, n, c, HQ⟩ := hcut
  have hnL : n = L1.length := by have h := HQ.out.own.1; rw [flatN_len] at h; omega
  have hn1 : n ≤ 1 := by omega
  have HNW : Hid (NN 0 wc (.slice va m vc) ns) := hideP (HKG.out _ HQ.out.frs).2.2
  have hms : ns.length ≤ 20000 := by rw [← HM.out]; exact hs
  clear hnL HP hsz
  obtain ⟨L, hL⟩ := exq (L1)
  obtain ⟨wr2, hwr⟩ : ∃ wr2 : World, wr2 = wc := ⟨_, rfl⟩
  have HBX : Hid (∀ x : World, x.heap[w.heap.size]? = some (plO fi la na al v) → x.cell? ⟨w.heap.size, 4, none⟩ = some (.slice va m vc)) := hideP (fun x hx => by rw [← hv]; exact cell_of_row _ _ 4 _ 123 _ hx)
  go_upto_region 5 with fail
  go_cut [] (fun wc => ∃ a n c, Hid (PI w wc S G A F lv fi la na al v a n c (L1 ++ ns) B0))
  case first =>
   clear hwr hL
   refine wp_region_held_drew (S := fun x => x.heap[w.heap.size]? = some (plO fi la na al v)) (by kernel_rfl) HQ.out.box (fun hS => ?_)
   refine tkS (i := 0) (v := .pointer (some ⟨S, 0, none⟩)) rfl hS ?_
   try simp only [sput]
   refine tkS (i := 1) (v := .pointer (some ⟨S, 0, none⟩)) rfl hS ?_
   try simp only [sput]
   refine tkS (i := 2) (v := .pointer (some ⟨S, 0, none⟩)) rfl hS ?_
   try simp only [sput]
   refine tkS (i := 3) (v := .pointer (some ⟨S, 2, none⟩)) rfl hS ?_
   try simp only [sput]
   refine tkS (i := 5) (v := .pointer (some ⟨w.heap.size, 4, none⟩)) rfl hS ?_
   try simp only [sput]
   refine tkS (i := 6) (v := .slice va m vc) rfl hS ?_ (hr := fun wx hx => by have h4 := HBX.out wx hx; go_simp)
   try simp only [sput]
   have PB : Hid (PI w wc.drew S G A F lv fi la na al v a n c (L1) B0) := hideP (HQ.out.below ((Below.refl _ _).drew))
   have b2 : wc.cell? ⟨S, 2, none⟩ = some (.slice a n c) := HQ.out.c2
   have hSr := HQ.out.lt.1
   have NB : Hid (NN 0 wc.drew (.slice va m vc) ns) := hideP (HNW.out.bel ((Below.refl _ _).drew))
   refine rdS (i := 4) rfl (fun K hK => ?_)
   go_simp
   refine hK.out _ _ HQ.out.box (fun hS => ?_)
   try simp only [sput]
   clear hK K
   refine rdS (i := 7) rfl (fun K hK => ?_)
   refine wp_appN _ _ rfl B0 (.slice a n c) n L1 rfl PB.out.own (.slice va m vc) ns rfl NB.out (by omega) (by have := PB.out.lt; omega) ?_
   intro v6 w6 ho6 hg6 ha6
   obtain ⟨N6, hN6⟩ := exq (n + ns.length)
   rw [← hN6] at ho6
   clear hN6
   obtain ⟨u6, d6, rfl⟩ := ownG_shape ho6
   have Q6 : Hid (PI w (w6.setCell ⟨S, 2, none⟩ (.slice u6 N6 d6)) S G A F lv fi la na al v u6 N6 d6 (L1 ++ ns) B0) := hideP (PB.out.put hg6 ho6 ha6)
   have q2 : w6.cell? ⟨S, 2, none⟩ = some (.slice a n c) := PB.out.keep hg6
   have qf : w6.frozen? ⟨S, 2, none⟩ = false := PB.out.keepF hg6
   have qs : S < w6.heap.size := Nat.lt_of_lt_of_le PB.out.lt.1 hg6.size
   have T6 := hideP (PB.out.keepX hg6)
   clear ho6 hg6 ha6
   refine hK.out _ _ T6.out.1 (fun hS => ?_)
   try simp only [sput]
   clear hK K
   refine tkS (i := 8) (v := .pointer (some ⟨S, 0, none⟩)) rfl hS ?_
   try simp only [sput]
   refine tkS (i := 9) (v := .pointer (some ⟨S, 2, none⟩)) rfl hS ?_
   try simp only [sput]
   refine rdS (i := 10) rfl (fun K hK => ?_)
   go_simp
   refine hK.out _ _ (T6.out.2 _) (fun hS => ?_)
   try simp only [sput]
   clear hK K
   refine wpAnyH_done (by kernel_rfl) ?_ _
   obtain ⟨W7, hW7⟩ := exq (w6.setCell ⟨S, 2, none⟩ (.slice u6 N6 d6))
   rw [← hW7] at Q6 ⊢
   clear hW7 q2 qf qs T6 hS
   go_wp2
   go_meet
   case rel => exact ⟨u6, N6, d6, Q6⟩
  case rest =>
   obtain ⟨a, n, c, HR2⟩ := hcut
   have hnL : n = (L1 ++ ns).length := by have h := HR2.out.own.1; rw [flatN_len] at h; omega
   have hn2 : n ≤ 20001 := by rw [hnL, List.length_append]; omega
   clear hnL HQ HNW
   obtain ⟨L, hL⟩ := exq (L1 ++ ns)
   rw [← hL] at HR2
   have HLX := hideP hL
   obtain ⟨wr, hwr2⟩ : ∃ wr : World, wr = wc := ⟨_, rfl⟩
   rw [← hwr2] at HR2 ⊢
   have d3 : wr.cell? ⟨w.heap.size, 3, none⟩ = some (.int .i64 al) := cell_of_row _ _ 3 _ 123 _ HR2.out.box
   have hsz := HR2.out.lt
   clear hL hwr2
   go_upto_if 34 with fail
   clear d3
   go_cut [] (fun wc => ∃ a n c, Hid (PI w wc S G A F lv fi la na al v a n c (L1 ++ ns ++ L2) B0))
   case first =>
    have HP := HR2
    by_cases e0 : al = 2
    ·have HLN : Hid (L2 = []) := hideP (by rw [HL2.out, if_pos e0])
     have ne : (al != 2) = false := by simpa using e0
     clear e0
     go_wp2
     go_meet
     case rel => exact ⟨a, n, c, by rw [HLN.out, List.append_nil, ← HLX.out]; exact HP⟩
    ·have ne : (al != 2) = true := by simpa using e0
     have HLN : Hid (L1 ++ ns ++ L2 = L ++ [filN]) := hideP (by rw [HL2.out, if_neg e0, HLX.out])
     go_wp2_with fail
     refine wp_region_held_drew (S := fun x => x.heap[F]? = some (ndO filN)) (by kernel_rfl) HP.out.fil (fun hS => ?_)
     refine tkS (i := 0) (v := .pointer (some ⟨S, 0, none⟩)) rfl hS ?_
     try simp only [sput]
     refine tkS (i := 1) (v := .pointer (some ⟨S, 0, none⟩)) rfl hS ?_
     try simp only [sput]
     refine tkS (i := 2) (v := .pointer (some ⟨S, 0, none⟩)) rfl hS ?_
     try simp only [sput]
     refine tkS (i := 3) (v := .pointer (some ⟨S, 2, none⟩)) rfl hS ?_
     try simp only [sput]
     refine tkS (i := 5) (v := ndV filN) rfl hS ?_ (hr := fun wx hx => ex_loadN rfl rfl hx)
     try simp only [sput]
     obtain ⟨WB, hWB⟩ := exq (wr.drew.alloc (.cells (ndA filN) 36))
     have PB : Hid (PI w WB S G A F lv fi la na al v a n c (L) B0) := hideP (by rw [hWB]; exact HP.out.below (((Below.refl _ _).drew).alloc (Nat.le_refl _) _))
     have NB : Hid (NN 0 WB (.slice (some ⟨wr.heap.size, 0, none⟩) 1 1) [filN]) := hideP (nn_one (by rw [hWB]; exact heap_alloc_new wr.drew _))
     have HWB := hideP hWB
     clear hWB
     have b2 : wr.cell? ⟨S, 2, none⟩ = some (.slice a n c) := HP.out.c2
     have bB2 : WB.cell? ⟨S, 2, none⟩ = some (.slice a n c) := PB.out.c2
     have hSr := HP.out.lt.1
     have hSB := PB.out.lt.1
     refine wpAnyH_ready (rs := [4, 6]) (by kernel_rfl) (by simp) ?_
     refine AllReadyH.cons rfl (fun K hK => ?_) (AllReadyH.cons rfl (fun K hK => ?_) AllReadyH.nil)
     ·rw [if_pos (by first | rfl | go_simp)]
      go_simp
      refine hK.out _ _ HP.out.fil (fun hS => ?_)
      try simp only [sput]
      clear hK K
      refine rdS (i := 6) rfl (fun K hK => ?_)
      refine wp_bsN rfl rfl ?_
      rw [← HWB.out]
      refine hK.out _ _ PB.out.fil (fun hS => ?_)
      try simp only [sput]
      clear hK K
      refine rdS (i := 7) rfl (fun K hK => ?_)
      refine wp_appN _ _ rfl B0 (.slice a n c) n L rfl PB.out.own (.slice (some ⟨wr.heap.size, 0, none⟩) 1 1) [filN] rfl NB.out (by simp; omega) (by have := PB.out.lt; omega) ?_
      intro v6 w6 ho6 hg6 ha6
      obtain ⟨N6, hN6⟩ := exq (n + [filN].length)
      rw [← hN6] at ho6
      clear hN6
      obtain ⟨u6, d6, rfl⟩ := ownG_shape ho6
      have Q6 : Hid (PI w (w6.setCell ⟨S, 2, none⟩ (.slice u6 N6 d6)) S G A F lv fi la na al v u6 N6 d6 (L ++ [filN]) B0) := hideP (PB.out.put hg6 ho6 ha6)
      have q2 : w6.cell? ⟨S, 2, none⟩ = some (.slice a n c) := PB.out.keep hg6
      have qf : w6.frozen? ⟨S, 2, none⟩ = false := PB.out.keepF hg6
      have qs : S < w6.heap.size := Nat.lt_of_lt_of_le PB.out.lt.1 hg6.size
      have T6 := hideP (PB.out.keepS hg6)
      clear ho6 hg6 ha6
      refine hK.out _ _ T6.out.1 (fun hS => ?_)
      try simp only [sput]
      clear hK K
      refine tkS (i := 8) (v := .pointer (some ⟨S, 0, none⟩)) rfl hS ?_
      try simp only [sput]
      refine tkS (i := 9) (v := .pointer (some ⟨S, 2, none⟩)) rfl hS ?_
      try simp only [sput]
      refine rdS (i := 10) rfl (fun K hK => ?_)
      go_simp
      refine hK.out _ _ (T6.out.2 _) (fun hS => ?_)
      try simp only [sput]
      clear hK K
      refine wpAnyH_done (by kernel_rfl) ?_ _
      obtain ⟨W7, hW7⟩ := exq (w6.setCell ⟨S, 2, none⟩ (.slice u6 N6 d6))
      rw [← hW7] at Q6 ⊢
      clear hW7 q2 qf qs T6 hS
      go_wp2
      go_meet
      case rel => exact ⟨u6, N6, d6, by rw [HLN.out]; exact Q6⟩
     ·rw [if_pos (by first | rfl | go_simp)]
      refine wp_bsN rfl rfl ?_
      rw [← HWB.out]
      refine hK.out _ _ PB.out.fil (fun hS => ?_)
      try simp only [sput]
      clear hK K
      refine rdS (i := 4) rfl (fun K hK => ?_)
      go_simp
      refine hK.out _ _ PB.out.fil (fun hS => ?_)
      try simp only [sput]
      clear hK K
      refine rdS (i := 7) rfl (fun K hK => ?_)
      refine wp_appN _ _ rfl B0 (.slice a n c) n L rfl PB.out.own (.slice (some ⟨wr.heap.size, 0, none⟩) 1 1) [filN] rfl NB.out (by simp; omega) (by have := PB.out.lt; omega) ?_
      intro v6 w6 ho6 hg6 ha6
      obtain ⟨N6, hN6⟩ := exq (n + [filN].length)
      rw [← hN6] at ho6
      clear hN6
      obtain ⟨u6, d6, rfl⟩ := ownG_shape ho6
      have Q6 : Hid (PI w (w6.setCell ⟨S, 2, none⟩ (.slice u6 N6 d6)) S G A F lv fi la na al v u6 N6 d6 (L ++ [filN]) B0) := hideP (PB.out.put hg6 ho6 ha6)
      have q2 : w6.cell? ⟨S, 2, none⟩ = some (.slice a n c) := PB.out.keep hg6
      have qf : w6.frozen? ⟨S, 2, none⟩ = false := PB.out.keepF hg6
      have qs : S < w6.heap.size := Nat.lt_of_lt_of_le PB.out.lt.1 hg6.size
      have T6 := hideP (PB.out.keepS hg6)
      clear ho6 hg6 ha6
      refine hK.out _ _ T6.out.1 (fun hS => ?_)
      try simp only [sput]
      clear hK K
      refine tkS (i := 8) (v := .pointer (some ⟨S, 0, none⟩)) rfl hS ?_
      try simp only [sput]
      refine tkS (i := 9) (v := .pointer (some ⟨S, 2, none⟩)) rfl hS ?_
      try simp only [sput]
      refine rdS (i := 10) rfl (fun K hK => ?_)
      go_simp
      refine hK.out _ _ (T6.out.2 _) (fun hS => ?_)
      try simp only [sput]
      clear hK K
      refine wpAnyH_done (by kernel_rfl) ?_ _
      obtain ⟨W7, hW7⟩ := exq (w6.setCell ⟨S, 2, none⟩ (.slice u6 N6 d6))
      rw [← hW7] at Q6 ⊢
      clear hW7 q2 qf qs T6 hS
      go_wp2
      go_meet
      case rel => exact ⟨u6, N6, d6, by rw [HLN.out]; exact Q6⟩
   case rest =>
    obtain ⟨a, n, c, HT⟩ := hcut
    have hnL : n = (L1 ++ ns ++ L2).length := by have h := HT.out.own.1; rw [flatN_len] at h; omega
    have hn3 : n ≤ 20002 := by rw [hnL, List.length_append, List.length_append]; omega
    obtain ⟨hG3, hA3, _⟩ := HKG.out _ HT.out.frs
    have HAC : Hid (∀ W, Below wc.heap.size wc W → Calls Tryz.prog 92 #[.pointer (some ⟨G, 0, none⟩), .pointer (some ⟨A, 0, none⟩), .int .i64 (fi : Int), .int .i64 (la : Int)] W fun e w' => e = .returned (.int .i64 (acr f gs fi la)) ∧ w' = W) := hideP (fun W hW => across_any fi la ((hW.block _ (glt hG3)).trans hG3) (hA3.below hW) HF2.out h2 h3 HGS.out)
    have HHP : Hid (∀ W, Below wc.heap.size wc W → Calls Tryz.prog 11 #[.slice a n c, .int .i64 1, .int .i64 (acr f gs fi la)] W fun e w' => ∃ a c s, e = .returned (packV (.slice a R.length c) s) ∧ w'.ownsRow W.heap.size 36 15 (.slice a R.length c) R.length (flatN R) ∧ Below W.heap.size W w') := hideP (fun W hW => by
     have e : R = hpR (L1 ++ ns ++ L2) 1 (acr f gs fi la) := by rw [HR.out, HL1.out, HL2.out]; rfl
     rw [e]
     refine (implH 1 (acr f gs fi la) (ownG_below HT.out.own hW) hnL.symm (by omega)).mono (fun e w' ⟨u, q1, q2, q3⟩ => ?_)
     obtain ⟨a9, c9, rfl⟩ := ownG_shape q2
     exact ⟨a9, c9, _, q1, q2, q3⟩)
    obtain ⟨X, hX⟩ := exq (acr f gs fi la)
    rw [← hX] at HAC HHP
    have HQ2 : Hid (∀ x : World, Below wc.heap.size wc x → (x.cell? ⟨S, 0, none⟩ = some (.pointer (some ⟨G, 0, none⟩)) ∧ x.cell? ⟨S, 1, none⟩ = some (.pointer (some ⟨A, 0, none⟩)) ∧ x.cell? ⟨S, 2, none⟩ = some (.slice a n c)) ∧ x.cell? ⟨w.heap.size, 0, none⟩ = some (.int .i64 (fi : Int)) ∧ x.cell? ⟨w.heap.size, 1, none⟩ = some (.int .i64 (la : Int))) := hideP (fun x hx => by
     have p1 := (hx.block _ HT.out.lt.1).trans HT.out.st
     have p2 := (hx.block _ HT.out.lt.2.2.1).trans HT.out.box
     exact ⟨⟨cell_of_row _ _ 0 _ 115 _ p1, cell_of_row _ _ 1 _ 115 _ p1, cell_of_row _ _ 2 _ 115 _ p1⟩, cell_of_row _ _ 0 _ 123 _ p2, cell_of_row _ _ 1 _ 123 _ p2⟩)
    have BD : Hid (Below wc.heap.size wc wc.drew) := hideP ((Below.refl _ _).drew)
    have hl := HT.out.lt
    clear HKG hG3 hA3 hX hnL HR2
    go_wp2_with fail
    go_region_held3 (fun x => (x.cell? ⟨S, 0, none⟩ = some (.pointer (some ⟨G, 0, none⟩)) ∧ x.cell? ⟨S, 1, none⟩ = some (.pointer (some ⟨A, 0, none⟩)) ∧ x.cell? ⟨S, 2, none⟩ = some (.slice a n c)) ∧ x.cell? ⟨w.heap.size, 0, none⟩ = some (.int .i64 (fi : Int)) ∧ x.cell? ⟨w.heap.size, 1, none⟩ = some (.int .i64 (la : Int))) (first | exact HQ2.out _ BD.out | exact HQ2.out _ ‹Hid (Below wc.heap.size wc _)›) (first | (go_at_call 92; refine (HAC.out _ BD.out).mono ?_; rintro e w7 ⟨rfl, rfl⟩) | (go_at_call 11; refine (HHP.out _ BD.out).mono ?_; rintro e w8 ⟨a8, c8, s8, rfl, ho8, hb8⟩; have B8 : Hid (Below wc.heap.size wc w8) := hideP (below_more BD.out hb8 BD.out.size); have O8 := hideP ho8; have hfd := fun W => fld28 (.slice a8 R.length c8) s8 W; clear hb8 ho8))
    all_goals
     clear HHP HAC HQ2 HBX
     go_wp2
     go_ret
     refine ⟨_, .slice a n c, n, _, rfl, ownG_base O8.out ?_, (B8.out.block _ hl.1).trans HT.out.st, ownG_below HT.out.own B8.out, HT.out.at_, HT.out.frs.below B8.out⟩
     exact Nat.le_of_lt hl.2.2.1
theorem run_bsN2 (W : World) (x y : Nd) : (Instr.buildSlice 24 2 #[(0, ndV x), (1, ndV y)]).run Tryz.prog W = .ok (.slice (some ⟨W.heap.size, 0, none⟩) 2 2) (W.alloc (.cells (ndA x ++ ndA y) 36)) := by
 obtain ⟨k, wd, ht, dp, sh, fo, ch, nn, gs, gp, gpo, gm, gmo, tx, kids⟩ := x
 obtain ⟨k2, wd2, ht2, dp2, sh2, fo2, ch2, nn2, gs2, gp2, gpo2, gm2, gmo2, tx2, kids2⟩ := y
 kernel_rfl
theorem wp_bsN2 {w : World} {o : Oper} {a : Act} {K : Act → World → Prop} {Q : Exit → Act → World → Prop} {p q : Operand} {x y : Nd} (ho : o.op = .buildSlice 24 2 #[(0, p), (1, q)]) (hp : a.eval p = ndV x) (hq : a.eval q = ndV y)
 (h : K (a.put o.dst (.slice (some ⟨w.heap.size, 0, none⟩) 2 2)) (w.alloc (.cells (ndA x ++ ndA y) 36))) : o.wp Tryz.prog a w K Q := by
 have hr := run_bsN2 w x y
 unfold Oper.wp
 simp only [execOp, ho, List.map_toArray, List.map_cons, List.map_nil, hp, hq, Sem.run_bind, hr, Result.andThen_ok, Sem.run_pure]
 exact h
theorem nn_two {w : World} {g : Nat} {x y : Nd} (h : w.heap[g]? = some (.cells (ndA x ++ ndA y) 36 (0, 0))) : NN 0 w (.slice (some ⟨g, 0, none⟩) 2 2) [x, y] := by
 refine .inr ⟨g, 0, 2, rfl, Nat.le_refl _, Nat.zero_le _, fun _ => (glt h), fun j u hj => ?_⟩
 rw [Nat.zero_add, cell_of_row _ _ j _ 36 _ h]
 have e : flatN [x, y] = (ndA x ++ ndA y).toList := by simp [flatN, Nd.cells]
 rw [e] at hj
 simpa using hj
theorem flatN_take : ∀ (xs : List Nd) (k : Nat), (flatN xs).take (k * 15) = flatN (xs.take k)
 | [], k => by simp [flatN]
 | x :: xs, 0 => by simp [flatN]
 | x :: xs, k + 1 => by
  rw [List.take_succ_cons]
  show (x.cells ++ flatN xs).take ((k + 1) * 15) = x.cells ++ flatN (xs.take k)
  rw [← flatN_take xs k, List.take_append, show x.cells.length = 15 from rfl, show (k + 1) * 15 - 15 = k * 15 by omega, List.take_of_length_le (by rw [show x.cells.length = 15 from rfl]; omega)]
theorem own_begin {w : World} {B n c k : Nat} {a : Option Addr} {xs : List Nd} (h : w.ownsRow B 36 15 (.slice a n c) n (flatN xs)) (hk : k ≤ n) : w.ownsRow B 36 15 (.slice a k c) k (flatN (xs.take k)) := by
 have hl : xs.length = n := by have := h.1; rw [flatN_len] at this; omega
 refine ⟨by rw [flatN_len, List.length_take]; congr 1; omega, ?_⟩
 rcases h.2 with ⟨e, h0⟩ | ⟨g, cap, cur, e, hb, hg, hn, hm, hsz, ht⟩
 ·cases e
  exact .inl ⟨by rw [show k = 0 by omega], by omega⟩
 ·cases e
  refine .inr ⟨g, c, cur, rfl, hb, hg, by omega, hm, hsz, ?_⟩
  rw [← flatN_take, ← ht, List.take_take, Nat.min_eq_left (Nat.mul_le_mul_right _ hk)]
structure RoJ (w wr : World) (S G A GB : Nat) (lv0 : Value) (ru : Int) (cv : Value) (gap : Nd) (B0 : Nat) (lv : Value) (a : Option Addr) (n c : Nat) (L : List Nd) : Prop where
 frs : Frs (fun b => b = S ∨ lv0.ownBlock = some b) w wr
 box : wr.heap[w.heap.size]? = some (.cells #[.int .i64 ru, cv] 119 (0, 0))
 gp : wr.heap[GB]? = some (ndO gap)
 hG : w.heap.size < GB
 st : wr.heap[S]? = some (stO G A lv)
 lst : ∃ n' L', wr.ownsRow B0 36 15 lv n' L'
 at_ : ∀ b, lv.ownBlock = some b → lv0.ownBlock = some b ∨ w.heap.size ≤ b
 own : wr.ownsRow w.heap.size 36 15 (.slice a n c) n (flatN L)
 nG : lv.ownBlock ≠ some GB
 aG : (Value.slice a n c).ownBlock ≠ some GB
 aL : ∀ b, (Value.slice a n c).ownBlock = some b → lv.ownBlock ≠ some b
section
variable {w wr : World} {S G A GB : Nat} {lv0 : Value} {ru : Int} {cv : Value} {gap : Nd} {B0 : Nat} {lv : Value} {a : Option Addr} {n c : Nat} {L : List Nd}
theorem RoJ.lt (h : RoJ w wr S G A GB lv0 ru cv gap B0 lv a n c L) : S < wr.heap.size ∧ GB < wr.heap.size ∧ w.heap.size < wr.heap.size := ⟨(glt h.st), (glt h.gp), (glt h.box)⟩
theorem RoJ.below {w2 : World} (h : RoJ w wr S G A GB lv0 ru cv gap B0 lv a n c L) (hb : Below wr.heap.size wr w2) : RoJ w w2 S G A GB lv0 ru cv gap B0 lv a n c L := by
 obtain ⟨n', L', hl⟩ := h.lst
 exact ⟨h.frs.below hb, (hb.block _ h.lt.2.2).trans h.box, (hb.block _ h.lt.2.1).trans h.gp, h.hG, (hb.block _ h.lt.1).trans h.st, ⟨n', L', ownG_below hl hb⟩, h.at_, ownG_below h.own hb, h.nG, h.aG, h.aL⟩
theorem RoJ.cell {w2 : World} {lv' : Value} {n' : Nat} {L' : List Value} (h : RoJ w wr S G A GB lv0 ru cv gap B0 lv a n c L) (hf : Frs (fun b => b = S ∨ lv.ownBlock = some b) wr w2) (hst : w2.heap[S]? = some (stO G A lv')) (ho : w2.ownsRow B0 36 15 lv' n' L') (ha : ∀ b, lv'.ownBlock = some b → lv.ownBlock = some b ∨ wr.heap.size ≤ b) : RoJ w w2 S G A GB lv0 ru cv gap B0 lv' a n c L := by
 obtain ⟨m', M', hl⟩ := h.lst
 obtain ⟨l1, l2, l3⟩ := h.lt
 have hs := h.frs.size
 refine ⟨⟨hf.os.trans h.frs.os, hf.tape.trans h.frs.tape, hf.out.trans h.frs.out, Nat.le_trans hs hf.size, fun b hb hn => (hf.block b (by omega) ?_).trans (h.frs.block b hb hn)⟩, (hf.block _ l3 ?_).trans h.box, (hf.block _ l2 ?_).trans h.gp, h.hG, hst, ⟨n', L', ho⟩, ?_, ownG_same h.own (fun b hb => hf.block _ (h.own.lt b hb).2 ?_), ?_, h.aG, ?_⟩
 ·rintro (e | e)
  ·exact hn (.inl e)
  ·rcases h.at_ b e with h1 | h1
   ·exact hn (.inr h1)
   ·omega
 ·rintro (e | e)
  ·exact ty_ne h.box h.st (by decide) e
  ·exact own_neB h.box hl (by decide) e
 ·rintro (e | e)
  ·exact ty_ne h.gp h.st (by decide) e
  ·exact h.nG e
 ·intro b hb
  rcases ha b hb with h1 | h1
  ·exact h.at_ b h1
  ·right; omega
 ·rintro (e | e)
  ·exact own_neB h.st h.own (by decide) (by rw [hb, e])
  ·exact h.aL b hb e
 ·intro e
  rcases ha _ e with h1 | h1
  ·exact h.nG h1
  ·omega
 ·intro b hb e
  rcases ha b e with h1 | h1
  ·exact h.aL b hb h1
  ·have := (h.own.lt b hb).2; omega
theorem RoJ.app {w2 : World} {a' : Option Addr} {n' c' : Nat} {L' : List Nd} (h : RoJ w wr S G A GB lv0 ru cv gap B0 lv a n c L) (hg : wr.grownBy w2 (Value.slice a n c).ownBlock) (ho : w2.ownsRow w.heap.size 36 15 (.slice a' n' c') n' (flatN L')) (ha : (Value.slice a' n' c').ownBlock = (Value.slice a n c).ownBlock ∨ (Value.slice a' n' c').ownBlock = some wr.heap.size) : RoJ w w2 S G A GB lv0 ru cv gap B0 lv a' n' c' L' := by
 obtain ⟨m', M', hl⟩ := h.lst
 obtain ⟨l1, l2, l3⟩ := h.lt
 refine ⟨h.frs.grown hg (fun j hj => .inr (h.own.lt j hj).1), (hg.block _ l3 (fun e => own_neB h.box h.own (by decide) e.symm)).trans h.box, (hg.block _ l2 (fun e => h.aG e.symm)).trans h.gp, h.hG, (hg.block _ l1 (fun e => own_neB h.st h.own (by decide) e.symm)).trans h.st, ⟨m', M', ownG_same hl (fun b hb => hg.block _ (hl.lt b hb).2 (fun e => h.aL b e.symm hb))⟩, h.at_, ho, h.nG, ?_, ?_⟩
 ·rcases ha with e | e
  ·rw [e]; exact h.aG
  ·rw [e]; intro e2; injection e2 with e3; omega
 ·intro b hb
  rcases ha with e | e
  ·rw [e] at hb; exact h.aL b hb
  ·rw [e] at hb; injection hb with e3; subst e3
   intro e2
   have := (hl.lt _ e2).2
   omega
end
set_option maxRecDepth 20000 in
set_option maxHeartbeats 8000000 in
theorem line_any {w : World} {S G A cols : Nat} {gs gp gpo gm gmo : Int} {u lv : Value} {f : Nat → Int} (ru : Int) (hS : w.heap[S]? = some (stO G A lv)) (hG : w.heap[G]? = some (grO (cols : Int) gs gp gpo gm gmo u)) (hA : ArrAt w A f) (hf : Bd f) (h1 : 1 ≤ cols) (h2 : cols ≤ 20) (hgs : -1073741823 ≤ gs ∧ gs ≤ 1073741823) :
 Calls Tryz.prog 95 #[.pointer (some ⟨S, 0, none⟩), .int .i64 ru] w fun e w' => ∃ a c, e = .returned (.slice a (hpR [rulN (acr f gs 0 (cols - 1)) ru] 0 0).length c) ∧ w'.ownsRow w.heap.size 36 15 (.slice a (hpR [rulN (acr f gs 0 (cols - 1)) ru] 0 0).length c) (hpR [rulN (acr f gs 0 (cols - 1)) ru] 0 0).length (flatN (hpR [rulN (acr f gs 0 (cols - 1)) ru] 0 0)) ∧ Below w.heap.size w w' := by
 have hSl : S < w.heap.size := (glt hS)
 have HW : Hid (∀ W, Below w.heap.size w W → Calls Tryz.prog 57 #[.pointer (some ⟨G, 0, none⟩), .pointer (some ⟨A, 0, none⟩)] W fun e w' => e = .returned (.int .i64 (acr f gs 0 (cols - 1))) ∧ w' = W) := hideP (fun W hW => whole_any ((hW.block _ (glt hG)).trans hG) (hA.below hW) hf h1 h2 hgs)
 obtain ⟨X, hX⟩ := exq (acr f gs 0 (cols - 1))
 rw [← hX] at HW ⊢
 obtain ⟨R, hR⟩ := exq (hpR [rulN X ru] 0 0)
 rw [← hR]
 have HN : Hid (∀ W, Calls Tryz.prog 122 #[.agg #[.int .i64 X, .int .i64 ru, .int .i64 0]] W fun r w' => r = .returned (ndV (rulN X ru)) ∧ Below W.heap.size W w') := hideP (fun W => node_rule X ru 0 W)
 have HHP : Hid (∀ W g, W.heap[g]? = some (ndO (rulN X ru)) → Calls Tryz.prog 11 #[.slice (some ⟨g, 0, none⟩) 1 1, .int .i64 0, .int .i64 0] W fun e w' => ∃ a c s, e = .returned (packV (.slice a R.length c) s) ∧ w'.ownsRow W.heap.size 36 15 (.slice a R.length c) R.length (flatN R) ∧ Below W.heap.size W w') := hideP (fun W g hg => by
  rw [hR]
  refine (implH 0 0 (own_one (Nat.zero_le g) hg) rfl (by omega)).mono (fun e w' ⟨u, q1, q2, q3⟩ => ?_)
  obtain ⟨a9, c9, rfl⟩ := ownG_shape q2
  exact ⟨a9, c9, _, q1, q2, q3⟩)
 have HQ : Hid (∀ x : World, Below w.heap.size w x → x.cell? ⟨S, 0, none⟩ = some (.pointer (some ⟨G, 0, none⟩)) ∧ x.cell? ⟨S, 1, none⟩ = some (.pointer (some ⟨A, 0, none⟩))) := hideP (fun x hx => by
  have p1 := (hx.block _ hSl).trans hS
  exact ⟨cell_of_row _ _ 0 _ 115 _ p1, cell_of_row _ _ 1 _ 115 _ p1⟩)
 have BD : Hid (Below w.heap.size w w.drew) := hideP ((Below.refl _ _).drew)
 clear hS hG hA hf hgs hX hR
 go_enter Tryz.func95, Tryz.ntmps95
 go_upto_region 1 with fail
 go_cut [5] (fun s5 wc => ∃ g, s5 = .pointer (some ⟨g, 0, none⟩) ∧ Hid (wc.heap[g]? = some (.cells #[.int .i64 X, .int .i64 ru, .int .i64 0] 149 (0, 0))) ∧ Hid (Below w.heap.size w wc))
 case first =>
  go_region_held3 (fun x => x.cell? ⟨S, 0, none⟩ = some (.pointer (some ⟨G, 0, none⟩)) ∧ x.cell? ⟨S, 1, none⟩ = some (.pointer (some ⟨A, 0, none⟩))) (first | exact HQ.out _ BD.out | exact HQ.out _ ((Below.refl _ _).drew.alloc (Nat.le_refl _) _)) (first | (go_at_call 57; refine (HW.out _ BD.out).mono ?_; rintro e w7 ⟨rfl, rfl⟩) | (go_at_call 57; refine (HW.out _ ((Below.refl _ _).drew.alloc (Nat.le_refl _) _)).mono ?_; rintro e w7 ⟨rfl, rfl⟩))
  all_goals
   go_wp2
   go_meet
   case rel => exact ⟨w.heap.size, rfl, hideP (heap_alloc_new w _), hideP ((below1 _ _).drew)⟩
 case rest =>
  obtain ⟨g, rfl, HG, HB⟩ := hcut
  have k0 : wc.cell? ⟨g, 0, none⟩ = some (.int .i64 X) := cell_of_row _ _ 0 _ 149 _ HG.out
  have k1 : wc.cell? ⟨g, 1, none⟩ = some (.int .i64 ru) := cell_of_row _ _ 1 _ 149 _ HG.out
  have k2 : wc.cell? ⟨g, 2, none⟩ = some (.int .i64 0) := cell_of_row _ _ 2 _ 149 _ HG.out
  go_wp2_with fail
  refine (HN.out _).mono ?_
  rintro e w1 ⟨rfl, hb1⟩
  have B1 := hideP (below_more HB.out hb1 HB.out.size)
  clear hb1 k0 k1 k2 HG HB
  go_simp
  iterate 1 (first | go_values | go_skip | go_guarded | go_step | go_upon | go_in | go_back)
  refine wpList_bs1 rfl 24 1 0 _ rfl rfl (run_bsN w1 _) ?_
  have E1 : Hid ((w1.alloc (.cells (ndA (rulN X ru)) 36)).heap[w1.heap.size]? = some (ndO (rulN X ru))) := hideP (heap_alloc_new w1 _)
  have B2 : Hid (Below w.heap.size w (w1.alloc (.cells (ndA (rulN X ru)) 36))) := hideP (B1.out.alloc B1.out.size _)
  obtain ⟨W2, hW2⟩ := exq (w1.alloc (.cells (ndA (rulN X ru)) 36))
  rw [← hW2] at E1 B2 ⊢
  clear hW2
  go_wp2_with fail
  refine (HHP.out _ _ E1.out).mono ?_
  rintro e w3 ⟨a3, c3, s3, rfl, ho3, hb3⟩
  have hfd := fld28 (.slice a3 R.length c3) s3 w3
  have O3 := hideP (ownG_base ho3 B2.out.size)
  have B3 := hideP (below_more B2.out hb3 B2.out.size)
  clear ho3 hb3
  go_wp2
  go_ret
  exact ⟨_, _, rfl, O3.out, B3.out⟩
end Go.Proofs.YtojoehdmjkgnnaaGreat
