import Derived.Test.YtbbehmcekbnkiaaGreatTwi
import Derived.Test.YtbbehmcekbnkiaaGreatFng
import Derived.Test.YtbbehmcekbnkiaaGreatDlp
import Derived.Test.YtbbehmcekbnkiaaGreatDts
import Derived.Test.YtbbehmcekbnkiaaGreatWdp
import Derived.Deep.RegionHeld3
namespace Go.Proofs.YtbbehmcekbnkiaaGreat
open Go.RowKit
set_option linter.unusedVariables false
set_option linter.unusedSimpArgs false
theorem Tryz.info2w : (Tryz.prog.info? 2).map (fun i => (i.zero, i.size, i.bytes)) = some (some (.int .i64 0), 1, 8) := by kernel_rfl
theorem eqNilI (w : World) (a : Option Addr) (n c n' c' : Nat) : (binOp .eql 54 (.slice a n c) (.slice none n' c')).run Tryz.prog w = .ok (.bool a.isNone) w := Lib.run_eql_slice_nil w _ _ a n c n' c' Tryz.underlying54
theorem own_ptr {w : World} {b e s n : Nat} {v : Value} {xs : List Value} (h : w.ownsRow b e s v n xs) (hv : v ≠ .slice none 0 0) : ∃ g c, v = .slice (some ⟨g, 0, none⟩) n c := by
 rcases h.2 with ⟨rfl, _⟩ | ⟨g, cap, cur, rfl, _⟩
 ·exact absurd rfl hv
 ·exact ⟨g, cap, rfl⟩
theorem ints_get {f : Nat -> Int} {n j : Nat} {u : Value} (h : ((List.range n).map (fun i => Value.int .i64 (f i)))[j]? = some u) : j < n /\ u = .int .i64 (f j) := by
 rw [List.getElem?_map] at h
 by_cases hj : j < n
 ·rw [List.getElem?_range hj] at h
  simp at h
  exact ⟨hj, h.symm⟩
 ·rw [List.getElem?_eq_none (by simp; omega)] at h
  cases h
set_option maxRecDepth 100000 in
set_option maxHeartbeats 2000000 in
theorem cloneI_any {w : World} {A n cap : Nat} {f : Nat -> Int} (hA : ∀ i, i < n -> w.cell? ⟨A, i, none⟩ = some (.int .i64 (f i))) (hn : n <= 20) (hc : n <= cap) :
 Calls Tryz.prog 50 #[.slice (some ⟨A, 0, none⟩) n cap] w fun e w' => ∃ g c, e = .returned (.slice (some ⟨g, 0, none⟩) n c) /\ w'.ownsRow w.heap.size 2 1 (.slice (some ⟨g, 0, none⟩) n c) n ((List.range n).map (fun i => Value.int .i64 (f i))) /\ Below w.heap.size w w' := by
 obtain ⟨i0, hi, hz0, hz1, hz2⟩ := info_parts Tryz.info2w
 have q33 := eqNilI
 have HC := hideP hA
 clear hA
 go_enter Tryz.func50, Tryz.ntmps50
 go_wp2_with (at_builtin; refine wpList_append_own _ rfl _ _ 54 rfl w.heap.size 2 i0 _ 1 8 Tryz.underlying54 hi hz0 hz1 hz2 rfl (by decide) _ _ _ rfl (World.ownsRow_made w #[] 0 (Nat.le_refl _) (Nat.zero_le _) (by simp)) ⟨A, 0, none⟩ n cap ((List.range n).map (fun i => Value.int .i64 (f i))) rfl ?c1 ?c2 ?c3 ?c4 ?c5 ?c6 ?_)
 case c1 => simp
 case c2 =>
  intro j u hj
  obtain ⟨h1, rfl⟩ := ints_get hj
  rw [Addr.add_lit, Nat.zero_add]
  exact Lib.cell?_alloc_some _ (HC.out j h1)
 case c3 =>
  intro u hu
  simp at hu
  obtain ⟨i, _, rfl⟩ := hu
  rfl
 case c4 => unfold maxLen; omega
 case c5 => omega
 case c6 => simp
 intro v' w1 hown hgrow hnil
 obtain ⟨g, c, rfl⟩ := own_ptr hown hnil
 have HO : Hid (w1.ownsRow w.heap.size 2 1 (.slice (some ⟨g, 0, none⟩) n c) n ((List.range n).map (fun i => Value.int .i64 (f i))) /\ Below w.heap.size w w1) := hideP ⟨by simpa using hown, ((Below.refl _ w).alloc (Nat.le_refl _) _).grown hgrow (by simp) (by intro k hk; simp [Value.ownBlock] at hk; omega)⟩
 clear hown hgrow hnil
 go_wp2
 go_ret
 exact ⟨g, c, rfl, HO.out⟩
def widL (t : Tb) : List Int := if (tabB t && colsOk t.gs t.rs t.co.toNat) = true then (List.range t.co.toNat).map (colsStep t.gs t.rs t.co.toNat) else []
set_option maxRecDepth 20000 in
set_option maxHeartbeats 8000000 in
theorem implWidths_any (x : Tb) {v : Value} {w : World} (h : RRowN 0 w v x.rs) (hs : SmT x) :
 Calls Tryz.prog 22 #[tbV x v] w fun e w' => ∃ g c, e = .returned (.slice (some ⟨g, 0, none⟩) (widL x).length c) /\ w'.ownsRow w.heap.size 2 1 (.slice (some ⟨g, 0, none⟩) (widL x).length c) (widL x).length ((widL x).map (Value.int .i64)) /\ Below w.heap.size w w' := by
 obtain ⟨va, vn, vc, rfl⟩ : ∃ a n c, v = .slice a n c := by obtain ⟨a, c, rfl⟩ := h.shape; exact ⟨_, _, _, rfl⟩
 have HC : Hid (∀ W, Below w.heap.size w W -> Calls Tryz.prog 47 #[tbV x (.slice va vn vc)] W _) := hideP (fun W hW => grid_fitted x (h.below rwNStable hW) hs)
 have HT : Hid (tabB x = true -> 1 <= x.co /\ x.co <= 20) := hideP (fun hb => ⟨(tabB_parts hb).1, (tabB_parts hb).2.1⟩)
 have HTW : Hid (widL x = if (tabB x && colsOk x.gs x.rs x.co.toNat) = true then (List.range x.co.toNat).map (colsStep x.gs x.rs x.co.toNat) else []) := hideP rfl
 obtain ⟨R, hR⟩ := exq (widL x)
 rw [<- hR] at HTW ⊢
 clear h hs hR
 obtain ⟨T, hT⟩ := exq (tabB x)
 obtain ⟨K, hK⟩ := exq (colsOk x.gs x.rs x.co.toNat)
 rw [<- hT] at HC HTW HT
 rw [<- hK] at HC HTW
 clear hT hK
 obtain ⟨cst, hcst⟩ := exq (colsStep x.gs x.rs x.co.toNat)
 rw [<- hcst] at HC HTW
 clear hcst
 obtain ⟨co, gs, gp, gpo, gm, gmo, rs⟩ := x
 simp only [tbV] at HC ⊢
 dsimp only at HT HTW
 have HE : Hid (∀ (W : World) (g : Nat), w.heap.size <= g -> W.heap[g]? = some (.cells #[] 2 (0, 0)) -> W.ownsRow w.heap.size 2 1 (.slice (some ⟨g, 0, none⟩) 0 0) 0 []) := hideP (fun W g h1 h2 => ⟨rfl, .inr ⟨g, 0, #[], rfl, h1, h2, Nat.le_refl _, by decide, rfl, rfl⟩⟩)
 cases T with
 | false =>
  have hR0 : R = [] := by rw [HTW.out]; rfl
  subst hR0
  go_enter Tryz.func22, Tryz.ntmps22
  go_wp2_with fail
  refine (HC.out _ (below1 _ _)).mono ?_
  rintro e w1 ⟨⟨p, rfl, _⟩, hb1⟩
  have B1 : Hid (Below w.heap.size w w1) := hideP (below_more (below1 _ _) hb1 (by simp))
  clear hb1
  go_wp2
  go_ret
  exact ⟨_, _, rfl, HE.out _ _ B1.out.size (heap_alloc_new w1 _), B1.out.alloc B1.out.size _⟩
 | true =>
  obtain ⟨hc1, hc2⟩ := HT.out (by first | rfl | trivial)
  obtain ⟨cols, hcols⟩ : ∃ cols : Nat, (cols : Int) = co := ⟨co.toNat, by omega⟩
  subst hcols
  rw [show (cols : Int).toNat = cols by omega] at HTW
  clear HT
  go_enter Tryz.func22, Tryz.ntmps22
  go_wp2_with fail
  refine (HC.out _ (below1 _ _)).mono ?_
  rintro e w1 ⟨⟨p, rfl, hp⟩, hb1⟩
  obtain ⟨G, u, rfl, hGs, hgr, hfit⟩ := hp (by first | rfl | trivial)
  have B1 : Hid (Below w.heap.size w w1) := hideP (below_more (below1 _ _) hb1 (by simp))
  have HGR := hideP hgr
  have HFT := hideP hfit
  clear hb1 hp hgr hfit
  go_wp2_with fail
  refine HFT.out.mono ?_
  rintro e w2 ⟨⟨arr, F, rfl, ha2, ha3, hbd, hF⟩, hb2⟩
  have B2 : Hid (Below w.heap.size w w2) := hideP (below_more B1.out hb2 B1.out.size)
  have GR2 := hideP ((hb2.block _ (glt HGR.out)).trans HGR.out)
  have hone : arr.all (·.oneCell') = true := arr_one ha2 ha3
  have HSZ : Hid ((Tryz.prog.info? 104).map (·.size) = some arr.size) := hideP (by rw [ha2]; kernel_rfl)
  have HA3 := hideP ha3
  have HF := hideP hF
  clear hb2 hbd hF ha3 HFT HGR B1 HC
  go_simp
  iterate 13 (first | go_values | go_skip | go_guarded | go_step | go_upon | go_in | go_back)
  refine wpList_store_row rfl 104 _ _ rfl w2.heap.size rfl _ arr rfl 104 (heap_alloc_new w2 _) HSZ.out (by rw [ha2]; rfl) hone ?_
  obtain ⟨W, hW⟩ := exq ((w2.alloc (.cells #[.int .i64 0, .int .i64 0, .int .i64 0, .int .i64 0, .int .i64 0, .int .i64 0, .int .i64 0, .int .i64 0, .int .i64 0, .int .i64 0, .int .i64 0, .int .i64 0, .int .i64 0, .int .i64 0, .int .i64 0, .int .i64 0, .int .i64 0, .int .i64 0, .int .i64 0, .int .i64 0] 104)).setRow w2.heap.size arr)
  rw [<- hW]
  obtain ⟨A, hA⟩ := exq (w2.heap.size)
  rw [<- hA]
  have BW : Hid (Below w.heap.size w W) := hideP (by rw [hW]; exact below_setRow (B2.out.alloc B2.out.size _) B2.out.size _)
  have AW : Hid (ArrAt W A F) := hideP ⟨arr, by rw [hW, hA]; exact setRow_heap _ _ _ _ _ _ (heap_alloc_new w2 _), ha2, HA3.out⟩
  have GW : Hid (W.heap[G]? = some (grO (cols : Int) gs gp gpo gm gmo u)) := hideP (by
   have hlt := (glt GR2.out)
   rw [hW, setRow_other _ _ _ _ (by omega), Below.heap_alloc _ _ _ hlt]
   exact GR2.out)
  have q0 : W.cell? ⟨G, 0, none⟩ = some (.int .i64 (cols : Int)) := cell_of_row _ _ 0 _ 110 _ GW.out
  have hGl : G < W.heap.size := (glt GW.out)
  have hAl := AW.out.lt
  have HW : Hid (Calls Tryz.prog 50 #[.slice (some ⟨A, 0, none⟩) cols 20] W fun e w' => ∃ g c, e = .returned (.slice (some ⟨g, 0, none⟩) cols c) /\ w'.ownsRow W.heap.size 2 1 (.slice (some ⟨g, 0, none⟩) cols c) cols ((List.range cols).map (fun i => Value.int .i64 (F i))) /\ Below W.heap.size W w') := hideP (cloneI_any (fun i hi => AW.out.cell (by omega)) (by omega) (by omega))
  clear hW hA B2 GR2 HSZ hone
  cases K with
  | false =>
   have hR0 : R = [] := by rw [HTW.out]; rfl
   subst hR0
   go_wp2
   go_ret
   exact ⟨_, _, rfl, HE.out _ _ BW.out.size (heap_alloc_new W _), BW.out.alloc BW.out.size _⟩
  | true =>
   have hF2 := HF.out (by first | rfl | trivial)
   have HR2 : Hid (R = (List.range cols).map cst) := hideP (by rw [HTW.out]; rfl)
   go_wp2_with fail
   refine HW.out.mono ?_
   rintro e w3 ⟨g3, c3, rfl, ho3, hb3⟩
   have B3 : Hid (Below w.heap.size w w3) := hideP (below_more BW.out hb3 BW.out.size)
   have HRL : Hid (R.length = cols) := hideP (by rw [HR2.out]; simp)
   have O3 : Hid (w3.ownsRow w.heap.size 2 1 (.slice (some ⟨g3, 0, none⟩) R.length c3) R.length (R.map (Value.int .i64))) := hideP (by
    rw [HR2.out]
    simp only [List.length_map, List.length_range, List.map_map]
    rw [hF2] at ho3
    exact ownG_base ho3 BW.out.size)
   clear ho3 hb3
   go_wp2
   go_ret
   exact ⟨g3, c3, by rw [HRL.out]; rfl, O3.out, B3.out⟩
def natT (xs : List Nd) : Nd := (hpR xs 0 0).headD Nd.none
abbrev szO (a b c : Int) : Obj := .cells #[.int .i64 a, .int .i64 b, .int .i64 c] 63 (0, 0)
abbrev szV (a b c : Int) : Value := .agg #[.int .i64 a, .int .i64 b, .int .i64 c]
theorem loadSz {w : World} {R : Nat} {a b c : Int} (h : w.heap[R]? = some (szO a b c)) : (loadVar 63 ⟨R, 0, none⟩).run Tryz.prog w = .ok (szV a b c) w :=
 run_loadVar_row _ _ 63 63 _ (0, 0) _ h Tryz.underlying63 rfl (by kernel_rfl)
abbrev tri (w : World) (R : Nat) (a b c : Int) : World := ((w.setCell ⟨R, 0, none⟩ (.int .i64 a)).setCell ⟨R, 1, none⟩ (.int .i64 b)).setCell ⟨R, 2, none⟩ (.int .i64 c)
theorem tri_heap {w : World} {R : Nat} {a0 b0 c0 : Int} (h : w.heap[R]? = some (szO a0 b0 c0)) (a b c : Int) : (tri w R a b c).heap[R]? = some (szO a b c) :=
 heap_setCell_same _ R 2 _ 63 _ (heap_setCell_same _ R 1 _ 63 _ (heap_setCell_same _ R 0 _ 63 _ h))
theorem tri_below {B : Nat} {w W : World} {R : Nat} (h : Below B w W) (hR : B <= R) (a b c : Int) : Below B w (tri W R a b c) :=
 ((h.setCell (p := ⟨R, 0, none⟩) hR _).setCell (p := ⟨R, 1, none⟩) hR _).setCell (p := ⟨R, 2, none⟩) hR _
set_option maxRecDepth 20000 in
set_option maxHeartbeats 8000000 in
theorem implNatT {v : Value} {xs : List Nd} {w : World} (hN : NRow 0 w v xs) (hNN : ∀ W, Below w.heap.size w W -> NN 0 W v xs) (hs : xs.length <= 1048576) :
 Calls Tryz.prog 23 #[v, .bool true] w fun e w' => e = .returned (szV (natT xs).wd (natT xs).ht (natT xs).dp) /\ Below w.heap.size w w' := by
 have HCH : Hid (∀ W, Below w.heap.size w W -> Calls Tryz.prog 10 #[v, .int .i64 0, .int .i64 0] W fun e w' => ∃ u, e = .returned (packV u (hpT xs 0 0)) /\ w'.ownsRow W.heap.size 36 15 u (hpR xs 0 0).length (flatN (hpR xs 0 0)) /\ Below W.heap.size W w') := hideP (fun W hW => implHN 0 0 (hN.below ndStable hW) (hNN W hW) hs)
 obtain ⟨va, vn, vc, rfl, -, -⟩ := hN
 clear hNN hs
 have HNN : Hid (natT xs = (hpR xs 0 0).headD Nd.none) := hideP rfl
 obtain ⟨L, hL⟩ := exq (hpR xs 0 0)
 obtain ⟨⟨t0, t1, t2, t3, t4, t5⟩, hT⟩ : ∃ T, T = hpT xs 0 0 := ⟨_, rfl⟩
 rw [<- hL] at HCH HNN
 rw [<- hT] at HCH
 clear hL hT
 go_enter Tryz.func23, Tryz.ntmps23
 go_wp2_with fail
 refine (HCH.out _ (below2 _ _ _)).mono ?_
 rintro e w1 ⟨u, rfl, ho1, hb1⟩
 obtain ⟨ua, uc, rfl⟩ := ownG_shape ho1
 have k4 : w1.heap[w.heap.size]? = some (szO 0 0 0) := (hb1.block _ (by simp; omega)).trans ((Below.heap_alloc _ _ _ (by simp)).trans (heap_alloc_new w _))
 have k5 : w1.heap[w.heap.size + 1]? = some (packO (.slice none 0 0) 0 0 0 0 0 0) := (hb1.block _ (by simp)).trans (by simpa using heap_alloc_new (w.alloc (.cells #[.int .i64 0, .int .i64 0, .int .i64 0] 63)) (.cells #[.slice none 0 0, .int .i64 0, .int .i64 0, .int .i64 0, .int .i64 0, .int .i64 0, .int .i64 0] 30))
 obtain ⟨q0, q1, q2, q3, q4, q5, q6⟩ := pack_cells k5
 have f5' : ∀ j, w1.frozen? ⟨w.heap.size + 1, j, none⟩ = false := fun j => frozen_of_row w1 _ j _ _ k5
 have B1 : Hid (Below w.heap.size w w1) := hideP (below_more (below2 _ _ _) hb1 (by simp; omega))
 obtain ⟨W2, hW2⟩ := exq (w1.setRow (w.heap.size + 1) #[.slice ua L.length uc, .int .i64 t0, .int .i64 t1, .int .i64 t2, .int .i64 t3, .int .i64 t4, .int .i64 t5])
 have K4 : Hid (W2.heap[w.heap.size]? = some (szO 0 0 0)) := hideP (by rw [hW2]; exact (setRow_other _ _ _ _ (by omega)).trans k4)
 have K5 : Hid (W2.heap[w.heap.size + 1]? = some (packO (.slice ua L.length uc) t0 t1 t2 t3 t4 t5)) := hideP (by rw [hW2]; exact setRow_heap _ _ _ _ _ _ k5)
 have B2 : Hid (Below w.heap.size w W2) := hideP (by rw [hW2]; exact below_setRow B1.out (by omega) _)
 have O2 : Hid (W2.ownsRow w.heap.size 36 15 (.slice ua L.length uc) L.length (flatN L)) := hideP (by
  rw [hW2]
  refine ownG_same (ownG_mono ho1 (by simp; omega)) (fun g hg => setRow_other _ _ _ _ (fun e => ?_))
  subst e
  obtain ⟨cs, hc⟩ := own_cells_block ho1 hg
  rw [k5] at hc
  cases hc)
 have hgl : 0 < L.length -> ∃ g, ua = some ⟨g, 0, none⟩ := fun hp => by
  obtain ⟨a, c, e, h⟩ := own_shape O2.out
  cases e
  obtain ⟨g, hg, _⟩ := h hp
  exact ⟨g, hg⟩
 have HGL := hideP hgl
 clear hgl
 go_simp
 go_step
 refine wpList_store_row rfl 30 _ _ rfl (w.heap.size + 1) rfl _ #[.slice ua L.length uc, .int .i64 t0, .int .i64 t1, .int .i64 t2, .int .i64 t3, .int .i64 t4, .int .i64 t5] rfl 30 k5 (by kernel_rfl) rfl (by kernel_rfl) ?_
 rw [<- hW2]
 clear ho1 hb1 k4 k5 hW2 q0 q1 q2 q3 q4 q5 q6 f5' HCH
 obtain ⟨q0, q1, q2, q3, q4, q5, q6⟩ := pack_cells K5.out
 have z0 := cell_of_row W2 w.heap.size 0 _ 63 _ K4.out
 have z1 := cell_of_row W2 w.heap.size 1 _ 63 _ K4.out
 have z2 := cell_of_row W2 w.heap.size 2 _ 63 _ K4.out
 have f4 : ∀ j, W2.frozen? ⟨w.heap.size, j, none⟩ = false := fun j => frozen_of_row W2 _ j _ _ K4.out
 have hs4 : w.heap.size < W2.heap.size := (glt K4.out)
 have hs5 : w.heap.size + 1 < W2.heap.size := (glt K5.out)
 cases L with
 | nil =>
  have HF : Hid ((tri W2 w.heap.size 0 0 0).heap[w.heap.size]? = some (szO 0 0 0) /\ Below w.heap.size w (tri W2 w.heap.size 0 0 0)) := hideP ⟨tri_heap K4.out _ _ _, tri_below B2.out (Nat.le_refl _) _ _ _⟩
  simp only [List.length_nil] at q0 ⊢
  go_wp2
  exact bodyPost_ret (v := szV 0 0 0) (results_one_cell rfl _ _ w.heap.size _ rfl (loadSz HF.out.1)) rfl ⟨by rw [HNN.out]; rfl, HF.out.2⟩
 | cons y L =>
  obtain ⟨g, rfl⟩ := HGL.out (by simp)
  obtain ⟨kd, wd, ht, dp, sh, fo, ch, nn, gs, gp, gpo, gm, gmo, tx, kids⟩ := y
  have HF : Hid ((tri W2 w.heap.size wd ht dp).heap[w.heap.size]? = some (szO wd ht dp) /\ Below w.heap.size w (tri W2 w.heap.size wd ht dp)) := hideP ⟨tri_heap K4.out _ _ _, tri_below B2.out (Nat.le_refl _) _ _ _⟩
  have c0 := (own_cell O2.out (j := 0) (x := .int .i64 kd) rfl).1
  have c1 := (own_cell O2.out (j := 1) (x := .int .i64 wd) rfl).1
  have c2 := (own_cell O2.out (j := 2) (x := .int .i64 ht) rfl).1
  have c3 := (own_cell O2.out (j := 3) (x := .int .i64 dp) rfl).1
  have c4 := (own_cell O2.out (j := 4) (x := .int .i64 sh) rfl).1
  have c5 := (own_cell O2.out (j := 5) (x := .int .i64 fo) rfl).1
  have c6 := (own_cell O2.out (j := 6) (x := .int .i64 ch) rfl).1
  have c7 := (own_cell O2.out (j := 7) (x := .int .i64 nn) rfl).1
  have c8 := (own_cell O2.out (j := 8) (x := .int .i64 gs) rfl).1
  have c9 := (own_cell O2.out (j := 9) (x := .int .i64 gp) rfl).1
  have c10 := (own_cell O2.out (j := 10) (x := .int .i64 gpo) rfl).1
  have c11 := (own_cell O2.out (j := 11) (x := .int .i64 gm) rfl).1
  have c12 := (own_cell O2.out (j := 12) (x := .int .i64 gmo) rfl).1
  have c13 := (own_cell O2.out (j := 13) (x := .string tx) rfl).1
  have c14 := (own_cell O2.out (j := 14) (x := .int .i64 kids) rfl).1
  obtain ⟨r, hr⟩ := exq (L.length + 1)
  have hrp : 0 < r := by omega
  have hrz : ¬ (r : Int) = 0 := by omega
  have hri : (0 : Int) < (r : Int) := by omega
  simp only [List.length_cons] at q0 ⊢
  rw [<- hr] at q0 ⊢
  clear hr O2 HGL
  have hgw : g < W2.heap.size := World.block_lt_of_cell? W2 _ c1
  go_wp2_with fail
  refine (sizeOf_any ⟨kd, wd, ht, dp, sh, fo, ch, nn, gs, gp, gpo, gm, gmo, tx, kids⟩ _).mono ?_
  rintro e w3 ⟨rfl, hb3⟩
  have K3 : w3.heap[w.heap.size]? = some (szO 0 0 0) := (hb3.block _ hs4).trans K4.out
  have HG : Hid ((tri w3 w.heap.size wd ht dp).heap[w.heap.size]? = some (szO wd ht dp) /\ Below w.heap.size w (tri w3 w.heap.size wd ht dp)) := hideP ⟨tri_heap K3 _ _ _, tri_below (below_more B2.out hb3 B2.out.size) (Nat.le_refl _) _ _ _⟩
  clear z0 z1 z2 f4 c0 c1 c2 c3 c4 c5 c6 c7 c8 c9 c10 c11 c12 c13 c14 q0 q1 q2 q3 q4 q5 q6 hb3
  have z0 := cell_of_row w3 w.heap.size 0 _ 63 _ K3
  have z1 := cell_of_row w3 w.heap.size 1 _ 63 _ K3
  have z2 := cell_of_row w3 w.heap.size 2 _ 63 _ K3
  have f4 : ∀ j, w3.frozen? ⟨w.heap.size, j, none⟩ = false := fun j => frozen_of_row w3 _ j _ _ K3
  clear K3
  go_wp2
  exact bodyPost_ret (v := szV wd ht dp) (results_one_cell rfl _ _ w.heap.size _ rfl (loadSz HG.out.1)) rfl ⟨by rw [HNN.out]; rfl, HG.out.2⟩
theorem sumF_congr {f f' : Nat -> Int} {a : Nat} : ∀ {n : Nat}, (∀ i, i < n -> f (a + i) = f' (a + i)) -> sumF f a n = sumF f' a n
 | 0, _ => rfl
 | n + 1, h => by
  simp only [sumF]
  rw [sumF_congr (fun i hi => h i (by omega)), h n (by omega)]
def bas (f : Nat -> Int) (g : Int) (a k : Nat) : Int := ((k : Int) - a) * g + sumF f a (k - a)
theorem acr_bas (f : Nat -> Int) (g : Int) {a k : Nat} (h : a <= k) : acr f g a k = bas f g a k + f k := by
 unfold acr bas
 rw [show k + 1 - a = (k - a) + 1 by omega]
 simp only [sumF]
 rw [show a + (k - a) = k by omega]
 omega
theorem bas_congr {f f' : Nat -> Int} {g : Int} {a k : Nat} (h : ∀ i, i < k -> f i = f' i) : bas f g a k = bas f' g a k := by
 unfold bas
 rw [sumF_congr (fun i hi => h (a + i) (by omega))]
structure Col (g : Int) (k : Nat) (f0 f : Nat -> Int) (ask : Nat -> Int -> Prop) : Prop where
 other : ∀ i, i ≠ k -> f i = f0 i
 room : ∀ a nat, a <= k -> ask a nat -> nat <= bas f0 g a k + f k
 tight : f0 k <= f k /\ (f0 k < f k -> ∃ a nat, a <= k /\ ask a nat /\ nat = bas f0 g a k + f k)
theorem Col.refl (g : Int) (k : Nat) (f : Nat -> Int) : Col g k f f (fun _ _ => False) := ⟨fun _ _ => rfl, fun _ _ _ h => h.elim, Int.le_refl _, fun h => by omega⟩
theorem Col.step {g : Int} {k : Nat} {f0 f : Nat -> Int} {ask : Nat -> Int -> Prop} (h : Col g k f0 f ask) {a : Nat} (ha : a <= k) (nat : Int) : Col g k f0 (upd f k (grow f g a k nat)) (fun b n => ask b n \/ (b = a /\ n = nat)) := by
 have hb : bas f g a k = bas f0 g a k := bas_congr fun i hi => h.other i (by omega)
 have hg : grow f g a k nat = max (f k) (nat - bas f0 g a k) := by
  unfold grow
  rw [acr_bas f g ha, hb]
  omega
 have hu : upd f k (grow f g a k nat) k = max (f k) (nat - bas f0 g a k) := by rw [<- hg]; simp [upd]
 refine ⟨fun i hi => ?_, fun b n hb' hask => ?_, ?_, fun hlt => ?_⟩
 ·simp only [upd, if_neg hi]
  exact h.other i hi
 ·rw [hu]
  rcases hask with hask | ⟨rfl, rfl⟩
  ·have := h.room b n hb' hask
   omega
  ·omega
 ·rw [hu]
  have := h.tight.1
  omega
 ·rw [hu] at hlt ⊢
  by_cases hle : nat - bas f0 g a k <= f k
  ·rw [Int.max_eq_left hle] at hlt ⊢
   obtain ⟨b, n, h1, h2, h3⟩ := h.tight.2 hlt
   exact ⟨b, n, h1, .inl h2, h3⟩
  ·rw [Int.max_eq_right (by omega)] at hlt ⊢
   exact ⟨a, nat, ha, .inr ⟨rfl, rfl⟩, by omega⟩
theorem Col.weak {g : Int} {k : Nat} {f0 f : Nat -> Int} {ask ask' : Nat -> Int -> Prop} (h : Col g k f0 f ask) (h1 : ∀ a n, ask' a n -> ask a n) (h2 : ∀ a n, ask a n -> ask' a n) : Col g k f0 f ask' :=
 ⟨h.other, fun a n ha hn => h.room a n ha (h1 a n hn), h.tight.1, fun hlt => by
  obtain ⟨a, n, x, y, z⟩ := h.tight.2 hlt
  exact ⟨a, n, x, h2 a n y, z⟩⟩
def Ends (cs : List Cl) (k j : Nat) : Prop := spK cs (j + 1) - 1 = (k : Int)
theorem lane_col {g : Int} {k : Nat} {f0 f : Nat -> Int} {ask : Nat -> Int -> Prop} {cs : List Cl} (h : Col g k f0 f ask) (hsp : ∀ j, j < cs.length -> 0 <= spK cs j /\ spK cs j + 1 <= spK cs (j + 1)) : ∀ n, n <= cs.length -> Col g k f0 (laneStep g k cs f n) (fun a nat => ask a nat \/ ∃ j, j < n /\ Ends cs k j /\ a = (spK cs j).toNat /\ nat = natW (cs.getD j Cl.none).ns)
 | 0, _ => h.weak (fun a n hn => by rcases hn with h | ⟨j, hj, _⟩; exact h; omega) (fun a n hn => .inl hn)
 | n + 1, hn => by
  have ih := lane_col h hsp n (by omega)
  have hs := hsp n (by omega)
  simp only [laneStep, cellStep]
  split
  ·rename_i he
   refine (ih.step (a := (spK cs n).toNat) (by omega) _).weak ?_ ?_
   ·rintro a nat (h | ⟨j, hj, hE, ha, hnat⟩)
    ·exact .inl (.inl h)
    ·by_cases hjn : j = n
     ·subst hjn
      exact .inr ⟨ha, hnat⟩
     ·exact .inl (.inr ⟨j, by omega, hE, ha, hnat⟩)
   ·rintro a nat ((h | ⟨j, hj, hE, ha, hnat⟩) | ⟨ha, hnat⟩)
    ·exact .inl h
    ·exact .inr ⟨j, by omega, hE, ha, hnat⟩
    ·exact .inr ⟨n, by omega, he, ha, hnat⟩
  ·rename_i he
   refine ih.weak ?_ ?_
   ·rintro a nat (h | ⟨j, hj, hE, ha, hnat⟩)
    ·exact .inl h
    ·by_cases hjn : j = n
     ·subst hjn
      exact absurd hE he
     ·exact .inr ⟨j, by omega, hE, ha, hnat⟩
   ·rintro a nat (h | ⟨j, hj, hE, ha, hnat⟩)
    ·exact .inl h
    ·exact .inr ⟨j, by omega, hE, ha, hnat⟩
def Asks (rs : List Rw) (k n : Nat) (a : Nat) (nat : Int) : Prop := ∃ i, i < n /\ ∃ j, j < (rs.getD i Rw.none).cs.length /\ Ends (rs.getD i Rw.none).cs k j /\ a = (spK (rs.getD i Rw.none).cs j).toNat /\ nat = natW ((rs.getD i Rw.none).cs.getD j Cl.none).ns
theorem rows_col {g : Int} {k : Nat} {f : Nat -> Int} {rs : List Rw} (hsp : ∀ i, i < rs.length -> ∀ j, j < (rs.getD i Rw.none).cs.length -> 0 <= spK (rs.getD i Rw.none).cs j /\ spK (rs.getD i Rw.none).cs j + 1 <= spK (rs.getD i Rw.none).cs (j + 1)) : ∀ n, n <= rs.length -> Col g k f (rowsStep g k rs f n) (Asks rs k n)
 | 0, _ => (Col.refl g k f).weak (fun a nat ⟨i, hi, _⟩ => by omega) (fun a nat h => h.elim)
 | n + 1, hn => by
  have ih := rows_col (g := g) (k := k) (f := f) hsp n (by omega)
  refine (lane_col ih (hsp n (by omega)) _ (Nat.le_refl _)).weak ?_ ?_
  ·rintro a nat ⟨i, hi, j, hj, hE, ha, hnat⟩
   by_cases hin : i = n
   ·subst hin
    exact .inr ⟨j, hj, hE, ha, hnat⟩
   ·exact .inl ⟨i, by omega, j, hj, hE, ha, hnat⟩
  ·rintro a nat (⟨i, hi, j, hj, hE, ha, hnat⟩ | ⟨j, hj, hE, ha, hnat⟩)
   ·exact ⟨i, by omega, j, hj, hE, ha, hnat⟩
   ·exact ⟨n, by omega, j, hj, hE, ha, hnat⟩
theorem cols_same {g : Int} {rs : List Rw} (hsp : ∀ i, i < rs.length -> ∀ j, j < (rs.getD i Rw.none).cs.length -> 0 <= spK (rs.getD i Rw.none).cs j /\ spK (rs.getD i Rw.none).cs j + 1 <= spK (rs.getD i Rw.none).cs (j + 1)) : ∀ (n m : Nat), n <= m -> ∀ i, i < n -> colsStep g rs m i = colsStep g rs n i
 | n, 0, h, i, hi => by omega
 | n, m + 1, h, i, hi => by
  by_cases e : n = m + 1
  ·rw [e]
  ·rw [<- cols_same hsp n m (by omega) i hi]
   exact (rows_col (g := g) (k := m) (f := colsStep g rs m) hsp _ (Nat.le_refl _)).other i (by omega)
theorem cols_zero {g : Int} {rs : List Rw} (hsp : ∀ i, i < rs.length -> ∀ j, j < (rs.getD i Rw.none).cs.length -> 0 <= spK (rs.getD i Rw.none).cs j /\ spK (rs.getD i Rw.none).cs j + 1 <= spK (rs.getD i Rw.none).cs (j + 1)) : ∀ (n : Nat), ∀ i, n <= i -> colsStep g rs n i = 0
 | 0, i, _ => rfl
 | n + 1, i, hi => ((rows_col (g := g) (k := n) (f := colsStep g rs n) hsp _ (Nat.le_refl _)).other i (by omega)).trans (cols_zero hsp n i (by omega))
theorem cols_fit {g : Int} {rs : List Rw} (hsp : ∀ i, i < rs.length -> ∀ j, j < (rs.getD i Rw.none).cs.length -> 0 <= spK (rs.getD i Rw.none).cs j /\ spK (rs.getD i Rw.none).cs j + 1 <= spK (rs.getD i Rw.none).cs (j + 1)) {N k : Nat} (hk : k < N) :
 0 <= colsStep g rs N k /\ (∀ a nat, a <= k -> Asks rs k rs.length a nat -> nat <= acr (colsStep g rs N) g a k) /\ (0 < colsStep g rs N k -> ∃ a nat, a <= k /\ Asks rs k rs.length a nat /\ nat = acr (colsStep g rs N) g a k) := by
 have hc := rows_col (g := g) (k := k) (f := colsStep g rs k) hsp _ (Nat.le_refl _)
 have hv : colsStep g rs N k = colsStep g rs (k + 1) k := cols_same hsp (k + 1) N (by omega) k (by omega)
 have h0 : colsStep g rs k k = 0 := cols_zero hsp k k (Nat.le_refl _)
 have hb : ∀ a, a <= k -> acr (colsStep g rs N) g a k = bas (colsStep g rs k) g a k + colsStep g rs (k + 1) k := fun a ha => by
  rw [acr_bas _ g ha, hv, bas_congr (f' := colsStep g rs k) (fun i hi => cols_same hsp k N (by omega) i hi)]
 have ht := hc.tight
 rw [h0] at ht
 refine ⟨by rw [hv]; exact ht.1, fun a nat ha hA => by rw [hb a ha]; exact hc.room a nat ha hA, fun hp => ?_⟩
 rw [hv] at hp
 obtain ⟨a, nat, h1, h2, h3⟩ := ht.2 hp
 exact ⟨a, nat, h1, h2, by rw [hb a h1]; exact h3⟩
theorem tab_row {x : Tb} (h : tabB x = true) {i : Nat} (hi : i < x.rs.length) : RowIn (x.rs.getD i Rw.none).cs x.co := (tabB_parts h).2.2.2.2 i hi
theorem tab_sp {x : Tb} (h : tabB x = true) : ∀ i, i < x.rs.length -> ∀ j, j < (x.rs.getD i Rw.none).cs.length -> 0 <= spK (x.rs.getD i Rw.none).cs j /\ spK (x.rs.getD i Rw.none).cs j + 1 <= spK (x.rs.getD i Rw.none).cs (j + 1) := fun i hi j hj =>
 have h1 := (tab_row h hi).at (tabB_parts h).2.1 hj
 ⟨h1.1, h1.2.1⟩
def roomC (F : Nat -> Int) (g : Int) (cs : List Cl) (j : Nat) : Int := g * ((cs.getD j Cl.none).sp - 1) + sumF F (spK cs j).toNat ((cs.getD j Cl.none).sp).toNat
theorem room_acr {F : Nat -> Int} {g : Int} {cs : List Cl} {j : Nat} (h0 : 0 <= spK cs j) (h1 : spK cs j + 1 <= spK cs (j + 1)) : acr F g (spK cs j).toNat (spK cs (j + 1) - 1).toNat = roomC F g cs j := by
 have e : spK cs (j + 1) = spK cs j + (cs.getD j Cl.none).sp := rfl
 obtain ⟨s, hs⟩ := exq ((cs.getD j Cl.none).sp)
 obtain ⟨a, ha⟩ := exq (spK cs j)
 unfold acr roomC
 rw [e, <- hs, <- ha]
 rw [e, <- hs, <- ha] at h1
 rw [<- ha] at h0
 rw [show (((a + s - 1).toNat : Nat) : Int) - (a.toNat : Nat) = s - 1 by omega, show (a + s - 1).toNat + 1 - a.toNat = s.toNat by omega, Int.mul_comm]
theorem fit_room {x : Tb} (h : tabB x = true) {i j : Nat} (hi : i < x.rs.length) (hj : j < (x.rs.getD i Rw.none).cs.length) : natW ((x.rs.getD i Rw.none).cs.getD j Cl.none).ns <= roomC (colsStep x.gs x.rs x.co.toNat) x.gs (x.rs.getD i Rw.none).cs j := by
 have hp := tabB_parts h
 have h1 := (tab_row h hi).at hp.2.1 hj
 rw [<- room_acr h1.1 h1.2.1]
 exact (cols_fit (g := x.gs) (tab_sp h) (N := x.co.toNat) (k := (spK (x.rs.getD i Rw.none).cs (j + 1) - 1).toNat) (by omega)).2.1 _ _ (by omega) ⟨i, hi, j, hj, by unfold Ends; omega, rfl, rfl⟩
theorem fit_tight {x : Tb} (h : tabB x = true) {k : Nat} (hk : k < x.co.toNat) (hp : 0 < colsStep x.gs x.rs x.co.toNat k) : ∃ i j, i < x.rs.length /\ j < (x.rs.getD i Rw.none).cs.length /\ spK (x.rs.getD i Rw.none).cs (j + 1) - 1 = (k : Int) /\ natW ((x.rs.getD i Rw.none).cs.getD j Cl.none).ns = roomC (colsStep x.gs x.rs x.co.toNat) x.gs (x.rs.getD i Rw.none).cs j := by
 obtain ⟨a, nat, hak, ⟨i, hi, j, hj, hE, ha, hn⟩, he⟩ := (cols_fit (g := x.gs) (tab_sp h) hk).2.2 hp
 have h1 := (tab_row h hi).at (tabB_parts h).2.1 hj
 refine ⟨i, j, hi, hj, hE, ?_⟩
 rw [<- room_acr h1.1 h1.2.1, <- hn, he, ha]
 unfold Ends at hE
 rw [hE]
 rfl
theorem cols_fits {g : Int} {rs : List Rw} : ∀ {n k : Nat}, colsOk g rs n = true -> k < n -> fitsB (colsStep g rs (k + 1) k) = true
 | 0, k, _, hk => by omega
 | n + 1, k, h, hk => by
  simp only [colsOk, Bool.and_eq_true] at h
  by_cases e : k = n
  ·subst e; exact h.2
  ·exact cols_fits h.1 (by omega)
theorem fit_bd {x : Tb} (h : tabB x = true) (hc : colsOk x.gs x.rs x.co.toNat = true) {k : Nat} (hk : k < x.co.toNat) : 0 <= colsStep x.gs x.rs x.co.toNat k /\ colsStep x.gs x.rs x.co.toNat k <= 1073741823 := by
 refine ⟨(cols_fit (g := x.gs) (tab_sp h) hk).1, ?_⟩
 rw [cols_same (tab_sp h) (k + 1) x.co.toNat (by omega) k (by omega)]
 have := cols_fits hc hk
 unfold fitsB at this
 simp only [Bool.and_eq_true, decide_eq_true_eq] at this
 omega
theorem cols_nil (g : Int) : ∀ n k : Nat, colsStep g [] n k = 0
 | 0, _ => rfl
 | n + 1, k => by
  show rowsStep g n [] (colsStep g [] n) 0 k = 0
  exact cols_nil g n k
theorem colsOk_nil (g : Int) : ∀ n : Nat, colsOk g [] n = true
 | 0 => rfl
 | n + 1 => by
  simp only [colsOk, colsOk_nil g n, Bool.true_and]
  rw [cols_nil]
  exact fits0
theorem nat_need {xs : List Nd} (h : hpOk xs 0 0 = true) : (natT xs).wd = natW xs := by
 obtain ⟨t, ht⟩ := hpR_head h
 unfold natT
 rw [ht]
 rfl
theorem cell_ok {x : Tb} (h : tabB x = true) {i j : Nat} (hi : i < x.rs.length) (hj : j < (x.rs.getD i Rw.none).cs.length) : hpOk ((x.rs.getD i Rw.none).cs.getD j Cl.none).ns 0 0 = true := by
 have h1 := cellsB_at (tab_row h hi).1 j hj
 unfold cellB at h1
 simp only [Bool.and_eq_true] at h1
 exact h1.2
theorem sumF_in {F : Nat -> Int} {a c : Nat} (h : ∀ k, k < c -> 0 <= F k /\ F k <= 1073741823) : ∀ n : Nat, a + n <= c -> 0 <= sumF F a n /\ sumF F a n <= 1073741823 * n
 | 0, _ => ⟨Int.le_refl _, Int.le_refl _⟩
 | n + 1, hn => by
  have h1 := sumF_in (a := a) h n (by omega)
  have h2 := h (a + n) (by omega)
  rw [sumF_succ]
  push_cast
  omega
theorem row_at {w : World} {va : Option Addr} {n c : Nat} {rs : List Rw} (h : RRowN 0 w (.slice va n c) rs) {i : Nat} (hi : i < rs.length) : ∃ b off ua uc, va = some ⟨b, off, none⟩ /\ b < w.heap.size /\ w.cell? ⟨b, off + i * 2, none⟩ = some (.slice ua (rs.getD i Rw.none).cs.length uc) /\ CRowN 0 w (.slice ua (rs.getD i Rw.none).cs.length uc) (rs.getD i Rw.none).cs := by
 obtain ⟨ao, m, cap, he, hl, hc⟩ := h
 simp only [Value.slice.injEq] at he
 obtain ⟨rfl, rfl, rfl⟩ := he
 obtain ⟨b, off, rfl, _, hb, hcell⟩ := hc (by omega)
 obtain ⟨cs, h1, ⟨v, rfl, hv⟩, h3⟩ := hcell i (by omega)
 obtain ⟨ua, uc, rfl⟩ := hv.shape
 exact ⟨b, off, ua, uc, rfl, hb, h3 0 (by omega), hv⟩
theorem cell_at {w : World} {ua : Option Addr} {n c : Nat} {cs : List Cl} (h : CRowN 0 w (.slice ua n c) cs) {j : Nat} (hj : j < cs.length) : ∃ b off na nc, ua = some ⟨b, off, none⟩ /\ b < w.heap.size /\ w.cell? ⟨b, off + j * 3, none⟩ = some (.int .i64 (cs.getD j Cl.none).sp) /\ w.cell? ⟨b, off + j * 3 + 1, none⟩ = some (.int .i64 (cs.getD j Cl.none).al) /\ w.cell? ⟨b, off + j * 3 + 2, none⟩ = some (.slice na (cs.getD j Cl.none).ns.length nc) /\ NRow 0 w (.slice na (cs.getD j Cl.none).ns.length nc) (cs.getD j Cl.none).ns /\ NN 0 w (.slice na (cs.getD j Cl.none).ns.length nc) (cs.getD j Cl.none).ns := by
 obtain ⟨ao, m, cap, he, hl, hc⟩ := h
 simp only [Value.slice.injEq] at he
 obtain ⟨rfl, rfl, rfl⟩ := he
 obtain ⟨b, off, rfl, _, hb, hcell⟩ := hc (by omega)
 obtain ⟨xs, h1, ⟨v, rfl, hv, hn⟩, h3⟩ := hcell j (by omega)
 obtain ⟨na, nc, rfl⟩ := hv.shape
 exact ⟨b, off, na, nc, rfl, hb, h3 0 (by omega), h3 1 (by omega), h3 2 (by omega), hv, hn⟩
def TG (F : Nat -> Int) (g : Int) (rs : List Rw) (i j : Nat) (bs : List Bool) : Prop := ∀ i' j', (i' < i \/ (i' = i /\ j' < j)) -> i' < rs.length -> j' < (rs.getD i' Rw.none).cs.length -> natW ((rs.getD i' Rw.none).cs.getD j' Cl.none).ns = roomC F g (rs.getD i' Rw.none).cs j' -> bs.getD (spK (rs.getD i' Rw.none).cs (j' + 1) - 1).toNat false = true
theorem TG.start {F : Nat -> Int} {g : Int} {rs : List Rw} {bs : List Bool} : TG F g rs 0 0 bs := fun i' j' h => by omega
theorem TG.next {F : Nat -> Int} {g : Int} {rs : List Rw} {i : Nat} {bs : List Bool} (h : TG F g rs i (rs.getD i Rw.none).cs.length bs) : TG F g rs (i + 1) 0 bs := fun i' j' hh hi hj => by
 by_cases e : i' = i
 ·subst e
  exact h i' j' (.inr ⟨rfl, hj⟩) hi hj
 ·exact h i' j' (.inl (by omega)) hi hj
theorem getD_set_true {bs : List Bool} {p q : Nat} (h : bs.getD q false = true) : (bs.set p true).getD q false = true := by
 by_cases hq : q < bs.length
 ·rw [getD_is _ (by rw [List.length_set]; exact hq), List.getElem_set]
  split
  ·rfl
  ·rw [<- getD_is false hq]; exact h
 ·simp [List.getD, List.getElem?_eq_none (show bs.length <= q by omega)] at h
theorem TG.hit {F : Nat -> Int} {g : Int} {rs : List Rw} {i j : Nat} {bs : List Bool} (h : TG F g rs i j bs) (hp : (spK (rs.getD i Rw.none).cs (j + 1) - 1).toNat < bs.length) : TG F g rs i (j + 1) (bs.set (spK (rs.getD i Rw.none).cs (j + 1) - 1).toNat true) := fun i' j' hh hi hj he => by
 by_cases e : i' = i /\ j' = j
 ·obtain ⟨rfl, rfl⟩ := e
  rw [getD_is _ (by rw [List.length_set]; exact hp), List.getElem_set]
  simp
 ·exact getD_set_true (h i' j' (by omega) hi hj he)
theorem TG.miss {F : Nat -> Int} {g : Int} {rs : List Rw} {i j : Nat} {bs : List Bool} (h : TG F g rs i j bs) (hn : natW ((rs.getD i Rw.none).cs.getD j Cl.none).ns ≠ roomC F g (rs.getD i Rw.none).cs j) : TG F g rs i (j + 1) bs := fun i' j' hh hi hj he => by
 by_cases e : i' = i /\ j' = j
 ·obtain ⟨rfl, rfl⟩ := e
  exact absurd he hn
 ·exact h i' j' (by omega) hi hj he
theorem map_set_bool (bs : List Bool) (p : Nat) (b : Bool) : (bs.map Value.bool).set p (.bool b) = (bs.set p b).map Value.bool := by rw [List.map_set]
theorem made_bools (m : Nat) : (madeCells (Value.cells (.bool false)) (m * 1)).toList = (List.replicate m false).map Value.bool := by
 apply List.ext_getElem
 ·simp [madeCells]
 ·intro i h1 h2
  simp only [madeCells, Value.cells, Array.toList_map, Array.toList_range, List.getElem_map, List.getElem_range, List.getElem_replicate]
  simp [Nat.mod_one]
theorem Tryz.info4b : (Tryz.prog.info? 4).map (fun i => (i.zero, i.size, i.bytes)) = some (some (.bool false), 1, 1) := by kernel_rfl
set_option maxHeartbeats 2000000 in
theorem implTableOk_any (x : Tb) {v : Value} {w : World} (h : RRowN 0 w v x.rs) (hs : SmT x) :
 Calls Tryz.prog 20 #[tbV x v] w fun e w' => e = .returned (.bool (tabB x)) /\ Below w.heap.size w w' := by
 obtain ⟨va, vn, vc, rfl⟩ : ∃ a n c, v = .slice a n c := by obtain ⟨a, c, rfl⟩ := h.shape; exact ⟨_, _, _, rfl⟩
 obtain ⟨R, hR⟩ := exq (tabB x)
 have HC : Hid (∀ W, Below w.heap.size w W -> Calls Tryz.prog 47 #[tbV x (.slice va vn vc)] W fun e w' => ∃ p, e = .returned (.tuple #[.pointer p, .bool R]) /\ Below W.heap.size W w') := hideP (fun W hW => (gridOf_any x (h.below rwNStable hW) hs).mono (fun e w' ⟨h1, h2⟩ => by
  rw [<- hR] at h1
  cases R with
  | false => exact ⟨_, h1, h2⟩
  | true =>
   obtain ⟨G, h3, _⟩ := h1
   exact ⟨_, h3, h2⟩))
 rw [<- hR]
 clear h hs hR
 obtain ⟨co, gs, gp, gpo, gm, gmo, rs⟩ := x
 simp only [tbV] at HC ⊢
 go_enter Tryz.func20, Tryz.ntmps20
 go_wp2_with fail
 refine (HC.out _ (below1 _ _)).mono ?_
 rintro e w1 ⟨p, rfl, hb1⟩
 have B1 : Hid (Below w.heap.size w w1) := hideP (below_more (below1 _ _) hb1 (by simp))
 clear hb1
 go_wp2
 go_ret
 exact ⟨rfl, B1.out⟩
end Go.Proofs.YtbbehmcekbnkiaaGreat
