/-
  Cells, rows and tables: copied, with what is theirs alone.
-/
import Derived.Test.YticalmdhbgkbbaaGreatTrs
import Derived.Test.YticalmdhbgkbbaaGreatWds
import Derived.Test.YticalmdhbgkbbaaGreatOpt
import Derived.Test.YticalmdhbgkbbaaGreatMka
import Derived.Test.YticalmdhbgkbbaaGreatSdp
import Derived.Test.YticalmdhbgkbbaaGreatLan
namespace Go.Proofs.YticalmdhbgkbbaaGreat
open Go.RowKit
set_option linter.unusedVariables false
set_option linter.unusedSimpArgs false

theorem eqNilI (w : World) (a : Option Addr) (n c n' c' : Nat) : (binOp .eql 57 (.slice a n c) (.slice none n' c')).run Tryz.prog w = .ok (.bool a.isNone) w := Lib.run_eql_slice_nil w _ _ a n c n' c' Tryz.underlying57
theorem own_ptr {w : World} {b e s n : Nat} {v : Value} {xs : List Value} (h : w.ownsRow b e s v n xs) (hv : v ≠ .slice none 0 0) : ∃ g c, v = .slice (some ⟨g, 0, none⟩) n c := by
  rcases h.2 with ⟨rfl, _⟩ | ⟨g, cap, cur, rfl, _⟩
  · exact absurd rfl hv
  · exact ⟨g, cap, rfl⟩
theorem ints_get {f : Nat → Int} {n j : Nat} {u : Value} (h : ((List.range n).map (fun i => Value.int .i64 (f i)))[j]? = some u) : j < n ∧ u = .int .i64 (f j) := by
  rw [List.getElem?_map] at h
  by_cases hj : j < n
  · rw [List.getElem?_range hj] at h
    simp at h
    exact ⟨hj, h.symm⟩
  · rw [List.getElem?_eq_none (by simp; omega)] at h
    cases h
set_option maxRecDepth 100000 in
set_option maxHeartbeats 2000000 in
theorem cloneI_any {w : World} {A n cap : Nat} {f : Nat → Int} (hA : ∀ i, i < n → w.cell? ⟨A, i, none⟩ = some (.int .i64 (f i))) (hn : n ≤ 20) (hc : n ≤ cap) :
    Calls Tryz.prog 66 #[.slice (some ⟨A, 0, none⟩) n cap] w fun e w' => ∃ g c, e = .returned (.slice (some ⟨g, 0, none⟩) n c) ∧ w'.ownsRow w.heap.size 2 1 (.slice (some ⟨g, 0, none⟩) n c) n ((List.range n).map (fun i => Value.int .i64 (f i))) ∧ Below w.heap.size w w' := by
  obtain ⟨i0, hi, hz0, hz1, hz2⟩ := info_parts Tryz.info2w
  have q33 := eqNilI
  have HC := hideP hA
  clear hA
  go_enter Tryz.func66, Tryz.ntmps66
  go_wp2_with (at_builtin; refine wpList_append_own _ rfl _ _ 57 rfl w.heap.size 2 i0 _ 1 8 Tryz.underlying57 hi hz0 hz1 hz2 rfl (by decide) _ _ _ rfl (World.ownsRow_made w #[] 0 (Nat.le_refl _) (Nat.zero_le _) (by simp)) ⟨A, 0, none⟩ n cap ((List.range n).map (fun i => Value.int .i64 (f i))) rfl ?c1 ?c2 ?c3 ?c4 ?c5 ?c6 ?_)
  case c1 => simp
  case c2 =>
    intro j u hj
    obtain ⟨h1, rfl⟩ := ints_get hj
    rw [Addr.add_lit, Nat.zero_add]
    exact Lib.cell?_alloc_some _ (HC.out j h1)
  case c3 =>
    intro u hu
    simp at hu
    obtain ⟨i, _, rfl⟩ := hu
    rfl
  case c4 => unfold maxLen; omega
  case c5 => omega
  case c6 => simp
  intro v' w1 hown hgrow hnil
  obtain ⟨g, c, rfl⟩ := own_ptr hown hnil
  have HO : Hid (w1.ownsRow w.heap.size 2 1 (.slice (some ⟨g, 0, none⟩) n c) n ((List.range n).map (fun i => Value.int .i64 (f i))) ∧ Below w.heap.size w w1) := hideP ⟨by simpa using hown, ((Below.refl _ w).alloc (Nat.le_refl _) _).grown hgrow (by simp) (by intro k hk; simp [Value.ownBlock] at hk; omega)⟩
  clear hown hgrow hnil
  go_wp2
  go_ret
  exact ⟨g, c, rfl, HO.out⟩
/-- The widths, as a list. -/
def widL (t : Tb) : List Int := if (tabB t && colsOk t.gs t.rs t.co.toNat) = true then (List.range t.co.toNat).map (colsStep t.gs t.rs t.co.toNat) else []

set_option maxRecDepth 20000 in
set_option maxHeartbeats 8000000 in
theorem implWidths_any (x : Tb) {v : Value} {w : World} (h : RRowN 0 w v x.rs) (hs : SmT x) :
    Calls Tryz.prog 29 #[tbV x v] w fun e w' => ∃ g c, e = .returned (.slice (some ⟨g, 0, none⟩) (widL x).length c) ∧ w'.ownsRow w.heap.size 2 1 (.slice (some ⟨g, 0, none⟩) (widL x).length c) (widL x).length ((widL x).map (Value.int .i64)) ∧ Below w.heap.size w w' := by
  obtain ⟨va, vn, vc, rfl⟩ : ∃ a n c, v = .slice a n c := by obtain ⟨a, c, rfl⟩ := h.shape; exact ⟨_, _, _, rfl⟩
  have HC : Hid (∀ W, Below w.heap.size w W → Calls Tryz.prog 61 #[tbV x (.slice va vn vc)] W _) := hideP (fun W hW => grid_fitted x (h.below rwNStable hW) hs)
  have HT : Hid (tabB x = true → 1 ≤ x.co ∧ x.co ≤ 20) := hideP (fun hb => ⟨(tabB_parts hb).1, (tabB_parts hb).2.1⟩)
  have HTW : Hid (widL x = if (tabB x && colsOk x.gs x.rs x.co.toNat) = true then (List.range x.co.toNat).map (colsStep x.gs x.rs x.co.toNat) else []) := hideP rfl
  obtain ⟨R, hR⟩ : ∃ R, R = widL x := ⟨_, rfl⟩
  rw [← hR] at HTW ⊢
  clear h hs hR
  obtain ⟨T, hT⟩ : ∃ T, T = tabB x := ⟨_, rfl⟩
  obtain ⟨K, hK⟩ : ∃ K, K = colsOk x.gs x.rs x.co.toNat := ⟨_, rfl⟩
  rw [← hT] at HC HTW HT
  rw [← hK] at HC HTW
  clear hT hK
  obtain ⟨cst, hcst⟩ : ∃ cst, cst = colsStep x.gs x.rs x.co.toNat := ⟨_, rfl⟩
  rw [← hcst] at HC HTW
  clear hcst
  obtain ⟨co, gs, gp, gpo, gm, gmo, rs⟩ := x
  simp only [tbV] at HC ⊢
  dsimp only at HT HTW
  have HE : Hid (∀ (W : World) (g : Nat), w.heap.size ≤ g → W.heap[g]? = some (.cells #[] 2 (0, 0)) → W.ownsRow w.heap.size 2 1 (.slice (some ⟨g, 0, none⟩) 0 0) 0 []) := hideP (fun W g h1 h2 => ⟨rfl, .inr ⟨g, 0, #[], rfl, h1, h2, Nat.le_refl _, by decide, rfl, rfl⟩⟩)
  cases T with
  | false =>
    have hR0 : R = [] := by rw [HTW.out]; rfl
    subst hR0
    go_enter Tryz.func29, Tryz.ntmps29
    go_wp2_with fail
    refine (HC.out _ (below1 _ _)).mono ?_
    rintro e w1 ⟨⟨p, rfl, _⟩, hb1⟩
    have B1 : Hid (Below w.heap.size w w1) := hideP (below_more (below1 _ _) hb1 (by simp))
    clear hb1
    go_wp2
    go_ret
    exact ⟨_, _, rfl, HE.out _ _ B1.out.size (heap_alloc_new w1 _), B1.out.alloc B1.out.size _⟩
  | true =>
    obtain ⟨hc1, hc2⟩ := HT.out (by first | rfl | trivial)
    obtain ⟨cols, hcols⟩ : ∃ cols : Nat, (cols : Int) = co := ⟨co.toNat, by omega⟩
    subst hcols
    rw [show (cols : Int).toNat = cols by omega] at HTW
    clear HT
    go_enter Tryz.func29, Tryz.ntmps29
    go_wp2_with fail
    refine (HC.out _ (below1 _ _)).mono ?_
    rintro e w1 ⟨⟨p, rfl, hp⟩, hb1⟩
    obtain ⟨G, u, rfl, hGs, hgr, hfit⟩ := hp (by first | rfl | trivial)
    have B1 : Hid (Below w.heap.size w w1) := hideP (below_more (below1 _ _) hb1 (by simp))
    have HGR := hideP hgr
    have HFT := hideP hfit
    clear hb1 hp hgr hfit
    go_wp2_with fail
    refine HFT.out.mono ?_
    rintro e w2 ⟨⟨arr, F, rfl, ha2, ha3, hbd, hF⟩, hb2⟩
    have B2 : Hid (Below w.heap.size w w2) := hideP (below_more B1.out hb2 B1.out.size)
    have GR2 := hideP ((hb2.block _ (Array.getElem?_eq_some_iff.1 HGR.out).1).trans HGR.out)
    have hone : arr.all (·.oneCell') = true := arr_one ha2 ha3
    have HSZ : Hid ((Tryz.prog.info? 106).map (·.size) = some arr.size) := hideP (by rw [ha2]; kernel_rfl)
    have HA3 := hideP ha3
    have HF := hideP hF
    clear hb2 hbd hF ha3 HFT HGR B1 HC
    go_simp
    iterate 13 (first | go_values | go_skip | go_guarded | go_step | go_upon | go_in | go_back)
    refine wpList_store_row rfl 106 _ _ rfl w2.heap.size rfl _ arr rfl 106 (heap_alloc_new w2 _) HSZ.out (by rw [ha2]; rfl) hone ?_
    obtain ⟨W, hW⟩ : ∃ W, W = (w2.alloc (.cells #[.int .i64 0, .int .i64 0, .int .i64 0, .int .i64 0, .int .i64 0, .int .i64 0, .int .i64 0, .int .i64 0, .int .i64 0, .int .i64 0, .int .i64 0, .int .i64 0, .int .i64 0, .int .i64 0, .int .i64 0, .int .i64 0, .int .i64 0, .int .i64 0, .int .i64 0, .int .i64 0] 106)).setRow w2.heap.size arr := ⟨_, rfl⟩
    rw [← hW]
    obtain ⟨A, hA⟩ : ∃ A, A = w2.heap.size := ⟨_, rfl⟩
    rw [← hA]
    have BW : Hid (Below w.heap.size w W) := hideP (by rw [hW]; exact below_setRow (B2.out.alloc B2.out.size _) B2.out.size _)
    have AW : Hid (ArrAt W A F) := hideP ⟨arr, by rw [hW, hA]; exact setRow_heap _ _ _ _ _ _ (heap_alloc_new w2 _), ha2, HA3.out⟩
    have GW : Hid (W.heap[G]? = some (grO (cols : Int) gs gp gpo gm gmo u)) := hideP (by
      have hlt := (Array.getElem?_eq_some_iff.1 GR2.out).1
      rw [hW, setRow_other _ _ _ _ (by omega), Below.heap_alloc _ _ _ hlt]
      exact GR2.out)
    have q0 : W.cell? ⟨G, 0, none⟩ = some (.int .i64 (cols : Int)) := cell_of_row _ _ 0 _ 112 _ GW.out
    have hGl : G < W.heap.size := (Array.getElem?_eq_some_iff.1 GW.out).1
    have hAl := AW.out.lt
    have HW : Hid (Calls Tryz.prog 66 #[.slice (some ⟨A, 0, none⟩) cols 20] W fun e w' => ∃ g c, e = .returned (.slice (some ⟨g, 0, none⟩) cols c) ∧ w'.ownsRow W.heap.size 2 1 (.slice (some ⟨g, 0, none⟩) cols c) cols ((List.range cols).map (fun i => Value.int .i64 (F i))) ∧ Below W.heap.size W w') := hideP (cloneI_any (fun i hi => AW.out.cell (by omega)) (by omega) (by omega))
    clear hW hA B2 GR2 HSZ hone
    cases K with
    | false =>
      have hR0 : R = [] := by rw [HTW.out]; rfl
      subst hR0
      go_wp2
      go_ret
      exact ⟨_, _, rfl, HE.out _ _ BW.out.size (heap_alloc_new W _), BW.out.alloc BW.out.size _⟩
    | true =>
      have hF2 := HF.out (by first | rfl | trivial)
      have HR2 : Hid (R = (List.range cols).map cst) := hideP (by rw [HTW.out]; rfl)
      go_wp2_with fail
      refine HW.out.mono ?_
      rintro e w3 ⟨g3, c3, rfl, ho3, hb3⟩
      have B3 : Hid (Below w.heap.size w w3) := hideP (below_more BW.out hb3 BW.out.size)
      have HRL : Hid (R.length = cols) := hideP (by rw [HR2.out]; simp)
      have O3 : Hid (w3.ownsRow w.heap.size 2 1 (.slice (some ⟨g3, 0, none⟩) R.length c3) R.length (R.map (Value.int .i64))) := hideP (by
        rw [HR2.out]
        simp only [List.length_map, List.length_range, List.map_map]
        rw [hF2] at ho3
        exact ownG_base ho3 BW.out.size)
      clear ho3 hb3
      go_wp2
      go_ret
      exact ⟨g3, c3, by rw [HRL.out]; rfl, O3.out, B3.out⟩
end Go.Proofs.YticalmdhbgkbbaaGreat

namespace Go.Proofs.YticalmdhbgkbbaaGreat
open Go.RowKit
set_option linter.unusedVariables false
set_option linter.unusedSimpArgs false

theorem own_NNb {w : World} {base n : Nat} {v : Value} {xs : List Nd} (h : w.ownsRow base 77 15 v n (flatN xs)) (hn : xs.length = n) : NN base w v xs := by
  have hc := own_cap h
  rcases h.2 with ⟨rfl, h0⟩ | ⟨g, cap, cur, rfl, hb, hg, _⟩
  · exact .inl ⟨rfl, List.eq_nil_of_length_eq_zero (by omega)⟩
  · subst hn
    exact .inr ⟨g, 0, cap, rfl, (hc _ _ _ rfl).1, hb, fun _ => (Array.getElem?_eq_some_iff.1 hg).1, fun j u hj => by rw [Nat.zero_add]; exact (own_cell h hj).1⟩
/-- A slice of nodes of a copy. -/
def NNR (lo : Nat) (w : World) (v : Value) (xs : List Nd) : Prop := NRow lo w v xs ∧ NN lo w v xs
theorem NNR.abv {lo : Nat} {w w' : World} {v : Value} {xs : List Nd} (h : NNR lo w v xs) (ha : Abv lo w w') : NNR lo w' v xs := ⟨h.1.abv ndStable ha, h.2.abv ha⟩
theorem NNR.mono {lo lo' : Nat} {w : World} {v : Value} {xs : List Nd} (h : NNR lo w v xs) (hl : lo' ≤ lo) : NNR lo' w v xs := ⟨h.1.mono ndStable hl, h.2.mono hl⟩

end Go.Proofs.YticalmdhbgkbbaaGreat

namespace Go.Proofs.YticalmdhbgkbbaaGreat
open Go.RowKit
set_option linter.unusedVariables false
set_option linter.unusedSimpArgs false

/-- Nodes of a copy, in a block of their own. -/
def NOw (lo : Nat) (w : World) (v : Value) (n : Nat) : Prop := ∃ g L, v = .slice (some ⟨g, 0, none⟩) n n ∧ w.ownsRow lo 77 15 v n L
theorem NOw.abv {lo n : Nat} {w w' : World} {v : Value} (h : NOw lo w v n) (ha : Abv lo w w') : NOw lo w' v n := by
  obtain ⟨g, L, rfl, ho⟩ := h
  exact ⟨g, L, rfl, ownG_same ho (fun k hk => ha.block k (ho.lt k hk).1 (ho.lt k hk).2)⟩
theorem NOw.mono {lo lo' n : Nat} {w : World} {v : Value} (h : NOw lo w v n) (hl : lo' ≤ lo) : NOw lo' w v n := by
  obtain ⟨g, L, rfl, ho⟩ := h
  exact ⟨g, L, rfl, ownG_base ho hl⟩
def NNO (lo : Nat) (w : World) (v : Value) (xs : List Nd) : Prop := NNR lo w v xs ∧ NOw lo w v xs.length
theorem NNO.abv {lo : Nat} {w w' : World} {v : Value} {xs : List Nd} (h : NNO lo w v xs) (ha : Abv lo w w') : NNO lo w' v xs := ⟨h.1.abv ha, h.2.abv ha⟩
theorem NNO.mono {lo lo' : Nat} {w : World} {v : Value} {xs : List Nd} (h : NNO lo w v xs) (hl : lo' ≤ lo) : NNO lo' w v xs := ⟨h.1.mono hl, h.2.mono hl⟩
def ClO (lo : Nat) (w : World) (cs : List Value) (x : Cl) : Prop := ∃ v, cs = [.int .i64 x.sp, .int .i64 x.al, v] ∧ NNO lo w v x.ns
theorem clOStable : Stable ClO where
  abv := fun ⟨v, h1, h2⟩ ha => ⟨v, h1, h2.abv ha⟩
  mono := fun ⟨v, h1, h2⟩ hl => ⟨v, h1, h2.mono hl⟩
theorem SPart.abv {α : Type} {sz : Nat} {R : Nat → World → List Value → α → Prop} {d : α} {ty : Nat} (st : Stable R) {w w' : World} {lo g n k : Nat} {xs : List α} (h : SPart sz R d ty w g n k xs) (ha : Abv lo w w') (hl : lo ≤ g) : SPart sz R d ty w' g n k xs := by
  obtain ⟨cur, hg, hs, hc⟩ := h
  refine ⟨cur, (ha.block g hl (Array.getElem?_eq_some_iff.1 hg).1).trans hg, hs, fun i hi => ?_⟩
  obtain ⟨cs, hl2, hr, hj⟩ := hc i hi
  exact ⟨cs, hl2, st.abv hr (ha.mono (by omega)), hj⟩
def COw (lo : Nat) (w : World) (v : Value) (cs : List Cl) : Prop := ∃ g, v = .slice (some ⟨g, 0, none⟩) cs.length cs.length ∧ lo ≤ g ∧ SPart 3 ClO Cl.none 103 w g cs.length cs.length cs
theorem COw.abv {lo : Nat} {w w' : World} {v : Value} {cs : List Cl} (h : COw lo w v cs) (ha : Abv lo w w') : COw lo w' v cs := by
  obtain ⟨g, h1, h2, h3⟩ := h
  exact ⟨g, h1, h2, h3.abv clOStable ha h2⟩
theorem COw.mono {lo lo' : Nat} {w : World} {v : Value} {cs : List Cl} (h : COw lo w v cs) (hl : lo' ≤ lo) : COw lo' w v cs := by
  obtain ⟨g, h1, h2, h3⟩ := h
  exact ⟨g, h1, Nat.le_trans hl h2, h3⟩
theorem COw.shape {lo : Nat} {w : World} {v : Value} {cs : List Cl} (h : COw lo w v cs) : ∃ a c, v = .slice a cs.length c := by
  obtain ⟨g, h1, _⟩ := h
  exact ⟨_, _, h1⟩
def RwO (lo : Nat) (w : World) (cs : List Value) (x : Rw) : Prop := ∃ v, cs = [v, .int .i64 x.ru] ∧ COw lo w v x.cs
theorem rwOStable : Stable RwO where
  abv := fun ⟨v, h1, h2⟩ ha => ⟨v, h1, h2.abv ha⟩
  mono := fun ⟨v, h1, h2⟩ hl => ⟨v, h1, h2.mono hl⟩
def ROw (lo : Nat) (w : World) (v : Value) (rs : List Rw) : Prop := ∃ g, v = .slice (some ⟨g, 0, none⟩) rs.length rs.length ∧ lo ≤ g ∧ SPart 2 RwO Rw.none 94 w g rs.length rs.length rs
theorem ROw.abv {lo : Nat} {w w' : World} {v : Value} {rs : List Rw} (h : ROw lo w v rs) (ha : Abv lo w w') : ROw lo w' v rs := by
  obtain ⟨g, h1, h2, h3⟩ := h
  exact ⟨g, h1, h2, h3.abv rwOStable ha h2⟩
theorem ROw.mono {lo lo' : Nat} {w : World} {v : Value} {rs : List Rw} (h : ROw lo w v rs) (hl : lo' ≤ lo) : ROw lo' w v rs := by
  obtain ⟨g, h1, h2, h3⟩ := h
  exact ⟨g, h1, Nat.le_trans hl h2, h3⟩
theorem ROw.shape {lo : Nat} {w : World} {v : Value} {rs : List Rw} (h : ROw lo w v rs) : ∃ a c, v = .slice a rs.length c := by
  obtain ⟨g, h1, _⟩ := h
  exact ⟨_, _, h1⟩
theorem SPart.map {α : Type} {sz : Nat} {R R' : Nat → World → List Value → α → Prop} {d : α} {ty : Nat} {w : World} {g n k : Nat} {xs : List α} (hR : ∀ lo w cs x, R lo w cs x → R' lo w cs x) (h : SPart sz R d ty w g n k xs) : SPart sz R' d ty w g n k xs := by
  obtain ⟨cur, hg, hs, hc⟩ := h
  refine ⟨cur, hg, hs, fun i hi => ?_⟩
  obtain ⟨cs, hl2, hr, hj⟩ := hc i hi
  exact ⟨cs, hl2, hR _ _ _ _ hr, hj⟩
theorem COw.row {lo : Nat} {w : World} {v : Value} {cs : List Cl} (h : COw lo w v cs) : CRowN lo w v cs := by
  obtain ⟨g, rfl, h2, h3⟩ := h
  exact ((h3.map (R' := ClN) (fun lo w cs x ⟨v, h1, h2⟩ => ⟨v, h1, h2.1.1, h2.1.2⟩)).row clNStable rfl).mono clNStable h2
theorem ROw.row {lo : Nat} {w : World} {v : Value} {rs : List Rw} (h : ROw lo w v rs) : RRowN lo w v rs := by
  obtain ⟨g, rfl, h2, h3⟩ := h
  exact ((h3.map (R' := RwN) (fun lo w cs x ⟨v, h1, h2⟩ => ⟨v, h1, h2.row⟩)).row rwNStable rfl).mono rwNStable h2

set_option maxHeartbeats 2000000 in
theorem toCell_o (x : Cl) {v : Value} {w : World} (h : NRow 0 w v x.ns) (hs : SmC x) :
    Calls Tryz.prog 128 #[clV x v] w fun e w' => ∃ v', e = .returned (clV x v') ∧ NNO w.heap.size w' v' x.ns ∧ Below w.heap.size w w' := by
  obtain ⟨ua, un, uc, rfl⟩ : ∃ a n c, v = .slice a n c := by obtain ⟨a, c, rfl⟩ := h.shape; exact ⟨_, _, _, rfl⟩
  have HC : Hid (∀ (W : World), Below w.heap.size w W → Calls Tryz.prog 11 #[.slice ua un uc] W fun e w' => ∃ v', e = .returned v' ∧ NNO W.heap.size w' v' x.ns ∧ Below W.heap.size W w') := hideP (fun W hW => (toNodeS_own (h.below ndStable hW) hs.1).mono (fun e w' ⟨he, ho, hb⟩ => ⟨_, he, ⟨⟨own_NRow ho rfl, own_NNb ho rfl⟩, _, _, rfl, ho⟩, hb⟩))
  clear h hs
  obtain ⟨sp, al, ns⟩ := x
  dsimp only at HC ⊢
  go_enter Tryz.func128, Tryz.ntmps128
  go_wp2_with fail
  refine (HC.out _ ?B0).mono ?_
  case B0 => repeat (first | exact below3 _ _ _ _ | refine Below.setCell ?_ (by first | (simp; done) | (simp; omega)) _)
  rintro e w1 ⟨v1, rfl, hp1, hb1⟩
  obtain ⟨a1, n1, c1, rfl⟩ : ∃ a n c, v1 = .slice a n c := by obtain ⟨a, c, rfl⟩ := hp1.1.1.shape; exact ⟨_, _, _, rfl⟩
  have hz1 : w.heap.size + 1 + 1 < w1.heap.size := by have := hb1.size; simp at this; omega
  have hy1 : w.heap.size + 1 < w1.heap.size := by omega
  have hx1 : w.heap.size < w1.heap.size := by omega
  have BW : Below w.heap.size w w1 := by
    refine below_more ?_ hb1 (by simp; omega)
    repeat (first | exact below3 _ _ _ _ | refine Below.setCell ?_ (by first | (simp; done) | (simp; omega)) _)
  obtain ⟨hc1, hf1⟩ := bcell hb1
  simp only [World.size_alloc, World.size_setCell] at hc1 hf1 hp1
  have P1 : Hid (NNO (w.heap.size + 1 + 1 + 1) w1 (.slice a1 n1 c1) ns) := hp1
  have B1 := hideP BW
  clear hb1 hp1 BW
  go_wp2
  refine bodyPost_ret (v := clV ⟨sp, al, ns⟩ (.slice a1 n1 c1)) (by simp [results, Tryz.results128, go_sem, hc1, hx1, hy1, hz1]) rfl ⟨_, rfl, ?_, ?_⟩
  · exact ((((NNO.abv P1.out (Abv.set (by omega) _)).abv (Abv.set (by omega) _)).abv (Abv.set (by omega) _)).abv (Abv.set (by omega) _)).mono (by omega)
  · exact (((Below.setCell B1.out (by simp; omega) _).setCell (by simp) _).setCell (by simp) _).setCell (by simp) _


theorem Tryz.info103o : (Tryz.prog.info? 103).map (fun i => (i.zero, i.size, i.bytes)) = some (some (.agg #[.int .i64 0, .int .i64 0, .slice none 0 0]), 3, 40) := by kernel_rfl
set_option maxHeartbeats 4000000 in
theorem toCellS_o {v : Value} {xs : List Cl} {w : World} (h : CRow 0 w v xs) (hs : xs.length ≤ 1048576 ∧ ∀ i, i < xs.length → SmC (xs.getD i Cl.none)) :
    Calls Tryz.prog 113 #[v] w fun e w' => ∃ v', e = .returned v' ∧ COw w.heap.size w' v' xs ∧ Below w.heap.size w w' := by
  obtain ⟨ao, n, cap, rfl, hn, hr⟩ := h
  have hsz : n ≤ 1048576 := by rw [← hn]; exact hs.1
  have HL : Hid (xs.length = n) := hn
  have HS : Hid (∀ i, i < xs.length → SmC (xs.getD i Cl.none)) := hs.2
  obtain ⟨i0, hi, hz0, hz1, hz2⟩ := info_parts Tryz.info103o
  have HI : Hid (i0.bytes = 40) := hz2
  have HR : Hid (0 < n → ∃ b off, ao = some ⟨b, off, none⟩ ∧ 0 ≤ b ∧ b < w.heap.size ∧ ∀ i, i < n → ∃ cs : List Value, cs.length = 3 ∧ ClR 0 w cs (xs.getD i Cl.none) ∧ ∀ j, j < 3 → w.cell? ⟨b, off + i * 3 + j, none⟩ = cs[j]?) := hr
  clear hr hs hn
  go_enter Tryz.func113, Tryz.ntmps113
  go_wp2_with (first
    | (refine wpList_make_full _ rfl _ _ 92 rfl w.heap.size 103 i0 (.agg #[.int .i64 0, .int .i64 0, .slice none 0 0]) 3 Tryz.underlying92 hi hz0 hz1 _ _ _ _ n rfl rfl rfl rfl (by rw [show i0.bytes = 40 from HI]; omega) (by unfold maxLen; omega) (Nat.le_refl _) ?_; intro w1 hown hgrow))
  have hbel : Below w.heap.size w w1 := Below.grown (Below.refl _ _) hgrow (Nat.le_refl _) (by simp)
  have HO : Hid (SPart 3 ClO Cl.none 103 w1 w.heap.size n 0 xs ∧ Below w.heap.size w w1) := by
    refine ⟨?_, hbel⟩
    rcases hown.2 with ⟨h', _⟩ | ⟨g', cap', cur, h', _, hg, _, _, hcs, _⟩
    · simp at h'
    · simp only [Value.slice.injEq, Option.some.injEq, Addr.mk.injEq, and_true, true_and] at h'
      obtain ⟨rfl, rfl⟩ := h'
      exact SPart.new hg hcs
  clear hown hgrow hbel
  go_wp2
  go_loopw [4] (fun i wr => ∃ k : Nat, k ≤ n ∧ i = .int .i64 k ∧ SPart 3 ClO Cl.none 103 wr w.heap.size n k xs ∧ Below w.heap.size w wr) (fun i _ => n - (intOf i).toNat)
  case atStart => exact ⟨0, by omega, rfl, HO.1, HO.2⟩
  case round =>
    obtain ⟨k, hk, rfl, hp, hbel⟩ := hrel
    by_cases hkn : k < n
    · have hki : (k : Int) < (n : Int) := by omega
      obtain ⟨b, off, rfl, hlo, hb, hc⟩ := HR (by omega)
      obtain ⟨cs, hcl, hRel, hcj⟩ := hc k hkn
      have hsk : SmC (xs.getD k Cl.none) := HS k (by rw [show xs.length = n from HL]; exact hkn)
      obtain ⟨t, ht⟩ : ∃ t, t = xs.getD k Cl.none := ⟨_, rfl⟩
      rw [← ht] at hRel hsk
      obtain ⟨u, hcs, hu⟩ := hRel
      obtain ⟨ua, un, uc, rfl⟩ : ∃ a n c, u = .slice a n c := by obtain ⟨a, c, rfl⟩ := hu.shape; exact ⟨_, _, _, rfl⟩
      have HC : Hid (∀ W : World, Below w.heap.size w W → w.heap.size + 1 ≤ W.heap.size → Calls Tryz.prog 128 #[clV t (.slice ua un uc)] W fun r w' => ∃ a n c, r = .returned (clV t (.slice a n c)) ∧ ClO (w.heap.size + 1) w' ([.int .i64 t.sp, .int .i64 t.al, .slice a n c]) (xs.getD k Cl.none) ∧ Below W.heap.size W w') := hideP (fun W hW hW2 => by
        refine (toCell_o t (hu.below ndStable hW) hsk).mono ?_
        rintro e w' ⟨v', rfl, hv, hb⟩
        obtain ⟨a, n, c, rfl⟩ : ∃ a n c, v' = .slice a n c := by obtain ⟨a, c, rfl⟩ := hv.1.1.shape; exact ⟨_, _, _, rfl⟩
        exact ⟨a, n, c, rfl, by rw [← ht]; exact (clOStable).mono ⟨_, rfl, hv⟩ hW2, hb⟩)
      clear hu
      obtain ⟨sp, al, ns⟩ := t
      rw [show cs = _ from hcs] at hcj
      dsimp only at hcj HC
      have g0 : wr.cell? ⟨b, off + k * 3, none⟩ = some (.int .i64 sp) := (hbel.cell (p := ⟨b, off + k * 3, none⟩) hb).trans (hcj 0 (by omega))
      have g1 : wr.cell? ⟨b, off + k * 3 + 1, none⟩ = some (.int .i64 al) := (hbel.cell (p := ⟨b, off + k * 3 + 1, none⟩) hb).trans (hcj 1 (by omega))
      have g2 : wr.cell? ⟨b, off + k * 3 + 2, none⟩ = some (.slice ua un uc) := (hbel.cell (p := ⟨b, off + k * 3 + 2, none⟩) hb).trans (hcj 2 (by omega))
      have HB : Hid (Below w.heap.size w wr) := hbel
      have HP : Hid (SPart 3 ClO Cl.none 103 wr w.heap.size n k xs) := hp
      have HW : Hid (w.heap.size + 1 ≤ wr.heap.size) := hideP hp.lt
      clear hc hcj hcl hbel ht hp hcs hsk
      go_wp2_with (go_at_call 128; refine (HC.out _ HB.out HW.out).mono ?_; rintro e w2 ⟨a2, n2, c2, rfl, hn2, hb1⟩; have hp2 := SPart.below clOStable HP hb1; have hfz := hp2.free; obtain ⟨x0, hx0⟩ := hp2.cells (k * 3) (by omega); obtain ⟨x1, hx1⟩ := hp2.cells (k * 3 + 1) (by omega); obtain ⟨x2, hx2⟩ := hp2.cells (k * 3 + 2) (by omega); have hlt2 := hp2.lt; have HN2 := hideP hn2; have HP2 : Hid (SPart 3 ClO Cl.none 103 w2 w.heap.size n k xs ∧ Below w.heap.size w w2) := ⟨hp2, below_more HB hb1 (Below.size HB)⟩; clear hp2 hb1 hn2)
      go_roundw
      case rel => exact ⟨k + 1, by omega, by go_num, SPart.put clOStable HP2.1 hkn (cs := [.int .i64 sp, .int .i64 al, .slice a2 n2 c2]) rfl HN2.out, putC_below (Nat.le_refl _) [.int .i64 sp, .int .i64 al, .slice a2 n2 c2] (k * 3) _ HP2.2⟩
      case measure => simp [intOf]; omega
    · have hki : ¬ (k : Int) < (n : Int) := by omega
      obtain rfl : k = n := by omega
      have HP : Hid (SPart 3 ClO Cl.none 103 wr w.heap.size k k xs ∧ Below w.heap.size w wr) := ⟨hp, hbel⟩
      clear hp hbel
      go_wp2
      go_ret
      exact ⟨_, rfl, ⟨w.heap.size, by rw [show xs.length = k from HL]; rfl, Nat.le_refl _, by rw [show xs.length = k from HL]; exact HP.1⟩, HP.2⟩

set_option maxHeartbeats 2000000 in
theorem toRow_og (x : Rw) {v : Value} {w : World} (h : CRow 0 w v x.cs) (hC : ∀ (W : World), Below w.heap.size w W → Calls Tryz.prog 113 #[v] W fun e w' => ∃ v', e = .returned v' ∧ COw W.heap.size w' v' x.cs ∧ Below W.heap.size W w') :
    Calls Tryz.prog 90 #[rwV x v] w fun e w' => ∃ v', e = .returned (rwV x v') ∧ COw w.heap.size w' v' x.cs ∧ Below w.heap.size w w' := by
  obtain ⟨ua, un, uc, rfl⟩ : ∃ a n c, v = .slice a n c := by obtain ⟨a, c, rfl⟩ := h.shape; exact ⟨_, _, _, rfl⟩
  have HC := hideP hC
  clear h hC
  obtain ⟨rcs, ru⟩ := x
  dsimp only at HC ⊢
  go_enter Tryz.func90, Tryz.ntmps90
  go_wp2_with fail
  refine (HC.out _ (below3 _ _ _ _)).mono ?_
  rintro e w1 ⟨v1, rfl, hp1, hb1⟩
  obtain ⟨a1, n1, c1, rfl⟩ : ∃ a n c, v1 = .slice a n c := by obtain ⟨a, c, rfl⟩ := hp1.shape; exact ⟨_, _, _, rfl⟩
  have hz1 : w.heap.size + 1 + 1 < w1.heap.size := by have := hb1.size; simp at this; omega
  have hy1 : w.heap.size + 1 < w1.heap.size := by omega
  have hx1 : w.heap.size < w1.heap.size := by omega
  have BW : Below w.heap.size w w1 := below_more (below3 _ _ _ _) hb1 (by simp; omega)
  obtain ⟨hc1, hf1⟩ := bcell hb1
  simp only [World.size_alloc, World.size_setCell] at hc1 hf1 hp1
  have P1 : Hid (COw (w.heap.size + 1 + 1 + 1) w1 (.slice a1 n1 c1) rcs) := hp1
  have B1 := hideP BW
  clear hb1 hp1 BW
  go_wp2
  refine bodyPost_ret (v := rwV ⟨rcs, ru⟩ (.slice a1 n1 c1)) (by simp [results, Tryz.results90, go_sem, hc1, hx1, hy1, hz1]) rfl ⟨_, rfl, ?_, ?_⟩
  · exact ((((COw.abv P1.out (Abv.set (by omega) _)).abv (Abv.set (by omega) _)).abv (Abv.set (by omega) _)).abv (Abv.set (by omega) _)).mono (by omega)
  · exact (((Below.setCell B1.out (by simp; omega) _).setCell (by simp; omega) _).setCell (by simp) _).setCell (by simp) _

theorem toRow_o (x : Rw) {v : Value} {w : World} (h : CRow 0 w v x.cs) (hs : SmW x) :
    Calls Tryz.prog 90 #[rwV x v] w fun e w' => ∃ v', e = .returned (rwV x v') ∧ COw w.heap.size w' v' x.cs ∧ Below w.heap.size w w' :=
  toRow_og x h (fun W hW => toCellS_o (h.below clStable hW) hs)

theorem Tryz.info94o : (Tryz.prog.info? 94).map (fun i => (i.zero, i.size, i.bytes)) = some (some (.agg #[.slice none 0 0, .int .i64 0]), 2, 32) := by kernel_rfl
set_option maxHeartbeats 4000000 in
theorem toRowS_o {v : Value} {xs : List Rw} {w : World} (h : RRow 0 w v xs) (hs : xs.length ≤ 1048576 ∧ ∀ i, i < xs.length → SmW (xs.getD i Rw.none)) :
    Calls Tryz.prog 60 #[v] w fun e w' => ∃ v', e = .returned v' ∧ ROw w.heap.size w' v' xs ∧ Below w.heap.size w w' := by
  obtain ⟨ao, n, cap, rfl, hn, hr⟩ := h
  have hsz : n ≤ 1048576 := by rw [← hn]; exact hs.1
  have HL : Hid (xs.length = n) := hn
  have HS : Hid (∀ i, i < xs.length → SmW (xs.getD i Rw.none)) := hs.2
  obtain ⟨i0, hi, hz0, hz1, hz2⟩ := info_parts Tryz.info94o
  have HI : Hid (i0.bytes = 32) := hz2
  have HR : Hid (0 < n → ∃ b off, ao = some ⟨b, off, none⟩ ∧ 0 ≤ b ∧ b < w.heap.size ∧ ∀ i, i < n → ∃ cs : List Value, cs.length = 2 ∧ RwR 0 w cs (xs.getD i Rw.none) ∧ ∀ j, j < 2 → w.cell? ⟨b, off + i * 2 + j, none⟩ = cs[j]?) := hr
  clear hr hs hn
  go_enter Tryz.func60, Tryz.ntmps60
  go_wp2_with (first
    | (refine wpList_make_full _ rfl _ _ 51 rfl w.heap.size 94 i0 (.agg #[.slice none 0 0, .int .i64 0]) 2 Tryz.underlying51 hi hz0 hz1 _ _ _ _ n rfl rfl rfl rfl (by rw [show i0.bytes = 32 from HI]; omega) (by unfold maxLen; omega) (Nat.le_refl _) ?_; intro w1 hown hgrow))
  have hbel : Below w.heap.size w w1 := Below.grown (Below.refl _ _) hgrow (Nat.le_refl _) (by simp)
  have HO : Hid (SPart 2 RwO Rw.none 94 w1 w.heap.size n 0 xs ∧ Below w.heap.size w w1) := by
    refine ⟨?_, hbel⟩
    rcases hown.2 with ⟨h', _⟩ | ⟨g', cap', cur, h', _, hg, _, _, hcs, _⟩
    · simp at h'
    · simp only [Value.slice.injEq, Option.some.injEq, Addr.mk.injEq, and_true, true_and] at h'
      obtain ⟨rfl, rfl⟩ := h'
      exact SPart.new hg hcs
  clear hown hgrow hbel
  go_wp2
  go_loopw [4] (fun i wr => ∃ k : Nat, k ≤ n ∧ i = .int .i64 k ∧ SPart 2 RwO Rw.none 94 wr w.heap.size n k xs ∧ Below w.heap.size w wr) (fun i _ => n - (intOf i).toNat)
  case atStart => exact ⟨0, by omega, rfl, HO.1, HO.2⟩
  case round =>
    obtain ⟨k, hk, rfl, hp, hbel⟩ := hrel
    by_cases hkn : k < n
    · have hki : (k : Int) < (n : Int) := by omega
      obtain ⟨b, off, rfl, hlo, hb, hc⟩ := HR (by omega)
      obtain ⟨cs, hcl, hRel, hcj⟩ := hc k hkn
      have hsk : SmW (xs.getD k Rw.none) := HS k (by rw [show xs.length = n from HL]; exact hkn)
      obtain ⟨t, ht⟩ : ∃ t, t = xs.getD k Rw.none := ⟨_, rfl⟩
      rw [← ht] at hRel hsk
      obtain ⟨u, hcs, hu⟩ := hRel
      obtain ⟨ua, un, uc, rfl⟩ : ∃ a n c, u = .slice a n c := by obtain ⟨a, c, rfl⟩ := hu.shape; exact ⟨_, _, _, rfl⟩
      have HC : Hid (∀ W : World, Below w.heap.size w W → w.heap.size + 1 ≤ W.heap.size → Calls Tryz.prog 90 #[rwV t (.slice ua un uc)] W fun r w' => ∃ a n c, r = .returned (rwV t (.slice a n c)) ∧ RwO (w.heap.size + 1) w' ([.slice a n c, .int .i64 t.ru]) (xs.getD k Rw.none) ∧ Below W.heap.size W w') := hideP (fun W hW hW2 => by
        refine (toRow_o t (hu.below clStable hW) hsk).mono ?_
        rintro e w' ⟨v', rfl, hv, hb⟩
        obtain ⟨a, n, c, rfl⟩ : ∃ a n c, v' = .slice a n c := by obtain ⟨a, c, rfl⟩ := hv.shape; exact ⟨_, _, _, rfl⟩
        exact ⟨a, n, c, rfl, by rw [← ht]; exact (rwOStable).mono ⟨_, rfl, hv⟩ hW2, hb⟩)
      clear hu
      obtain ⟨rcs, ru⟩ := t
      rw [show cs = _ from hcs] at hcj
      dsimp only at hcj HC
      have g0 : wr.cell? ⟨b, off + k * 2, none⟩ = some (.slice ua un uc) := (hbel.cell (p := ⟨b, off + k * 2, none⟩) hb).trans (hcj 0 (by omega))
      have g1 : wr.cell? ⟨b, off + k * 2 + 1, none⟩ = some (.int .i64 ru) := (hbel.cell (p := ⟨b, off + k * 2 + 1, none⟩) hb).trans (hcj 1 (by omega))
      have HB : Hid (Below w.heap.size w wr) := hbel
      have HP : Hid (SPart 2 RwO Rw.none 94 wr w.heap.size n k xs) := hp
      have HW : Hid (w.heap.size + 1 ≤ wr.heap.size) := hideP hp.lt
      clear hc hcj hcl hbel ht hp hcs hsk
      go_wp2_with (go_at_call 90; refine (HC.out _ HB.out HW.out).mono ?_; rintro e w2 ⟨a2, n2, c2, rfl, hn2, hb1⟩; have hp2 := SPart.below rwOStable HP hb1; have hfz := hp2.free; obtain ⟨x0, hx0⟩ := hp2.cells (k * 2) (by omega); obtain ⟨x1, hx1⟩ := hp2.cells (k * 2 + 1) (by omega); have hlt2 := hp2.lt; have HN2 := hideP hn2; have HP2 : Hid (SPart 2 RwO Rw.none 94 w2 w.heap.size n k xs ∧ Below w.heap.size w w2) := ⟨hp2, below_more HB hb1 (Below.size HB)⟩; clear hp2 hb1 hn2)
      go_roundw
      case rel => exact ⟨k + 1, by omega, by go_num, SPart.put rwOStable HP2.1 hkn (cs := [.slice a2 n2 c2, .int .i64 ru]) rfl HN2.out, putC_below (Nat.le_refl _) [.slice a2 n2 c2, .int .i64 ru] (k * 2) _ HP2.2⟩
      case measure => simp [intOf]; omega
    · have hki : ¬ (k : Int) < (n : Int) := by omega
      obtain rfl : k = n := by omega
      have HP : Hid (SPart 2 RwO Rw.none 94 wr w.heap.size k k xs ∧ Below w.heap.size w wr) := ⟨hp, hbel⟩
      clear hp hbel
      go_wp2
      go_ret
      exact ⟨_, rfl, ⟨w.heap.size, by rw [show xs.length = k from HL]; rfl, Nat.le_refl _, by rw [show xs.length = k from HL]; exact HP.1⟩, HP.2⟩

set_option maxHeartbeats 4000000 in
theorem toTable_o (x : Tb) {v : Value} {w : World} (h : RRow 0 w v x.rs) (hs : SmT x) :
    Calls Tryz.prog 25 #[tbV x v] w fun e w' => ∃ v', e = .returned (tbV x v') ∧ ROw w.heap.size w' v' x.rs ∧ Below w.heap.size w w' := by
  obtain ⟨ua, un, uc, rfl⟩ : ∃ a n c, v = .slice a n c := by obtain ⟨a, c, rfl⟩ := h.shape; exact ⟨_, _, _, rfl⟩
  have HC : Hid (∀ (W : World), Below w.heap.size w W → Calls Tryz.prog 60 #[.slice ua un uc] W fun e w' => ∃ v', e = .returned v' ∧ ROw W.heap.size w' v' x.rs ∧ Below W.heap.size W w') := hideP (fun W hW => toRowS_o (h.below rwStable hW) hs)
  clear h hs
  obtain ⟨co, gs, gp, gpo, gm, gmo, rs⟩ := x
  dsimp only at HC ⊢
  go_enter Tryz.func25, Tryz.ntmps25
  go_wp2_with fail
  refine (toGlue_any _ _ _ _ _ _).mono ?_
  rintro e w1 ⟨rfl, hb1⟩
  have hz1 : w.heap.size + 1 + 1 < w1.heap.size := by have := hb1.size; simp at this; omega
  have hy1 : w.heap.size + 1 < w1.heap.size := by omega
  have hx1 : w.heap.size < w1.heap.size := by omega
  have BW : Below w.heap.size w w1 := by
    refine below_more ?_ hb1 (by simp; omega)
    repeat (first | exact below3 _ _ _ _ | refine Below.setCell ?_ (by first | (simp; done) | (simp; omega)) _)
  obtain ⟨hc1, hf1⟩ := bcell hb1
  have B1 := hideP BW
  simp only [World.size_alloc, World.size_setCell] at hc1 hf1
  clear hb1 BW
  go_wp2_with fail
  refine (HC.out _ ?B0).mono ?_
  case B0 =>
    have B2 := B1.out
    clear hc1 hf1 B1 HC
    repeat (first | with_reducible exact B2 | (with_reducible refine Below.setCell ?_ ?_ _; rotate_left; focus (first | (simp; done) | (simp; omega))))
  rintro e w2 ⟨v2, rfl, hp2, hb2⟩
  obtain ⟨a1, n1, c1, rfl⟩ : ∃ a n c, v2 = .slice a n c := by obtain ⟨a, c, rfl⟩ := hp2.shape; exact ⟨_, _, _, rfl⟩
  have hz2 : w.heap.size + 1 + 1 < w2.heap.size := by have := hb2.size; simp at this; omega
  have hy2 : w.heap.size + 1 < w2.heap.size := by omega
  have hx2 : w.heap.size < w2.heap.size := by omega
  have BW : Below w.heap.size w w2 := by
    refine below_more ?_ hb2 (by simp; omega)
    have B2 := B1.out
    clear hc1 hf1 B1 HC
    repeat (first | with_reducible exact B2 | (with_reducible refine Below.setCell ?_ ?_ _; rotate_left; focus (first | (simp; done) | (simp; omega))))
  obtain ⟨hc2, hf2⟩ := bcell hb2
  simp only [World.size_alloc, World.size_setCell] at hc2 hf2 hp2
  have P2 : Hid (ROw (w.heap.size + 1 + 1 + 1) w2 (.slice a1 n1 c1) rs) := hideP (hp2.mono (by omega))
  have B2 := hideP BW
  clear hb2 hp2 BW B1
  go_wp2
  refine bodyPost_ret (v := tbV ⟨co, gs, gp, gpo, gm, gmo, rs⟩ (.slice a1 n1 c1)) (by simp [results, Tryz.results25, go_sem, hc1, hx1, hy1, hz1, hc2, hx2, hy2, hz2]) rfl ⟨_, rfl, ?_, ?_⟩
  · have P3 := P2.out
    clear hc1 hf1 hc2 hf2 P2 HC
    refine ROw.mono (lo := w.heap.size + 1 + 1 + 1) ?_ (by omega)
    repeat (first | with_reducible exact P3 | (with_reducible refine ROw.abv ?_ (Abv.set ?_ _); rotate_left; focus omega))
  · have B3 := B2.out
    clear hc1 hf1 hc2 hf2 P2 HC
    repeat (first | with_reducible exact B3 | (with_reducible refine Below.setCell ?_ ?_ _; rotate_left; focus (first | (simp; done) | (simp; omega))))
end Go.Proofs.YticalmdhbgkbbaaGreat

