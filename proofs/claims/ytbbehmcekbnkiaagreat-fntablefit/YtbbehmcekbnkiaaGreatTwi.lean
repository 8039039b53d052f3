import Derived.Test.YtbbehmcekbnkiaaGreatWdp
import Derived.Test.YtbbehmcekbnkiaaGreatBsl
import Derived.Test.YtbbehmcekbnkiaaGreatFng
namespace Go.Proofs.YtbbehmcekbnkiaaGreat
open Go.RowKit
set_option linter.unusedVariables false
set_option linter.unusedSimpArgs false
theorem wpList_load_row {P : Program} {w : World} {ops : Array Oper} {rest : List Oper} {o : Oper} {a : Act} {Q : Exit -> Act -> World -> Prop} (hgd : o.guard = none) (t : TypeId) (p : Operand) (ho : o.op = Op.load t p) (g : Nat) (hp : a.eval p = .pointer (some ⟨g, 0, none⟩))
 (cs : Array Value) (ty : TypeId) (fr : Nat × Nat) (hg : w.heap[g]? = some (.cells cs ty fr)) (d : TypeDesc) (hu : P.underlying t = some d) (hd : (match d with | .struct _ | .array _ _ => true | _ => false) = true) (hi : (P.info? t).map (·.size) = some cs.size)
 (h : wpList P ops Q rest (a.put o.dst (.agg cs)) w) : wpList P ops Q (o :: rest) a w := by
 refine wpList_plain hgd fun K hK => ?_
 have hr := run_loadVar_row (P := P) w g ty t cs fr d hg hu hd hi
 unfold Oper.wp execOp
 simp only [ho, hp, Instr.loadAt, Instr.sureAddr, Sem.run_bind, Sem.run_pure, Result.andThen_ok, hr]
 exact hK _ _ h
def LanesAt (w : World) (ua : Option Addr) (rs : List Rw) : Prop := 0 < rs.length -> ∃ gl, ua = some ⟨gl, 0, none⟩ /\ gl < w.heap.size /\ ∀ i, i < rs.length -> ∃ a c ru, w.cell? ⟨gl, i * 2, none⟩ = some (.int .i64 ru) /\ w.cell? ⟨gl, i * 2 + 1, none⟩ = some (.slice a (rs.getD i Rw.none).cs.length c) /\
 (0 < (rs.getD i Rw.none).cs.length -> ∃ gp, a = some ⟨gp, 0, none⟩ /\ gp < w.heap.size /\ ∀ j, j < (rs.getD i Rw.none).cs.length -> ∃ al va vn vc, w.cell? ⟨gp, j * 5, none⟩ = some (.int .i64 (spK (rs.getD i Rw.none).cs j)) /\ w.cell? ⟨gp, j * 5 + 1, none⟩ = some (.int .i64 (spK (rs.getD i Rw.none).cs (j + 1) - 1)) /\ w.cell? ⟨gp, j * 5 + 2, none⟩ = some (.int .i64 (natW ((rs.getD i Rw.none).cs.getD j Cl.none).ns)) /\ w.cell? ⟨gp, j * 5 + 3, none⟩ = some (.int .i64 al) /\ w.cell? ⟨gp, j * 5 + 4, none⟩ = some (.slice va vn vc))
theorem ownG_cell {base g n cap e s : Nat} {w : World} {xs : List Value} (h : w.ownsRow base e s (.slice (some ⟨g, 0, none⟩) n cap) n xs) {j : Nat} {x : Value} (hj : xs[j]? = some x) : w.cell? ⟨g, j, none⟩ = some x := by
 obtain ⟨hl, h | ⟨g', cap', cur, e, hg, hb, hn, hm, hs, hx⟩⟩ := h
 ·exact absurd h.1 (by simp)
 ·simp at e
  obtain ⟨rfl, rfl⟩ := e
  rw [cell_of_row _ _ j _ _ _ hb]
  have h1 : j < xs.length := (List.getElem?_eq_some_iff.1 hj).1
  rw [<- hx] at hj
  rw [List.getElem?_take] at hj
  split at hj
  ·simpa using hj
  ·cases hj
theorem ownG_addr {w : World} {base e s n : Nat} {a : Option Addr} {c : Nat} {xs : List Value} (h : w.ownsRow base e s (.slice a n c) n xs) (hn : 0 < n) : ∃ g, a = some ⟨g, 0, none⟩ /\ g < w.heap.size := by
 rcases h.2 with ⟨e, _⟩ | ⟨g, cap, cur, e, _, hh, _⟩
 ·simp at e; omega
 ·simp at e
  exact ⟨g, e.1, (glt hh)⟩
theorem lanes_read {w0 w : World} {B : Nat} {ua : Option Addr} {uc : Nat} {rs : List Rw} {ls : List Ln} (o : w.ownsRow B 119 2 (.slice ua rs.length uc) rs.length (flatL ls)) (g : GRows w0 w rs ls rs.length) : LanesAt w ua rs := by
 intro hp
 obtain ⟨gl, rfl, hgl⟩ := ownG_addr o hp
 refine ⟨gl, rfl, hgl, fun i hi => ?_⟩
 obtain ⟨h1, ps, h2, h3⟩ := g.2 i hi
 obtain ⟨a, c, hv⟩ := ownG_shape h2
 have k0 := flatL_get ls i (by rw [g.1]; exact hi) 0 (by omega)
 have k1 := flatL_get ls i (by rw [g.1]; exact hi) 1 (by omega)
 refine ⟨a, c, (ls.getD i Ln.none).ru, ownG_cell o k0, ?_, fun hp2 => ?_⟩
 ·rw [<- hv]
  exact ownG_cell o k1
 ·rw [hv] at h2
  obtain ⟨gp, rfl, hgp⟩ := ownG_addr h2 hp2
  refine ⟨gp, rfl, hgp, fun j hj => ?_⟩
  obtain ⟨e1, e2, e3, e4, e5, e6⟩ := h3.2 j hj
  obtain ⟨va, vc, e7⟩ := e5.shape
  have m0 := flatP_get ps j (by rw [h3.1]; exact hj) 0 (by omega)
  have m1 := flatP_get ps j (by rw [h3.1]; exact hj) 1 (by omega)
  have m2 := flatP_get ps j (by rw [h3.1]; exact hj) 2 (by omega)
  have m3 := flatP_get ps j (by rw [h3.1]; exact hj) 3 (by omega)
  have m4 := flatP_get ps j (by rw [h3.1]; exact hj) 4 (by omega)
  refine ⟨(ps.getD j Pl.none).al, va, ((rs.getD i Rw.none).cs.getD j Cl.none).ns.length, vc, ownG_cell h2 (m0.trans ?_), ownG_cell h2 (m1.trans ?_), ownG_cell h2 (m2.trans ?_), ownG_cell h2 m3, ownG_cell h2 (m4.trans ?_)⟩
  ·rw [<- e1]; rfl
  ·rw [<- e2]; rfl
  ·rw [<- e3]; rfl
  ·rw [<- e7]; rfl
theorem arr_one {arr : Array Value} {f : Nat -> Int} (h1 : arr.size = 20) (h2 : ∀ i, i < 20 -> arr[i]? = some (.int .i64 (f i))) : arr.all (·.oneCell') = true := by
 rw [Array.all_eq_true]
 intro i hi
 have h := h2 i (by omega)
 rw [Array.getElem?_eq_getElem hi] at h
 simp only [Option.some.injEq] at h
 rw [h]
 rfl
theorem below_store {w wr : World} {k : Nat} {x : Value} (h : Below w.heap.size w wr) : Below w.heap.size w (wr.setCell ⟨w.heap.size, k, none⟩ x) := h.setCell (Nat.le_refl _) _
set_option maxRecDepth 20000 in
set_option maxHeartbeats 16000000 in
theorem fitted_any {w : World} {G n : Nat} {co gs gp gpo gm gmo : Int} {ua : Option Addr} {uc : Nat} {rs : List Rw} (hG : w.heap[G]? = some (grO co gs gp gpo gm gmo (.slice ua n uc))) (hn : rs.length = n) (hL : LanesAt w ua rs) (hin : ∀ i, i < rs.length -> RowIn (rs.getD i Rw.none).cs co) (hlen : n <= 200) (hc0 : 1 <= co) (hc1 : co <= 20) (hg : -1073741823 <= gs /\ gs <= 1073741823) :
 Calls Tryz.prog 49 #[.pointer (some ⟨G, 0, none⟩)] w fun e w' => (∃ (arr : Array Value) (F : Nat -> Int), e = .returned (.tuple #[.agg arr, .bool (colsOk gs rs co.toNat)]) /\ arr.size = 20 /\ (∀ i, i < 20 -> arr[i]? = some (.int .i64 (F i))) /\ Bd F /\ (colsOk gs rs co.toNat = true -> F = colsStep gs rs co.toNat)) /\ Below w.heap.size w w' := by
 obtain ⟨cols, hcols⟩ : ∃ cols : Nat, (cols : Int) = co := ⟨co.toNat, by omega⟩
 have hc2 : cols <= 20 := by omega
 have hc3 : 1 <= cols := by omega
 rw [<- hcols] at hin hG ⊢
 rw [show (cols : Int).toNat = cols by omega]
 clear hc0 hc1 hcols
 have q0 : w.cell? ⟨G, 0, none⟩ = some (.int .i64 (cols : Int)) := cell_of_row _ _ 0 _ 110 _ hG
 have hGl : G < w.heap.size := (glt hG)
 have HGR := hideP hG
 have HL : Hid (LanesAt w ua rs) := hideP hL
 have HN := hideP hn
 have HIN := hideP hin
 have HBD : Hid (∀ k, k <= 20 -> Bd (colsStep gs rs k)) := hideP (colsStep_bd hg hin (by omega))
 have HG := hideP hg
 clear hG hL hn hin hg
 have HCELL : Hid (∀ x, Below w.heap.size w x -> x.cell? ⟨G, 0, none⟩ = some (.int .i64 (cols : Int)) /\ x.cell? ⟨G, 6, none⟩ = some (.slice ua n uc)) := hideP (fun x hx => ⟨(hx.cell (p := ⟨G, 0, none⟩) hGl).trans q0, (hx.cell (p := ⟨G, 6, none⟩) hGl).trans (cell_of_row _ _ 6 _ 110 _ HGR.out)⟩)
 have HNEW : Hid (ArrAt (w.alloc (.cells #[.int .i64 0, .int .i64 0, .int .i64 0, .int .i64 0, .int .i64 0, .int .i64 0, .int .i64 0, .int .i64 0, .int .i64 0, .int .i64 0, .int .i64 0, .int .i64 0, .int .i64 0, .int .i64 0, .int .i64 0, .int .i64 0, .int .i64 0, .int .i64 0, .int .i64 0, .int .i64 0] 104)) w.heap.size (fun _ => 0)) := hideP ⟨_, heap_alloc_new w _, rfl, fun i hi => by
  have e : (#[.int .i64 0, .int .i64 0, .int .i64 0, .int .i64 0, .int .i64 0, .int .i64 0, .int .i64 0, .int .i64 0, .int .i64 0, .int .i64 0, .int .i64 0, .int .i64 0, .int .i64 0, .int .i64 0, .int .i64 0, .int .i64 0, .int .i64 0, .int .i64 0, .int .i64 0, .int .i64 0] : Array Value) = Array.replicate 20 (.int .i64 0) := rfl
  rw [e, Array.getElem?_replicate, if_pos hi]⟩
 go_enter Tryz.func49, Tryz.ntmps49
 go_wp2_with fail
 go_loopw [13, 21, 28] (fun s _ _ wr => ∃ k : Nat, k <= cols /\ s = .int .i64 k /\ Hid (colsOk gs rs k = true /\ ArrAt wr w.heap.size (colsStep gs rs k)) /\ Below w.heap.size w wr) (fun s _ _ _ => cols - (intOf s).toNat)
 case atStart => exact ⟨0, by omega, rfl, hideP ⟨rfl, HNEW.out⟩, below1 _ _⟩
 case round =>
  obtain ⟨k, hk, rfl, HK, hbel⟩ := hrel
  clear HNEW
  obtain ⟨wo, rfl⟩ : ∃ wo : World, wo = wr := ⟨_, rfl⟩
  have BO := hideP hbel
  clear hbel
  by_cases hkc : k < cols
  ·have hki : (k : Int) < (cols : Int) := by omega
   have q6 := (HCELL.out _ BO.out).2
   have hGo : G < wo.heap.size := Nat.lt_of_lt_of_le hGl BO.out.size
   go_wp2_with fail
   go_loopw [21, 28] (fun s _ wr => ∃ i : Nat, i <= n /\ s = .int .i64 i /\ Hid (ArrAt wr w.heap.size (rowsStep gs k rs (colsStep gs rs k) i)) /\ Below w.heap.size w wr) (fun s _ _ => n - (intOf s).toNat)
   case atStart => exact ⟨0, by omega, rfl, hideP HK.out.2, BO.out⟩
   case round =>
    obtain ⟨i, hi, rfl, HI, hbel⟩ := hrel
    obtain ⟨wp, rfl⟩ : ∃ wp : World, wp = wr := ⟨_, rfl⟩
    have BP := hideP hbel
    clear hbel
    by_cases hin : i < n
    ·have hii : (i : Int) < (n : Int) := by omega
     obtain ⟨gl, rfl, hgl, hrow⟩ := HL.out (by rw [HN.out]; omega)
     obtain ⟨a, c, ru, r0, r1, hcells⟩ := hrow i (by rw [HN.out]; omega)
     obtain ⟨cs, hcs⟩ := exq ((rs.getD i Rw.none).cs)
     have hri := HIN.out i (by rw [HN.out]; omega)
     have HST : Hid (rowsStep gs k rs (colsStep gs rs k) (i + 1) = laneStep gs k cs (rowsStep gs k rs (colsStep gs rs k) i) cs.length) := hideP (by rw [hcs]; rfl)
     rw [<- hcs] at r1 hcells hri
     have HRI := hideP hri
     have HCS := hideP hcells
     have HFB : Hid (Bd (rowsStep gs k rs (colsStep gs rs k) i)) := hideP (rowsStep_bd (HBD.out k (by omega)) HG.out (fun i hi => HIN.out i hi) (by omega) (by omega) i (by rw [HN.out]; omega))
     obtain ⟨f0, hf0⟩ := exq (rowsStep gs k rs (colsStep gs rs k) i)
     rw [<- hf0] at HI HST HFB
     have r0' : wp.cell? ⟨gl, i * 2, none⟩ = some (.int .i64 ru) := (BP.out.cell (p := ⟨gl, i * 2, none⟩) hgl).trans r0
     have r1' : wp.cell? ⟨gl, i * 2 + 1, none⟩ = some (.slice a cs.length c) := (BP.out.cell (p := ⟨gl, i * 2 + 1, none⟩) hgl).trans r1
     have hglp : gl < wp.heap.size := Nat.lt_of_lt_of_le hgl BP.out.size
     have hws : w.heap.size < wp.heap.size := HI.out.lt
     have hcl : cs.length <= 20 := by have h1 := spK_bound (show (cols : Int) <= 20 by omega) HRI.out.1; have h2 := HRI.out.2; omega
     obtain ⟨m, hm⟩ := exq (cs.length)
     rw [<- hm] at r1' HST HCS hcl
     have HM := hideP hm
     clear r0 r1 hrow hcells hri hcs hf0 hm
     go_wp2_with fail
     obtain ⟨p, hp⟩ := exq (wp.heap.size)
     obtain ⟨w7, hw7⟩ := exq (wp.alloc (.cells #[.int .i64 ru, .slice a m c] 119))
     rw [<- hw7, <- hp]
     have B7 : Hid (Below w.heap.size w w7) := hideP (by rw [hw7]; exact BP.out.alloc BP.out.size _)
     have A7 : Hid (ArrAt w7 w.heap.size f0) := hideP (by rw [hw7]; exact HI.out.below (below1 _ _))
     have P7 : Hid (w7.heap[p]? = some (.cells #[.int .i64 ru, .slice a m c] 119 (0, 0))) := hideP (by rw [hw7, hp]; exact heap_alloc_new wp _)
     have hpw : w.heap.size < p := by omega
     clear hw7 hp r0' r1' hglp
     go_loopw [28] (fun s wr => ∃ j : Nat, j <= m /\ s = .int .i64 j /\ Hid (ArrAt wr w.heap.size (laneStep gs k cs f0 j) /\ wr.heap[p]? = some (.cells #[.int .i64 ru, .slice a m c] 119 (0, 0))) /\ Below w.heap.size w wr) (fun s _ => m - (intOf s).toNat)
     case atStart => exact ⟨0, by omega, rfl, hideP ⟨A7.out, P7.out⟩, B7.out⟩
     case round =>
      obtain ⟨j, hj, rfl, HJ, hbel⟩ := hrel
      have BR := hideP hbel
      clear hbel A7 P7 B7 HI BP BO
      have t1 : wr.cell? ⟨p, 1, none⟩ = some (.slice a m c) := cell_of_row _ _ 1 _ 119 _ HJ.out.2
      have hpr : p < wr.heap.size := (glt HJ.out.2)
      by_cases hjm : j < m
      ·have hji : (j : Int) < (m : Int) := by omega
       obtain ⟨gp2, rfl, hgp, hcell⟩ := HCS.out (by omega)
       obtain ⟨al, va, vn, vc, e0, e1, e2, e3, e4⟩ := hcell j hjm
       have hat := HRI.out.at (show (cols : Int) <= 20 by omega) (j := j) (by rw [<- HM.out]; omega)
       have HFJ : Hid (Bd (laneStep gs k cs f0 j)) := hideP (laneStep_bd HFB.out HG.out HRI.out (by omega) (by omega) j (by rw [<- HM.out]; omega))
       obtain ⟨f1, hf1⟩ := exq (laneStep gs k cs f0 j)
       have HS1 : Hid (laneStep gs k cs f0 (j + 1) = cellStep gs k cs f1 j) := hideP (by rw [hf1]; rfl)
       rw [<- hf1] at HJ HFJ
       obtain ⟨fi, hfi⟩ : ∃ fi : Nat, (fi : Int) = spK cs j := ⟨(spK cs j).toNat, by omega⟩
       obtain ⟨la, hla⟩ : ∃ la : Int, la = spK cs (j + 1) - 1 := ⟨_, rfl⟩
       obtain ⟨nat, hnat⟩ := exq (natW (cs.getD j Cl.none).ns)
       have hfla : (fi : Int) <= la := by omega
       have hlac : la < 20 := by omega
       have hnb : -1073741823 <= nat /\ nat <= 1073741823 := by rw [hnat]; exact ⟨hat.2.2.2.1, hat.2.2.2.2.1⟩
       have HSY : Hid (la = (k : Int) -> laneStep gs k cs f0 (j + 1) = upd f1 k (f1 k + max (nat - acr f1 gs fi k) 0)) := hideP (fun e => by
        rw [HS1.out]
        unfold cellStep
        rw [<- hla, if_pos e, <- hfi, <- hnat]
        rfl)
       have HSN : Hid (¬ la = (k : Int) -> laneStep gs k cs f0 (j + 1) = f1) := hideP (fun e => by
        rw [HS1.out]
        unfold cellStep
        rw [<- hla, if_neg e])
       rw [<- hfi] at e0
       rw [<- hla] at e1
       rw [<- hnat] at e2
       have d0 : wr.cell? ⟨gp2, j * 5, none⟩ = some (.int .i64 (fi : Int)) := (BR.out.cell (p := ⟨gp2, j * 5, none⟩) hgp).trans e0
       have d1 : wr.cell? ⟨gp2, j * 5 + 1, none⟩ = some (.int .i64 la) := (BR.out.cell (p := ⟨gp2, j * 5 + 1, none⟩) hgp).trans e1
       have d2 : wr.cell? ⟨gp2, j * 5 + 2, none⟩ = some (.int .i64 nat) := (BR.out.cell (p := ⟨gp2, j * 5 + 2, none⟩) hgp).trans e2
       have d3 : wr.cell? ⟨gp2, j * 5 + 3, none⟩ = some (.int .i64 al) := (BR.out.cell (p := ⟨gp2, j * 5 + 3, none⟩) hgp).trans e3
       have d4 : wr.cell? ⟨gp2, j * 5 + 4, none⟩ = some (.slice va vn vc) := (BR.out.cell (p := ⟨gp2, j * 5 + 4, none⟩) hgp).trans e4
       have hgpr : gp2 < wr.heap.size := Nat.lt_of_lt_of_le hgp BR.out.size
       have hwr : w.heap.size < wr.heap.size := by omega
       clear hcell e0 e1 e2 e3 e4 hat hf1 hfi hla hnat HS1
       by_cases hlk : la = (k : Int)
       ·subst hlk
        go_wp2_with fail
        obtain ⟨W, hW⟩ := exq (wr.alloc (.cells #[.int .i64 (fi : Int), .int .i64 (k : Int), .int .i64 nat, .int .i64 al, .slice va vn vc] 122))
        obtain ⟨q, hq⟩ := exq (wr.heap.size)
        rw [<- hW, <- hq]
        have AW : Hid (ArrAt W w.heap.size f1) := hideP (by rw [hW]; exact HJ.out.1.below (below1 _ _))
        have BW : Hid (Below w.heap.size w W) := hideP (by rw [hW]; exact BR.out.alloc BR.out.size _)
        have PW : Hid (W.heap[p]? = some (.cells #[.int .i64 ru, .slice (some ⟨gp2, 0, none⟩) m c] 119 (0, 0))) := hideP (by rw [hW]; exact (Below.heap_alloc _ _ _ hpr).trans HJ.out.2)
        have CW : Hid (W.heap[q]? = some (.cells #[.int .i64 (fi : Int), .int .i64 (k : Int), .int .i64 nat, .int .i64 al, .slice va vn vc] 122 (0, 0))) := hideP (by rw [hW, hq]; exact heap_alloc_new wr _)
        have hqw : w.heap.size < q := by omega
        have hqp : p < q := by omega
        clear hW hq d0 d1 d2 d3 d4 hgpr hwr t1 hpr
        obtain ⟨ac, hac⟩ := exq (acr f1 gs fi k)
        have hacb := acr_bd HFJ.out HG.out (show fi <= k by omega) (show k < 20 by omega)
        have hfk := HFJ.out k
        obtain ⟨fk, hfk2⟩ := exq (f1 k)
        have HC : Hid (Calls Tryz.prog 75 #[.pointer (some ⟨G, 0, none⟩), .pointer (some ⟨w.heap.size, 0, none⟩), .int .i64 (fi : Int), .int .i64 (k : Int)] W.drew fun e w' => e = .returned (.int .i64 ac) /\ w' = W.drew) := hideP (by rw [hac]; exact across_any (w := W.drew) fi k (show W.drew.heap[G]? = _ from (BW.out.block _ hGl).trans HGR.out) (AW.out.same rfl) HFJ.out (by omega) (by omega) HG.out)
        have HSZ : Hid (laneStep gs k cs f0 (j + 1) = upd f1 k (fk + max (nat - ac) 0)) := hideP (by rw [HSY.out (by first | rfl | trivial), hac, hfk2])
        rw [<- hac] at hacb
        rw [<- hfk2] at hfk
        have wsub : IntKind.i64.wrap (nat - ac) = nat - ac := by rw [IntKind.wrap_i64]; omega
        have wadd : IntKind.i64.wrap (fk + max (nat - ac) 0) = fk + max (nat - ac) 0 := by rw [IntKind.wrap_i64]; omega
        have cA : W.cell? ⟨w.heap.size, k, none⟩ = some (.int .i64 fk) := by rw [hfk2]; exact AW.out.cell (by omega)
        have fA := AW.out.free
        have hAl := AW.out.lt
        have hk20 : (k : Int) < 20 := by omega
        clear hac hfk2 HSY HSN
        have HSX : Hid (∀ X : World, X.heap[q]? = W.heap[q]? -> X.cell? ⟨q, 0, none⟩ = some (.int .i64 (fi : Int)) /\ X.cell? ⟨q, 2, none⟩ = some (.int .i64 nat)) := hideP (fun X hX => ⟨cell_of_row _ _ 0 _ 122 _ (hX.trans CW.out), cell_of_row _ _ 2 _ 122 _ (hX.trans CW.out)⟩)
        have T7 := hideP (HSX.out (W.setCell ⟨w.heap.size, k, none⟩ (.int .i64 (fk + max (nat - ac) 0))).drew ((show (W.setCell ⟨w.heap.size, k, none⟩ (.int .i64 (fk + max (nat - ac) 0))).drew.heap[q]? = (W.setCell ⟨w.heap.size, k, none⟩ (.int .i64 (fk + max (nat - ac) 0))).heap[q]? from rfl).trans (Below.heap_setCell _ _ _ _ (by simp; omega))))
        refine wp_region_held_drew (S := fun x => x.cell? ⟨q, 0, none⟩ = some (.int .i64 (fi : Int)) /\ x.cell? ⟨q, 2, none⟩ = some (.int .i64 nat)) (by kernel_rfl) (HSX.out W.drew rfl) (fun hS => ?_)
        refine wpAnyH_take (i := 0) (v := .int .i64 (k : Int)) rfl (by kernel_rfl) (by kernel_rfl) (by kernel_rfl) (fun _ _ _ h => h) (Or.inl ⟨by first | rfl | go_simp, fun wx hx => by obtain ⟨hx0, hx1⟩ := hx; go_simp⟩) hS ?_
        try simp only [sput]
        refine wpAnyH_take (i := 1) (v := .pointer (some ⟨w.heap.size, k, none⟩)) rfl (by kernel_rfl) (by kernel_rfl) (by kernel_rfl) (fun _ _ _ h => h) (Or.inl ⟨by first | rfl | go_simp, fun wx hx => by obtain ⟨hx0, hx1⟩ := hx; go_simp⟩) hS ?_
        try simp only [sput]
        refine wpAnyH_take (i := 3) (v := .pointer (some ⟨q, 2, none⟩)) rfl (by kernel_rfl) (by kernel_rfl) (by kernel_rfl) (fun _ _ _ h => h) (Or.inl ⟨by first | rfl | go_simp, fun wx hx => by obtain ⟨hx0, hx1⟩ := hx; go_simp⟩) hS ?_
        try simp only [sput]
        refine wpAnyH_take (i := 4) (v := .int .i64 nat) rfl (by kernel_rfl) (by kernel_rfl) (by kernel_rfl) (fun _ _ _ h => h) (Or.inl ⟨by first | rfl | go_simp, fun wx hx => by obtain ⟨hx0, hx1⟩ := hx; go_simp⟩) hS ?_
        try simp only [sput]
        refine wpAnyH_take (i := 5) (v := .pointer (some ⟨G, 0, none⟩)) rfl (by kernel_rfl) (by kernel_rfl) (by kernel_rfl) (fun _ _ _ h => h) (Or.inl ⟨by first | rfl | go_simp, fun wx hx => by obtain ⟨hx0, hx1⟩ := hx; go_simp⟩) hS ?_
        try simp only [sput]
        refine wpAnyH_take (i := 6) (v := .pointer (some ⟨q, 0, none⟩)) rfl (by kernel_rfl) (by kernel_rfl) (by kernel_rfl) (fun _ _ _ h => h) (Or.inl ⟨by first | rfl | go_simp, fun wx hx => by obtain ⟨hx0, hx1⟩ := hx; go_simp⟩) hS ?_
        try simp only [sput]
        refine wpAnyH_take (i := 7) (v := .int .i64 (fi : Int)) rfl (by kernel_rfl) (by kernel_rfl) (by kernel_rfl) (fun _ _ _ h => h) (Or.inl ⟨by first | rfl | go_simp, fun wx hx => by obtain ⟨hx0, hx1⟩ := hx; go_simp⟩) hS ?_
        try simp only [sput]
        refine wpAnyH_take (i := 8) (v := .int .i64 (k : Int)) rfl (by kernel_rfl) (by kernel_rfl) (by kernel_rfl) (fun _ _ _ h => h) (Or.inl ⟨by first | rfl | go_simp, fun wx hx => by obtain ⟨hx0, hx1⟩ := hx; go_simp⟩) hS ?_
        try simp only [sput]
        refine wpAnyH_ready (rs := [2, 9]) (by kernel_rfl) (by simp) ?_
        refine AllReadyH.cons rfl (fun K hK => ?_) (AllReadyH.cons rfl (fun K hK => ?_) AllReadyH.nil)
        ·rw [if_pos (by first | rfl | go_simp)]
         go_simp
         refine hK.out _ _ (HSX.out W.drew rfl) (fun hS => ?_)
         try simp only [sput]
         clear hK K
         refine wpAnyH_ready (rs := [9]) (by kernel_rfl) (by simp) ?_
         refine AllReadyH.cons rfl (fun K hK => ?_) AllReadyH.nil
         rw [if_pos (by first | rfl | go_simp)]
         go_simp
         go_at_call 75
         refine HC.out.mono ?_
         rintro e w2 ⟨rfl, rfl⟩
         refine hK.out _ _ (HSX.out W.drew rfl) (fun hS => ?_)
         try simp only [sput]
         clear hK K
         refine wpAnyH_take (i := 10) (v := .int .i64 (nat - ac)) rfl (by kernel_rfl) (by kernel_rfl) (by kernel_rfl) (fun _ _ _ h => h) (Or.inl ⟨by first | rfl | go_simp, fun wx hx => by obtain ⟨hx0, hx1⟩ := hx; go_simp⟩) hS ?_
         try simp only [sput]
         refine wpAnyH_take (i := 11) (v := .int .i64 (max (nat - ac) 0)) rfl (by kernel_rfl) (by kernel_rfl) (by kernel_rfl) (fun _ _ _ h => h) (Or.inl ⟨by first | rfl | go_simp, fun wx hx => by obtain ⟨hx0, hx1⟩ := hx; go_simp⟩) hS ?_
         try simp only [sput]
         refine wpAnyH_take (i := 12) (v := .int .i64 (fk + max (nat - ac) 0)) rfl (by kernel_rfl) (by kernel_rfl) (by kernel_rfl) (fun _ _ _ h => h) (Or.inl ⟨by first | rfl | go_simp, fun wx hx => by obtain ⟨hx0, hx1⟩ := hx; go_simp⟩) hS ?_
         try simp only [sput]
         refine wpAnyH_take (i := 13) (v := .pointer (some ⟨w.heap.size, k, none⟩)) rfl (by kernel_rfl) (by kernel_rfl) (by kernel_rfl) (fun _ _ _ h => h) (Or.inl ⟨by first | rfl | go_simp, fun wx hx => by obtain ⟨hx0, hx1⟩ := hx; go_simp⟩) hS ?_
         try simp only [sput]
         refine wpAnyH_ready (rs := [14]) (by kernel_rfl) (by simp) ?_
         refine AllReadyH.cons rfl (fun K hK => ?_) AllReadyH.nil
         rw [if_pos (by first | rfl | go_simp)]
         go_simp
         refine hK.out _ _ (T7.out) (fun hS => ?_)
         try simp only [sput]
         clear hK K
         refine wpAnyH_done (by kernel_rfl) ?_ _
         clear cA fA hS
         go_wp2
         go_roundw
         case rel => exact ⟨j + 1, by omega, by go_num, hideP (by rw [HSZ.out]; exact ⟨ArrAt.same (AW.out.set (show k < 20 by omega) _) rfl, (show (W.setCell ⟨w.heap.size, k, none⟩ (.int .i64 (fk + max (nat - ac) 0))).drew.heap[p]? = (W.setCell ⟨w.heap.size, k, none⟩ (.int .i64 (fk + max (nat - ac) 0))).heap[p]? from rfl).trans ((Below.heap_setCell _ _ _ _ (by simp; omega)).trans PW.out)⟩), (below_store BW.out).drew⟩
         case measure => simp [intOf]; omega
        ·rw [if_pos (by first | rfl | go_simp)]
         go_simp
         go_at_call 75
         refine HC.out.mono ?_
         rintro e w2 ⟨rfl, rfl⟩
         refine hK.out _ _ (HSX.out W.drew rfl) (fun hS => ?_)
         try simp only [sput]
         clear hK K
         refine wpAnyH_take (i := 10) (v := .int .i64 (nat - ac)) rfl (by kernel_rfl) (by kernel_rfl) (by kernel_rfl) (fun _ _ _ h => h) (Or.inl ⟨by first | rfl | go_simp, fun wx hx => by obtain ⟨hx0, hx1⟩ := hx; go_simp⟩) hS ?_
         try simp only [sput]
         refine wpAnyH_take (i := 11) (v := .int .i64 (max (nat - ac) 0)) rfl (by kernel_rfl) (by kernel_rfl) (by kernel_rfl) (fun _ _ _ h => h) (Or.inl ⟨by first | rfl | go_simp, fun wx hx => by obtain ⟨hx0, hx1⟩ := hx; go_simp⟩) hS ?_
         try simp only [sput]
         refine wpAnyH_ready (rs := [2]) (by kernel_rfl) (by simp) ?_
         refine AllReadyH.cons rfl (fun K hK => ?_) AllReadyH.nil
         rw [if_pos (by first | rfl | go_simp)]
         go_simp
         refine hK.out _ _ (HSX.out W.drew rfl) (fun hS => ?_)
         try simp only [sput]
         clear hK K
         refine wpAnyH_take (i := 12) (v := .int .i64 (fk + max (nat - ac) 0)) rfl (by kernel_rfl) (by kernel_rfl) (by kernel_rfl) (fun _ _ _ h => h) (Or.inl ⟨by first | rfl | go_simp, fun wx hx => by obtain ⟨hx0, hx1⟩ := hx; go_simp⟩) hS ?_
         try simp only [sput]
         refine wpAnyH_take (i := 13) (v := .pointer (some ⟨w.heap.size, k, none⟩)) rfl (by kernel_rfl) (by kernel_rfl) (by kernel_rfl) (fun _ _ _ h => h) (Or.inl ⟨by first | rfl | go_simp, fun wx hx => by obtain ⟨hx0, hx1⟩ := hx; go_simp⟩) hS ?_
         try simp only [sput]
         refine wpAnyH_ready (rs := [14]) (by kernel_rfl) (by simp) ?_
         refine AllReadyH.cons rfl (fun K hK => ?_) AllReadyH.nil
         rw [if_pos (by first | rfl | go_simp)]
         go_simp
         refine hK.out _ _ (T7.out) (fun hS => ?_)
         try simp only [sput]
         clear hK K
         refine wpAnyH_done (by kernel_rfl) ?_ _
         clear cA fA hS
         go_wp2
         go_roundw
         case rel => exact ⟨j + 1, by omega, by go_num, hideP (by rw [HSZ.out]; exact ⟨ArrAt.same (AW.out.set (show k < 20 by omega) _) rfl, (show (W.setCell ⟨w.heap.size, k, none⟩ (.int .i64 (fk + max (nat - ac) 0))).drew.heap[p]? = (W.setCell ⟨w.heap.size, k, none⟩ (.int .i64 (fk + max (nat - ac) 0))).heap[p]? from rfl).trans ((Below.heap_setCell _ _ _ _ (by simp; omega)).trans PW.out)⟩), (below_store BW.out).drew⟩
         case measure => simp [intOf]; omega
       ·have hb1 : (la == (k : Int)) = false := by simp [hlk]
        go_wp2
        go_roundw
        case rel => exact ⟨j + 1, by omega, by go_num, hideP (by rw [HSN.out hlk]; exact ⟨HJ.out.1.below (below1 _ _), (Below.heap_alloc _ _ _ hpr).trans HJ.out.2⟩), BR.out.alloc BR.out.size _⟩
        case measure => simp [intOf]; omega
      ·have hji : ¬ (j : Int) < (m : Int) := by omega
       obtain rfl : j = m := by omega
       go_wp2
       go_roundw
       case rel => exact ⟨i + 1, by omega, by go_num, hideP (by rw [HST.out]; exact HJ.out.1), BR.out⟩
       case measure => simp [intOf]; omega
    ·have hii : ¬ (i : Int) < (n : Int) := by omega
     obtain rfl : i = n := by omega
     have HCS : Hid (colsStep gs rs (k + 1) = rowsStep gs k rs (colsStep gs rs k) i) := hideP (by rw [<- HN.out]; rfl)
     rw [<- HCS.out] at HI
     obtain ⟨fk, hfk⟩ := exq (colsStep gs rs (k + 1) k)
     have HFK := hideP hfk
     have cA : wp.cell? ⟨w.heap.size, k, none⟩ = some (.int .i64 fk) := by rw [hfk]; exact HI.out.cell (by omega)
     have hAl := HI.out.lt
     have hk20 : (k : Int) < 20 := by omega
     have HOK : Hid (colsOk gs rs (k + 1) = fitsB fk) := hideP (by unfold colsOk; rw [HK.out.1, <- hfk]; rfl)
     have HFC : Hid (∀ W, Calls Tryz.prog 44 #[.int .i64 fk] W fun e w' => e = .returned (.bool (fitsB fk)) /\ w' = W) := hideP (fun W => implFits_any fk W)
     clear hfk HCS
     cases hfb : fitsB fk with
     | true =>
      rw [hfb] at HFC HOK
      go_wp2_with (go_at_call 44; refine (HFC.out _).mono ?_; rintro e w2 ⟨rfl, rfl⟩)
      go_roundw
      case rel => exact ⟨k + 1, by omega, by go_num, hideP ⟨HOK.out, HI.out⟩, BP.out⟩
      case measure => simp [intOf]; omega
     | false =>
      rw [hfb] at HFC HOK
      have HFIN : Hid (colsOk gs rs cols = false) := hideP (colsOk_down (show k + 1 <= cols by omega) HOK.out)
      obtain ⟨arr, ha1, ha2, ha3⟩ := HI.out
      have HA1 := hideP ha1
      have HA3 := hideP ha3
      have hone : arr.all (·.oneCell') = true := arr_one ha2 ha3
      have HSZ : Hid ((Tryz.prog.info? 104).map (·.size) = some arr.size) := hideP (by rw [ha2]; kernel_rfl)
      clear ha1 ha3
      go_wp2_with fail
      refine (HFC.out _).mono ?_
      rintro e w2 ⟨rfl, rfl⟩
      go_simp
      iterate 8 (first | go_values | go_skip | go_guarded | go_step | go_upon | go_in | go_back)
      refine wp_seq (wp_region_lit ?_)
      refine wpList_load_row rfl 104 _ rfl w.heap.size rfl arr 104 (0, 0) HA1.out _ Tryz.underlying104 rfl HSZ.out ?_
      refine wpList_store_row rfl 104 _ _ rfl w.heap.size rfl arr arr rfl 104 HA1.out HSZ.out rfl hone ?_
      go_wp2
      exact bodyPost_ret (v := .tuple #[.agg arr, .bool false]) (results_cell_tmp rfl _ _ w.heap.size _ _ rfl rfl (run_loadVar_row _ _ 104 104 arr (0, 0) _ (setRow_heap _ _ _ _ _ _ HA1.out) Tryz.underlying104 rfl HSZ.out)) rfl ⟨⟨arr, _, by rw [HFIN.out], ha2, HA3.out, HBD.out _ (by omega), fun h => by rw [HFIN.out] at h; cases h⟩, below_setRow BP.out (Nat.le_refl _) _⟩
  ·have hki : ¬ (k : Int) < (cols : Int) := by omega
   obtain rfl : k = cols := by omega
   obtain ⟨arr, ha1, ha2, ha3⟩ := HK.out.2
   have HA1 := hideP ha1
   have HA3 := hideP ha3
   have hone : arr.all (·.oneCell') = true := arr_one ha2 ha3
   have HSZ : Hid ((Tryz.prog.info? 104).map (·.size) = some arr.size) := hideP (by rw [ha2]; kernel_rfl)
   clear ha1 ha3
   rename_i K1 h1
   have H1 := hideP h1
   clear h1
   go_wp2
   refine H1.out _ _ ?_
   clear H1
   refine wp_seq (wp_region_lit ?_)
   refine wpList_load_row rfl 104 _ rfl w.heap.size rfl arr 104 (0, 0) HA1.out _ Tryz.underlying104 rfl HSZ.out ?_
   refine wpList_store_row rfl 104 _ _ rfl w.heap.size rfl arr arr rfl 104 HA1.out HSZ.out rfl hone ?_
   go_wp2
   exact bodyPost_ret (v := .tuple #[.agg arr, .bool true]) (results_cell_tmp rfl _ _ w.heap.size _ _ rfl rfl (run_loadVar_row _ _ 104 104 arr (0, 0) _ (setRow_heap _ _ _ _ _ _ HA1.out) Tryz.underlying104 rfl HSZ.out)) rfl ⟨⟨arr, _, by rw [HK.out.1], ha2, HA3.out, HBD.out _ (by omega), fun _ => rfl⟩, below_setRow BO.out (Nat.le_refl _) _⟩
theorem tabB_parts {t : Tb} (h : tabB t = true) : 1 <= t.co /\ t.co <= 20 /\ (-1073741823 <= t.gs /\ t.gs <= 1073741823) /\ t.rs.length <= 200 /\ ∀ i, i < t.rs.length -> RowIn (t.rs.getD i Rw.none).cs t.co := by
 unfold tabB headB glB at h
 simp only [Bool.and_eq_true, decide_eq_true_eq] at h
 obtain ⟨⟨⟨⟨h1, h2⟩, ⟨⟨⟨⟨h3, _⟩, _⟩, _⟩, _⟩⟩, h4⟩, h5⟩ := h
 unfold fitsB at h3
 simp only [decide_eq_true_eq] at h3
 exact ⟨h1, h2, h3, h4, fun i hi => rowB_in (rowsB_at h5 i hi) h1⟩
theorem grid_fitted (x : Tb) {v : Value} {w : World} (h : RRowN 0 w v x.rs) (hs : SmT x) :
 Calls Tryz.prog 47 #[tbV x v] w fun e w' => (∃ p, e = .returned (.tuple #[.pointer p, .bool (tabB x)]) /\ (tabB x = true -> ∃ G u, p = some ⟨G, 0, none⟩ /\ w.heap.size <= G /\ w'.heap[G]? = some (grO x.co x.gs x.gp x.gpo x.gm x.gmo u) /\
  Calls Tryz.prog 49 #[.pointer (some ⟨G, 0, none⟩)] w' fun e w2 => (∃ (arr : Array Value) (F : Nat -> Int), e = .returned (.tuple #[.agg arr, .bool (colsOk x.gs x.rs x.co.toNat)]) /\ arr.size = 20 /\ (∀ i, i < 20 -> arr[i]? = some (.int .i64 (F i))) /\ Bd F /\ (colsOk x.gs x.rs x.co.toNat = true -> F = colsStep x.gs x.rs x.co.toNat)) /\ Below w'.heap.size w' w2)) /\ Below w.heap.size w w' := by
 refine (gridOf_any x h hs).mono ?_
 rintro e w' ⟨h1, h2⟩
 refine ⟨?_, h2⟩
 cases hb : tabB x with
 | false =>
  rw [hb] at h1
  exact ⟨none, h1, fun h => by cases h⟩
 | true =>
  rw [hb] at h1
  obtain ⟨G, rfl, u, ls, hG, hg, ho, hr⟩ := h1
  obtain ⟨b1, b2, b3, b4, b5⟩ := tabB_parts hb
  refine ⟨_, rfl, fun _ => ⟨G, u, rfl, hG, hg, ?_⟩⟩
  obtain ⟨ua, uc, rfl⟩ := ownG_shape ho
  exact fitted_any hg rfl (lanes_read ho hr) b5 b4 b1 b2 b3
end Go.Proofs.YtbbehmcekbnkiaaGreat
