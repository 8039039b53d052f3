import Derived.Test.YtbbehmcekbnkiaaGreatLan
import Derived.Deep.DeepCutAuto
import Derived.Test.YtbbehmcekbnkiaaGreatFng
import Derived.Test.YtbbehmcekbnkiaaGreatTpu
namespace Go.Proofs.YtbbehmcekbnkiaaGreat
open Go.RowKit
set_option linter.unusedVariables false
set_option linter.unusedSimpArgs false
structure Ln where
 ru : Int
 v : Value
def Ln.none : Ln := ⟨0, .slice .none 0 0⟩
def Ln.cells (p : Ln) : List Value := [.int .i64 p.ru, p.v]
def flatL : List Ln -> List Value
 | [] => []
 | p :: ps => p.cells ++ flatL ps
theorem flatL_snoc : ∀ (ps : List Ln) (p : Ln), flatL (ps ++ [p]) = flatL ps ++ p.cells
 | [], p => by simp [flatL]
 | q :: ps, p => by simp [flatL, flatL_snoc ps p, List.append_assoc]
theorem flatL_get : ∀ (ps : List Ln) (i : Nat), i < ps.length -> ∀ j, j < 2 -> (flatL ps)[i * 2 + j]? = (ps.getD i Ln.none).cells[j]?
 | [], i, h, _, _ => by simp at h
 | p :: ps, 0, h, j, hj => by
  simp only [flatL, List.getD_cons_zero]
  rw [Nat.zero_mul, Nat.zero_add, List.getElem?_append_left (by rw [show p.cells.length = 2 from rfl]; exact hj)]
 | p :: ps, i + 1, h, j, hj => by
  simp only [flatL, List.getD_cons_succ]
  rw [List.getElem?_append_right (by rw [show p.cells.length = 2 from rfl]; omega), show p.cells.length = 2 from rfl, show (i + 1) * 2 + j - 2 = i * 2 + j by omega]
  exact flatL_get ps i (by simpa using h) j hj
theorem own_neB {W : World} {B0 R e ty s n : Nat} {cs : Array Value} {r : Nat × Nat} {v : Value} {xs : List Value} (hb : W.heap[R]? = some (.cells cs ty r)) (o : W.ownsRow B0 e s v n xs) (he : e ≠ ty) : v.ownBlock ≠ some R := by
 rcases o.2 with ⟨rfl, _⟩ | ⟨g', cap, cur, rfl, _, hh, _⟩
 ·intro e; cases e
 ·intro e
  simp only [Value.ownBlock, Option.some.injEq] at e
  subst e
  rw [hb] at hh
  cases hh
  exact he rfl
def GRows (w W : World) (rs : List Rw) (ls : List Ln) (k : Nat) : Prop := ls.length = k /\ ∀ i, i < k -> (ls.getD i Ln.none).ru = (rs.getD i Rw.none).ru /\ ∃ ps, W.ownsRow w.heap.size 122 5 (ls.getD i Ln.none).v (rs.getD i Rw.none).cs.length (flatP ps) /\ PlOk w (rs.getD i Rw.none).cs ps (rs.getD i Rw.none).cs.length
theorem GRows.keep {w W W' : World} {rs : List Rw} {ls : List Ln} {k : Nat} (h : GRows w W rs ls k) (hk : ∀ v n xs, W.ownsRow w.heap.size 122 5 v n xs -> W'.ownsRow w.heap.size 122 5 v n xs) : GRows w W' rs ls k :=
 ⟨h.1, fun i hi => by
  obtain ⟨h1, ps, h2, h3⟩ := h.2 i hi
  exact ⟨h1, ps, hk _ _ _ h2, h3⟩⟩
theorem GRows.below {w W W' : World} {rs : List Rw} {ls : List Ln} {k : Nat} (h : GRows w W rs ls k) (hb : Below W.heap.size W W') : GRows w W' rs ls k := h.keep (fun _ _ _ o => ownG_below o hb)
theorem GRows.grown {w W W' : World} {rs : List Rw} {ls : List Ln} {k B n : Nat} {u : Value} {xs : List Value} (h : GRows w W rs ls k) (o : W.ownsRow B 119 2 u n xs) (hg : W.grownBy W' u.ownBlock) : GRows w W' rs ls k := h.keep (fun _ _ _ o2 => World.ownsRow.kept o2 hg (ownG_ne o2 o (by decide)))
theorem GRows.set {w W : World} {rs : List Rw} {ls : List Ln} {k R ty : Nat} {cs : Array Value} {r : Nat × Nat} (h : GRows w W rs ls k) (hb : W.heap[R]? = some (.cells cs ty r)) (he : 122 ≠ ty) (j : Nat) (x : Value) : GRows w (W.setCell ⟨R, j, none⟩ x) rs ls k := h.keep (fun _ _ _ o => own_setR o (own_neB hb o he) j x)
theorem GRows.snoc {w W : World} {rs : List Rw} {ls : List Ln} {k : Nat} (h : GRows w W rs ls k) (p : Ln) (hp : p.ru = (rs.getD k Rw.none).ru /\ ∃ ps, W.ownsRow w.heap.size 122 5 p.v (rs.getD k Rw.none).cs.length (flatP ps) /\ PlOk w (rs.getD k Rw.none).cs ps (rs.getD k Rw.none).cs.length) : GRows w W rs (ls ++ [p]) (k + 1) := by
 obtain ⟨h1, h2⟩ := h
 refine ⟨by simp [h1], fun i hi => ?_⟩
 by_cases e : i = k
 ·subst e
  have : (ls ++ [p]).getD i Ln.none = p := by rw [<- h1]; simp
  rw [this]
  exact hp
 ·have : (ls ++ [p]).getD i Ln.none = ls.getD i Ln.none := by
   simp only [List.getD_eq_getElem?_getD]
   rw [List.getElem?_append_left (by omega)]
  rw [this]
  exact h2 i (by omega)
abbrev grO (co gs gp gpo gm gmo : Int) (u : Value) : Obj := .cells #[.int .i64 co, .int .i64 gs, .int .i64 gp, .int .i64 gpo, .int .i64 gm, .int .i64 gmo, u] 110 (0, 0)
abbrev tbC (co gs gp gpo gm gmo : Int) (u : Value) : Obj := .cells #[.int .i64 co, .int .i64 gs, .int .i64 gp, .int .i64 gpo, .int .i64 gm, .int .i64 gmo, u] 52 (0, 0)
def GridAt (w w' : World) (t : Tb) (G : Nat) : Prop := ∃ u ls, w.heap.size <= G /\ w'.heap[G]? = some (grO t.co t.gs t.gp t.gpo t.gm t.gmo u) /\ w'.ownsRow w.heap.size 119 2 u t.rs.length (flatL ls) /\ GRows w w' t.rs ls t.rs.length
def GrdP (t : Tb) (b : Bool) (e : Ending) (w w' : World) : Prop := match b with
 | true => ∃ G, e = .returned (.tuple #[.pointer (some ⟨G, 0, none⟩), .bool true]) /\ GridAt w w' t G
 | false => e = .returned (.tuple #[.pointer none, .bool false])
structure GInv (w wr : World) (co gs gp gpo gm gmo : Int) (tv u : Value) (G : Nat) : Prop where
 bel : Below w.heap.size w wr
 box : wr.heap[w.heap.size]? = some (tbC co gs gp gpo gm gmo tv)
 grd : wr.heap[G]? = some (grO co gs gp gpo gm gmo u)
 hG : w.heap.size < G
theorem GInv.lt {w wr : World} {co gs gp gpo gm gmo : Int} {tv u : Value} {G : Nat} (h : GInv w wr co gs gp gpo gm gmo tv u G) : G < wr.heap.size := (glt h.grd)
theorem GInv.same {w wr w2 : World} {co gs gp gpo gm gmo : Int} {tv u : Value} {G : Nat} (h : GInv w wr co gs gp gpo gm gmo tv u G) (hb : Below w.heap.size w w2) (h1 : w2.heap[w.heap.size]? = wr.heap[w.heap.size]?) (h2 : w2.heap[G]? = wr.heap[G]?) : GInv w w2 co gs gp gpo gm gmo tv u G := ⟨hb, h1.trans h.box, h2.trans h.grd, h.hG⟩
theorem GInv.below {w wr w2 : World} {co gs gp gpo gm gmo : Int} {tv u : Value} {G : Nat} (h : GInv w wr co gs gp gpo gm gmo tv u G) (hb : Below wr.heap.size wr w2) : GInv w w2 co gs gp gpo gm gmo tv u G :=
 h.same (below_more h.bel hb h.bel.size) (hb.block _ (by have := h.lt; have := h.hG; omega)) (hb.block _ h.lt)
theorem GInv.grown {w wr w2 : World} {co gs gp gpo gm gmo : Int} {tv u v : Value} {G n : Nat} {xs : List Value} (h : GInv w wr co gs gp gpo gm gmo tv u G) (o : wr.ownsRow w.heap.size 119 2 v n xs) (hg : wr.grownBy w2 v.ownBlock) : GInv w w2 co gs gp gpo gm gmo tv u G :=
 h.same (Below.grown h.bel hg h.bel.size (fun j hj => (o.lt j hj).1)) (hg.block _ (by have := h.lt; have := h.hG; omega) (fun e => own_neB h.box o (by decide) e.symm)) (hg.block _ h.lt (fun e => own_neB h.grd o (by decide) e.symm))
theorem GInv.setU {w wr : World} {co gs gp gpo gm gmo : Int} {tv u : Value} {G : Nat} (h : GInv w wr co gs gp gpo gm gmo tv u G) (x : Value) : GInv w (wr.setCell ⟨G, 6, none⟩ x) co gs gp gpo gm gmo tv x G :=
 ⟨h.bel.setCell (by have := h.hG; simp; omega) _, (Below.heap_setCell _ _ _ _ (by have := h.hG; simp; omega)).trans h.box, heap_setCell_same _ G 6 _ 110 _ h.grd, h.hG⟩
theorem GInv.tcells {w wr : World} {co gs gp gpo gm gmo : Int} {tv u : Value} {G : Nat} (h : GInv w wr co gs gp gpo gm gmo tv u G) : wr.cell? ⟨w.heap.size, 6, none⟩ = some tv := cell_of_row _ _ 6 _ 52 _ h.box
theorem GInv.gcells {w wr : World} {co gs gp gpo gm gmo : Int} {tv u : Value} {G : Nat} (h : GInv w wr co gs gp gpo gm gmo tv u G) : wr.cell? ⟨G, 0, none⟩ = some (.int .i64 co) /\ wr.cell? ⟨G, 6, none⟩ = some u := ⟨cell_of_row _ _ 0 _ 110 _ h.grd, cell_of_row _ _ 6 _ 110 _ h.grd⟩
theorem GInv.free {w wr : World} {co gs gp gpo gm gmo : Int} {tv u : Value} {G : Nat} (h : GInv w wr co gs gp gpo gm gmo tv u G) : ∀ j, wr.frozen? ⟨G, j, none⟩ = false := fun j => frozen_of_row _ _ j _ _ h.grd
theorem Tryz.info119 : (Tryz.prog.info? 119).map (fun i => (i.zero, i.size, i.bytes)) = some (some (.agg #[.int .i64 0, .slice none 0 0]), 2, 32) := by kernel_rfl
theorem new2 (w : World) (a b : Value) (t : TypeId) : ∀ j u, [a, b][j]? = some u -> (w.alloc (.cells #[a, b] t)).cell? ((⟨w.heap.size, 0, none⟩ : Addr).add j) = some u := by
 intro j u hj
 match j, hj with
 | 0, hj => simp at hj; subst hj; simp [Addr.add, go_sem]
 | 1, hj => simp at hj; subst hj; simp [Addr.add, go_sem]
theorem one2p (a : Int) (x : Option Addr) (n m : Nat) : ∀ u ∈ [Value.int .i64 a, .slice x n m], u.oneCell' = true := by
 intro u hu
 simp at hu
 rcases hu with rfl | rfl <;> rfl
set_option maxRecDepth 20000 in
set_option maxHeartbeats 8000000 in
theorem gridOf_any (t : Tb) {v : Value} {w : World} (h : RRowN 0 w v t.rs) (hs : SmT t) :
 Calls Tryz.prog 47 #[tbV t v] w fun e w' => GrdP t (tabB t) e w w' /\ Below w.heap.size w w' := by
 obtain ⟨ua, n, uc, rfl, hn, hr⟩ := h
 have hlen : n <= 1048576 := by rw [<- hn]; exact hs.1
 have HR : Hid (0 < n -> ∃ b off, ua = some ⟨b, off, none⟩ /\ 0 <= b /\ b < w.heap.size /\ ∀ i, i < n -> ∃ cs : List Value, cs.length = 2 /\ RwN 0 w cs (t.rs.getD i Rw.none) /\ ∀ j, j < 2 -> w.cell? ⟨b, off + i * 2 + j, none⟩ = cs[j]?) := hr
 have HS : Hid (∀ i, i < n -> SmW (t.rs.getD i Rw.none)) := hideP (by rw [<- hn]; exact hs.2)
 have HL : Hid (t.rs.length = n) := hideP hn
 have HV : Hid (tabB t = (decide (1 <= t.co) && decide (t.co <= 20) && glB t.gs t.gp t.gpo t.gm t.gmo && decide (n <= 200) && rowsB t.rs t.co n)) := hideP (by unfold tabB headB; rw [<- hn])
 have HG : Hid (∀ W, Calls Tryz.prog 72 #[glueV t.gs t.gp t.gpo t.gm t.gmo] W fun e w' => e = .returned (.bool (glB t.gs t.gp t.gpo t.gm t.gmo)) /\ Below W.heap.size W w') := hideP (fun W => implGlueOk_any _ _ _ _ _ W)
 have HNO : Hid (∀ w', tabB t = false -> GrdP t (tabB t) (.returned (.tuple #[.pointer none, .bool false])) w w') := hideP (fun w' hf => by rw [hf]; exact rfl)
 clear hr hs hn
 obtain ⟨co, gs, gp, gpo, gm, gmo, rs⟩ := t
 dsimp only at HR HS HV HG HNO HL ⊢
 by_cases e1 : co < 1
 ·go_enter Tryz.func47, Tryz.ntmps47
  go_wp2
  refine bodyPost_ret (v := .tuple #[.pointer none, .bool false]) (by simp [results, Tryz.results47, go_sem]) rfl ⟨HNO.out _ ?_, below1 _ _⟩
  rw [HV.out, decide_eq_false (show ¬ 1 <= co by omega)]
  simp
 by_cases e2 : 20 < co
 ·go_enter Tryz.func47, Tryz.ntmps47
  go_wp2
  refine bodyPost_ret (v := .tuple #[.pointer none, .bool false]) (by simp [results, Tryz.results47, go_sem]) rfl ⟨HNO.out _ ?_, below1 _ _⟩
  rw [HV.out, decide_eq_false (show ¬ co <= 20 by omega)]
  simp
 cases e3 : glB gs gp gpo gm gmo with
 | false =>
  rw [e3] at HG HV
  go_enter Tryz.func47, Tryz.ntmps47
  go_wp2_with fail
  refine (HG.out _).mono ?_
  rintro e w1 ⟨rfl, hb1⟩
  have hx1 : w.heap.size < w1.heap.size := by have := hb1.size; simp at this; omega
  have B1 : Hid (Below w.heap.size w w1) := hideP (below_more (below1 _ _) hb1 (by simp))
  obtain ⟨hc1, hf1⟩ := bcell hb1
  simp only [World.size_alloc, World.size_setCell] at hc1 hf1
  clear hb1
  go_wp2
  refine bodyPost_ret (v := .tuple #[.pointer none, .bool false]) (by simp [results, Tryz.results47, go_sem]) rfl ⟨HNO.out _ ?_, B1.out⟩
  rw [HV.out]
  simp
 | true =>
  rw [e3] at HG HV
  by_cases e4 : 200 < n
  ·have e5 : (200 : Int) < n := by omega
   go_enter Tryz.func47, Tryz.ntmps47
   go_wp2_with fail
   refine (HG.out _).mono ?_
   rintro e w1 ⟨rfl, hb1⟩
   have hx1 : w.heap.size < w1.heap.size := by have := hb1.size; simp at this; omega
   have B1 : Hid (Below w.heap.size w w1) := hideP (below_more (below1 _ _) hb1 (by simp))
   obtain ⟨hc1, hf1⟩ := bcell hb1
   simp only [World.size_alloc, World.size_setCell] at hc1 hf1
   clear hb1
   go_wp2
   refine bodyPost_ret (v := .tuple #[.pointer none, .bool false]) (by simp [results, Tryz.results47, go_sem]) rfl ⟨HNO.out _ ?_, B1.out⟩
   rw [HV.out, decide_eq_false (show ¬ n <= 200 by omega)]
   simp
  ·have e5 : ¬ (200 : Int) < n := by omega
   have HV2 : Hid (tabB ⟨co, gs, gp, gpo, gm, gmo, rs⟩ = rowsB rs co n) := hideP (by
    rw [HV.out, decide_eq_true (show 1 <= co by omega), decide_eq_true (show co <= 20 by omega), decide_eq_true (show n <= 200 by omega)]
    simp)
   clear HV
   obtain ⟨i0, hi0, hz0, hz1, hz2⟩ := info_parts Tryz.info119
   have HI : Hid (i0.bytes = 32) := hz2
   go_enter Tryz.func47, Tryz.ntmps47
   go_wp2_with fail
   refine (HG.out _).mono ?_
   rintro e w1 ⟨rfl, hb1⟩
   have hx1 : w.heap.size < w1.heap.size := by have := hb1.size; simp at this; omega
   have B1 : Hid (Below w.heap.size w w1 /\ w1.heap[w.heap.size]? = some (tbC co gs gp gpo gm gmo (.slice ua n uc))) := hideP ⟨below_more (below1 _ _) hb1 (by simp), (hb1.block _ (by simp)).trans (heap_alloc_new w _)⟩
   obtain ⟨hc1, hf1⟩ := bcell hb1
   simp only [World.size_alloc, World.size_setCell] at hc1 hf1
   clear hb1
   go_wp2
   clear hc1 hf1
   obtain ⟨G, hG⟩ := exq (w1.heap.size)
   go_loopw [37] (fun i wr => ∃ (k : Nat) (a : Option Addr) (c : Nat) (ls : List Ln), k <= n /\ i = .int .i64 k /\ Hid (rowsB rs co k = true) /\ Hid (wr.ownsRow w.heap.size 119 2 (.slice a k c) k (flatL ls) /\ GRows w wr rs ls k) /\ GInv w wr co gs gp gpo gm gmo (.slice ua n uc) (.slice a k c) G)
    (fun i _ => n - (intOf i).toNat)
   case atStart =>
    refine ⟨0, none, 0, [], by omega, rfl, hideP rfl, hideP ⟨World.ownsRow_nil _ _ _ _, rfl, fun i hi => absurd hi (by omega)⟩, ?_⟩
    rw [hG]
    exact ⟨B1.out.1.alloc B1.out.1.size _, (Below.heap_alloc _ _ _ hx1).trans B1.out.2, heap_alloc_new w1 _, hx1⟩
   case round =>
    rw [<- hG]
    clear hG hx1
    obtain ⟨k, a, c, ls, hk, rfl, HM, HO, GI0⟩ := hrel
    have GI := hideP GI0
    have t6 := GI0.tcells
    obtain ⟨q0, q6⟩ := GI0.gcells
    have fz := GI0.free
    have hGl := GI0.lt
    have hGw := GI0.hG
    clear GI0
    by_cases hkn : k < n
    ·have hki : (k : Int) < (n : Int) := by omega
     obtain ⟨b, off, rfl, hlo, hb, hc⟩ := HR (by omega)
     obtain ⟨cs, hcl, hRel, hcj⟩ := hc k hkn
     have hsk := HS k hkn
     obtain ⟨t, ht⟩ := exq (rs.getD k Rw.none)
     rw [<- ht] at hRel hsk
     have HT : Hid (t = rs.getD k Rw.none) := ht
     obtain ⟨u, hcs, hu⟩ := hRel
     obtain ⟨va, vn, vc, rfl⟩ : ∃ a n c, u = .slice a n c := by obtain ⟨a, c, rfl⟩ := hu.shape; exact ⟨_, _, _, rfl⟩
     have HC : Hid (∀ W : World, Below w.heap.size w W -> Calls Tryz.prog 73 #[rwV t (.slice va vn vc), .int .i64 co] W fun e w' => LanP t (rowB t co) e w W w' /\ Below W.heap.size W w') := hideP (fun W hW => laneOf_any t co hu hW hsk (by omega) (by omega))
     clear hu hsk
     rw [show cs = _ from hcs] at hcj
     have QA : Hid (∀ x, Below w.heap.size w x -> x.cell? ⟨b, off + k * 2, none⟩ = some (.slice va vn vc) /\ x.cell? ⟨b, off + k * 2 + 1, none⟩ = some (.int .i64 t.ru)) := hideP (fun x hx => ⟨(hx.cell (p := ⟨b, off + k * 2 + 0, none⟩) hb).trans (hcj 0 (by omega)), (hx.cell (p := ⟨b, off + k * 2 + 1, none⟩) hb).trans (hcj 1 (by omega))⟩)
     clear hc hcj hcl ht hcs
     obtain ⟨R, hR⟩ := exq (rowB t co)
     have HC2 : Hid (∀ W : World, Below w.heap.size w W -> Calls Tryz.prog 73 #[rwV t (.slice va vn vc), .int .i64 co] W fun e w' => ∃ r a2 n2 c2, e = .returned (.tuple #[.agg #[.int .i64 r, .slice a2 n2 c2], .bool R]) /\ (R = true -> r = t.ru /\ ∃ ps, w'.ownsRow w.heap.size 122 5 (.slice a2 n2 c2) t.cs.length (flatP ps) /\ PlOk w t.cs ps t.cs.length) /\ Below W.heap.size W w') := hideP (fun W hW => by
      refine (HC.out W hW).mono ?_
      rintro e w' ⟨he, hb'⟩
      rw [<- hR] at he
      cases R with
      | false =>
       obtain ⟨r, a2, n2, c2, rfl⟩ := he
       exact ⟨r, a2, n2, c2, rfl, (fun h => by cases h), hb'⟩
      | true =>
       obtain ⟨a2, c2, ps, rfl, ho, hp⟩ := he
       exact ⟨t.ru, a2, _, c2, rfl, fun _ => ⟨rfl, ps, ownG_base ho hW.size, hp⟩, hb'⟩)
     have HRD := hideP hR
     have HRT : Hid (rowsB rs co (k + 1) = R) := hideP (by unfold rowsB; rw [HM.out, <- HT.out, <- hR, Bool.true_and])
     have HTR : Hid (∀ (W : World) (r : Int) (a2 : Option Addr) (n2 c2 : Nat), GRows w W rs ls k -> (r = t.ru /\ ∃ ps, W.ownsRow w.heap.size 122 5 (.slice a2 n2 c2) t.cs.length (flatP ps) /\ PlOk w t.cs ps t.cs.length) -> GRows w W rs (ls ++ [⟨r, .slice a2 n2 c2⟩]) (k + 1)) := hideP (fun W r a2 n2 c2 h1 h2 => h1.snoc _ (by rw [<- HT.out]; exact h2))
     have HTX : Hid (∀ (W W' : World) (r : Int) (a2 : Option Addr) (n2 c2 : Nat), (∀ v n xs, W.ownsRow w.heap.size 122 5 v n xs -> W'.ownsRow w.heap.size 122 5 v n xs) -> (r = t.ru /\ ∃ ps, W.ownsRow w.heap.size 122 5 (.slice a2 n2 c2) t.cs.length (flatP ps) /\ PlOk w t.cs ps t.cs.length) -> (r = t.ru /\ ∃ ps, W'.ownsRow w.heap.size 122 5 (.slice a2 n2 c2) t.cs.length (flatP ps) /\ PlOk w t.cs ps t.cs.length)) := hideP (fun W W' r a2 n2 c2 hk h => by
      obtain ⟨h1, ps, h2, h3⟩ := h
      exact ⟨h1, ps, hk _ _ _ h2, h3⟩)
     obtain ⟨INR, hINR⟩ : ∃ INR : World -> Int -> Option Addr -> Nat -> Nat -> Prop, INR = fun W r a2 n2 c2 => (r = t.ru /\ ∃ ps, W.ownsRow w.heap.size 122 5 (.slice a2 n2 c2) t.cs.length (flatP ps) /\ PlOk w t.cs ps t.cs.length) := ⟨_, rfl⟩
     have HC3 : Hid (∀ W : World, Below w.heap.size w W -> Calls Tryz.prog 73 #[rwV t (.slice va vn vc), .int .i64 co] W fun e w' => ∃ r a2 n2 c2, e = .returned (.tuple #[.agg #[.int .i64 r, .slice a2 n2 c2], .bool R]) /\ (R = true -> INR w' r a2 n2 c2) /\ Below W.heap.size W w') := by rw [hINR]; exact HC2
     have HTR3 : Hid (∀ (W : World) (r : Int) (a2 : Option Addr) (n2 c2 : Nat), GRows w W rs ls k -> INR W r a2 n2 c2 -> GRows w W rs (ls ++ [⟨r, .slice a2 n2 c2⟩]) (k + 1)) := by rw [hINR]; exact HTR
     have HTX3 : Hid (∀ (W W' : World) (r : Int) (a2 : Option Addr) (n2 c2 : Nat), (∀ v n xs, W.ownsRow w.heap.size 122 5 v n xs -> W'.ownsRow w.heap.size 122 5 v n xs) -> INR W r a2 n2 c2 -> INR W' r a2 n2 c2) := by rw [hINR]; exact HTX
     clear HC HC2 HTR HTX hINR hR HRD HT
     obtain ⟨rcs, ru⟩ := t
     simp only [rwV] at HC3 QA
     obtain ⟨L, hL⟩ := exq (flatL ls)
     have OL : Hid (wr.ownsRow w.heap.size 119 2 (.slice a k c) k L) := hideP (by rw [hL]; exact HO.out.1)
     have GR : Hid (GRows w wr rs ls k) := hideP HO.out.2
     have HLL := hideP hL
     clear hL HO
     have QS : Hid (∀ x, Below wr.heap.size wr x -> x.cell? ⟨b, off + k * 2, none⟩ = some (.slice va vn vc) /\ x.cell? ⟨b, off + k * 2 + 1, none⟩ = some (.int .i64 ru) /\ x.cell? ⟨w.heap.size, 6, none⟩ = some (.slice (some ⟨b, off, none⟩) n uc) /\ x.cell? ⟨G, 0, none⟩ = some (.int .i64 co)) := hideP (fun x hx => by
      have h1 := QA.out x (below_more GI.out.bel hx GI.out.bel.size)
      exact ⟨h1.1, h1.2, (GI.out.below hx).tcells, (GI.out.below hx).gcells.1⟩)
     have HOB : Hid (∀ j, (Value.slice a k c).ownBlock = some j -> j < wr.heap.size) := hideP (fun j hj => (World.ownsRow.lt OL.out _ hj).2)
     have hws : w.heap.size < wr.heap.size := by omega
     have hws2 : w.heap.size <= wr.heap.size := by omega
     go_wp2_with fail
     go_cut [6, 7] (fun s6 s7 W => ∃ (r : Int) (a2 : Option Addr) (n2 c2 p6 : Nat), s6 = .pointer (some ⟨p6, 0, none⟩) /\ s7 = .bool R /\ wr.heap.size <= p6 /\ Below wr.heap.size wr W /\ Hid (W.heap[p6]? = some (.cells #[.int .i64 r, .slice a2 n2 c2] 119 (0, 0))) /\ Hid (R = true -> INR W r a2 n2 c2))
     case first =>
      refine wp_region_held_drew (S := fun x => x.cell? ⟨b, off + k * 2, none⟩ = some (.slice va vn vc) /\ x.cell? ⟨b, off + k * 2 + 1, none⟩ = some (.int .i64 ru) /\ x.cell? ⟨w.heap.size, 6, none⟩ = some (.slice (some ⟨b, off, none⟩) n uc) /\ x.cell? ⟨G, 0, none⟩ = some (.int .i64 co)) (by kernel_rfl) (QS.out _ ((Below.refl _ _).drew)) (fun hS => ?_)
      refine wpAnyH_take (i := 0) (v := .pointer (some ⟨w.heap.size, 6, none⟩)) rfl (by kernel_rfl) (by kernel_rfl) (by kernel_rfl) (fun _ _ _ h => h) (Or.inl ⟨by first | rfl | go_simp, fun wx hx => by obtain ⟨hx0, hx1, hx2, hx3⟩ := hx; go_simp⟩) hS ?_
      try simp only [sput]
      refine wpAnyH_take (i := 1) (v := .slice (some ⟨b, off, none⟩) n uc) rfl (by kernel_rfl) (by kernel_rfl) (by kernel_rfl) (fun _ _ _ h => h) (Or.inl ⟨by first | rfl | go_simp, fun wx hx => by obtain ⟨hx0, hx1, hx2, hx3⟩ := hx; go_simp⟩) hS ?_
      try simp only [sput]
      refine wpAnyH_take (i := 2) (v := .int .i64 k) rfl (by kernel_rfl) (by kernel_rfl) (by kernel_rfl) (fun _ _ _ h => h) (Or.inl ⟨by first | rfl | go_simp, fun wx hx => by obtain ⟨hx0, hx1, hx2, hx3⟩ := hx; go_simp⟩) hS ?_
      try simp only [sput]
      refine wpAnyH_take (i := 3) (v := .pointer (some ⟨b, off + k * 2, none⟩)) rfl (by kernel_rfl) (by kernel_rfl) (by kernel_rfl) (fun _ _ _ h => h) (Or.inl ⟨by first | rfl | go_simp, fun wx hx => by obtain ⟨hx0, hx1, hx2, hx3⟩ := hx; go_simp⟩) hS ?_
      try simp only [sput]
      refine wpAnyH_take (i := 4) (v := .agg #[.slice va vn vc, .int .i64 ru]) rfl (by kernel_rfl) (by kernel_rfl) (by kernel_rfl) (fun _ _ _ h => h) (Or.inl ⟨by first | rfl | go_simp, fun wx hx => by obtain ⟨hx0, hx1, hx2, hx3⟩ := hx; go_simp⟩) hS ?_
      try simp only [sput]
      refine wpAnyH_take (i := 5) (v := .pointer (some ⟨G, 0, none⟩)) rfl (by kernel_rfl) (by kernel_rfl) (by kernel_rfl) (fun _ _ _ h => h) (Or.inl ⟨by first | rfl | go_simp, fun wx hx => by obtain ⟨hx0, hx1, hx2, hx3⟩ := hx; go_simp⟩) hS ?_
      try simp only [sput]
      refine wpAnyH_take (i := 6) (v := .pointer (some ⟨G, 0, none⟩)) rfl (by kernel_rfl) (by kernel_rfl) (by kernel_rfl) (fun _ _ _ h => h) (Or.inl ⟨by first | rfl | go_simp, fun wx hx => by obtain ⟨hx0, hx1, hx2, hx3⟩ := hx; go_simp⟩) hS ?_
      try simp only [sput]
      refine wpAnyH_take (i := 7) (v := .pointer (some ⟨G, 0, none⟩)) rfl (by kernel_rfl) (by kernel_rfl) (by kernel_rfl) (fun _ _ _ h => h) (Or.inl ⟨by first | rfl | go_simp, fun wx hx => by obtain ⟨hx0, hx1, hx2, hx3⟩ := hx; go_simp⟩) hS ?_
      try simp only [sput]
      refine wpAnyH_take (i := 8) (v := .int .i64 co) rfl (by kernel_rfl) (by kernel_rfl) (by kernel_rfl) (fun _ _ _ h => h) (Or.inl ⟨by first | rfl | go_simp, fun wx hx => by obtain ⟨hx0, hx1, hx2, hx3⟩ := hx; go_simp⟩) hS ?_
      try simp only [sput]
      refine wpAnyH_ready (rs := [9, 13]) (by kernel_rfl) (by simp) ?_
      refine AllReadyH.cons rfl (fun K hK => ?_) (AllReadyH.cons rfl (fun K hK => ?_) AllReadyH.nil)
      ·rw [if_pos (by first | rfl | go_simp)]
       go_simp
       go_at_call 73
       refine (HC3.out _ GI.out.bel.drew).mono ?_
       rintro e w2 ⟨r, a2, n2, c2, rfl, hin, hb2⟩
       have B2 : Below wr.heap.size wr w2 := below_more ((Below.refl _ _).drew) hb2 (Nat.le_refl _)
       have HIN := hideP hin
       clear hb2 hin
       refine hK.out _ _ (QS.out _ B2) (fun hS => ?_)
       try simp only [sput]
       clear hK K
       refine wpAnyH_take (i := 10) (v := .tuple #[.agg #[.int .i64 r, .slice a2 n2 c2], .bool R]) rfl (by kernel_rfl) (by kernel_rfl) (by kernel_rfl) (fun _ _ _ h => h) (Or.inl ⟨by first | rfl | go_simp, fun wx hx => by obtain ⟨hx0, hx1, hx2, hx3⟩ := hx; go_simp⟩) hS ?_
       try simp only [sput]
       refine wpAnyH_take (i := 11) (v := .agg #[.int .i64 r, .slice a2 n2 c2]) rfl (by kernel_rfl) (by kernel_rfl) (by kernel_rfl) (fun _ _ _ h => h) (Or.inl ⟨by first | rfl | go_simp, fun wx hx => by obtain ⟨hx0, hx1, hx2, hx3⟩ := hx; go_simp⟩) hS ?_
       try simp only [sput]
       refine wpAnyH_take (i := 12) (v := .bool R) rfl (by kernel_rfl) (by kernel_rfl) (by kernel_rfl) (fun _ _ _ h => h) (Or.inl ⟨by first | rfl | go_simp, fun wx hx => by obtain ⟨hx0, hx1, hx2, hx3⟩ := hx; go_simp⟩) hS ?_
       try simp only [sput]
       refine wpAnyH_ready (rs := [13]) (by kernel_rfl) (by simp) ?_
       refine AllReadyH.cons rfl (fun K hK => ?_) AllReadyH.nil
       rw [if_pos (by first | rfl | go_simp)]
       go_simp
       refine hK.out _ _ (QS.out _ (B2.alloc B2.size _)) (fun hS => ?_)
       try simp only [sput]
       clear hK K
       refine wpAnyH_ready (rs := [14]) (by kernel_rfl) (by simp) ?_
       refine AllReadyH.cons rfl (fun K hK => ?_) AllReadyH.nil
       rw [if_pos (by first | rfl | go_simp)]
       go_simp
       refine hK.out _ _ (QS.out _ (B2.alloc B2.size _)) (fun hS => ?_)
       try simp only [sput]
       clear hK K
       refine wpAnyH_take (i := 15) (v := .bool R) rfl (by kernel_rfl) (by kernel_rfl) (by kernel_rfl) (fun _ _ _ h => h) (Or.inl ⟨by first | rfl | go_simp, fun wx hx => by obtain ⟨hx0, hx1, hx2, hx3⟩ := hx; go_simp⟩) hS ?_
       try simp only [sput]
       refine wpAnyH_done (by kernel_rfl) ?_ _
       obtain ⟨W, hW⟩ := exq (w2.alloc (.cells #[.int .i64 r, .slice a2 n2 c2] 119))
       rw [<- hW]
       have BW : Below wr.heap.size wr W := by rw [hW]; exact B2.alloc B2.size _
       have PW : Hid (W.heap[w2.heap.size]? = some (.cells #[.int .i64 r, .slice a2 n2 c2] 119 (0, 0))) := hideP (by rw [hW]; exact heap_alloc_new w2 _)
       have INW : Hid (R = true -> INR W r a2 n2 c2) := hideP (fun h => HTX3.out w2 W r a2 n2 c2 (fun v n xs o => by rw [hW]; exact o.alloc _) (HIN.out h))
       have hp6a : wr.heap.size <= w2.heap.size := B2.size
       obtain ⟨p6, hp6⟩ := exq (w2.heap.size)
       rw [<- hp6] at PW hp6a ⊢
       clear hW hp6 HIN B2 hS
       go_wp2
       go_meet
       case rel => exact ⟨r, a2, n2, c2, p6, rfl, rfl, hp6a, BW, PW, INW⟩
      ·rw [if_pos (by first | rfl | go_simp)]
       go_simp
       have BA : Below wr.heap.size wr (wr.alloc (.cells #[.int .i64 0, .slice none 0 0] 119)).drew := ((Below.refl _ _).alloc (Nat.le_refl _) _).drew
       refine hK.out _ _ (QS.out _ BA) (fun hS => ?_)
       try simp only [sput]
       clear hK K
       refine wpAnyH_ready (rs := [9]) (by kernel_rfl) (by simp) ?_
       refine AllReadyH.cons rfl (fun K hK => ?_) AllReadyH.nil
       rw [if_pos (by first | rfl | go_simp)]
       go_simp
       go_at_call 73
       refine (HC3.out _ (below_more GI.out.bel BA GI.out.bel.size)).mono ?_
       rintro e w2 ⟨r, a2, n2, c2, rfl, hin, hb2⟩
       have B2 : Below wr.heap.size wr w2 := below_more BA hb2 (by simp)
       have P2 : w2.heap[wr.heap.size]? = some (.cells #[.int .i64 0, .slice none 0 0] 119 (0, 0)) := (hb2.block _ (by simp)).trans (heap_alloc_new wr _)
       have z0 : w2.cell? ⟨wr.heap.size, 0, none⟩ = some (.int .i64 0) := cell_of_row _ _ 0 _ 119 _ P2
       have z1 : w2.cell? ⟨wr.heap.size, 1, none⟩ = some (.slice none 0 0) := cell_of_row _ _ 1 _ 119 _ P2
       have zf : ∀ j, w2.frozen? ⟨wr.heap.size, j, none⟩ = false := fun j => frozen_of_row _ _ j _ _ P2
       have hw2 : wr.heap.size < w2.heap.size := (glt P2)
       have HIN := hideP hin
       have HP2 := hideP P2
       clear hb2 hin P2
       refine hK.out _ _ (QS.out _ B2) (fun hS => ?_)
       try simp only [sput]
       clear hK K
       refine wpAnyH_take (i := 10) (v := .tuple #[.agg #[.int .i64 r, .slice a2 n2 c2], .bool R]) rfl (by kernel_rfl) (by kernel_rfl) (by kernel_rfl) (fun _ _ _ h => h) (Or.inl ⟨by first | rfl | go_simp, fun wx hx => by obtain ⟨hx0, hx1, hx2, hx3⟩ := hx; go_simp⟩) hS ?_
       try simp only [sput]
       refine wpAnyH_take (i := 11) (v := .agg #[.int .i64 r, .slice a2 n2 c2]) rfl (by kernel_rfl) (by kernel_rfl) (by kernel_rfl) (fun _ _ _ h => h) (Or.inl ⟨by first | rfl | go_simp, fun wx hx => by obtain ⟨hx0, hx1, hx2, hx3⟩ := hx; go_simp⟩) hS ?_
       try simp only [sput]
       refine wpAnyH_take (i := 12) (v := .bool R) rfl (by kernel_rfl) (by kernel_rfl) (by kernel_rfl) (fun _ _ _ h => h) (Or.inl ⟨by first | rfl | go_simp, fun wx hx => by obtain ⟨hx0, hx1, hx2, hx3⟩ := hx; go_simp⟩) hS ?_
       try simp only [sput]
       refine wpAnyH_ready (rs := [14]) (by kernel_rfl) (by simp) ?_
       refine AllReadyH.cons rfl (fun K hK => ?_) AllReadyH.nil
       rw [if_pos (by first | rfl | go_simp)]
       go_simp
       obtain ⟨W, hW⟩ := exq ((w2.setCell ⟨wr.heap.size, 0, none⟩ (.int .i64 r)).setCell ⟨wr.heap.size, 1, none⟩ (.slice a2 n2 c2))
       rw [<- hW]
       have BW : Below wr.heap.size wr W := by rw [hW]; exact (B2.setCell (Nat.le_refl _) _).setCell (Nat.le_refl _) _
       have PW : Hid (W.heap[wr.heap.size]? = some (.cells #[.int .i64 r, .slice a2 n2 c2] 119 (0, 0))) := hideP (by rw [hW]; exact heap_setCell_same _ wr.heap.size 1 _ 119 _ (heap_setCell_same _ wr.heap.size 0 _ 119 _ HP2.out))
       have INW : Hid (R = true -> INR W r a2 n2 c2) := hideP (fun h => HTX3.out w2 W r a2 n2 c2 (fun v n xs o => by rw [hW]; exact own_setR (own_setR o (own_neB HP2.out o (by decide)) 0 _) (own_neB HP2.out o (by decide)) 1 _) (HIN.out h))
       refine hK.out _ _ (QS.out _ BW) (fun hS => ?_)
       try simp only [sput]
       clear hK K
       refine wpAnyH_take (i := 15) (v := .bool R) rfl (by kernel_rfl) (by kernel_rfl) (by kernel_rfl) (fun _ _ _ h => h) (Or.inl ⟨by first | rfl | go_simp, fun wx hx => by obtain ⟨hx0, hx1, hx2, hx3⟩ := hx; go_simp⟩) hS ?_
       try simp only [sput]
       refine wpAnyH_done (by kernel_rfl) ?_ _
       obtain ⟨p6, hp6⟩ := exq (wr.heap.size)
       have hp6a : wr.heap.size <= p6 := by omega
       rw [<- hp6] at PW ⊢
       clear hW hp6 HIN HP2 B2 hS z0 z1 zf hw2 BA
       go_wp2
       go_meet
       case rel => exact ⟨r, a2, n2, c2, p6, rfl, rfl, hp6a, BW, PW, INW⟩
     case rest =>
      obtain ⟨r, a2, n2, c2, p6, rfl, rfl, hp6a, BW, PW, INW⟩ := hcut
      obtain ⟨W, hW⟩ : ∃ W : World, W = wc := ⟨_, rfl⟩
      rw [<- hW] at BW PW INW ⊢
      clear hW
      have GIW := hideP (GI.out.below BW)
      have OLW := hideP (ownG_below OL.out BW)
      have GRW := hideP (GR.out.below BW)
      obtain ⟨m0, m1⟩ : W.cell? ⟨p6, 0, none⟩ = some (.int .i64 r) /\ W.cell? ⟨p6, 1, none⟩ = some (.slice a2 n2 c2) := ⟨cell_of_row _ _ 0 _ 119 _ PW.out, cell_of_row _ _ 1 _ 119 _ PW.out⟩
      have q6W := GIW.out.gcells.2
      have fzW := GIW.out.free
      have hGW := GIW.out.lt
      have hpW : p6 < W.heap.size := (glt PW.out)
      have HPN : Hid ((Value.slice a k c).ownBlock ≠ some p6) := hideP (fun e => by have := HOB.out _ e; omega)
      clear t6 q0 q6 fz QS GI OL GR
      cases R with
      | false =>
       go_wp2
       refine bodyPost_ret (v := .tuple #[.pointer none, .bool false]) (by simp [results, Tryz.results47, go_sem]) rfl ⟨HNO.out _ ?_, GIW.out.bel⟩
       rw [HV2.out, rowsB_down (show k + 1 <= n by omega) HRT.out]
      | true =>
       go_wp2_with fail
       have HSX : Hid (∀ X : World, X.heap[p6]? = W.heap[p6]? -> X.cell? ⟨p6, 0, none⟩ = some (.int .i64 r) /\ X.cell? ⟨p6, 1, none⟩ = some (.slice a2 n2 c2)) := hideP (fun X hX => ⟨cell_of_row _ _ 0 _ 119 _ (hX.trans PW.out), cell_of_row _ _ 1 _ 119 _ (hX.trans PW.out)⟩)
       obtain ⟨WB, hWB⟩ := exq ((W.alloc (.cells #[.int .i64 r, .slice a2 n2 c2] 119)).drew)
       have BB : Below W.heap.size W WB := by rw [hWB]; exact ((Below.refl _ _).alloc (Nat.le_refl _) _).drew
       have GIB := hideP (GIW.out.below BB)
       have OLB := hideP (ownG_below OLW.out BB)
       have GRB := hideP (GRW.out.below BB)
       have INB : Hid (INR WB r a2 n2 c2) := hideP (HTX3.out W WB r a2 n2 c2 (fun v n xs o => ownG_below o BB) (INW.out (by first | rfl | trivial)))
       have hsB : WB.heap.size = W.heap.size + 1 := by rw [hWB]; show (W.alloc _).heap.size = _; rw [World.size_alloc]
       have HSB := hideP (HSX.out WB (BB.block _ hpW))
       have NB : Hid (∀ j u, [Value.int .i64 r, .slice a2 n2 c2][j]? = some u -> WB.cell? ((⟨W.heap.size, 0, none⟩ : Addr).add j) = some u) := hideP (by rw [hWB]; exact new2 W _ _ 119)
       have q6B := GIB.out.gcells.2
       have hbW : w.heap.size <= WB.heap.size := GIB.out.bel.size
       refine wp_region_held_drew (S := fun x => x.cell? ⟨p6, 0, none⟩ = some (.int .i64 r) /\ x.cell? ⟨p6, 1, none⟩ = some (.slice a2 n2 c2)) (by kernel_rfl) (HSX.out W.drew rfl) (fun hS => ?_)
       refine wpAnyH_take (i := 0) (v := .pointer (some ⟨G, 0, none⟩)) rfl (by kernel_rfl) (by kernel_rfl) (by kernel_rfl) (fun _ _ _ h => h) (Or.inl ⟨by first | rfl | go_simp, fun wx hx => by obtain ⟨hx0, hx1⟩ := hx; go_simp⟩) hS ?_
       try simp only [sput]
       refine wpAnyH_take (i := 1) (v := .pointer (some ⟨G, 0, none⟩)) rfl (by kernel_rfl) (by kernel_rfl) (by kernel_rfl) (fun _ _ _ h => h) (Or.inl ⟨by first | rfl | go_simp, fun wx hx => by obtain ⟨hx0, hx1⟩ := hx; go_simp⟩) hS ?_
       try simp only [sput]
       refine wpAnyH_take (i := 2) (v := .pointer (some ⟨G, 0, none⟩)) rfl (by kernel_rfl) (by kernel_rfl) (by kernel_rfl) (fun _ _ _ h => h) (Or.inl ⟨by first | rfl | go_simp, fun wx hx => by obtain ⟨hx0, hx1⟩ := hx; go_simp⟩) hS ?_
       try simp only [sput]
       refine wpAnyH_take (i := 3) (v := .pointer (some ⟨G, 6, none⟩)) rfl (by kernel_rfl) (by kernel_rfl) (by kernel_rfl) (fun _ _ _ h => h) (Or.inl ⟨by first | rfl | go_simp, fun wx hx => by obtain ⟨hx0, hx1⟩ := hx; go_simp⟩) hS ?_
       try simp only [sput]
       refine wpAnyH_take (i := 5) (v := .agg #[.int .i64 r, .slice a2 n2 c2]) rfl (by kernel_rfl) (by kernel_rfl) (by kernel_rfl) (fun _ _ _ h => h) (Or.inl ⟨by first | rfl | go_simp, fun wx hx => by obtain ⟨hx0, hx1⟩ := hx; go_simp⟩) hS ?_
       try simp only [sput]
       refine wpAnyH_ready (rs := [4, 6]) (by kernel_rfl) (by simp) ?_
       refine AllReadyH.cons rfl (fun K hK => ?_) (AllReadyH.cons rfl (fun K hK => ?_) AllReadyH.nil)
       ·rw [if_pos (by first | rfl | go_simp)]
        go_simp
        refine hK.out _ _ (HSX.out W.drew rfl) (fun hS => ?_)
        try simp only [sput]
        clear hK K
        refine wpAnyH_ready (rs := [6]) (by kernel_rfl) (by simp) ?_
        refine AllReadyH.cons rfl (fun K hK => ?_) AllReadyH.nil
        rw [if_pos (by first | rfl | go_simp)]
        go_simp
        refine hK.out _ _ (by rw [<- hWB]; exact HSB.out) (fun hS => ?_)
        try simp only [sput]
        clear hK K
        refine wpAnyH_ready (rs := [7]) (by kernel_rfl) (by simp) ?_
        refine AllReadyH.cons rfl (fun K hK => ?_) AllReadyH.nil
        rw [if_pos (by first | rfl | go_simp)]
        rw [<- hWB]
        refine wp_append_own _ _ _ 108 rfl w.heap.size 119 i0 (.agg #[.int .i64 0, .slice none 0 0]) 2 32 Tryz.underlying108 hi0 hz0 hz1 HI.out rfl (by decide) (.slice a k c) k L rfl OLB.out ⟨W.heap.size, 0, none⟩ 1 1 [.int .i64 r, .slice a2 n2 c2] rfl rfl NB.out (one2p _ _ _ _) (by unfold maxLen; omega) (by omega) hbW ?_
        intro v6 w6 ho6 hg6 hn6
        obtain ⟨u6, d6, rfl⟩ := ownG_shape ho6
        have GI6 := hideP (GIB.out.grown OLB.out hg6)
        have GR6 := hideP (GRB.out.grown OLB.out hg6)
        have IN6 : Hid (INR w6 r a2 n2 c2) := hideP (HTX3.out WB w6 r a2 n2 c2 (fun v n xs o => World.ownsRow.kept o hg6 (ownG_ne o OLB.out (by decide))) INB.out)
        have O6 := hideP ho6
        have hb6 : w6.heap[p6]? = W.heap[p6]? := (hg6.block p6 (by omega) (fun e => HPN.out e.symm)).trans (BB.block _ hpW)
        have T6 := hideP (HSX.out w6 hb6)
        have hGp : ¬ p6 = G := by omega
        have T7 := hideP (HSX.out (w6.setCell ⟨G, 6, none⟩ (.slice u6 (k + 1) d6)) ((Below.heap_setCell _ _ _ _ (by simp; omega)).trans hb6))
        have q66 := GI6.out.gcells.2
        have fz6 := GI6.out.free
        have hG6 := GI6.out.lt
        clear ho6 hg6 hn6 hb6
        refine hK.out _ _ (T6.out) (fun hS => ?_)
        try simp only [sput]
        clear hK K
        refine wpAnyH_take (i := 8) (v := .pointer (some ⟨G, 0, none⟩)) rfl (by kernel_rfl) (by kernel_rfl) (by kernel_rfl) (fun _ _ _ h => h) (Or.inl ⟨by first | rfl | go_simp, fun wx hx => by obtain ⟨hx0, hx1⟩ := hx; go_simp⟩) hS ?_
        try simp only [sput]
        refine wpAnyH_take (i := 9) (v := .pointer (some ⟨G, 6, none⟩)) rfl (by kernel_rfl) (by kernel_rfl) (by kernel_rfl) (fun _ _ _ h => h) (Or.inl ⟨by first | rfl | go_simp, fun wx hx => by obtain ⟨hx0, hx1⟩ := hx; go_simp⟩) hS ?_
        try simp only [sput]
        refine wpAnyH_ready (rs := [10]) (by kernel_rfl) (by simp) ?_
        refine AllReadyH.cons rfl (fun K hK => ?_) AllReadyH.nil
        rw [if_pos (by first | rfl | go_simp)]
        go_simp
        refine hK.out _ _ (T7.out) (fun hS => ?_)
        try simp only [sput]
        clear hK K
        refine wpAnyH_done (by kernel_rfl) ?_ _
        have HFIN : Hid ((w6.setCell ⟨G, 6, none⟩ (.slice u6 (k + 1) d6)).ownsRow w.heap.size 119 2 (.slice u6 (k + 1) d6) (k + 1) (flatL (ls ++ [⟨r, .slice a2 n2 c2⟩])) /\ GRows w (w6.setCell ⟨G, 6, none⟩ (.slice u6 (k + 1) d6)) rs (ls ++ [⟨r, .slice a2 n2 c2⟩]) (k + 1)) := hideP (by
         refine ⟨?_, (HTR3.out w6 r a2 n2 c2 GR6.out IN6.out).set GI6.out.grd (by decide) 6 _⟩
         rw [flatL_snoc, <- HLL.out]
         exact own_setR O6.out (own_neB GI6.out.grd O6.out (by decide)) 6 _)
        have GI7 := hideP (GI6.out.setU (.slice u6 (k + 1) d6))
        clear q66 fz6 hG6 hS T6 T7 GI6 GR6 IN6 O6 m0 m1 q6W fzW q6B
        go_wp2
        go_roundw
        case rel => exact ⟨k + 1, u6, d6, ls ++ [⟨r, .slice a2 n2 c2⟩], by omega, by go_num, HRT, HFIN, GI7.out⟩
        case measure => simp [intOf]; omega
       ·rw [if_pos (by first | rfl | go_simp)]
        go_simp
        refine hK.out _ _ (by rw [<- hWB]; exact HSB.out) (fun hS => ?_)
        try simp only [sput]
        clear hK K
        refine wpAnyH_ready (rs := [4]) (by kernel_rfl) (by simp) ?_
        refine AllReadyH.cons rfl (fun K hK => ?_) AllReadyH.nil
        rw [if_pos (by first | rfl | go_simp)]
        go_simp
        refine hK.out _ _ (by rw [<- hWB]; exact HSB.out) (fun hS => ?_)
        try simp only [sput]
        clear hK K
        refine wpAnyH_ready (rs := [7]) (by kernel_rfl) (by simp) ?_
        refine AllReadyH.cons rfl (fun K hK => ?_) AllReadyH.nil
        rw [if_pos (by first | rfl | go_simp)]
        rw [<- hWB]
        refine wp_append_own _ _ _ 108 rfl w.heap.size 119 i0 (.agg #[.int .i64 0, .slice none 0 0]) 2 32 Tryz.underlying108 hi0 hz0 hz1 HI.out rfl (by decide) (.slice a k c) k L rfl OLB.out ⟨W.heap.size, 0, none⟩ 1 1 [.int .i64 r, .slice a2 n2 c2] rfl rfl NB.out (one2p _ _ _ _) (by unfold maxLen; omega) (by omega) hbW ?_
        intro v6 w6 ho6 hg6 hn6
        obtain ⟨u6, d6, rfl⟩ := ownG_shape ho6
        have GI6 := hideP (GIB.out.grown OLB.out hg6)
        have GR6 := hideP (GRB.out.grown OLB.out hg6)
        have IN6 : Hid (INR w6 r a2 n2 c2) := hideP (HTX3.out WB w6 r a2 n2 c2 (fun v n xs o => World.ownsRow.kept o hg6 (ownG_ne o OLB.out (by decide))) INB.out)
        have O6 := hideP ho6
        have hb6 : w6.heap[p6]? = W.heap[p6]? := (hg6.block p6 (by omega) (fun e => HPN.out e.symm)).trans (BB.block _ hpW)
        have T6 := hideP (HSX.out w6 hb6)
        have hGp : ¬ p6 = G := by omega
        have T7 := hideP (HSX.out (w6.setCell ⟨G, 6, none⟩ (.slice u6 (k + 1) d6)) ((Below.heap_setCell _ _ _ _ (by simp; omega)).trans hb6))
        have q66 := GI6.out.gcells.2
        have fz6 := GI6.out.free
        have hG6 := GI6.out.lt
        clear ho6 hg6 hn6 hb6
        refine hK.out _ _ (T6.out) (fun hS => ?_)
        try simp only [sput]
        clear hK K
        refine wpAnyH_take (i := 8) (v := .pointer (some ⟨G, 0, none⟩)) rfl (by kernel_rfl) (by kernel_rfl) (by kernel_rfl) (fun _ _ _ h => h) (Or.inl ⟨by first | rfl | go_simp, fun wx hx => by obtain ⟨hx0, hx1⟩ := hx; go_simp⟩) hS ?_
        try simp only [sput]
        refine wpAnyH_take (i := 9) (v := .pointer (some ⟨G, 6, none⟩)) rfl (by kernel_rfl) (by kernel_rfl) (by kernel_rfl) (fun _ _ _ h => h) (Or.inl ⟨by first | rfl | go_simp, fun wx hx => by obtain ⟨hx0, hx1⟩ := hx; go_simp⟩) hS ?_
        try simp only [sput]
        refine wpAnyH_ready (rs := [10]) (by kernel_rfl) (by simp) ?_
        refine AllReadyH.cons rfl (fun K hK => ?_) AllReadyH.nil
        rw [if_pos (by first | rfl | go_simp)]
        go_simp
        refine hK.out _ _ (T7.out) (fun hS => ?_)
        try simp only [sput]
        clear hK K
        refine wpAnyH_done (by kernel_rfl) ?_ _
        have HFIN : Hid ((w6.setCell ⟨G, 6, none⟩ (.slice u6 (k + 1) d6)).ownsRow w.heap.size 119 2 (.slice u6 (k + 1) d6) (k + 1) (flatL (ls ++ [⟨r, .slice a2 n2 c2⟩])) /\ GRows w (w6.setCell ⟨G, 6, none⟩ (.slice u6 (k + 1) d6)) rs (ls ++ [⟨r, .slice a2 n2 c2⟩]) (k + 1)) := hideP (by
         refine ⟨?_, (HTR3.out w6 r a2 n2 c2 GR6.out IN6.out).set GI6.out.grd (by decide) 6 _⟩
         rw [flatL_snoc, <- HLL.out]
         exact own_setR O6.out (own_neB GI6.out.grd O6.out (by decide)) 6 _)
        have GI7 := hideP (GI6.out.setU (.slice u6 (k + 1) d6))
        clear q66 fz6 hG6 hS T6 T7 GI6 GR6 IN6 O6 m0 m1 q6W fzW q6B
        go_wp2
        go_roundw
        case rel => exact ⟨k + 1, u6, d6, ls ++ [⟨r, .slice a2 n2 c2⟩], by omega, by go_num, HRT, HFIN, GI7.out⟩
        case measure => simp [intOf]; omega
    ·have hki : ¬ (k : Int) < (n : Int) := by omega
     obtain rfl : k = n := by omega
     go_wp2
     refine bodyPost_ret (v := .tuple #[.pointer (some ⟨G, 0, none⟩), .bool true]) (by simp [results, Tryz.results47, go_sem]) rfl ⟨?_, GI.out.bel⟩
     rw [HV2.out, HM.out]
     refine ⟨G, rfl, .slice a k c, ls, by omega, GI.out.grd, ?_, ?_⟩
     ·rw [HL.out]; exact HO.out.1
     ·rw [HL.out]; exact HO.out.2
def sumF (f : Nat -> Int) (a : Nat) : Nat -> Int
 | 0 => 0
 | n + 1 => sumF f a n + f (a + n)
theorem sumF_succ (f : Nat -> Int) (a n : Nat) : sumF f a (n + 1) = sumF f a n + f (a + n) := rfl
def acr (f : Nat -> Int) (g : Int) (a b : Nat) : Int := ((b : Int) - a) * g + sumF f a (b + 1 - a)
def Bd (f : Nat -> Int) : Prop := ∀ i, 0 <= f i /\ f i <= 21474836460
theorem sumF_bd {f : Nat -> Int} (h : Bd f) (a : Nat) : ∀ n : Nat, 0 <= sumF f a n /\ sumF f a n <= 21474836460 * n
 | 0 => ⟨Int.le_refl _, Int.le_refl _⟩
 | n + 1 => by
  have h1 := sumF_bd h a n
  have h2 := h (a + n)
  rw [sumF_succ]
  omega
theorem mul_bd {d g : Int} (h0 : 0 <= d) (h1 : d <= 19) (hg : -1073741823 <= g /\ g <= 1073741823) : -20401094637 <= d * g /\ d * g <= 20401094637 := by
 have h2 : d * g <= d * 1073741823 := Int.mul_le_mul_of_nonneg_left hg.2 h0
 have h3 : d * (-1073741823) <= d * g := Int.mul_le_mul_of_nonneg_left hg.1 h0
 omega
theorem acr_bd {f : Nat -> Int} {g : Int} {a b : Nat} (h : Bd f) (hg : -1073741823 <= g /\ g <= 1073741823) (hab : a <= b) (hb : b < 20) : -20401094637 <= acr f g a b /\ acr f g a b <= 449897823837 := by
 have h1 := sumF_bd h a (b + 1 - a)
 have h2 := mul_bd (d := (b : Int) - a) (by omega) (by omega) hg
 unfold acr
 omega
def upd (f : Nat -> Int) (k : Nat) (x : Int) : Nat -> Int := fun i => if i = k then x else f i
def grow (f : Nat -> Int) (g : Int) (a k : Nat) (nat : Int) : Int := f k + max (nat - acr f g a k) 0
theorem grow_bd {f : Nat -> Int} {g nat : Int} {a k : Nat} (h : Bd f) (hg : -1073741823 <= g /\ g <= 1073741823) (hn : nat <= 1073741823) (hab : a <= k) (hb : k < 20) : 0 <= grow f g a k nat /\ grow f g a k nat <= 21474836460 := by
 have h1 := sumF_bd h a (k - a)
 have h2 := mul_bd (d := (k : Int) - a) (by omega) (by omega) hg
 have h3 := h k
 unfold grow acr
 rw [show k + 1 - a = k - a + 1 by omega, sumF_succ, show a + (k - a) = k by omega]
 omega
def cellStep (g : Int) (k : Nat) (cs : List Cl) (f : Nat -> Int) (j : Nat) : Nat -> Int := if spK cs (j + 1) - 1 = (k : Int) then upd f k (grow f g (spK cs j).toNat k (natW (cs.getD j Cl.none).ns)) else f
def laneStep (g : Int) (k : Nat) (cs : List Cl) (f : Nat -> Int) : Nat -> Nat -> Int
 | 0 => f
 | j + 1 => cellStep g k cs (laneStep g k cs f j) j
def rowsStep (g : Int) (k : Nat) (rs : List Rw) (f : Nat -> Int) : Nat -> Nat -> Int
 | 0 => f
 | i + 1 => laneStep g k (rs.getD i Rw.none).cs (rowsStep g k rs f i) (rs.getD i Rw.none).cs.length
def colsStep (g : Int) (rs : List Rw) : Nat -> Nat -> Int
 | 0 => fun _ => 0
 | k + 1 => rowsStep g k rs (colsStep g rs k) rs.length
def colsOk (g : Int) (rs : List Rw) : Nat -> Bool
 | 0 => true
 | k + 1 => colsOk g rs k && fitsB (colsStep g rs (k + 1) k)
theorem colsOk_down {g : Int} {rs : List Rw} : ∀ {n k : Nat}, k <= n -> colsOk g rs k = false -> colsOk g rs n = false
 | 0, k, h, h0 => by
  obtain rfl : k = 0 := by omega
  exact h0
 | n + 1, k, h, h0 => by
  by_cases hk : k = n + 1
  ·subst hk; exact h0
  ·unfold colsOk
   rw [colsOk_down (show k <= n by omega) h0]
   rfl
theorem upd_bd {f : Nat -> Int} {k : Nat} {x : Int} (h : Bd f) (hx : 0 <= x /\ x <= 21474836460) : Bd (upd f k x) := fun i => by
 unfold upd
 split
 ·exact hx
 ·exact h i
def RowIn (cs : List Cl) (cols : Int) : Prop := cellsB cs cols cs.length = true /\ spK cs cs.length <= cols
theorem RowIn.at {cs : List Cl} {cols : Int} (h : RowIn cs cols) (h20 : cols <= 20) {j : Nat} (hj : j < cs.length) : 0 <= spK cs j /\ spK cs j + 1 <= spK cs (j + 1) /\ spK cs (j + 1) <= cols /\ -1073741823 <= natW (cs.getD j Cl.none).ns /\ natW (cs.getD j Cl.none).ns <= 1073741823 /\ hpOk (cs.getD j Cl.none).ns 0 0 = true := by
 have h1 := cellsB_at h.1 j hj
 have h2 := cellB_sp h1
 have h3 := spK_mono (show j + 1 <= cs.length by omega) h.1
 have h4 := h.2
 have h5 := natW_fits (cellB_hp h1)
 have h6 : 0 <= spK cs j := by
  have := spK_mono (show 0 <= cs.length by omega) h.1
  cases hb : cellsB cs cols j with
  | true => have := (spK_bound h20 hb).1; omega
  | false => have := cellsB_down (show j <= cs.length by omega) hb; rw [h.1] at this; cases this
 rw [spK_succ] at h3 ⊢
 exact ⟨h6, by omega, by omega, h5.1, h5.2, cellB_hp h1⟩
theorem rowB_in {r : Rw} {cols : Int} (h : rowB r cols = true) (hc : 1 <= cols) : RowIn r.cs cols := by
 unfold rowB at h
 split at h
 ·simp only [Bool.and_eq_true, decide_eq_true_eq] at h
  exact h
 ·simp only [Bool.and_eq_true, decide_eq_true_eq] at h
  have h0 : r.cs = [] := List.eq_nil_of_length_eq_zero h.2
  rw [h0]
  exact ⟨rfl, by show (0 : Int) <= cols; omega⟩
theorem cellStep_bd {g : Int} {k j : Nat} {cs : List Cl} {f : Nat -> Int} {cols : Int} (h : Bd f) (hg : -1073741823 <= g /\ g <= 1073741823) (hr : RowIn cs cols) (h20 : cols <= 20) (hk : k < 20) (hj : j < cs.length) : Bd (cellStep g k cs f j) := by
 have h1 := hr.at h20 hj
 unfold cellStep
 split
 ·rename_i e
  exact upd_bd h (grow_bd h hg h1.2.2.2.2.1 (by omega) hk)
 ·exact h
theorem laneStep_bd {g : Int} {k : Nat} {cs : List Cl} {f : Nat -> Int} {cols : Int} (h : Bd f) (hg : -1073741823 <= g /\ g <= 1073741823) (hr : RowIn cs cols) (h20 : cols <= 20) (hk : k < 20) : ∀ j, j <= cs.length -> Bd (laneStep g k cs f j)
 | 0, _ => h
 | j + 1, hj => cellStep_bd (laneStep_bd h hg hr h20 hk j (by omega)) hg hr h20 hk (by omega)
theorem rowsStep_bd {g : Int} {k : Nat} {rs : List Rw} {f : Nat -> Int} {cols : Int} (h : Bd f) (hg : -1073741823 <= g /\ g <= 1073741823) (hr : ∀ i, i < rs.length -> RowIn (rs.getD i Rw.none).cs cols) (h20 : cols <= 20) (hk : k < 20) : ∀ i, i <= rs.length -> Bd (rowsStep g k rs f i)
 | 0, _ => h
 | i + 1, hi => laneStep_bd (rowsStep_bd h hg hr h20 hk i (by omega)) hg (hr i (by omega)) h20 hk _ (Nat.le_refl _)
theorem colsStep_bd {g : Int} {rs : List Rw} {cols : Int} (hg : -1073741823 <= g /\ g <= 1073741823) (hr : ∀ i, i < rs.length -> RowIn (rs.getD i Rw.none).cs cols) (h20 : cols <= 20) : ∀ k, k <= 20 -> Bd (colsStep g rs k)
 | 0, _ => fun i => ⟨Int.le_refl _, by show (0 : Int) <= _; omega⟩
 | k + 1, hk => rowsStep_bd (colsStep_bd hg hr h20 k (by omega)) hg hr h20 (by omega) _ (Nat.le_refl _)
def ArrAt (w : World) (A : Nat) (f : Nat -> Int) : Prop := ∃ arr : Array Value, w.heap[A]? = some (.cells arr 104 (0, 0)) /\ arr.size = 20 /\ ∀ i, i < 20 -> arr[i]? = some (.int .i64 (f i))
theorem ArrAt.cell {w : World} {A : Nat} {f : Nat -> Int} (h : ArrAt w A f) {i : Nat} (hi : i < 20) : w.cell? ⟨A, i, none⟩ = some (.int .i64 (f i)) := by
 obtain ⟨arr, h1, h2, h3⟩ := h
 rw [cell_of_row _ _ i _ 104 _ h1]
 exact h3 i hi
theorem ArrAt.lt {w : World} {A : Nat} {f : Nat -> Int} (h : ArrAt w A f) : A < w.heap.size := by
 obtain ⟨arr, h1, _⟩ := h
 exact (glt h1)
theorem ArrAt.free {w : World} {A : Nat} {f : Nat -> Int} (h : ArrAt w A f) (j : Nat) : w.frozen? ⟨A, j, none⟩ = false := by
 obtain ⟨arr, h1, _⟩ := h
 exact frozen_of_row _ _ j _ _ h1
theorem ArrAt.same {w w' : World} {A : Nat} {f : Nat -> Int} (h : ArrAt w A f) (hb : w'.heap[A]? = w.heap[A]?) : ArrAt w' A f := by
 obtain ⟨arr, h1, h2⟩ := h
 exact ⟨arr, hb.trans h1, h2⟩
theorem ArrAt.below {w w' : World} {A : Nat} {f : Nat -> Int} (h : ArrAt w A f) (hb : Below w.heap.size w w') : ArrAt w' A f := h.same (hb.block _ h.lt)
theorem ArrAt.set {w : World} {A : Nat} {f : Nat -> Int} (h : ArrAt w A f) {k : Nat} (hk : k < 20) (x : Int) : ArrAt (w.setCell ⟨A, k, none⟩ (.int .i64 x)) A (upd f k x) := by
 obtain ⟨arr, h1, h2, h3⟩ := h
 refine ⟨_, heap_setCell_same w A k arr 104 _ h1, by simp [h2], fun i hi => ?_⟩
 rw [Array.getElem?_setIfInBounds]
 unfold upd
 by_cases e : k = i
 ·subst e
  rw [if_pos rfl, if_pos (by omega), if_pos rfl]
 ·rw [if_neg e, if_neg (fun h => e h.symm)]
  exact h3 i hi
set_option maxRecDepth 20000 in
set_option maxHeartbeats 4000000 in
theorem across_any {w : World} {G A : Nat} {f : Nat -> Int} {co gs gp gpo gm gmo : Int} {u : Value} (first last : Nat) (hG : w.heap[G]? = some (grO co gs gp gpo gm gmo u)) (hA : ArrAt w A f) (hf : Bd f) (hab : first <= last) (hb : last < 20) (hg : -1073741823 <= gs /\ gs <= 1073741823) :
 Calls Tryz.prog 75 #[.pointer (some ⟨G, 0, none⟩), .pointer (some ⟨A, 0, none⟩), .int .i64 first, .int .i64 last] w fun e w' => e = .returned (.int .i64 (acr f gs first last)) /\ w' = w := by
 have q1 : w.cell? ⟨G, 1, none⟩ = some (.int .i64 gs) := cell_of_row _ _ 1 _ 110 _ hG
 have hGl : G < w.heap.size := (glt hG)
 have hAl := hA.lt
 have HA := hideP hA
 have HF := hideP hf
 obtain ⟨D, hD⟩ := exq (((last : Int) - first) * gs)
 have hDb : -20401094637 <= D /\ D <= 20401094637 := by rw [hD]; exact mul_bd (by omega) (by omega) hg
 have w1 : IntKind.i64.wrap (((last : Int) - first) * gs) = D := by rw [<- hD, IntKind.wrap_i64]; omega
 have HD : Hid (acr f gs first last = D + sumF f first (last + 1 - first)) := hideP (by rw [hD]; rfl)
 clear hA hf hG hD hg
 go_enter Tryz.func75, Tryz.ntmps75
 go_wp2
 go_loopw [9, 24] (fun s i wr => ∃ (k : Nat) (m : Int), k <= last + 1 - first /\ i = .int .i64 k /\ s = .int .i64 (D + m) /\ Hid (m = sumF f first k) /\ wr = w) (fun _ i _ => last + 1 - first - (intOf i).toNat)
 case atStart => exact ⟨0, 0, by omega, rfl, by simp, hideP rfl, rfl⟩
 case round =>
  obtain ⟨k, m, hk, rfl, rfl, HM, hww⟩ := hrel
  have hww' := hww.symm
  subst hww'
  clear hww
  have hm := sumF_bd HF.out first k
  rw [<- HM.out] at hm
  by_cases hkn : k < last + 1 - first
  ·have hki : (k : Int) < (last : Int) - first + 1 := by omega
   have hc := HA.out.cell (i := first + k) (by omega)
   have hfb := HF.out (first + k)
   obtain ⟨y, hy⟩ := exq (f (first + k))
   have HY := hideP hy
   rw [<- hy] at hc hfb
   clear hy
   go_wp2
   go_roundw
   case rel => exact ⟨k + 1, m + y, by omega, by go_num, by first | rfl | (congr 1; omega), hideP (by rw [sumF_succ, <- HM.out, <- HY.out]), by trivial⟩
   case measure => simp [intOf]; omega
  ·have hki : ¬ (k : Int) < (last : Int) - first + 1 := by omega
   go_wp2
   go_ret
   refine ⟨?_, rfl⟩
   rw [HD.out, HM.out, show k = last + 1 - first by omega]
   rfl
end Go.Proofs.YtbbehmcekbnkiaaGreat
