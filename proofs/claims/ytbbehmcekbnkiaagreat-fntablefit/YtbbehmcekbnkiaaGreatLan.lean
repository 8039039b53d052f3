import Derived.Test.YtbbehmcekbnkiaaGreatTpu
import Derived.Test.YtbbehmcekbnkiaaGreatLok
import Derived.Test.YtbbehmcekbnkiaaGreatFng
import Derived.Test.YtbbehmcekbnkiaaGreatRof
namespace Go.Proofs.YtbbehmcekbnkiaaGreat
open Go.RowKit
set_option linter.unusedVariables false
set_option linter.unusedSimpArgs false
def placeB (c : Cl) (first cols : Int) : Bool := decide (1 <= c.sp) && decide (c.sp <= cols - first) && uptoB c.al 2 && hpOk c.ns 0 0
abbrev plV (fi la na al : Int) (v : Value) : Value := .agg #[.int .i64 fi, .int .i64 la, .int .i64 na, .int .i64 al, v]
theorem results_cell_tmp {fn : Func} {p q : Tmp} {ty : TypeId} (h : fn.results = #[.cell p ty, .tmp q]) (tmps : Array Value) (w : World) (g : Nat) (x y : Value) {P : Program}
 (hp : tmps.getD p undef = .pointer (some ⟨g, 0, none⟩)) (hq : tmps.getD q undef = y) (hld : (loadVar ty ⟨g, 0, none⟩).run P w = .ok x w) :
 (results fn tmps).run P w = .ok (.tuple #[x, y]) w := by
 have hp' : tmps[p]?.getD undef = .pointer (some ⟨g, 0, none⟩) := by simpa using hp
 have hq' : tmps[q]?.getD undef = y := by simpa using hq
 simp [results, h, hp', hq', asAddr, hld, Result.andThen]
def PlcP (x : Cl) (first cols : Int) (v : Value) (b : Bool) (e : Ending) : Prop := match b with
 | true => e = .returned (.tuple #[plV first (first + x.sp - 1) (natW x.ns) x.al v, .bool true])
 | false => e = .returned (.tuple #[plV 0 0 0 0 (.slice none 0 0), .bool false])
set_option maxRecDepth 20000 in
set_option maxHeartbeats 8000000 in
theorem placedAt_any (x : Cl) {v : Value} {w : World} (first cols : Int) (hN : NRow 0 w v x.ns) (hNN : NN 0 w v x.ns) (hs : x.ns.length <= 1048576) (h0 : 0 <= first) (h1 : first <= 20) (h2 : 0 <= cols) (h3 : cols <= 20) :
 Calls Tryz.prog 95 #[clV x v, .int .i64 first, .int .i64 cols] w fun e w' => PlcP x first cols v (placeB x first cols) e /\ Below w.heap.size w w' := by
 obtain ⟨ua, un, uc, rfl⟩ : ∃ a n c, v = .slice a n c := by obtain ⟨a, c, rfl⟩ := hN.shape; exact ⟨_, _, _, rfl⟩
 obtain ⟨nH, hnH⟩ := exq ((hpR x.ns 0 0).length)
 have HC : Hid (∀ W : World, Below w.heap.size w W -> Calls Tryz.prog 10 #[.slice ua un uc, .int .i64 0, .int .i64 0] W fun e w' => ∃ a c s, e = .returned (packV (.slice a nH c) s) /\ (0 < nH -> ∃ g, a = some ⟨g, 0, none⟩ /\ g < w'.heap.size /\ w'.cell? ⟨g, 1, none⟩ = some (.int .i64 (natW x.ns))) /\ Below W.heap.size W w') := hideP (fun W hW => by
  refine (implHN 0 0 (hN.below ndStable hW) (hNN.abv ⟨hW.size, fun k _ hk => hW.block k hk⟩) hs).mono ?_
  rintro e w' ⟨u, rfl, ho, hb⟩
  obtain ⟨a, c, rfl⟩ := ownG_shape ho
  rw [<- hnH] at ho ⊢
  refine ⟨a, c, _, rfl, fun hp => ?_, hb⟩
  have hok : hpOk x.ns 0 0 = true := by
   cases hk : hpOk x.ns 0 0 with
   | true => rfl
   | false => have := hpR_none.2 hk; omega
  obtain ⟨t, ht⟩ := hpR_head hok
  rcases ho.2 with ⟨e, _⟩ | ⟨g, cap, cur, e, hg, hh, _⟩
  ·simp at e; omega
  ·simp at e
   obtain ⟨rfl, rfl⟩ := e
   refine ⟨g, rfl, (glt hh), ?_⟩
   refine (own_cell ho (j := 1) ?_).1
   rw [ht]
   rfl)
 have HN : Hid (nH = 0 ↔ hpOk x.ns 0 0 = false) := hideP (by rw [hnH]; exact hpR_none)
 have HQ : Hid (placeB x first cols = (decide (1 <= x.sp) && decide (x.sp <= cols - first) && uptoB x.al 2 && hpOk x.ns 0 0)) := hideP rfl
 clear hN hNN hs hnH
 obtain ⟨sp, al, ns⟩ := x
 simp only [clV]
 dsimp only at HC HN HQ ⊢
 have wsub : IntKind.i64.wrap (cols - first) = cols - first := by rw [IntKind.wrap_i64]; omega
 have HFA : Hid (∀ W, Below w.heap.size w W -> placeB ⟨sp, al, ns⟩ first cols = false -> PlcP ⟨sp, al, ns⟩ first cols (.slice ua un uc) (placeB ⟨sp, al, ns⟩ first cols) (.returned (.tuple #[plV 0 0 0 0 (.slice none 0 0), .bool false])) /\ Below w.heap.size w W) := hideP (fun W hW hf => by rw [hf]; exact ⟨rfl, hW⟩)
 by_cases e1 : sp < 1
 ·go_enter Tryz.func95, Tryz.ntmps95
  go_wp2
  refine bodyPost_ret (v := .tuple #[plV 0 0 0 0 (.slice none 0 0), .bool false]) (by simp [results, Tryz.results95, go_sem]) rfl (HFA.out _ ?_ ?_)
  ·repeat (first | with_reducible exact below2 _ _ _ | (with_reducible refine Below.setCell ?_ ?_ _; rotate_left; focus (first | (simp; done) | (simp; omega))))
  ·rw [HQ.out]; simp; omega
 by_cases e2 : cols - first < sp
 ·go_enter Tryz.func95, Tryz.ntmps95
  go_wp2
  refine bodyPost_ret (v := .tuple #[plV 0 0 0 0 (.slice none 0 0), .bool false]) (by simp [results, Tryz.results95, go_sem]) rfl (HFA.out _ ?_ ?_)
  ·repeat (first | with_reducible exact below2 _ _ _ | (with_reducible refine Below.setCell ?_ ?_ _; rotate_left; focus (first | (simp; done) | (simp; omega))))
  ·rw [HQ.out]; simp; omega
 have HU : Hid (∀ W, Calls Tryz.prog 40 #[.int .i64 al, .int .i64 2] W fun e w' => e = .returned (.bool (uptoB al 2)) /\ w' = W) := hideP (fun W => upTo_any al 2 W)
 cases e3 : uptoB al 2 with
 | false =>
  rw [e3] at HU HQ
  go_enter Tryz.func95, Tryz.ntmps95
  go_wp2_with (go_at_call 40; refine (HU.out _).mono ?_; rintro e w1 ⟨rfl, rfl⟩)
  refine bodyPost_ret (v := .tuple #[plV 0 0 0 0 (.slice none 0 0), .bool false]) (by simp [results, Tryz.results95, go_sem]) rfl (HFA.out _ ?_ ?_)
  ·repeat (first | with_reducible exact below2 _ _ _ | (with_reducible refine Below.setCell ?_ ?_ _; rotate_left; focus (first | (simp; done) | (simp; omega))))
  ·rw [HQ.out]; simp
 | true =>
  rw [e3] at HU HQ
  by_cases e5 : nH = 0
  ·subst e5
   go_enter Tryz.func95, Tryz.ntmps95
   go_wp2_with (go_at_call 40; refine (HU.out _).mono ?_; rintro e w1 ⟨rfl, rfl⟩)
   refine (HC.out _ (below2 _ _ _)).mono ?_
   rintro e w2 ⟨ra, rc, rs, rfl, _, hb1⟩
   have hy1 : w.heap.size + 1 < w2.heap.size := by have := hb1.size; simp at this; omega
   have hx1 : w.heap.size < w2.heap.size := by omega
   have B1 : Hid (Below w.heap.size w w2) := hideP (below_more (below2 _ _ _) hb1 (by simp; omega))
   obtain ⟨hc1, hf1⟩ := bcell hb1
   simp only [World.size_alloc, World.size_setCell] at hc1 hf1
   clear hb1
   go_wp2
   refine bodyPost_ret (v := .tuple #[plV 0 0 0 0 (.slice none 0 0), .bool false]) (by simp [results, Tryz.results95, go_sem, hc1, hx1, hy1]) rfl (HFA.out _ ?_ ?_)
   ·have B2 := B1.out
    have S2 := B2.size
    clear hc1 hf1 B1 HC
    repeat (first | with_reducible exact B2 | (with_reducible refine Below.setCell ?_ ?_ _; rotate_left; focus (first | (simp; done) | (simp; omega))) | (with_reducible refine Below.alloc ?_ ?_ _; rotate_left; focus (first | exact S2 | (simp; omega))))
   ·rw [HQ.out, HN.out.1 trivial]; simp
  ·have e6 : ¬ (nH : Int) = 0 := by omega
   have e7 : (0 : Int) < nH := by omega
   go_enter Tryz.func95, Tryz.ntmps95
   go_wp2_with (go_at_call 40; refine (HU.out _).mono ?_; rintro e w1 ⟨rfl, rfl⟩)
   refine (HC.out _ (below2 _ _ _)).mono ?_
   rintro e w2 ⟨ra, rc, rs, rfl, hnat, hb1⟩
   obtain ⟨g, rfl, hgl, hg⟩ := hnat (by omega)
   have hy1 : w.heap.size + 1 < w2.heap.size := by have := hb1.size; simp at this; omega
   have hx1 : w.heap.size < w2.heap.size := by omega
   have B1 : Hid (Below w.heap.size w w2) := hideP (below_more (below2 _ _ _) hb1 (by simp; omega))
   obtain ⟨hc1, hf1⟩ := bcell hb1
   simp only [World.size_alloc, World.size_setCell] at hc1 hf1
   clear hb1
   have wadd : IntKind.i64.wrap (first + sp) = first + sp := by rw [IntKind.wrap_i64]; omega
   have wad2 : IntKind.i64.wrap (first + sp - 1) = first + sp - 1 := by rw [IntKind.wrap_i64]; omega
   go_wp2
   go_region
   go_wp2
   refine bodyPost_ret (v := .tuple #[plV first (first + sp - 1) (natW ns) al (.slice ua un uc), .bool true]) (by simp [results, Tryz.results95, go_sem, hc1, hx1, hy1]) rfl ⟨?_, ?_⟩
   ·have hok : placeB ⟨sp, al, ns⟩ first cols = true := by
     have h9 : hpOk ns 0 0 = true := by
      cases hk : hpOk ns 0 0 with
      | true => rfl
      | false => exact absurd (HN.out.2 hk) e5
     rw [HQ.out, h9]
     simp
     omega
    rw [hok]
    rfl
   ·have B2 := B1.out
    have S2 := B2.size
    clear hc1 hf1 B1 HC
    refine Below.drew ?_
    repeat (first | with_reducible exact B2 | (with_reducible refine Below.setCell ?_ ?_ _; rotate_left; focus (first | (simp; done) | (simp; omega))) | (with_reducible refine Below.alloc ?_ ?_ _; rotate_left; focus (first | exact S2 | (simp; omega))))
structure Pl where
 fi : Int
 la : Int
 na : Int
 al : Int
 v : Value
def Pl.none : Pl := ⟨0, 0, 0, 0, .slice .none 0 0⟩
def Pl.cells (p : Pl) : List Value := [.int .i64 p.fi, .int .i64 p.la, .int .i64 p.na, .int .i64 p.al, p.v]
def flatP : List Pl -> List Value
 | [] => []
 | p :: ps => p.cells ++ flatP ps
theorem flatP_snoc : ∀ (ps : List Pl) (p : Pl), flatP (ps ++ [p]) = flatP ps ++ p.cells
 | [], p => by simp [flatP]
 | q :: ps, p => by simp [flatP, flatP_snoc ps p, List.append_assoc]
theorem flatP_get : ∀ (ps : List Pl) (i : Nat), i < ps.length -> ∀ j, j < 5 -> (flatP ps)[i * 5 + j]? = (ps.getD i Pl.none).cells[j]?
 | [], i, h, _, _ => by simp at h
 | p :: ps, 0, h, j, hj => by
  simp only [flatP, List.getD_cons_zero]
  rw [Nat.zero_mul, Nat.zero_add, List.getElem?_append_left (by rw [show p.cells.length = 5 from rfl]; exact hj)]
 | p :: ps, i + 1, h, j, hj => by
  simp only [flatP, List.getD_cons_succ]
  rw [List.getElem?_append_right (by rw [show p.cells.length = 5 from rfl]; omega), show p.cells.length = 5 from rfl, show (i + 1) * 5 + j - 5 = i * 5 + j by omega]
  exact flatP_get ps i (by simpa using h) j hj
def PlOk (w : World) (cs : List Cl) (ps : List Pl) (k : Nat) : Prop := ps.length = k /\ ∀ i, i < k -> (ps.getD i Pl.none).fi = spK cs i /\ (ps.getD i Pl.none).la = spK cs (i + 1) - 1 /\ (ps.getD i Pl.none).na = natW (cs.getD i Cl.none).ns /\ (ps.getD i Pl.none).al = (cs.getD i Cl.none).al /\ NRow 0 w (ps.getD i Pl.none).v (cs.getD i Cl.none).ns /\ NN 0 w (ps.getD i Pl.none).v (cs.getD i Cl.none).ns
theorem PlOk.snoc {w : World} {cs : List Cl} {ps : List Pl} {k : Nat} (h : PlOk w cs ps k) (p : Pl) (hp : p.fi = spK cs k /\ p.la = spK cs (k + 1) - 1 /\ p.na = natW (cs.getD k Cl.none).ns /\ p.al = (cs.getD k Cl.none).al /\ NRow 0 w p.v (cs.getD k Cl.none).ns /\ NN 0 w p.v (cs.getD k Cl.none).ns) : PlOk w cs (ps ++ [p]) (k + 1) := by
 obtain ⟨h1, h2⟩ := h
 refine ⟨by simp [h1], fun i hi => ?_⟩
 by_cases e : i = k
 ·subst e
  have : (ps ++ [p]).getD i Pl.none = p := by rw [<- h1]; simp
  rw [this]
  exact hp
 ·have : (ps ++ [p]).getD i Pl.none = ps.getD i Pl.none := by
   simp only [List.getD_eq_getElem?_getD]
   rw [List.getElem?_append_left (by omega)]
  rw [this]
  exact h2 i (by omega)
theorem new5b (w : World) (o : Obj) (a b c d e : Value) (t : TypeId) : ∀ j u, [a, b, c, d, e][j]? = some u -> ((w.alloc o).alloc (.cells #[a, b, c, d, e] t)).cell? ((⟨w.heap.size + 1, 0, none⟩ : Addr).add j) = some u := by
 have h := new5 (w.alloc o) a b c d e t
 rwa [World.size_alloc] at h
theorem one5p (a b c d : Int) (x : Option Addr) (n m : Nat) : ∀ u ∈ [Value.int .i64 a, .int .i64 b, .int .i64 c, .int .i64 d, .slice x n m], u.oneCell' = true := by
 intro u hu
 simp at hu
 rcases hu with rfl | rfl | rfl | rfl | rfl <;> rfl
theorem Tryz.info122 : (Tryz.prog.info? 122).map (fun i => (i.zero, i.size, i.bytes)) = some (some (plV 0 0 0 0 (.slice none 0 0)), 5, 56) := by kernel_rfl
structure LInv (w wr : World) (ru : Int) (rv u : Value) : Prop where
 bel : Below w.heap.size w wr
 box : wr.heap[w.heap.size]? = some (.cells #[rv, .int .i64 ru] 59 (0, 0))
 res : wr.heap[w.heap.size + 1]? = some (.cells #[.int .i64 0, .slice none 0 0] 119 (0, 0))
 lane : wr.heap[w.heap.size + 1 + 1]? = some (.cells #[.int .i64 ru, u] 119 (0, 0))
theorem LInv.lt {w wr : World} {ru : Int} {rv u : Value} (h : LInv w wr ru rv u) : w.heap.size + 1 + 1 < wr.heap.size := (glt h.lane)
theorem LInv.below {w wr w2 : World} {ru : Int} {rv u : Value} (h : LInv w wr ru rv u) (hb : Below wr.heap.size wr w2) : LInv w w2 ru rv u :=
 ⟨below_more h.bel hb h.bel.size, (hb.block _ (by have := h.lt; omega)).trans h.box, (hb.block _ (by have := h.lt; omega)).trans h.res, (hb.block _ h.lt).trans h.lane⟩
theorem LInv.grown {w wr w2 : World} {ru : Int} {rv u : Value} {r : Option Nat} (h : LInv w wr ru rv u) (hg : wr.grownBy w2 r) (hr : ∀ j, r = some j -> w.heap.size + 1 + 1 + 1 <= j) : LInv w w2 ru rv u :=
 ⟨Below.grown h.bel hg h.bel.size (fun j hj => by have := hr j hj; omega), (hg.block _ (by have := h.lt; omega) (fun e => by have := hr _ e.symm; omega)).trans h.box, (hg.block _ (by have := h.lt; omega) (fun e => by have := hr _ e.symm; omega)).trans h.res, (hg.block _ h.lt (fun e => by have := hr _ e.symm; omega)).trans h.lane⟩
theorem LInv.setU {w wr : World} {ru : Int} {rv u : Value} (h : LInv w wr ru rv u) (x : Value) : LInv w (wr.setCell ⟨w.heap.size + 1 + 1, 1, none⟩ x) ru rv x :=
 ⟨h.bel.setCell (by simp; omega) _, (Below.heap_setCell _ _ _ _ (by simp; omega)).trans h.box, (Below.heap_setCell _ _ _ _ (by simp)).trans h.res, heap_setCell_same _ (w.heap.size + 1 + 1) 1 _ 119 _ h.lane⟩
theorem LInv.cells {w wr : World} {ru : Int} {rv u : Value} (h : LInv w wr ru rv u) : wr.cell? ⟨w.heap.size, 0, none⟩ = some rv /\ wr.cell? ⟨w.heap.size, 1, none⟩ = some (.int .i64 ru) /\ wr.cell? ⟨w.heap.size + 1 + 1, 0, none⟩ = some (.int .i64 ru) /\ wr.cell? ⟨w.heap.size + 1 + 1, 1, none⟩ = some u /\ wr.cell? ⟨w.heap.size + 1, 0, none⟩ = some (.int .i64 0) /\ wr.cell? ⟨w.heap.size + 1, 1, none⟩ = some (.slice none 0 0) :=
 ⟨cell_of_row _ _ 0 _ 59 _ h.box, cell_of_row _ _ 1 _ 59 _ h.box, cell_of_row _ _ 0 _ 119 _ h.lane, cell_of_row _ _ 1 _ 119 _ h.lane, cell_of_row _ _ 0 _ 119 _ h.res, cell_of_row _ _ 1 _ 119 _ h.res⟩
theorem LInv.free {w wr : World} {ru : Int} {rv u : Value} (h : LInv w wr ru rv u) : (∀ j, wr.frozen? ⟨w.heap.size + 1 + 1, j, none⟩ = false) /\ (∀ j, wr.frozen? ⟨w.heap.size + 1, j, none⟩ = false) :=
 ⟨fun j => frozen_of_row _ _ j _ _ h.lane, fun j => frozen_of_row _ _ j _ _ h.res⟩
theorem LInv.start (w : World) (ru : Int) (rv u : Value) : LInv w (((w.alloc (.cells #[rv, .int .i64 ru] 59)).alloc (.cells #[.int .i64 0, .slice none 0 0] 119)).alloc (.cells #[.int .i64 ru, u] 119)) ru rv u := by
 refine ⟨below3 _ _ _ _, ?_, ?_, ?_⟩
 ·rw [Below.heap_alloc _ _ _ (by simp; omega), Below.heap_alloc _ _ _ (by simp)]
  exact heap_alloc_new w _
 ·rw [Below.heap_alloc _ _ _ (by simp)]
  have h := heap_alloc_new (w.alloc (.cells #[rv, .int .i64 ru] 59)) (.cells #[.int .i64 0, .slice none 0 0] 119)
  rwa [World.size_alloc] at h
 ·have h := heap_alloc_new ((w.alloc (.cells #[rv, .int .i64 ru] 59)).alloc (.cells #[.int .i64 0, .slice none 0 0] 119)) (.cells #[.int .i64 ru, u] 119)
  rwa [World.size_alloc, World.size_alloc] at h
theorem ownG_base {w : World} {base b e size n : Nat} {v : Value} {xs : List Value} (h : w.ownsRow base e size v n xs) (hb : b <= base) : w.ownsRow b e size v n xs := by
 obtain ⟨hl, hr⟩ := h
 refine ⟨hl, ?_⟩
 rcases hr with h1 | ⟨g, cap, cur, rfl, h2, h3⟩
 ·exact .inl h1
 ·exact .inr ⟨g, cap, cur, rfl, Nat.le_trans hb h2, h3⟩
theorem own_setB {W : World} {B0 R e s n : Nat} {v : Value} {xs : List Value} (o : W.ownsRow B0 e s v n xs) (hR : R < B0) (j : Nat) (u : Value) : (W.setCell ⟨R, j, none⟩ u).ownsRow B0 e s v n xs :=
 ownG_same o (fun g hg => Below.heap_setCell _ _ _ _ (fun e => by have := (o.lt g hg).1; have e2 : g = R := e; omega))
def LanP (x : Rw) (b : Bool) (e : Ending) (w0 w w' : World) : Prop := match b with
 | true => ∃ a c ps, e = .returned (.tuple #[.agg #[.int .i64 x.ru, .slice a x.cs.length c], .bool true]) /\ w'.ownsRow w.heap.size 122 5 (.slice a x.cs.length c) x.cs.length (flatP ps) /\ PlOk w0 x.cs ps x.cs.length
 | false => ∃ r a n c, e = .returned (.tuple #[.agg #[.int .i64 r, .slice a n c], .bool false])
set_option maxRecDepth 20000 in
set_option maxHeartbeats 4000000 in
theorem laneOf_no (x : Rw) {v : Value} {w0 w : World} (cols : Int) (h : CRowN 0 w v x.cs) (hlen : x.cs.length <= 1048576) (hno : uptoB x.ru 1073741823 = false \/ (0 < x.ru /\ 0 < x.cs.length)) :
 Calls Tryz.prog 73 #[rwV x v, .int .i64 cols] w fun e w' => LanP x (rowB x cols) e w0 w w' /\ Below w.heap.size w w' := by
 obtain ⟨ua, uc, rfl⟩ := h.shape
 have hB : rowB x cols = false := by
  unfold rowB
  rcases hno with h1 | h1
  ·unfold uptoB at h1
   simp only [decide_eq_false_iff_not] at h1
   rw [if_neg (by omega)]
   simp
   omega
  ·rw [if_neg (by omega), decide_eq_false (show ¬ x.cs.length = 0 by omega), Bool.and_false]
 rw [hB]
 clear h hB
 obtain ⟨rcs, ru⟩ := x
 dsimp only at hlen hno ⊢
 have HP : Hid (∀ e w', (∃ r a n c, e = Ending.returned (.tuple #[.agg #[.int .i64 r, .slice a n c], .bool false])) -> LanP ⟨rcs, ru⟩ false e w0 w w') := hideP (fun e w' h => h)
 have HU : Hid (∀ W, Calls Tryz.prog 40 #[.int .i64 ru, .int .i64 1073741823] W fun e w' => e = .returned (.bool (uptoB ru 1073741823)) /\ w' = W) := hideP (fun W => upTo_any ru 1073741823 W)
 obtain ⟨n, hn⟩ := exq (rcs.length)
 rw [<- hn] at hlen hno ⊢
 clear hn
 cases e3 : uptoB ru 1073741823 with
 | false =>
  rw [e3] at HU
  clear hno
  go_enter Tryz.func73, Tryz.ntmps73
  go_wp2_with (go_at_call 40; refine (HU.out _).mono ?_; rintro e w1 ⟨rfl, rfl⟩)
  refine bodyPost_ret (v := .tuple #[.agg #[.int .i64 ru, .slice none 0 0], .bool false]) (by simp [results, Tryz.results73, go_sem]) rfl ⟨HP.out _ _ ⟨_, _, _, _, rfl⟩, ?_⟩
  repeat (first | with_reducible exact below3 _ _ _ _ | with_reducible exact below2 _ _ _ | (with_reducible refine Below.setCell ?_ ?_ _; rotate_left; focus (first | (simp; done) | (simp; omega))))
 | true =>
  rw [e3] at HU hno
  have h1 : 0 < ru := by rcases hno with h | h; cases h; exact h.1
  have h2 : (0 : Int) < n := by rcases hno with h | h; cases h; omega
  clear hno
  go_enter Tryz.func73, Tryz.ntmps73
  go_wp2_with (go_at_call 40; refine (HU.out _).mono ?_; rintro e w1 ⟨rfl, rfl⟩)
  refine bodyPost_ret (v := .tuple #[.agg #[.int .i64 ru, .slice none 0 0], .bool false]) (by simp [results, Tryz.results73, go_sem]) rfl ⟨HP.out _ _ ⟨_, _, _, _, rfl⟩, ?_⟩
  repeat (first | with_reducible exact below3 _ _ _ _ | with_reducible exact below2 _ _ _ | (with_reducible refine Below.setCell ?_ ?_ _; rotate_left; focus (first | (simp; done) | (simp; omega))))
theorem place_no {cs : List Cl} {cols : Int} {k n : Nat} (hk : k < n) (hc : cellsB cs cols k = true) (h20 : cols <= 20) (hp : placeB (cs.getD k Cl.none) (spK cs k) cols = false) : (cellsB cs cols n && decide (spK cs n <= cols)) = false := by
 cases hb : cellsB cs cols n with
 | false => rfl
 | true =>
  have h1 := cellsB_at hb k hk
  have h2 := cellB_sp h1
  have h3 := spK_mono (show k + 1 <= n by omega) hb
  rw [spK_succ] at h3
  have h4 := spK_bound h20 hc
  unfold cellB at h1
  unfold placeB uptoB at hp
  simp only [Bool.and_eq_true, decide_eq_true_eq] at h1
  rw [h1.2] at hp
  simp only [Bool.true_and, decide_eq_false_iff_not]
  simp only [Bool.and_true, Bool.and_eq_false_iff, decide_eq_false_iff_not] at hp
  omega
theorem place_yes {cs : List Cl} {cols : Int} {k : Nat} (hc : cellsB cs cols k = true) (h20 : cols <= 20) (hp : placeB (cs.getD k Cl.none) (spK cs k) cols = true) : cellsB cs cols (k + 1) = true /\ spK cs (k + 1) <= cols := by
 have h4 := spK_bound h20 hc
 unfold placeB uptoB at hp
 simp only [Bool.and_eq_true, decide_eq_true_eq] at hp
 refine ⟨?_, by rw [spK_succ]; omega⟩
 unfold cellsB cellB
 rw [hc, hp.2]
 simp only [Bool.true_and, Bool.and_true, Bool.and_eq_true, decide_eq_true_eq]
 omega
theorem placeB_sp {c : Cl} {f cols : Int} (h : placeB c f cols = true) : 1 <= c.sp /\ c.sp <= cols - f := by
 unfold placeB at h
 simp only [Bool.and_eq_true, decide_eq_true_eq] at h
 exact ⟨h.1.1.1, h.1.1.2⟩
set_option maxRecDepth 20000 in
set_option maxHeartbeats 8000000 in
theorem laneOf_rule (x : Rw) {v : Value} {w0 w : World} (cols : Int) (h : CRowN 0 w v x.cs) (hu : uptoB x.ru 1073741823 = true) (e1 : 0 < x.ru) (hz : x.cs.length = 0) :
 Calls Tryz.prog 73 #[rwV x v, .int .i64 cols] w fun e w' => LanP x (rowB x cols) e w0 w w' /\ Below w.heap.size w w' := by
 have hB : rowB x cols = true := by
  unfold rowB
  unfold uptoB at hu
  simp only [decide_eq_true_eq] at hu
  rw [if_neg (by omega), decide_eq_true e1, decide_eq_true hu.2, decide_eq_true hz]
  rfl
 obtain ⟨ua, uc, rfl⟩ := h.shape
 rw [hB]
 clear h hB
 obtain ⟨rcs, ru⟩ := x
 dsimp only at hu e1 hz ⊢
 obtain rfl : rcs = [] := List.eq_nil_of_length_eq_zero hz
 have HU : Hid (∀ W, Calls Tryz.prog 40 #[.int .i64 ru, .int .i64 1073741823] W fun e w' => e = .returned (.bool true) /\ w' = W) := hideP (fun W => by have h := upTo_any ru 1073741823 W; rw [hu] at h; exact h)
 have HP : Hid (∀ w' : World, LanP ⟨[], ru⟩ true (.returned (.tuple #[.agg #[.int .i64 ru, .slice none 0 0], .bool true])) w0 w w') := hideP (fun w' => ⟨none, 0, [], rfl, World.ownsRow_nil _ _ _ _, rfl, fun i hi => absurd hi (by simp)⟩)
 clear hu hz
 simp only [rwV, List.length_nil]
 go_enter Tryz.func73, Tryz.ntmps73
 go_wp2_with (go_at_call 40; refine (HU.out _).mono ?_; rintro e w1 ⟨rfl, rfl⟩)
 go_loopw [33] (fun i wr => i = .int .i64 0 /\ LInv w wr ru (.slice ua 0 uc) (.slice none 0 0)) (fun _ _ => 0)
 case atStart =>
  exact ⟨rfl, LInv.start _ _ _ _⟩
 case round =>
  obtain ⟨rfl, LI0⟩ := hrel
  have LI := hideP LI0
  obtain ⟨c0, c1, c2, c3, c4, c5⟩ := LI0.cells
  obtain ⟨fz1, fz2⟩ := LI0.free
  have hlt := LI0.lt
  have hy1 : w.heap.size + 1 < wr.heap.size := by omega
  have hx1 : w.heap.size < wr.heap.size := by omega
  clear LI0
  go_wp2
  refine bodyPost_ret (v := .tuple #[.agg #[.int .i64 ru, .slice none 0 0], .bool true]) (by simp [results, Tryz.results73, go_sem, c0, c1, c2, c3, c4, c5, hx1, hy1, hlt]) rfl ⟨HP.out _, ?_⟩
  have HBo := LI.out.bel
  clear c0 c1 c2 c3 c4 c5 fz1 fz2
  repeat (first | with_reducible exact HBo | (with_reducible refine Below.setCell ?_ ?_ _; rotate_left; focus (first | (simp; done) | (simp; omega))) | (with_reducible refine Below.alloc ?_ ?_ _; rotate_left; focus (first | exact HBs | (simp; omega))))
set_option maxRecDepth 20000 in
set_option maxHeartbeats 8000000 in
theorem laneOf_go (x : Rw) {v : Value} {w0 w : World} (cols : Int) (h : CRowN 0 w0 v x.cs) (hw0 : Below w0.heap.size w0 w) (hs : SmW x) (hc0 : 1 <= cols) (hc1 : cols <= 20) (hu : uptoB x.ru 1073741823 = true) (e1 : ¬ 0 < x.ru) :
 Calls Tryz.prog 73 #[rwV x v, .int .i64 cols] w fun e w' => LanP x (rowB x cols) e w0 w w' /\ Below w.heap.size w w' := by
 have HV0 : rowB x cols = (cellsB x.cs cols x.cs.length && decide (spK x.cs x.cs.length <= cols)) := by
  unfold rowB
  unfold uptoB at hu
  simp only [decide_eq_true_eq] at hu
  rw [if_pos (by omega)]
 obtain ⟨ua, n, uc, rfl, hn, hr⟩ := h
 obtain ⟨rcs, ru⟩ := x
 dsimp only at hu e1 hs hn hr HV0 ⊢
 have hlen : n <= 1048576 := by rw [<- hn]; exact hs.1
 have HR : Hid (0 < n -> ∃ b off, ua = some ⟨b, off, none⟩ /\ 0 <= b /\ b < w0.heap.size /\ ∀ i, i < n -> ∃ cs : List Value, cs.length = 3 /\ ClN 0 w0 cs (rcs.getD i Cl.none) /\ ∀ j, j < 3 -> w0.cell? ⟨b, off + i * 3 + j, none⟩ = cs[j]?) := hr
 have HS : Hid (∀ i, i < n -> SmC (rcs.getD i Cl.none)) := hideP (by rw [<- hn]; exact hs.2)
 have HL := hideP hn
 have HV : Hid (rowB ⟨rcs, ru⟩ cols = (cellsB rcs cols n && decide (spK rcs n <= cols))) := hideP (by rw [<- hn]; exact HV0)
 have HU : Hid (∀ W, Calls Tryz.prog 40 #[.int .i64 ru, .int .i64 1073741823] W fun e w' => e = .returned (.bool true) /\ w' = W) := hideP (fun W => by have h := upTo_any ru 1073741823 W; rw [hu] at h; exact h)
 obtain ⟨i0, hi0, hz0, hz1, hz2⟩ := info_parts Tryz.info122
 have HI : Hid (i0.bytes = 56) := hz2
 have HW0 := hideP hw0
 clear hr hs hn HV0 hu hw0
 go_enter Tryz.func73, Tryz.ntmps73
 go_wp2_with (go_at_call 40; refine (HU.out _).mono ?_; rintro e w1 ⟨rfl, rfl⟩)
 go_loopw [7, 33] (fun s i wr => ∃ (k : Nat) (m : Int) (a : Option Addr) (c : Nat), k <= n /\ i = .int .i64 k /\ s = .int .i64 m /\ Hid (m = spK rcs k /\ cellsB rcs cols k = true) /\ 0 <= m /\ m <= cols /\ Hid (∃ ps, wr.ownsRow (w.heap.size + 1 + 1 + 1) 122 5 (.slice a k c) k (flatP ps) /\ PlOk w0 rcs ps k) /\ LInv w wr ru (.slice ua n uc) (.slice a k c))
  (fun _ i _ => n - (intOf i).toNat)
 case atStart =>
  refine ⟨0, 0, none, 0, by omega, rfl, rfl, hideP ⟨rfl, rfl⟩, by omega, by omega, hideP ⟨[], World.ownsRow_nil _ _ _ _, rfl, fun i hi => absurd hi (by omega)⟩, ?_⟩
  exact LInv.start _ _ _ _
 case round =>
  obtain ⟨k, m, a, c, hk, rfl, rfl, HM, hm0, hm1, HO, LI0⟩ := hrel
  have LI := hideP LI0
  obtain ⟨c0, c1, c2, c3, c4, c5⟩ := LI0.cells
  obtain ⟨fz1, fz2⟩ := LI0.free
  have hlt := LI0.lt
  clear LI0
  by_cases hkn : k < n
  ·have hki : (k : Int) < (n : Int) := by omega
   obtain ⟨b, off, rfl, hlo, hb, hc⟩ := HR (by omega)
   obtain ⟨cs, hcl, hRel, hcj⟩ := hc k hkn
   have hsk := HS k hkn
   obtain ⟨t, ht⟩ := exq (rcs.getD k Cl.none)
   rw [<- ht] at hRel hsk
   have HT : Hid (t = rcs.getD k Cl.none) := ht
   obtain ⟨u, hcs, hu, huN⟩ := hRel
   obtain ⟨va, vn, vc, rfl⟩ : ∃ a n c, u = .slice a n c := by obtain ⟨a, c, rfl⟩ := hu.shape; exact ⟨_, _, _, rfl⟩
   have HC : Hid (∀ W : World, Below w.heap.size w W -> Calls Tryz.prog 95 #[clV t (.slice va vn vc), .int .i64 m, .int .i64 cols] W fun e w' => PlcP t m cols (.slice va vn vc) (placeB t m cols) e /\ Below W.heap.size W w') := hideP (fun W hW0 => have hW : Below w0.heap.size w0 W := HW0.out.trans (hW0.mono HW0.out.size); placedAt_any t m cols (hu.below ndStable hW) (huN.abv ⟨hW.size, fun k _ hk => hW.block k hk⟩) hsk hm0 (by omega) (by omega) hc1)
   have HNN : Hid (NRow 0 w0 (.slice va vn vc) t.ns /\ NN 0 w0 (.slice va vn vc) t.ns) := hideP ⟨hu, huN⟩
   clear hu huN hsk
   rw [show cs = _ from hcs] at hcj
   have g0 : wr.cell? ⟨b, off + k * 3, none⟩ = some (.int .i64 t.sp) := ((HW0.out.trans (LI.out.bel.mono HW0.out.size)).cell (p := ⟨b, off + k * 3, none⟩) hb).trans (hcj 0 (by omega))
   have g1 : wr.cell? ⟨b, off + k * 3 + 1, none⟩ = some (.int .i64 t.al) := ((HW0.out.trans (LI.out.bel.mono HW0.out.size)).cell (p := ⟨b, off + k * 3 + 1, none⟩) hb).trans (hcj 1 (by omega))
   have g2 : wr.cell? ⟨b, off + k * 3 + 2, none⟩ = some (.slice va vn vc) := ((HW0.out.trans (LI.out.bel.mono HW0.out.size)).cell (p := ⟨b, off + k * 3 + 2, none⟩) hb).trans (hcj 2 (by omega))
   clear hc hcj hcl ht hcs
   cases hB : placeB t m cols with
   | false =>
    rw [hB] at HC
    have HPN : Hid (rowB ⟨rcs, ru⟩ cols = false) := hideP (by rw [HV.out]; exact place_no hkn HM.out.2 hc1 (by rw [<- HT.out, <- HM.out.1]; exact hB))
    obtain ⟨sp, al, ns⟩ := t
    simp only [clV] at HC
    dsimp only at g0 g1
    go_wp2_with fail
    refine (HC.out _ LI.out.bel).mono ?_
    rintro e w2 ⟨he, hb2⟩
    have he2 : e = .returned (.tuple #[plV 0 0 0 0 (.slice none 0 0), .bool false]) := he
    subst he2
    have LI2 := hideP (LI.out.below hb2)
    obtain ⟨d0, d1, d2, d3, d4, d5⟩ := LI2.out.cells
    obtain ⟨gz1, gz2⟩ := LI2.out.free
    have hlt2 := LI2.out.lt
    have hy2 : w.heap.size + 1 < w2.heap.size := by omega
    have hx2 : w.heap.size < w2.heap.size := by omega
    clear hb2 he g0 g1 g2 c0 c1 c2 c3 c4 c5 fz1 fz2 hlt
    go_wp2
    refine bodyPost_ret (v := .tuple #[.agg #[.int .i64 ru, .slice a k c], .bool false]) (by simp [results, Tryz.results73, go_sem, d0, d1, d2, d3, d4, d5, hx2, hy2, hlt2]) rfl ⟨by rw [HPN.out]; exact ⟨_, _, _, _, rfl⟩, ?_⟩
    have HBo := LI2.out.bel
    have HBs := HBo.size
    clear d0 d1 d2 d3 d4 d5 gz1 gz2
    repeat (first | with_reducible exact HBo | (with_reducible refine Below.setCell ?_ ?_ _; rotate_left; focus (first | (simp; done) | (simp; omega))) | (with_reducible refine Below.alloc ?_ ?_ _; rotate_left; focus (first | exact HBs | (simp; omega))))
   | true =>
    rw [hB] at HC
    have hsp := placeB_sp hB
    have HPY := hideP (place_yes (cs := rcs) HM.out.2 hc1 (by rw [<- HT.out, <- HM.out.1]; exact hB))
    have HNEW : Hid (∀ ps, PlOk w0 rcs ps k -> PlOk w0 rcs (ps ++ [⟨m, m + t.sp - 1, natW t.ns, t.al, .slice va vn vc⟩]) (k + 1)) := hideP (fun ps hp => hp.snoc _ ⟨HM.out.1, by rw [spK_succ, <- HT.out, HM.out.1], by rw [<- HT.out], by rw [<- HT.out], by rw [<- HT.out]; exact HNN.out.1, by rw [<- HT.out]; exact HNN.out.2⟩)
    have HSP : Hid (m + t.sp = spK rcs (k + 1)) := hideP (by rw [spK_succ, <- HT.out, HM.out.1])
    clear HNN HT
    obtain ⟨sp, al, ns⟩ := t
    simp only [clV] at HC
    dsimp only at g0 g1 hsp HNEW HSP
    obtain ⟨na, hna⟩ := exq (natW ns)
    rw [<- hna] at HNEW
    go_wp2_with fail
    refine (HC.out _ LI.out.bel).mono ?_
    rintro e w2 ⟨he, hb2⟩
    have he2 : e = .returned (.tuple #[plV m (m + sp - 1) na al (.slice va vn vc), .bool true]) := by rw [hna]; exact he
    subst he2
    obtain ⟨ps, ho, hps⟩ := HO.out
    obtain ⟨L, hL⟩ := exq (flatP ps)
    rw [<- hL] at ho
    have HFL : Hid (L = flatP ps /\ PlOk w0 rcs ps k) := hideP ⟨hL, hps⟩
    have O2 := hideP (ownG_below ho hb2)
    have HOB : Hid (∀ j, (Value.slice a k c).ownBlock = some j -> w.heap.size + 1 + 1 + 1 <= j /\ j < w2.heap.size) := hideP (fun j hj => (World.ownsRow.lt O2.out _ hj))
    have LI2 := hideP (LI.out.below hb2)
    obtain ⟨d0, d1, d2, d3, d4, d5⟩ := LI2.out.cells
    obtain ⟨gz1, gz2⟩ := LI2.out.free
    have hlt2 := LI2.out.lt
    have hy2 : w.heap.size + 1 < w2.heap.size := by omega
    have hx2 : w.heap.size < w2.heap.size := by omega
    clear hb2 he g0 g1 g2 c0 c1 c2 c3 c4 c5 fz1 fz2 hlt hna ho hps hL HC LI HO
    have wadd : IntKind.i64.wrap (m + sp - 1 + 1) = m + sp - 1 + 1 := by rw [IntKind.wrap_i64]; omega
    go_wp2_with (at_builtin; refine wpList_append_own _ rfl _ _ 117 rfl (w.heap.size + 1 + 1 + 1) 122 i0 (plV 0 0 0 0 (.slice none 0 0)) 5 56 Tryz.underlying117 hi0 hz0 hz1 HI.out rfl (by decide) (.slice a k c) k L rfl ((O2.out.alloc _).alloc _) ⟨w2.heap.size + 1, 0, none⟩ 1 1 [.int .i64 m, .int .i64 (m + sp - 1), .int .i64 na, .int .i64 al, .slice va vn vc] rfl rfl (new5b _ _ _ _ _ _ _ _) (one5p _ _ _ _ _ _ _) (by unfold maxLen; omega) (by omega) (by simp; omega) ?_; intro v4 w4 ho4 hg4 hn4; obtain ⟨a4, c4, rfl⟩ := ownG_shape ho4; have LI4 := hideP (((LI2.out.below (below1 _ _)).below (below1 _ _)).grown hg4 (fun j hj => (HOB.out j hj).1)); have O4 := hideP ho4; have q1 : w4.cell? ⟨w2.heap.size, 1, none⟩ = some (.int .i64 (m + sp - 1)) := (World.cell?_of_block (w := (w2.alloc _).alloc _) (a := ⟨w2.heap.size, 1, none⟩) (hg4.block w2.heap.size (by simp; omega) (fun e => by have := (HOB.out _ e.symm).2; omega))).trans (by simp); obtain ⟨f0, f1, f2, f3, f4, f5⟩ := LI4.out.cells; obtain ⟨kz1, kz2⟩ := LI4.out.free; have hlt4 := LI4.out.lt; have hsz4 : w2.heap.size < w4.heap.size := (by have := hg4.size; simp at this; omega); have hne1 : ¬ w2.heap.size = w.heap.size + 1 + 1 := (by omega); have hne2 : ¬ w.heap.size + 1 + 1 = w2.heap.size := (by omega); clear ho4 hg4 hn4 d0 d1 d2 d3 d4 d5 gz1 gz2)
    go_roundw
    case rel =>
     refine ⟨k + 1, m + sp, a4, c4, by omega, by go_num, rfl, hideP ⟨HSP.out, HPY.out.1⟩, by omega, by have := HPY.out.2; rw [<- HSP.out] at this; omega, hideP ⟨ps ++ [⟨m, m + sp - 1, na, al, .slice va vn vc⟩], ?_, HNEW.out ps HFL.out.2⟩, LI4.out.setU _⟩
     rw [flatP_snoc, <- HFL.out.1]
     exact own_setB O4.out (by omega) 1 _
    case measure => simp [intOf]; omega
  ·have hki : ¬ (k : Int) < (n : Int) := by omega
   obtain rfl : k = n := by omega
   have hy1 : w.heap.size + 1 < wr.heap.size := by omega
   have hx1 : w.heap.size < wr.heap.size := by omega
   go_wp2
   refine bodyPost_ret (v := .tuple #[.agg #[.int .i64 ru, .slice a k c], .bool true]) (by simp [results, Tryz.results73, go_sem, c0, c1, c2, c3, c4, c5, hx1, hy1, hlt]) rfl ⟨?_, ?_⟩
   ·obtain ⟨ps, ho, hps⟩ := HO.out
    rw [HV.out, HM.out.2, <- HM.out.1, decide_eq_true hm1]
    refine ⟨a, c, ps, by rw [HL.out], ?_, by rw [HL.out]; exact hps⟩
    rw [HL.out]
    refine ownG_base ?_ (show w.heap.size <= w.heap.size + 1 + 1 + 1 by omega)
    exact own_setB (own_setB ho (by omega) 0 _) (by omega) 1 _
   ·have HBo := LI.out.bel
    clear c0 c1 c2 c3 c4 c5 fz1 fz2
    repeat (first | with_reducible exact HBo | (with_reducible refine Below.setCell ?_ ?_ _; rotate_left; focus (first | (simp; done) | (simp; omega))) | (with_reducible refine Below.alloc ?_ ?_ _; rotate_left; focus (first | exact HBs | (simp; omega))))
theorem laneOf_any (x : Rw) {v : Value} {w0 w : World} (cols : Int) (h : CRowN 0 w0 v x.cs) (hw0 : Below w0.heap.size w0 w) (hs : SmW x) (hc0 : 1 <= cols) (hc1 : cols <= 20) :
 Calls Tryz.prog 73 #[rwV x v, .int .i64 cols] w fun e w' => LanP x (rowB x cols) e w0 w w' /\ Below w.heap.size w w' := by
 have h2 : CRowN 0 w v x.cs := h.below clNStable hw0
 cases hu : uptoB x.ru 1073741823 with
 | false => exact laneOf_no x cols h2 hs.1 (.inl hu)
 | true =>
  by_cases hr : 0 < x.ru /\ 0 < x.cs.length
  ·exact laneOf_no x cols h2 hs.1 (.inr hr)
  ·by_cases h9 : 0 < x.ru
   ·exact laneOf_rule x cols h2 hu h9 (by omega)
   ·exact laneOf_go x cols h hw0 hs hc0 hc1 hu h9
end Go.Proofs.YtbbehmcekbnkiaaGreat
