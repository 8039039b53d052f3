import Derived.Test.YtbbehmcekbnkiaaGreatRof
import Derived.Test.YtbbehmcekbnkiaaGreatBsl
import Derived.RangeFuncNested
import Derived.RangeFuncBound
import Derived.RangeFuncCalls
import Derived.RangeFuncLeaves
import Derived.Shelf.Abstract
import Derived.Shelf.RegionOpen
import Derived.WalkKit
import Derived.OwnWalkIn
import Derived.TacticsInMore
import Derived.LoopNIn
import Derived.LoopIn
import Derived.Test.YtbbehmcekbnkiaaGreatPal
import Derived.Test.YtbbehmcekbnkiaaGreatVpl
namespace Go.Proofs.YtbbehmcekbnkiaaGreat
open Go.RowKit
set_option linter.unusedVariables false
set_option linter.unusedSimpArgs false
set_option maxRecDepth 20000 in
set_option maxHeartbeats 4000000 in
theorem below_any {w : World} {R : Nat} {k wd h d len : Int} {g p : Value} (a b c s : Int) (B : Bun w R k wd h d len g p)
 (hl : -1152921504606846976 ≤ len ∧ len ≤ 1152921504606846976) (ha : -1073741823 ≤ a ∧ a ≤ 1073741823) (hb : -1073741823 ≤ b ∧ b ≤ 1073741823) (hc : -1073741823 ≤ c ∧ c ≤ 1073741823) (hs : -1073741823 ≤ s ∧ s ≤ 1073741823) :
 Calls Tryz.prog 67 #[.pointer (some ⟨R, 0, none⟩), .agg #[.int .i64 a, .int .i64 b, .int .i64 c], .int .i64 s] w fun e w' => (∃ v, e = .returned v) ∧ Bun w' R k (Shr.mxI wd (a + s)) h d (len + (b + c)) g p ∧ Shr.Fr R w w' := by
 obtain ⟨b0, b1, b2, b3, b4, b5, b6, b7, b8⟩ := B.cells
 have fz := B.free
 have hR := B.lt
 have HB := hideP B
 have w0 : IntKind.i64.wrap (b + c) = b + c := by rw [IntKind.wrap_i64]; omega
 have w1 : IntKind.i64.wrap (len + (b + c)) = len + (b + c) := by rw [IntKind.wrap_i64]; omega
 have w2 : IntKind.i64.wrap (a + s) = a + s := by rw [IntKind.wrap_i64]; omega
 clear hl ha hb hc hs B
 go_enter Tryz.func67, Tryz.ntmps67
 go_wp2
 go_region
 go_wp2
 go_region
 go_wp2
 go_end0
 rw [mx_max]
 refine ⟨⟨_, rfl⟩, ?_, ?_⟩
 ·exact ((((HB.out.setL _).setW _).alloc _).drew).drew
 ·exact frDrew (frDrew (Shr.Fr.alloc (Shr.Fr.set (Shr.Fr.set (Shr.Fr.refl R w) (.inl rfl) _) (.inl rfl) _) _))
theorem Bun.far {W : World} {R : Nat} {k wd h d len : Int} {g p : Value} (B : Bun W R k wd h d len g p) {q : Addr} (hne : R ≠ q.block) (v : Value) : Bun (W.setCell q v) R k wd h d len g p := B.same (Below.heap_setCell _ _ _ _ hne)
structure VJ (w : World) (xs : List Nd) (ao : Option Addr) (n cap Bs : Nat) (Z : List Nat) (g p : Value) (W : World) : Prop where
 ptr : Boxed W (w.heap.size + 1) 75 (.pointer (some ⟨w.heap.size, 0, none⟩))
 dep : Boxed W (w.heap.size + 1 + 1) 2 (.int .i64 (stkTo xs Z).d)
 src : Boxed W Bs 24 (.slice ao n cap)
 bun : Bun W w.heap.size 7 (stkTo xs Z).h 0 0 (stkTo xs Z).w g p
 gs : W.ownsRow w.heap.size 34 5 g (stkTo xs Z).gs.length (f5 (stkTo xs Z).gs)
 ps : W.ownsRow w.heap.size 3 1 p (gluesAt xs Z).length ((natI (gluesAt xs Z)).map (Value.int .i64))
def VS2 (w : World) (g p : Value) (b : Nat) : Prop := (b = w.heap.size ∨ b = w.heap.size + 1 + 1) ∨ g.ownBlock = some b ∨ p.ownBlock = some b
def VS1 (w : World) (b : Nat) : Prop := b = w.heap.size ∨ b = w.heap.size + 1 + 1
theorem Frs.mono {S T : Nat → Prop} {w a : World} (h : Frs S w a) (hT : ∀ x, S x → T x) : Frs T w a := ⟨h.os, h.tape, h.out, h.size, fun x hx hn => h.block x hx (fun e => hn (hT x e))⟩
theorem vj_round {w W W' : World} {xs : List Nd} {ao : Option Addr} {n cap Bs b off : Nat} {Z : List Nat} {g p : Value} (h : VJ w xs ao n cap Bs Z g p W) (hB : Below w.heap.size w W) (F : Frs (VS2 w g p) W W') (hb : 0 < xs.length → b < w.heap.size) :
 KeepsOthers W W' ∧ (Src xs ao Bs b off cap W → Src xs ao Bs b off cap W') ∧ Boxed W' (w.heap.size + 1) 75 (.pointer (some ⟨w.heap.size, 0, none⟩)) ∧ Boxed W' Bs 24 (.slice ao n cap) ∧ Below w.heap.size w W' := by
 have hcell : ∀ k, VS2 w g p k → ∃ cs t, W.heap[k]? = some (.cells cs t (0, 0)) ∧ t ≠ 75 ∧ t ≠ 24 := by
  intro k hk
  rcases hk with (rfl | rfl) | hk | hk
  ·exact ⟨_, 130, h.bun.box, by decide, by decide⟩
  ·exact ⟨_, 2, h.dep, by decide, by decide⟩
  ·obtain ⟨cs, hc⟩ := own_cells_block h.gs hk
   exact ⟨_, 34, hc, by decide, by decide⟩
  ·obtain ⟨cs, hc⟩ := own_cells_block h.ps hk
   exact ⟨_, 3, hc, by decide, by decide⟩
 have hge : ∀ k, VS2 w g p k → w.heap.size ≤ k := by
  intro k hk
  rcases hk with (rfl | rfl) | hk | hk
  ·exact Nat.le_refl _
  ·omega
  ·exact (World.ownsRow.lt h.gs k hk).1
  ·exact (World.ownsRow.lt h.ps k hk).1
 have h1 : ¬ VS2 w g p (w.heap.size + 1) := fun hk => by
  obtain ⟨cs, t, hc, ht, _⟩ := hcell _ hk
  have := h.ptr
  unfold Boxed at this
  rw [this] at hc
  cases hc
  exact ht rfl
 have h2 : ¬ VS2 w g p Bs := fun hk => by
  obtain ⟨cs, t, hc, _, ht⟩ := hcell _ hk
  have := h.src
  unfold Boxed at this
  rw [this] at hc
  cases hc
  exact ht rfl
 have hbs := F.block Bs h.src.lt h2
 refine ⟨⟨F.size, fun k o hk ho => ?_⟩, fun hsrc => ?_, (F.block _ h.ptr.lt h1).trans h.ptr, hbs.trans h.src, F.toBelow hB hge hB.size⟩
 ·have hlt := (Array.getElem?_eq_some_iff.1 hk).1
  refine (F.block k hlt (fun hs => ?_)).trans hk
  obtain ⟨cs, t, hc, _⟩ := hcell k hs
  rw [hk] at hc
  cases hc
  cases ho
 ·refine ⟨(World.cell?_of_block (w := W) (a := ⟨Bs, 0, none⟩) hbs).trans hsrc.box, hsrc.some_, fun i hi => ?_⟩
  obtain ⟨y, hk, hcy⟩ := hsrc.at_ i hi
  have hbl := hb (by omega)
  refine ⟨y, hk, fun j hj => ?_⟩
  exact (World.cell?_of_block (w := W) (a := ⟨b, off + i * 15 + j, none⟩) (F.block b (Nat.lt_of_lt_of_le hbl hB.size) (fun hs => by have := hge b hs; omega))).trans (hcy j hj)
theorem vj_rows {w W W2 : World} {xs : List Nd} {ao : Option Addr} {n cap Bs : Nat} {Z : List Nat} {g p : Value} (h : VJ w xs ao n cap Bs Z g p W) (F : Frs (VS1 w) W W2) :
 W2.ownsRow w.heap.size 34 5 g (stkTo xs Z).gs.length (f5 (stkTo xs Z).gs) ∧ W2.ownsRow w.heap.size 3 1 p (gluesAt xs Z).length ((natI (gluesAt xs Z)).map (Value.int .i64)) := by
 have hno : ∀ {e : Nat} {cs : Array Value} {k : Nat}, W.heap[k]? = some (.cells cs e (0, 0)) → e ≠ 130 → e ≠ 2 → ¬ VS1 w k := by
  intro e cs k hk h1 h2 hv
  rcases hv with rfl | rfl
  ·rw [h.bun.box] at hk
   cases hk
   exact h1 rfl
  ·have := h.dep
   unfold Boxed at this
   rw [this] at hk
   cases hk
   exact h2 rfl
 refine ⟨ownG_same h.gs (fun b hb => ?_), ownG_same h.ps (fun b hb => ?_)⟩
 ·obtain ⟨cs, hc⟩ := own_cells_block h.gs hb
  exact F.block b (World.ownsRow.lt h.gs b hb).2 (hno hc (by decide) (by decide))
 ·obtain ⟨cs, hc⟩ := own_cells_block h.ps hb
  exact F.block b (World.ownsRow.lt h.ps b hb).2 (hno hc (by decide) (by decide))
set_option maxRecDepth 100000 in
set_option maxHeartbeats 8000000 in
theorem stackOf_in {v : Value} {xs : List Nd} {w : World} (deep : Int) (hdp : 0 ≤ deep) (h : NRow 0 w v xs) (AOK0 : AllOk xs) (hin : ∀ i, i < xs.length → NdIn (xs.getD i Nd.none)) (hs0 : ∀ i, i < xs.length → ((xs.getD i Nd.none).k = 1 ∨ (xs.getD i Nd.none).k = 5) → (xs.getD i Nd.none).sh = 0) :
 CallsIn Fence.wide 5 Tryz.prog 41 #[v, .int .i64 deep] w fun e W' => (∃ g p, e = .returned (.pointer (some ⟨w.heap.size, 0, none⟩)) ∧ Bun W' w.heap.size 7 (vpS xs deep).h 0 (vpS xs deep).d (vpS xs deep).w g p ∧ W'.ownsRow w.heap.size 34 5 g (vpS xs deep).gs.length (f5 (vpS xs deep).gs) ∧ W'.ownsRow w.heap.size 3 1 p (gluesAt xs (begins xs)).length ((natI (gluesAt xs (begins xs))).map (Value.int .i64))) ∧ Below w.heap.size w W' := by
 have AOK := hideP AOK0
 have HIN := hideP hin
 have HS0 := hideP hs0
 obtain ⟨ao, n, cap, rfl, hl, hr⟩ := h
 have hnm : n ≤ 20000 := by rw [← hl]; exact AOK0.len
 have HL := hideP hl
 obtain ⟨b, off, hbo⟩ : ∃ b off, 0 < n → ao = some ⟨b, off, none⟩ ∧ b < w.heap.size ∧ ∀ j u, (flatN xs)[j]? = some u → w.cell? ⟨b, off + j, none⟩ = some u := by
  by_cases hn0 : 0 < n
  ·obtain ⟨b, off, e, _, hb, hc⟩ := hr hn0
   exact ⟨b, off, fun _ => ⟨e, hb, row_cells (fun i hi => hc i (by rw [← hl]; exact hi))⟩⟩
  ·exact ⟨0, 0, fun h => absurd h hn0⟩
 have HBO := hideP hbo
 clear hr hl hbo AOK0 hin hs0
 refine callsIn_of_wp_marks Tryz.func41 rfl trivial ?_ rfl
 simp only [Tryz.ntmps41, List.size_toArray, List.length_cons, List.length_nil, Nat.reduceAdd, Nat.reduceSub, Array.replicate_succ, Array.replicate_zero, List.push_toArray, List.append_toArray, List.nil_append, List.cons_append]
 gi_wp2_with fail
 refine ⟨trivial, CallsIn.mono (callsIn_wide.2 (eachItem_any ao n cap _)) ?_⟩
 rintro e w2 ⟨rfl, rfl⟩
 gi_wp2_with fail
 obtain ⟨W0, hW0⟩ : ∃ W0, W0 = (((w.alloc (.cells #[.int .i64 7, .int .i64 0, .int .i64 0, .int .i64 0, .int .i64 0, .int .i64 0, .int .i64 0, .slice none 0 0, .slice none 0 0] 130)).alloc (.cells #[.pointer (some ⟨w.heap.size, 0, none⟩)] 75)).alloc (.cells #[.int .i64 0] 2)).alloc (.cells #[.slice ao n cap] 24) := ⟨_, rfl⟩
 rw [← hW0]
 have hB0 : Below w.heap.size w W0 := by rw [hW0]; exact Below.alloc (below3 _ _ _ _) (by first | omega | (simp; done) | (simp; omega)) _
 have hptr : Boxed W0 (w.heap.size + 1) 75 (.pointer (some ⟨w.heap.size, 0, none⟩)) := by
  rw [hW0]
  have h := Boxed.new (w.alloc (.cells #[.int .i64 7, .int .i64 0, .int .i64 0, .int .i64 0, .int .i64 0, .int .i64 0, .int .i64 0, .slice none 0 0, .slice none 0 0] 130)) 75 (.pointer (some ⟨w.heap.size, 0, none⟩))
  rw [World.size_alloc] at h
  exact (h.alloc _).alloc _
 have hdep : Boxed W0 (w.heap.size + 1 + 1) 2 (.int .i64 0) := by
  rw [hW0]
  have h := Boxed.new ((w.alloc (.cells #[.int .i64 7, .int .i64 0, .int .i64 0, .int .i64 0, .int .i64 0, .int .i64 0, .int .i64 0, .slice none 0 0, .slice none 0 0] 130)).alloc (.cells #[.pointer (some ⟨w.heap.size, 0, none⟩)] 75)) 2 (.int .i64 0)
  rw [World.size_alloc, World.size_alloc] at h
  exact h.alloc _
 have hsrc : Boxed W0 (w.heap.size + 1 + 1 + 1) 24 (.slice ao n cap) := by
  rw [hW0]
  have h := Boxed.new (((w.alloc (.cells #[.int .i64 7, .int .i64 0, .int .i64 0, .int .i64 0, .int .i64 0, .int .i64 0, .int .i64 0, .slice none 0 0, .slice none 0 0] 130)).alloc (.cells #[.pointer (some ⟨w.heap.size, 0, none⟩)] 75)).alloc (.cells #[.int .i64 0] 2)) 24 (.slice ao n cap)
  rw [World.size_alloc, World.size_alloc, World.size_alloc] at h
  exact h
 have hbun : Bun W0 w.heap.size 7 0 0 0 0 (.slice none 0 0) (.slice none 0 0) := by
  rw [hW0]
  exact Bun.alloc (Bun.alloc (Bun.alloc ⟨heap_alloc_new w _⟩ _) _) _
 have hsz : W0.heap.size = w.heap.size + 4 := by rw [hW0]; simp
 clear hW0
 obtain ⟨Bs, hBs⟩ : ∃ B, B = w.heap.size + 1 + 1 + 1 := ⟨_, rfl⟩
 rw [← hBs] at hsrc ⊢
 have HSR : Hid (Src xs ao Bs b off cap W0) := hideP (by
  refine ⟨by rw [HL.out]; exact hsrc.cell, fun h => (HBO.out (by rw [← HL.out]; exact h)).1, fun i hi => ⟨xs.getD i Nd.none, ⟨rfl, rfl⟩, fun j hj => ?_⟩⟩
  obtain ⟨_, hbw, hcell⟩ := HBO.out (by rw [← HL.out]; omega)
  have h1 := flatN_get xs i hi j hj
  rw [List.getElem?_eq_getElem (show j < (xs.getD i Nd.none).cells.length from hj)] at h1 ⊢
  have h2 := hcell _ _ h1
  rw [show off + i * 15 + j = off + (i * 15 + j) by omega]
  exact (hB0.cell (p := ⟨b, off + (i * 15 + j), none⟩) hbw).trans h2)
 have HBW : Hid (0 < xs.length → b < w.heap.size) := hideP (fun h => (HBO.out (by rw [← HL.out]; exact h)).2.1)
 have hys2 : xs.length ≤ 20000 ∧ ∀ i, i < xs.length → 0 ≤ (xs.getD i Nd.none).kids ∧ (xs.getD i Nd.none).kids ≤ 20000 := ⟨AOK.out.len, AOK.out.weak⟩
 refine wpIn_rangeFunc_ownF (F := Fence.wide) (n := 5) rfl (by omega) (gf := 65) (lb := #[.pointer (some ⟨Bs, 0, none⟩)]) rfl trivial (enters_of Tryz.func65 (by kernel_rfl) rfl)
  (each_stops 4 (by omega) xs ao Bs b off cap hys2.1 hys2.2 W0 HSR.out) (fun h1 h2 h => h2 (h1 h)) ?keepb (Below.refl _ _) (fun _ => rfl)
  (fun pre W => (∃ g p, VJ w xs ao n cap Bs (pre.map (fun x => x.1.1)) g p W) ∧ Below w.heap.size w W)
  (fun _ _ _ => False) ?ownI (fun _ _ _ _ _ hs _ _ => hs) ?start ?a1z ?assign ?body ?done ?stop
 case assign =>
  intro l x W K hK
  simp [Item.encs]
  gi_wp2
  exact hK
 case start => exact ⟨⟨_, _, ⟨hptr, hdep, hsrc, hbun, World.ownsRow_nil _ _ _ _, World.ownsRow_nil _ _ _ _⟩⟩, hB0⟩
 case keepb =>
  intro W l o o' hl hlo hoc _ hsrc
  exact hsrc.kept (grownBy_putObj' W l o') (fun r e => by cases e; exact ⟨o, hlo, hoc⟩)
 case ownI =>
  refine OwnFrom.and (Own.from ?_ _) (ownFrom_below (Nat.le_refl _) (by omega))
  rintro s A B row ⟨g, p, h1⟩ hg hr
  exact ⟨g, p, boxed_kept h1.ptr hg hr, boxed_kept h1.dep hg hr, boxed_kept h1.src hg hr, h1.bun.kept hg hr, ownG_kept h1.gs hg hr, ownG_kept h1.ps hg hr⟩
 case stop =>
  rintro D c pre W _ _ h _
  exact h.elim
 case done =>
  rintro D its' W hD hst ⟨⟨g, p, hj⟩, hB⟩ hK
  have HJ : Hid (VJ w xs ao n cap Bs (begins xs) g p W) := hideP (by
   have e : its'.map (fun x => x.1.1) = begins xs := hst
   rw [e] at hj
   exact hj)
  have HVI : Hid (VIn (stkTo xs (begins xs)) (begins xs).length) := hideP (stkTo_in xs HIN.out (begins xs) (fun q hq => starts_lt xs _ _ q hq))
  have hbl : (begins xs).length ≤ 20000 := by
   have h1 := starts_count (xs := xs) (xs.length + 1) 0
   have := HL.out
   unfold begins
   omega
  have hc1 := HJ.out.ptr.cell
  have hc2 := HJ.out.dep.cell
  obtain ⟨b0, b1, b2, b3, b4, b5, b6, b7, b8⟩ := HJ.out.bun.cells
  have fz := HJ.out.bun.free
  have hR := HJ.out.bun.lt
  have HBB := hideP hB
  clear hj hB
  have hmn : mnI (stkTo xs (begins xs)).d deep = min (stkTo xs (begins xs)).d deep := by unfold mnI; split <;> omega
  have hmb : -1073741823 ≤ min (stkTo xs (begins xs)).d deep ∧ min (stkTo xs (begins xs)).d deep ≤ 1073741823 := by have := HVI.out.d1; have := HVI.out.d2; omega
  have HMN := hideP hmn
  obtain ⟨dm, hdm⟩ : ∃ dm, dm = min (stkTo xs (begins xs)).d deep := ⟨_, rfl⟩
  have HDM := hideP hdm
  rw [← hdm] at hmb HMN
  have hwr : IntKind.i64.wrap ((stkTo xs (begins xs)).w - dm) = (stkTo xs (begins xs)).w - dm := by have := HVI.out.w1; have := HVI.out.w2; rw [IntKind.wrap_i64]; omega
  clear hmn hdm
  gi_wp2
  rw [← HDM.out]
  refine wpIn_wide.2 ?_
  go_region
  obtain ⟨W5, hW5⟩ : ∃ W5, W5 = ((W.setCell ⟨w.heap.size, 3, none⟩ (.int .i64 dm)).setCell ⟨w.heap.size, 6, none⟩ (.int .i64 ((stkTo xs (begins xs)).w - dm))).drew := ⟨_, rfl⟩
  rw [← hW5]
  have hDR : D ≠ w.heap.size := fun e => by
   rw [e, HJ.out.bun.box] at hK
   cases hK
  have hK5 : W5.heap[D]? = some (.deferred (some [])) := by
   rw [hW5]
   exact (Below.heap_setCell _ _ _ _ hDR).trans ((Below.heap_setCell _ _ _ _ hDR).trans hK)
  have hc5 : W5.cell? ⟨w.heap.size + 1, 0, none⟩ = some (.pointer (some ⟨w.heap.size, 0, none⟩)) := by
   rw [hW5]
   exact (World.cell?_setCell_far _ _ _ _ (by simp)).trans ((World.cell?_setCell_far _ _ _ _ (by simp)).trans hc1)
  have HB5 : Hid (Bun W5 w.heap.size 7 (vpS xs deep).h 0 (vpS xs deep).d (vpS xs deep).w g p) := hideP (by
   rw [hW5]
   have h1 := ((HJ.out.bun.setD dm).setL ((stkTo xs (begins xs)).w - dm)).drew
   simp only [vpS]
   rw [HMN.out]
   exact h1)
  have hne : ∀ {v : Value} {e s m : Nat} {L : List Value}, W.ownsRow w.heap.size e s v m L → e ≠ 130 → W5.ownsRow w.heap.size e s v m L := fun ho he => by
   rw [hW5]
   exact own_setR (own_setR ho (own_neR HJ.out.bun ho he) 3 _) (own_neR HJ.out.bun ho he) 6 _
  have HG5 := hideP (hne HJ.out.gs (by decide))
  have HP5 := hideP (hne HJ.out.ps (by decide))
  have HBL : Hid (Below w.heap.size w W5) := hideP (by rw [hW5]; exact ((HBB.out.setCell (p := ⟨w.heap.size, 3, none⟩) (Nat.le_refl _) _).setCell (p := ⟨w.heap.size, 6, none⟩) (Nat.le_refl _) _).drew)
  clear hW5 hne b0 b1 b2 b3 b4 b5 b6 b7 b8 fz hc1 hc2
  gi_wp2
  refine ⟨by simp, .inl ⟨_, _, rfl, run_takeDeferred hK5, ?_⟩⟩
  have hg := grownBy_putObj' W5 D (.deferred none)
  have hr : ∀ r, (some D) = some r → ∃ o : Obj, W5.heap[r]? = some o ∧ o.isCells = false := fun r e => by cases e; exact ⟨_, hK5, rfl⟩
  exact ⟨_, results_tmp rfl _ _ _, ⟨g, p, rfl, HB5.out.kept hg hr, ownG_kept HG5.out hg hr, ownG_kept HP5.out hg hr⟩, HBL.out.trans (belowK_b (w := w) (Nat.le_refl _) W5 D _ _ (by omega) hK5 rfl rfl)⟩
 case body =>
  rintro l pre x W ⟨⟨g, p, hj⟩, hB⟩ hpl
  have hat := x.2.1
  obtain ⟨y, hy, hyq⟩ := x.2.2
  have hvt : x.1.2 = thV (xs.getD x.1.1 Nd.none) := by rw [hyq.2.2, hy.1]
  obtain ⟨at_, ha⟩ : ∃ a, x.1.1 = a := ⟨_, rfl⟩
  obtain ⟨vt, hv⟩ : ∃ v, x.1.2 = v := ⟨_, rfl⟩
  rw [hv, ha] at hvt
  rw [ha] at hat
  rw [ha, hv]
  obtain ⟨Z, hZ⟩ : ∃ Z, Z = pre.map (fun x => x.1.1) := ⟨_, rfl⟩
  rw [← hZ] at hj
  have HA : Hid ((pre ++ [x]).map (fun x => x.1.1) = Z ++ [at_]) := hideP (by rw [List.map_append, List.map_singleton, ha, ← hZ])
  have HZ : Hid (∀ q ∈ Z, q < xs.length) := hideP (by rw [hZ]; intro q hq; obtain ⟨z, _, rfl⟩ := List.mem_map.1 hq; exact z.2.1)
  have hZl : Z.length = pre.length := by rw [hZ, List.length_map]
  have HRI : Hid (VIn (stkTo xs Z) Z.length) := hideP (stkTo_in xs HIN.out Z HZ.out)
  have hzl : Z.length ≤ 20000 := by have := HL.out; omega
  have hNI := HIN.out at_ hat
  have hS0 := HS0.out at_ hat
  have hwb : -1152921504606846976 ≤ (stkTo xs Z).w ∧ (stkTo xs Z).w ≤ 1152921504606846976 := ⟨by have := HRI.out.w1; omega, by have := HRI.out.w2; omega⟩
  have hgl : (stkTo xs Z).gs.length ≤ 20001 := by have := HRI.out.n; omega
  have hpl2 : (gluesAt xs Z).length ≤ 20001 := by have := List.length_filter_le (fun p => (xs.getD p Nd.none).k == 3) Z; unfold gluesAt; omega
  clear ha hv hy hyq hZ hZl hpl
  obtain ⟨nd, hnd⟩ : ∃ nd, nd = xs.getD at_ Nd.none := ⟨_, rfl⟩
  rw [← hnd] at hvt hNI hS0
  have HSS := hideP hS0
  clear hS0
  have HND : Hid (stkTo xs (Z ++ [at_]) = stkStep (stkTo xs Z) nd) := hideP (by rw [stkTo_snoc, hnd])
  have HG3 : Hid (nd.k = 3 → gluesAt xs (Z ++ [at_]) = gluesAt xs Z ++ [at_]) := hideP (fun e => gluesAt_yes xs Z (by rw [← hnd]; exact e))
  have HG0 : Hid (nd.k ≠ 3 → gluesAt xs (Z ++ [at_]) = gluesAt xs Z) := hideP (fun e => gluesAt_no xs Z (by rw [← hnd]; exact e))
  obtain ⟨r0, r1, r2, AR, AR'⟩ := ask_rule nd
  obtain ⟨x0, x1, x2, x3, x4, x5, AX, AX'⟩ := ask_box nd
  obtain ⟨k0, AK, AK'⟩ := ask_kern nd
  obtain ⟨s0, s1, s2, s3, s4, s5, AS, AS'⟩ := ask_space nd
  rw [← hvt] at AR AX AK AS
  have hcp := hj.ptr.cell
  have hcd := hj.dep.cell
  have hfd := hj.dep.frozen
  have HJ := hideP hj
  have HBB := hideP hB
  have hlt := hj.ptr.lt
  have hltD := hj.dep.lt
  have hlt0 := hj.bun.lt
  have Z0 : Hid (Bun (W.setCell ⟨w.heap.size + 1 + 1, 0, none⟩ (.int .i64 0)) w.heap.size 7 (stkTo xs Z).h 0 0 (stkTo xs Z).w g p ∧ Frs (VS1 w) W (W.setCell ⟨w.heap.size + 1 + 1, 0, none⟩ (.int .i64 0)) ∧ Boxed (W.setCell ⟨w.heap.size + 1 + 1, 0, none⟩ (.int .i64 0)) (w.heap.size + 1 + 1) 2 (.int .i64 0) ∧ Boxed (W.setCell ⟨w.heap.size + 1 + 1, 0, none⟩ (.int .i64 0)) (w.heap.size + 1) 75 (.pointer (some ⟨w.heap.size, 0, none⟩))) := hideP ⟨hj.bun.far (by first | omega | (simp; done) | (simp; omega)) _, (Frs.refl _ _).set (.inr rfl) _, hj.dep.set _, hj.ptr.other (by omega) _⟩
  clear hj hB hvt hnd hBs
  by_cases h5 : nd.k = 5
  ·have hk : nd.k = 5 ∨ nd.k = 5 := .inl h5
   have qAR : (nd.k == 5) = true := by rcases hk with hk | hk <;> simp [hk]
   rw [qAR] at AR
   have qAX : (nd.k == 6 || nd.k == 7) = false := by simp; omega
   rw [qAX] at AX
   have qAK : (nd.k == 2) = false := by simp; omega
   rw [qAK] at AK
   have qAS : (nd.k == 3) = false := by simp; omega
   rw [qAS] at AS
   obtain ⟨rfl, rfl, rfl⟩ := AR' (by omega)
   clear AR' AX' AK' AS' qAR qAX qAK qAS
   gi_wp2_with (rw [Oper.semAt_some _ _ _ (by intro c h; cases h)]; unfold execOp; simp only [Act.eval]; go_simp)
   refine ⟨trivial, CallsIn.mono (callsIn_wide.2 (below_any nd.wd nd.ht nd.dp 0 (Z0.out.1.alloc _) hwb hNI.wd hNI.ht hNI.dp ⟨by omega, by omega⟩)) ?_⟩
   rintro e W2 ⟨⟨vr, rfl⟩, hbun2, hfr2⟩
   have hT2 : W2.heap[W.heap.size]? = some (.cells #[.int .i64 nd.wd, .int .i64 nd.ht, .int .i64 nd.dp] 135 (0, 0)) := (hfr2.2.2.2.2 W.heap.size (by simp) (by omega)).trans (by simpa using heap_alloc_new (W.setCell ⟨w.heap.size + 1 + 1, 0, none⟩ (.int .i64 0)) (.cells #[.int .i64 nd.wd, .int .i64 nd.ht, .int .i64 nd.dp] 135))
   have hd2 : Boxed W2 (w.heap.size + 1 + 1) 2 (.int .i64 0) := (hfr2.2.2.2.2 (w.heap.size + 1 + 1) (by first | omega | (simp; done) | (simp; omega)) (by omega)).trans (Z0.out.2.2.1.alloc _)
   have F2 : Frs (VS1 w) W W2 := Frs.fr (Z0.out.2.1.alloc _) hfr2 (.inl rfl)
   have c9 := cell_of_row W2 W.heap.size 2 _ 135 _ hT2
   have c8 := hd2.cell
   have f8 := hd2.frozen
   obtain ⟨W3, hW3⟩ : ∃ W3, W3 = W2.setCell ⟨w.heap.size + 1 + 1, 0, none⟩ (.int .i64 nd.dp) := ⟨_, rfl⟩
   have F3 : Frs (VS1 w) W W3 := by rw [hW3]; exact F2.set (.inr rfl) _
   have hd3 : Boxed W3 (w.heap.size + 1 + 1) 2 (.int .i64 nd.dp) := by rw [hW3]; exact hd2.set _
   have hb3 := hbun2.far (q := ⟨w.heap.size + 1 + 1, 0, none⟩) (by first | omega | (simp; done) | (simp; omega)) (.int .i64 nd.dp)
   rw [← hW3] at hb3
   obtain ⟨d1, d2, d3, d4, d5⟩ := vj_round HJ.out HBB.out (F3.mono (fun x hx => .inl hx)) HBW.out
   obtain ⟨e1, e2⟩ := vj_rows HJ.out F3
   have HD : Hid (KeepsOthers W W3 ∧ (Src xs ao Bs b off cap W → Src xs ao Bs b off cap W3) ∧ VJ w xs ao n cap Bs (Z ++ [at_]) g p W3 ∧ Below w.heap.size w W3) := hideP (by
    refine ⟨d1, d2, ⟨d3, ?_, d4, ?_, ?_, ?_⟩, d5⟩
    ·rw [HND.out, stkStep_5 h5]; exact hd3
    ·rw [HND.out, stkStep_5 h5]
     show Bun W3 _ 7 (Shr.mxI (stkTo xs Z).h (nd.wd + nd.sh)) 0 0 ((stkTo xs Z).w + (nd.ht + nd.dp)) g p
     rw [HSS.out (by omega)]
     exact hb3
    ·rw [HND.out, stkStep_5 h5]; exact e1
    ·rw [HG0.out (by omega)]; exact e2)
   have HW3 := hideP hW3
   clear d1 d2 d3 d4 d5 e1 e2 F2 F3 hbun2 hfr2 hT2 hd2 hd3 hb3 hW3
   gi_wp2_with (rw [Oper.semAt_some _ _ _ (by intro c h; cases h)]; unfold execOp; simp only [Act.eval]; go_simp)
   rw [HW3.out] at HD
   exact ⟨HD.out.1, HD.out.2.1, ⟨_, _, by have h := HD.out.2.2.1; rw [← HA.out] at h; exact h⟩, HD.out.2.2.2⟩
  by_cases h6 : nd.k = 6 ∨ nd.k = 7
  ·have hk := h6
   have hst : ∀ s, stkStep s nd = s.pile nd := fun s => by rcases h6 with h | h; exact stkStep_6 h; exact stkStep_7 h
   have qAR : (nd.k == 5) = false := by simp; omega
   rw [qAR] at AR
   have qAX : (nd.k == 6 || nd.k == 7) = true := by rcases hk with hk | hk <;> simp [hk]
   rw [qAX] at AX
   have qAK : (nd.k == 2) = false := by simp; omega
   rw [qAK] at AK
   have qAS : (nd.k == 3) = false := by simp; omega
   rw [qAS] at AS
   obtain ⟨rfl, rfl, rfl, rfl⟩ := AX' (by omega)
   clear AR' AX' AK' AS' qAR qAX qAK qAS
   gi_wp2_with (rw [Oper.semAt_some _ _ _ (by intro c h; cases h)]; unfold execOp; simp only [Act.eval]; go_simp)
   refine ⟨trivial, CallsIn.mono (callsIn_wide.2 (below_any nd.wd nd.ht nd.dp nd.sh (Z0.out.1.alloc _) hwb hNI.wd hNI.ht hNI.dp hNI.sh)) ?_⟩
   rintro e W2 ⟨⟨vr, rfl⟩, hbun2, hfr2⟩
   have hT2 : W2.heap[W.heap.size]? = some (.cells #[.int .i64 x0, .int .i64 nd.wd, .int .i64 nd.ht, .int .i64 nd.dp, .int .i64 nd.sh, .int .i64 x5] 78 (0, 0)) := (hfr2.2.2.2.2 W.heap.size (by simp) (by omega)).trans (by simpa using heap_alloc_new (W.setCell ⟨w.heap.size + 1 + 1, 0, none⟩ (.int .i64 0)) (.cells #[.int .i64 x0, .int .i64 nd.wd, .int .i64 nd.ht, .int .i64 nd.dp, .int .i64 nd.sh, .int .i64 x5] 78))
   have hd2 : Boxed W2 (w.heap.size + 1 + 1) 2 (.int .i64 0) := (hfr2.2.2.2.2 (w.heap.size + 1 + 1) (by first | omega | (simp; done) | (simp; omega)) (by omega)).trans (Z0.out.2.2.1.alloc _)
   have F2 : Frs (VS1 w) W W2 := Frs.fr (Z0.out.2.1.alloc _) hfr2 (.inl rfl)
   have c9 := cell_of_row W2 W.heap.size 3 _ 78 _ hT2
   have c8 := hd2.cell
   have f8 := hd2.frozen
   obtain ⟨W3, hW3⟩ : ∃ W3, W3 = W2.setCell ⟨w.heap.size + 1 + 1, 0, none⟩ (.int .i64 nd.dp) := ⟨_, rfl⟩
   have F3 : Frs (VS1 w) W W3 := by rw [hW3]; exact F2.set (.inr rfl) _
   have hd3 : Boxed W3 (w.heap.size + 1 + 1) 2 (.int .i64 nd.dp) := by rw [hW3]; exact hd2.set _
   have hb3 := hbun2.far (q := ⟨w.heap.size + 1 + 1, 0, none⟩) (by first | omega | (simp; done) | (simp; omega)) (.int .i64 nd.dp)
   rw [← hW3] at hb3
   obtain ⟨d1, d2, d3, d4, d5⟩ := vj_round HJ.out HBB.out (F3.mono (fun x hx => .inl hx)) HBW.out
   obtain ⟨e1, e2⟩ := vj_rows HJ.out F3
   have HD : Hid (KeepsOthers W W3 ∧ (Src xs ao Bs b off cap W → Src xs ao Bs b off cap W3) ∧ VJ w xs ao n cap Bs (Z ++ [at_]) g p W3 ∧ Below w.heap.size w W3) := hideP (by
    refine ⟨d1, d2, ⟨d3, ?_, d4, ?_, ?_, ?_⟩, d5⟩
    ·rw [HND.out, hst]; exact hd3
    ·rw [HND.out, hst]
     show Bun W3 _ 7 (Shr.mxI (stkTo xs Z).h (nd.wd + nd.sh)) 0 0 ((stkTo xs Z).w + (nd.ht + nd.dp)) g p
     exact hb3
    ·rw [HND.out, hst]; exact e1
    ·rw [HG0.out (by omega)]; exact e2)
   have HW3 := hideP hW3
   clear d1 d2 d3 d4 d5 e1 e2 F2 F3 hbun2 hfr2 hT2 hd2 hd3 hb3 hW3
   gi_wp2_with (rw [Oper.semAt_some _ _ _ (by intro c h; cases h)]; unfold execOp; simp only [Act.eval]; go_simp)
   rw [HW3.out] at HD
   exact ⟨HD.out.1, HD.out.2.1, ⟨_, _, by have h := HD.out.2.2.1; rw [← HA.out] at h; exact h⟩, HD.out.2.2.2⟩
  by_cases h2 : nd.k = 2
  ·have qAR : (nd.k == 5) = false := by simp; omega
   rw [qAR] at AR
   have qAX : (nd.k == 6 || nd.k == 7) = false := by simp; omega
   rw [qAX] at AX
   have qAK : (nd.k == 2) = true := by simp [h2]
   rw [qAK] at AK
   have qAS : (nd.k == 3) = false := by simp; omega
   rw [qAS] at AS
   obtain rfl := AK' h2
   clear AR' AX' AK' AS' qAR qAX qAK qAS
   gi_wp2_with (rw [Oper.semAt_some _ _ _ (by intro c h; cases h)]; unfold execOp; simp only [Act.eval]; go_simp)
   have hwr : IntKind.i64.wrap ((stkTo xs Z).w + nd.wd) = (stkTo xs Z).w + nd.wd := by have := hNI.wd; rw [IntKind.wrap_i64]; omega
   obtain ⟨WA, hWA⟩ : ∃ WA, WA = (W.setCell ⟨w.heap.size + 1 + 1, 0, none⟩ (.int .i64 0)).alloc (.cells #[.int .i64 nd.wd] 137) := ⟨_, rfl⟩
   rw [← hWA]
   have BA : Hid (Bun WA w.heap.size 7 (stkTo xs Z).h 0 0 (stkTo xs Z).w g p) := hideP (by rw [hWA]; exact Z0.out.1.alloc _)
   have hcpA : WA.cell? ⟨w.heap.size + 1, 0, none⟩ = some (.pointer (some ⟨w.heap.size, 0, none⟩)) := by rw [hWA]; exact (Z0.out.2.2.2.alloc _).cell
   have hcT : WA.cell? ⟨W.heap.size, 0, none⟩ = some (.int .i64 nd.wd) := by
    have h := cell_of_row WA W.heap.size 0 #[.int .i64 nd.wd] 137 (0, 0) (by rw [hWA]; simpa using heap_alloc_new (W.setCell ⟨w.heap.size + 1 + 1, 0, none⟩ (.int .i64 0)) (.cells #[.int .i64 nd.wd] 137))
    exact h
   have hc6 := BA.out.cells.2.2.2.2.2.2.1
   have fzA := BA.out.free
   have hltA := BA.out.lt
   have hTw : w.heap.size + 1 < W.heap.size := hlt
   have W9 : Hid (Bun (WA.setCell ⟨w.heap.size, 6, none⟩ (.int .i64 ((stkTo xs Z).w + nd.wd))) w.heap.size 7 (stkTo xs Z).h 0 0 ((stkTo xs Z).w + nd.wd) g p ∧ Frs (VS1 w) W (WA.setCell ⟨w.heap.size, 6, none⟩ (.int .i64 ((stkTo xs Z).w + nd.wd))) ∧ Boxed (WA.setCell ⟨w.heap.size, 6, none⟩ (.int .i64 ((stkTo xs Z).w + nd.wd))) (w.heap.size + 1 + 1) 2 (.int .i64 0)) := hideP ⟨BA.out.setL _, by rw [hWA]; exact (Z0.out.2.1.alloc _).set (.inl rfl) _, by rw [hWA]; exact (Below.heap_setCell _ _ _ _ (by simp; omega)).trans (Z0.out.2.2.1.alloc _)⟩
   clear hWA
   refine region_heldR (S := fun X => X.cell? ⟨w.heap.size + 1, 0, none⟩ = some (.pointer (some ⟨w.heap.size, 0, none⟩)) ∧ X.cell? ⟨W.heap.size, 0, none⟩ = some (.int .i64 nd.wd)) (by kernel_rfl) (plain_spec (by kernel_rfl)) (by rintro ⟨a, w, h⟩; exact h) ?_
   have hS : WA.drew.cell? ⟨w.heap.size + 1, 0, none⟩ = some (.pointer (some ⟨w.heap.size, 0, none⟩)) ∧ WA.drew.cell? ⟨W.heap.size, 0, none⟩ = some (.int .i64 nd.wd) := ⟨hcpA, hcT⟩
   refine wpAnyH_take (i := 0) (v := .pointer (some ⟨w.heap.size, 0, none⟩)) rfl (by kernel_rfl) (by kernel_rfl) (by kernel_rfl) (fun _ _ _ h => h) (Or.inl ⟨by first | rfl | go_simp, fun wx hx => by obtain ⟨hx1, hx2⟩ := hx; go_simp⟩) hS ?_
   try simp only [Act.put, List.getElem_toArray, List.getElem_cons_zero, List.getElem_cons_succ, List.setIfInBounds_toArray, List.set_cons_zero, List.set_cons_succ]
   refine wpAnyH_take (i := 1) (v := .pointer (some ⟨w.heap.size, 0, none⟩)) rfl (by kernel_rfl) (by kernel_rfl) (by kernel_rfl) (fun _ _ _ h => h) (Or.inl ⟨by first | rfl | go_simp, fun wx hx => by obtain ⟨hx1, hx2⟩ := hx; go_simp⟩) hS ?_
   try simp only [Act.put, List.getElem_toArray, List.getElem_cons_zero, List.getElem_cons_succ, List.setIfInBounds_toArray, List.set_cons_zero, List.set_cons_succ]
   refine wpAnyH_take (i := 2) (v := .pointer (some ⟨w.heap.size, 6, none⟩)) rfl (by kernel_rfl) (by kernel_rfl) (by kernel_rfl) (fun _ _ _ h => h) (Or.inl ⟨by first | rfl | go_simp, fun wx hx => by obtain ⟨hx1, hx2⟩ := hx; go_simp⟩) hS ?_
   try simp only [Act.put, List.getElem_toArray, List.getElem_cons_zero, List.getElem_cons_succ, List.setIfInBounds_toArray, List.set_cons_zero, List.set_cons_succ]
   refine wpAnyH_take (i := 4) (v := .pointer (some ⟨W.heap.size, 0, none⟩)) rfl (by kernel_rfl) (by kernel_rfl) (by kernel_rfl) (fun _ _ _ h => h) (Or.inl ⟨by first | rfl | go_simp, fun wx hx => by obtain ⟨hx1, hx2⟩ := hx; go_simp⟩) hS ?_
   try simp only [Act.put, List.getElem_toArray, List.getElem_cons_zero, List.getElem_cons_succ, List.setIfInBounds_toArray, List.set_cons_zero, List.set_cons_succ]
   refine wpAnyH_take (i := 5) (v := .int .i64 nd.wd) rfl (by kernel_rfl) (by kernel_rfl) (by kernel_rfl) (fun _ _ _ h => h) (Or.inl ⟨by first | rfl | go_simp, fun wx hx => by obtain ⟨hx1, hx2⟩ := hx; go_simp⟩) hS ?_
   try simp only [Act.put, List.getElem_toArray, List.getElem_cons_zero, List.getElem_cons_succ, List.setIfInBounds_toArray, List.set_cons_zero, List.set_cons_succ]
   refine wpAnyH_ready (rs := [3]) (by kernel_rfl) (by simp) ?_
   refine AllReadyH.cons rfl (fun K hK => ?_) AllReadyH.nil
   rw [if_pos (by first | rfl | go_simp)]
   go_simp
   refine hK.out _ _ hS (fun _ => ?_)
   try simp only [Act.put, List.getElem_toArray, List.getElem_cons_zero, List.getElem_cons_succ, List.setIfInBounds_toArray, List.set_cons_zero, List.set_cons_succ]
   clear hK K
   refine wpAnyH_take (i := 6) (v := .int .i64 ((stkTo xs Z).w + nd.wd)) rfl (by kernel_rfl) (by kernel_rfl) (by kernel_rfl) (fun _ _ _ h => h) (Or.inl ⟨by first | rfl | go_simp, fun wx hx => by obtain ⟨hx1, hx2⟩ := hx; go_simp; first | done | (go_num; done) | (go_bits; done) | (go_bits; trivial)⟩) hS ?_
   try simp only [Act.put, List.getElem_toArray, List.getElem_cons_zero, List.getElem_cons_succ, List.setIfInBounds_toArray, List.set_cons_zero, List.set_cons_succ]
   refine wpAnyH_take (i := 7) (v := .pointer (some ⟨w.heap.size, 0, none⟩)) rfl (by kernel_rfl) (by kernel_rfl) (by kernel_rfl) (fun _ _ _ h => h) (Or.inl ⟨by first | rfl | go_simp, fun wx hx => by obtain ⟨hx1, hx2⟩ := hx; go_simp⟩) hS ?_
   try simp only [Act.put, List.getElem_toArray, List.getElem_cons_zero, List.getElem_cons_succ, List.setIfInBounds_toArray, List.set_cons_zero, List.set_cons_succ]
   refine wpAnyH_take (i := 8) (v := .pointer (some ⟨w.heap.size, 6, none⟩)) rfl (by kernel_rfl) (by kernel_rfl) (by kernel_rfl) (fun _ _ _ h => h) (Or.inl ⟨by first | rfl | go_simp, fun wx hx => by obtain ⟨hx1, hx2⟩ := hx; go_simp⟩) hS ?_
   try simp only [Act.put, List.getElem_toArray, List.getElem_cons_zero, List.getElem_cons_succ, List.setIfInBounds_toArray, List.set_cons_zero, List.set_cons_succ]
   refine wpAnyH_ready (rs := [9]) (by kernel_rfl) (by simp) ?_
   refine AllReadyH.cons rfl (fun K hK => ?_) AllReadyH.nil
   rw [if_pos (by first | rfl | go_simp)]
   go_simp
   refine hK.out _ _ ⟨(World.cell?_setCell_far _ _ _ _ (by simp)).trans hcpA, (World.cell?_setCell_far _ _ _ _ (by simp; omega)).trans hcT⟩ (fun _ => ?_)
   try simp only [Act.put, List.getElem_toArray, List.getElem_cons_zero, List.getElem_cons_succ, List.setIfInBounds_toArray, List.set_cons_zero, List.set_cons_succ]
   clear hK K
   refine wpAnyH_done (by kernel_rfl) ?_ _
   obtain ⟨W2, hW2⟩ : ∃ W2, W2 = (WA.setCell ⟨w.heap.size, 6, none⟩ (.int .i64 ((stkTo xs Z).w + nd.wd))).drew := ⟨_, rfl⟩
   rw [← hW2]
   have hbun2 : Bun W2 w.heap.size 7 (stkTo xs Z).h 0 0 ((stkTo xs Z).w + nd.wd) g p := by rw [hW2]; exact W9.out.1.drew
   have F2 : Frs (VS1 w) W W2 := by rw [hW2]; exact W9.out.2.1.drew
   have hd2 : Boxed W2 (w.heap.size + 1 + 1) 2 (.int .i64 0) := by rw [hW2]; exact W9.out.2.2
   clear hW2
   obtain ⟨d1, d2, d3, d4, d5⟩ := vj_round HJ.out HBB.out (F2.mono (fun x hx => .inl hx)) HBW.out
   obtain ⟨e1, e2⟩ := vj_rows HJ.out F2
   have HD : Hid (KeepsOthers W W2 ∧ (Src xs ao Bs b off cap W → Src xs ao Bs b off cap W2) ∧ VJ w xs ao n cap Bs (Z ++ [at_]) g p W2 ∧ Below w.heap.size w W2) := hideP (by
    refine ⟨d1, d2, ⟨d3, ?_, d4, ?_, ?_, ?_⟩, d5⟩
    ·rw [HND.out, stkStep_2 h2]; exact hd2
    ·rw [HND.out, stkStep_2 h2]; exact hbun2
    ·rw [HND.out, stkStep_2 h2]; exact e1
    ·rw [HG0.out (by omega)]; exact e2)
   clear d1 d2 d3 d4 d5 e1 e2 F2 hbun2 hd2
   gi_wp2
   exact ⟨HD.out.1, HD.out.2.1, ⟨_, _, by have h := HD.out.2.2.1; rw [← HA.out] at h; exact h⟩, HD.out.2.2.2⟩
  by_cases h3 : nd.k = 3
  ·have qAR : (nd.k == 5) = false := by simp; omega
   rw [qAR] at AR
   have qAX : (nd.k == 6 || nd.k == 7) = false := by simp; omega
   rw [qAX] at AX
   have qAK : (nd.k == 2) = false := by simp; omega
   rw [qAK] at AK
   have qAS : (nd.k == 3) = true := by simp [h3]
   rw [qAS] at AS
   obtain ⟨rfl, rfl, rfl, rfl, rfl, rfl⟩ := AS' h3
   clear AR' AX' AK' AS' qAR qAX qAK qAS
   have hrw := vj_rows HJ.out Z0.out.2.1
   have HRW := hideP hrw
   clear hrw
   gi_wp2_with (rw [Oper.semAt_some _ _ _ (by intro c h; cases h)]; unfold execOp; simp only [Act.eval]; go_simp)
   refine ⟨trivial, CallsIn.mono (callsIn_wide.2 (addGlue_any (at_ : Int) (glOf nd) (Z0.out.1.alloc _) (HRW.out.1.alloc _) (HRW.out.2.alloc _) (Nat.le_refl _) hgl hpl2)) ?_⟩
   rintro e W2 ⟨⟨vr, rfl⟩, ⟨g', p', hbun2, hg2, hp2⟩, hfr2⟩
   have F2 : Frs (VS2 w g p) W W2 := Frs.frs ((Z0.out.2.1.mono (fun x hx => .inl hx)).alloc _) hfr2 (fun x hx => by rcases hx with rfl | hx; exact .inl (.inl rfl); exact .inr hx)
   have hd2 : Boxed W2 (w.heap.size + 1 + 1) 2 (.int .i64 0) := (hfr2.block (w.heap.size + 1 + 1) (by simp; omega) (fun hx => by
    rcases hx with hx | hx | hx
    ·omega
    ·obtain ⟨cs, hc⟩ := own_cells_block HJ.out.gs hx
     have := HJ.out.dep
     unfold Boxed at this
     rw [this] at hc
     cases hc
    ·obtain ⟨cs, hc⟩ := own_cells_block HJ.out.ps hx
     have := HJ.out.dep
     unfold Boxed at this
     rw [this] at hc
     cases hc)).trans (Z0.out.2.2.1.alloc _)
   obtain ⟨d1, d2, d3, d4, d5⟩ := vj_round HJ.out HBB.out F2 HBW.out
   have HD : Hid (KeepsOthers W W2 ∧ (Src xs ao Bs b off cap W → Src xs ao Bs b off cap W2) ∧ VJ w xs ao n cap Bs (Z ++ [at_]) g' p' W2 ∧ Below w.heap.size w W2) := hideP (by
    refine ⟨d1, d2, ⟨d3, ?_, d4, ?_, ?_, ?_⟩, d5⟩
    ·rw [HND.out, stkStep_3 h3]; exact hd2
    ·rw [HND.out, stkStep_3 h3]; exact hbun2
    ·rw [HND.out, stkStep_3 h3]; show W2.ownsRow _ 34 5 g' ((stkTo xs Z).gs ++ [glOf nd]).length (f5 ((stkTo xs Z).gs ++ [glOf nd])); rw [List.length_append]; exact hg2
    ·rw [HG3.out h3, List.length_append]; unfold natI; rw [List.map_append, List.map_append]; exact hp2)
   clear d1 d2 d3 d4 d5 F2 hbun2 hfr2 hg2 hp2 hd2
   gi_wp2
   exact ⟨HD.out.1, HD.out.2.1, ⟨_, _, by have h := HD.out.2.2.1; rw [← HA.out] at h; exact h⟩, HD.out.2.2.2⟩
  have hn1 : stkStep (stkTo xs Z) nd = (stkTo xs Z).pass := stkStep_0 h2 h3 h5 (by omega) (by omega)
  have qAR : (nd.k == 5) = false := by simp; omega
  rw [qAR] at AR
  have qAX : (nd.k == 6 || nd.k == 7) = false := by simp; omega
  rw [qAX] at AX
  have qAK : (nd.k == 2) = false := by simp; omega
  rw [qAK] at AK
  have qAS : (nd.k == 3) = false := by simp; omega
  rw [qAS] at AS
  obtain ⟨d1, d2, d3, d4, d5⟩ := vj_round (b := b) (off := off) HJ.out HBB.out (Z0.out.2.1.mono (fun x hx => .inl hx)) HBW.out
  obtain ⟨e1, e2⟩ := vj_rows HJ.out Z0.out.2.1
  have HD : Hid (KeepsOthers W (W.setCell ⟨w.heap.size + 1 + 1, 0, none⟩ (.int .i64 0)) ∧ (Src xs ao Bs b off cap W → Src xs ao Bs b off cap (W.setCell ⟨w.heap.size + 1 + 1, 0, none⟩ (.int .i64 0))) ∧ VJ w xs ao n cap Bs (Z ++ [at_]) g p (W.setCell ⟨w.heap.size + 1 + 1, 0, none⟩ (.int .i64 0)) ∧ Below w.heap.size w (W.setCell ⟨w.heap.size + 1 + 1, 0, none⟩ (.int .i64 0))) := hideP (by
   refine ⟨d1, d2, ⟨d3, ?_, d4, ?_, ?_, ?_⟩, d5⟩
   ·rw [HND.out, hn1]; exact Z0.out.2.2.1
   ·rw [HND.out, hn1]; exact Z0.out.1
   ·rw [HND.out, hn1]; exact e1
   ·rw [HG0.out h3]; exact e2)
  clear AR' AX' AK' AS' qAR qAX qAK qAS hn1 d1 d2 d3 d4 d5 e1 e2
  gi_wp2_with (rw [Oper.semAt_some _ _ _ (by intro c h; cases h)]; unfold execOp; simp only [Act.eval]; go_simp)
  exact ⟨HD.out.1, HD.out.2.1, ⟨_, _, by have h := HD.out.2.2.1; rw [← HA.out] at h; exact h⟩, HD.out.2.2.2⟩
theorem vack_any {v : Value} {xs : List Nd} {w : World} {R B0 : Nat} {g p : Value} (deep mode size : Int) (hdp : 0 ≤ deep) (B : Bun w R 7 (vpS xs deep).h 0 (vpS xs deep).d (vpS xs deep).w g p) (og : w.ownsRow B0 34 5 g (vpS xs deep).gs.length (f5 (vpS xs deep).gs)) (op : w.ownsRow B0 3 1 p (gluesAt xs (begins xs)).length ((natI (gluesAt xs (begins xs))).map (Value.int .i64))) (hN : NN 0 w v xs) (hl : listB xs = true) (hfs : fitsB size = true) :
 Calls Tryz.prog 32 #[.pointer (some ⟨R, 0, none⟩), v, .int .i64 mode, .int .i64 size] w fun e w' => Below w.heap.size w w' ∧ PakV xs deep mode size w.heap.size (vrgB xs deep mode size) e w' := by
 cases h : (decide ((vpS xs deep).gs.length ≤ 10000) && fitsB (vpS xs deep).w && fitsB (vpTo xs deep mode size))
 ·exact vack_no deep mode size hdp B og op hN hl hfs h
 ·exact vack_yes deep mode size hdp B og op hN hl hfs h
theorem vask_no {xs : List Nd} {deep mode size : Int} (h : askB xs mode size = false) : vpOk xs deep mode size = false := by
 have h2 : packB xs mode size = false := by
  cases hp : packB xs mode size with
  | false => rfl
  | true =>
   unfold packB at hp
   simp only [Bool.and_eq_true] at hp
   unfold askB at h
   rw [hp.1.2, hp.2, can_list hp.1.1] at h
   exact absurd h (by decide)
 unfold vpOk
 rw [h2]
 rfl
set_option maxRecDepth 20000 in
set_option maxHeartbeats 8000000 in
theorem implVPack_any {v : Value} {xs : List Nd} {w : World} (deep mode size : Int) (hdp : 0 ≤ deep ∧ deep ≤ 1073741823) (hN : NRow 0 w v xs) (hNN : NN 0 w v xs) (hs : xs.length ≤ 1048576) :
 Calls Tryz.prog 16 #[v, .int .i64 mode, .int .i64 size, .int .i64 deep] w fun e w' => Below w.heap.size w w' ∧ PakV xs deep mode size w.heap.size (vpOk xs deep mode size) e w' := by
 have HC : Hid (∀ W, Below w.heap.size w W → Calls Tryz.prog 30 #[v, .int .i64 mode, .int .i64 size] W fun e w' => e = .returned (.bool (askB xs mode size)) ∧ Below W.heap.size W w') := hideP (fun W hW => implCan_any mode size (hN.below ndStable hW) hs)
 have HN := hideP hN
 have HNN := hideP hNN
 obtain ⟨ok, hok⟩ : ∃ ok, ok = askB xs mode size := ⟨_, rfl⟩
 rw [← hok] at HC
 obtain ⟨va, n, vc, rfl, hl, -⟩ := hN
 cases ok with
 | false =>
  have HNO : Hid (vpOk xs deep mode size = false) := hideP (vask_no hok.symm)
  clear hok hNN
  go_enter Tryz.func16, Tryz.ntmps16
  go_wp2_with fail
  refine (HC.out _ (below1 _ _)).mono ?_
  rintro e w1 ⟨rfl, hb1⟩
  have HP1 : Hid (PB w w1) := hideP ((PB.start w).below hb1)
  clear hb1 HC
  obtain ⟨r0, r1, r2, r3, r4, r5, r6⟩ := pack_cells HP1.out.box
  have fR : ∀ j, w1.frozen? ⟨w.heap.size, j, none⟩ = false := fun j => frozen_of_row w1 w.heap.size j _ _ HP1.out.box
  have HF : Hid ((sev w1 w.heap.size (.slice none 0 0) 0 0 0 0 0 0).heap[w.heap.size]? = some (packO (.slice none 0 0) 0 0 0 0 0 0) ∧ Below w.heap.size w (sev w1 w.heap.size (.slice none 0 0) 0 0 0 0 0 0)) := hideP ⟨sev_heap HP1.out.box _ _ _ _ _ _ _, sev_below HP1.out.bel (Nat.le_refl _) _ _ _ _ _ _ _⟩
  go_wp2
  exact bodyPost_ret (v := packV (.slice none 0 0) ⟨0, 0, 0, 0, 0, 0⟩) (results_one_cell rfl _ _ w.heap.size _ rfl (loadPack HF.out.1)) rfl ⟨HF.out.2, by rw [HNO.out]; exact rfl⟩
 | true =>
  have hask := hok.symm
  have hlist : listB xs = true := by unfold askB at hask; simp only [Bool.and_eq_true] at hask; exact hask.2
  have hfs : fitsB size = true := by unfold askB at hask; simp only [Bool.and_eq_true] at hask; exact hask.1.2
  have HPR : Hid (vrgB xs deep mode size = vpOk xs deep mode size) := hideP (vrg_ok hask hdp.1)
  have HRO : Hid (∀ W, Below w.heap.size w W → Calls Tryz.prog 41 #[.slice va n vc, .int .i64 deep] W fun e W' => (∃ g p, e = .returned (.pointer (some ⟨W.heap.size, 0, none⟩)) ∧ Bun W' W.heap.size 7 (vpS xs deep).h 0 (vpS xs deep).d (vpS xs deep).w g p ∧ W'.ownsRow W.heap.size 34 5 g (vpS xs deep).gs.length (f5 (vpS xs deep).gs) ∧ W'.ownsRow W.heap.size 3 1 p (gluesAt xs (begins xs)).length ((natI (gluesAt xs (begins xs))).map (Value.int .i64))) ∧ Below W.heap.size W W') := hideP (fun W hW => callsIn_wide.1 (stackOf_in deep hdp.1 (HN.out.below ndStable hW) (allOk hlist) (list_in hlist) (list_sh hlist)))
  have HPA : Hid (∀ (W : World) (R B0 : Nat) (g p : Value), Below w.heap.size w W → Bun W R 7 (vpS xs deep).h 0 (vpS xs deep).d (vpS xs deep).w g p → W.ownsRow B0 34 5 g (vpS xs deep).gs.length (f5 (vpS xs deep).gs) → W.ownsRow B0 3 1 p (gluesAt xs (begins xs)).length ((natI (gluesAt xs (begins xs))).map (Value.int .i64)) → Calls Tryz.prog 32 #[.pointer (some ⟨R, 0, none⟩), .slice va n vc, .int .i64 mode, .int .i64 size] W fun e w' => Below W.heap.size W w' ∧ PakV xs deep mode size W.heap.size (vrgB xs deep mode size) e w') := hideP (fun W R B0 g p hW h1 h2 h3 => vack_any deep mode size hdp.1 h1 h2 h3 (nn_below HNN.out hW) hlist hfs)
  have HUP : Hid (∀ W, Calls Tryz.prog 40 #[.int .i64 deep, .int .i64 1073741823] W fun e w' => e = .returned (.bool true) ∧ w' = W) := hideP (fun W => by have h := upTo_any deep 1073741823 W; rw [show uptoB deep 1073741823 = true from decide_eq_true hdp] at h; exact h)
  clear hok hNN hask hlist hfs
  go_enter Tryz.func16, Tryz.ntmps16
  go_wp2_with fail
  refine (HC.out _ (below1 _ _)).mono ?_
  rintro e w1 ⟨rfl, hb1⟩
  have HP1 : Hid (PB w w1) := hideP ((PB.start w).below hb1)
  clear hb1 HC
  go_wp2_with fail
  refine (HUP.out _).mono ?_
  rintro _ w1' ⟨rfl, h9⟩
  have h9' := h9.symm
  subst h9'
  clear h9
  go_wp2_with fail
  refine (HRO.out _ HP1.out.bel).mono ?_
  rintro e w2 ⟨⟨g, p, rfl, hbun, hg, hp⟩, hb2⟩
  have HP2 : Hid (PB w w2) := hideP (HP1.out.below hb2)
  have HPK := hideP (HPA.out w2 _ _ g p HP2.out.bel hbun hg hp)
  obtain ⟨R, hR⟩ : ∃ R, R = w1.heap.size := ⟨_, rfl⟩
  rw [← hR] at HPK ⊢
  clear hbun hg hp hb2 hR HP1 HRO HPA
  go_wp2_with fail
  refine HPK.out.mono ?_
  rintro e w3 ⟨hb3, hpk⟩
  have HP3 : Hid (PB w w3) := hideP (HP2.out.below hb3)
  obtain ⟨r0, r1, r2, r3, r4, r5, r6⟩ := pack_cells HP3.out.box
  have fR : ∀ j, w3.frozen? ⟨w.heap.size, j, none⟩ = false := fun j => frozen_of_row w3 w.heap.size j _ _ HP3.out.box
  rw [HPR.out] at hpk
  obtain ⟨yes, hyes⟩ : ∃ y, y = vpOk xs deep mode size := ⟨_, rfl⟩
  rw [← hyes] at hpk
  have HYE := hideP hyes
  clear hyes HPR
  cases yes with
  | false =>
   have hpk2 : e = .returned (packV (.slice none 0 0) ⟨0, 0, 0, 0, 0, 0⟩) := hpk
   subst hpk2
   have HF : Hid ((sev w3 w.heap.size (.slice none 0 0) 0 0 0 0 0 0).heap[w.heap.size]? = some (packO (.slice none 0 0) 0 0 0 0 0 0) ∧ Below w.heap.size w (sev w3 w.heap.size (.slice none 0 0) 0 0 0 0 0 0)) := hideP ⟨sev_heap HP3.out.box _ _ _ _ _ _ _, sev_below HP3.out.bel (Nat.le_refl _) _ _ _ _ _ _ _⟩
   clear hpk hb3 HPK
   go_wp2
   exact bodyPost_ret (v := packV (.slice none 0 0) ⟨0, 0, 0, 0, 0, 0⟩) (results_one_cell rfl _ _ w.heap.size _ rfl (loadPack HF.out.1)) rfl ⟨HF.out.2, by rw [← HYE.out]; exact rfl⟩
  | true =>
   obtain ⟨u, he, hu⟩ := hpk
   obtain ⟨Z, hZ⟩ : ∃ Z, Shr.shareS (vpS xs deep).gs (vpQ xs deep mode size) = Z := ⟨_, rfl⟩
   obtain ⟨z0, z1, z2, z3, z4, z5⟩ := Z
   rw [hZ] at he
   subst he
   obtain ⟨ua, uc, rfl⟩ := ownG_shape hu
   have HF : Hid ((sev w3 w.heap.size (.slice ua (xs.length + 1) uc) z0 z1 z2 z3 z4 z5).heap[w.heap.size]? = some (packO (.slice ua (xs.length + 1) uc) z0 z1 z2 z3 z4 z5) ∧ Below w.heap.size w (sev w3 w.heap.size (.slice ua (xs.length + 1) uc) z0 z1 z2 z3 z4 z5) ∧ (sev w3 w.heap.size (.slice ua (xs.length + 1) uc) z0 z1 z2 z3 z4 z5).ownsRow w.heap.size 36 15 (.slice ua (xs.length + 1) uc) (xs.length + 1) (flatN (vpN xs deep mode size))) := hideP ⟨sev_heap HP3.out.box _ _ _ _ _ _ _, sev_below HP3.out.bel (Nat.le_refl _) _ _ _ _ _ _ _, own_sev HP3.out (ownG_mono hu HP2.out.bel.size) _ _ _ _ _ _ _⟩
   have HZ := hideP hZ
   obtain ⟨N1, hN1⟩ : ∃ N1, N1 = xs.length + 1 := ⟨_, rfl⟩
   rw [← hN1] at HF ⊢
   have HN1 := hideP hN1
   clear hu hb3 HPK hZ hN1
   go_wp2
   exact bodyPost_ret (v := packV (.slice ua N1 uc) ⟨z0, z1, z2, z3, z4, z5⟩) (results_one_cell rfl _ _ w.heap.size _ rfl (loadPack HF.out.1)) rfl ⟨HF.out.2.1, by rw [← HYE.out]; exact ⟨_, by rw [HZ.out], by rw [← HN1.out]; exact HF.out.2.2⟩⟩
set_option maxRecDepth 20000 in
set_option maxHeartbeats 8000000 in
theorem implVPack_out {v : Value} {xs : List Nd} {w : World} (deep mode size : Int) (hdp : ¬ (0 ≤ deep ∧ deep ≤ 1073741823)) (hN : NRow 0 w v xs) (hs : xs.length ≤ 1048576) :
 Calls Tryz.prog 16 #[v, .int .i64 mode, .int .i64 size, .int .i64 deep] w fun e w' => e = .returned (packV (.slice none 0 0) ⟨0, 0, 0, 0, 0, 0⟩) ∧ Below w.heap.size w w' := by
 have HC : Hid (∀ W, Below w.heap.size w W → Calls Tryz.prog 30 #[v, .int .i64 mode, .int .i64 size] W fun e w' => e = .returned (.bool (askB xs mode size)) ∧ Below W.heap.size W w') := hideP (fun W hW => implCan_any mode size (hN.below ndStable hW) hs)
 have HUP : Hid (∀ W, Calls Tryz.prog 40 #[.int .i64 deep, .int .i64 1073741823] W fun e w' => e = .returned (.bool false) ∧ w' = W) := hideP (fun W => by have h := upTo_any deep 1073741823 W; rw [show uptoB deep 1073741823 = false from decide_eq_false hdp] at h; exact h)
 obtain ⟨ok, hok⟩ : ∃ ok, ok = askB xs mode size := ⟨_, rfl⟩
 rw [← hok] at HC
 obtain ⟨va, n, vc, rfl, hl, -⟩ := hN
 clear hok hdp
 go_enter Tryz.func16, Tryz.ntmps16
 go_wp2_with fail
 refine (HC.out _ (below1 _ _)).mono ?_
 rintro e w1 ⟨rfl, hb1⟩
 have HP1 : Hid (PB w w1) := hideP ((PB.start w).below hb1)
 clear hb1 HC
 have HF : Hid ((sev w1 w.heap.size (.slice none 0 0) 0 0 0 0 0 0).heap[w.heap.size]? = some (packO (.slice none 0 0) 0 0 0 0 0 0) ∧ Below w.heap.size w (sev w1 w.heap.size (.slice none 0 0) 0 0 0 0 0 0)) := hideP ⟨sev_heap HP1.out.box _ _ _ _ _ _ _, sev_below HP1.out.bel (Nat.le_refl _) _ _ _ _ _ _ _⟩
 obtain ⟨r0, r1, r2, r3, r4, r5, r6⟩ := pack_cells HP1.out.box
 have fR : ∀ j, w1.frozen? ⟨w.heap.size, j, none⟩ = false := fun j => frozen_of_row w1 w.heap.size j _ _ HP1.out.box
 cases ok with
 | false =>
  go_wp2
  exact bodyPost_ret (v := packV (.slice none 0 0) ⟨0, 0, 0, 0, 0, 0⟩) (results_one_cell rfl _ _ w.heap.size _ rfl (loadPack HF.out.1)) rfl ⟨rfl, HF.out.2⟩
 | true =>
  go_wp2_with fail
  refine (HUP.out _).mono ?_
  rintro _ w1' ⟨rfl, h9⟩
  have h9' := h9.symm
  subst h9'
  clear h9
  go_wp2
  exact bodyPost_ret (v := packV (.slice none 0 0) ⟨0, 0, 0, 0, 0, 0⟩) (results_one_cell rfl _ _ w.heap.size _ rfl (loadPack HF.out.1)) rfl ⟨rfl, HF.out.2⟩
set_option maxRecDepth 20000 in
set_option maxHeartbeats 8000000 in
theorem specVPack_out {v : Value} {xs : List Nd} {w : World} (deep mode size : Int) (hdp : ¬ (0 ≤ deep ∧ deep ≤ 1073741823)) (hN : NRow 0 w v xs) (hs : xs.length ≤ 1048576) :
 Calls Tryz.prog 69 #[v, .int .i64 mode, .int .i64 size, .int .i64 deep] w fun e w' => e = .returned (packV (.slice none 0 0) ⟨0, 0, 0, 0, 0, 0⟩) ∧ Below w.heap.size w w' := by
 have HC : Hid (∀ W, Below w.heap.size w W → Calls Tryz.prog 86 #[v, .int .i64 mode, .int .i64 size] W fun e w' => e = .returned (.bool (packB xs mode size)) ∧ Below W.heap.size W w') := hideP (fun W hW => specCan_any mode size (hN.below ndStable hW) hs)
 obtain ⟨ok, hok⟩ : ∃ ok, ok = packB xs mode size := ⟨_, rfl⟩
 rw [← hok] at HC
 obtain ⟨va, n, vc, rfl, hl, -⟩ := hN
 clear hok
 go_enter Tryz.func69, Tryz.ntmps69
 go_wp2_with fail
 refine (HC.out _ (below1 _ _)).mono ?_
 rintro e w1 ⟨rfl, hb1⟩
 have HP1 : Hid (PB w w1) := hideP ((PB.start w).below hb1)
 clear hb1 HC
 have HF : Hid ((sev w1 w.heap.size (.slice none 0 0) 0 0 0 0 0 0).heap[w.heap.size]? = some (packO (.slice none 0 0) 0 0 0 0 0 0) ∧ Below w.heap.size w (sev w1 w.heap.size (.slice none 0 0) 0 0 0 0 0 0)) := hideP ⟨sev_heap HP1.out.box _ _ _ _ _ _ _, sev_below HP1.out.bel (Nat.le_refl _) _ _ _ _ _ _ _⟩
 obtain ⟨r0, r1, r2, r3, r4, r5, r6⟩ := pack_cells HP1.out.box
 have fR : ∀ j, w1.frozen? ⟨w.heap.size, j, none⟩ = false := fun j => frozen_of_row w1 w.heap.size j _ _ HP1.out.box
 cases ok with
 | false =>
  clear hdp
  go_wp2
  exact bodyPost_ret (v := packV (.slice none 0 0) ⟨0, 0, 0, 0, 0, 0⟩) (results_one_cell rfl _ _ w.heap.size _ rfl (loadPack HF.out.1)) rfl ⟨rfl, HF.out.2⟩
 | true =>
  by_cases h0 : deep < 0
  ·have hdd1 : decide (deep < 0) = true := by simp; omega
   clear hdp
   go_wp2
   exact bodyPost_ret (v := packV (.slice none 0 0) ⟨0, 0, 0, 0, 0, 0⟩) (results_one_cell rfl _ _ w.heap.size _ rfl (loadPack HF.out.1)) rfl ⟨rfl, HF.out.2⟩
  ·have hdd1 : decide (deep < 0) = false := by simp; omega
   have h1 : (1073741823 : Int) < deep := by omega
   have hdd2 : decide ((1073741823 : Int) < deep) = true := by simp; omega
   clear hdp
   go_wp2
   exact bodyPost_ret (v := packV (.slice none 0 0) ⟨0, 0, 0, 0, 0, 0⟩) (results_one_cell rfl _ _ w.heap.size _ rfl (loadPack HF.out.1)) rfl ⟨rfl, HF.out.2⟩
end Go.Proofs.YtbbehmcekbnkiaaGreat
