import Derived.RangeFuncNested
import Derived.RangeFuncBound
import Derived.RangeFuncCalls
import Derived.RangeFuncLeaves
import Derived.Shelf.Abstract
import Derived.Shelf.RegionOpen
import Derived.WalkKit
import Derived.OwnWalkIn
import Derived.TacticsInMore
import Derived.LoopNIn
import Derived.LoopIn
import Derived.Test.YtojoehdmjkgnnaaGreatGlue
import Derived.Test.YtojoehdmjkgnnaaGreatAdg
import Derived.Test.YtojoehdmjkgnnaaGreatTks
namespace Go.Proofs.YtojoehdmjkgnnaaGreat
open Go.RowKit
set_option linter.unusedVariables false
set_option linter.unusedSimpArgs false
theorem Frs.fr {S : Nat → Prop} {w a b : World} {R : Nat} (h : Frs S w a) (hf : Shr.Fr R a b) (hR : S R) : Frs S w b :=
 ⟨hf.1.trans h.os, hf.2.1.trans h.tape, hf.2.2.1.trans h.out, Nat.le_trans h.size hf.2.2.2.1, fun x hx hn => (hf.2.2.2.2 x (Nat.lt_of_lt_of_le hx h.size) (fun e => hn (e ▸ hR))).trans (h.block x hx hn)⟩
theorem Frs.drew {S : Nat → Prop} {w a : World} (h : Frs S w a) : Frs S w a.drew := ⟨h.os, h.tape, h.out, h.size, h.block⟩
theorem Frs.alloc {S : Nat → Prop} {w a : World} (h : Frs S w a) (o : Obj) : Frs S w (a.alloc o) := h.below (below1 _ _)
theorem Frs.frs {S T : Nat → Prop} {w a b : World} (h : Frs S w a) (h2 : Frs T a b) (hT : ∀ x, T x → S x) : Frs S w b :=
 ⟨h2.os.trans h.os, h2.tape.trans h.tape, h2.out.trans h.out, Nat.le_trans h.size h2.size, fun x hx hn => (h2.block x (Nat.lt_of_lt_of_le hx h.size) (fun e => hn (hT x e))).trans (h.block x hx hn)⟩
theorem Bun.kept {A B : World} {R : Nat} {k wd h d len : Int} {g p : Value} {row : Option Nat} (Bn : Bun A R k wd h d len g p) (hg : A.grownBy B row) (hr : ∀ r, row = some r → ∃ o : Obj, A.heap[r]? = some o ∧ o.isCells = false) : Bun B R k wd h d len g p :=
 Bn.same (hg.block R Bn.lt (fun e => by obtain ⟨o, ho, hc⟩ := hr R e.symm; rw [Bn.box] at ho; cases ho; cases hc))
theorem ownG_kept {v : Value} {base e s n : Nat} {xs : List Value} {A B : World} {row : Option Nat} (h : A.ownsRow base e s v n xs) (hg : A.grownBy B row) (hr : ∀ r, row = some r → ∃ o : Obj, A.heap[r]? = some o ∧ o.isCells = false) : B.ownsRow base e s v n xs := by
 refine World.ownsRow.kept h hg ?_
 obtain ⟨hl, ⟨rfl, _⟩ | ⟨g, cap, cur, rfl, _, hb, _⟩⟩ := h
 ·exact .inl rfl
 ·refine .inr fun e => ?_
  obtain ⟨o, ho, hc⟩ := hr g e.symm
  rw [hb] at ho
  cases ho
  cases hc
def plainOp (o : Oper) : Bool := match o.op with | .defer _ => false | _ => true
theorem plain_spec {ops : Array Oper} (h : ops.all plainOp = true) : ∀ (i : Nat) (o : Oper), ops[i]? = some o → ∀ c, o.op ≠ .defer c := by
 intro i o ho c hc
 have h1 := Array.all_eq_true_iff_forall_mem.1 h o (Array.mem_of_getElem? ho)
 unfold plainOp at h1
 rw [hc] at h1
 cases h1
theorem boxed_kept {A B : World} {row : Option Nat} {k : Nat} {t : TypeId} {v : Value} (h : Boxed A k t v) (hg : A.grownBy B row) (hr : ∀ r, row = some r → ∃ o : Obj, A.heap[r]? = some o ∧ o.isCells = false) : Boxed B k t v :=
 h.kept hg (fun e => by obtain ⟨o, ho, hc⟩ := hr k e.symm; unfold Boxed at h; rw [h] at ho; cases ho; cases hc)
theorem good_sh {x : Nd} (h : goodB x = true) : (x.k = 1 ∨ x.k = 5) → x.sh = 0 := by
 unfold goodB specB at h
 simp only [Bool.and_eq_true] at h
 have h2 := h.1.1.1.1.1.2
 rw [eqNd_iff] at h2
 intro hk
 have h3 := congrArg Nd.sh h2
 rw [h3]
 rcases hk with hk | hk <;> simp [Nd.used, hk]
structure RJ (w : World) (xs : List Nd) (ao : Option Addr) (n cap Bs : Nat) (Z : List Nat) (g p : Value) (W : World) : Prop where
 ptr : Boxed W (w.heap.size + 1) 84 (.pointer (some ⟨w.heap.size, 0, none⟩))
 src : Boxed W Bs 24 (.slice ao n cap)
 bun : Bun W w.heap.size 6 0 (rowTo xs Z).h (rowTo xs Z).d (rowTo xs Z).w g p
 gs : W.ownsRow w.heap.size 34 5 g (rowTo xs Z).gs.length (f5 (rowTo xs Z).gs)
 ps : W.ownsRow w.heap.size 3 1 p (gluesAt xs Z).length ((natI (gluesAt xs Z)).map (Value.int .i64))
def RS2 (w : World) (g p : Value) (b : Nat) : Prop := b = w.heap.size ∨ g.ownBlock = some b ∨ p.ownBlock = some b
theorem own_cells_block {W : World} {base e s n k : Nat} {v : Value} {xs : List Value} (h : W.ownsRow base e s v n xs) (hk : v.ownBlock = some k) : ∃ cs, W.heap[k]? = some (.cells cs e (0, 0)) := by
 rcases h.2 with ⟨rfl, _⟩ | ⟨g, cap, cur, rfl, _, hh, _⟩
 ·cases hk
 ·simp only [Value.ownBlock, Option.some.injEq] at hk
  subst hk
  exact ⟨_, hh⟩
theorem rj_round {w W W' : World} {xs : List Nd} {ao : Option Addr} {n cap Bs b off : Nat} {Z : List Nat} {g p : Value} (h : RJ w xs ao n cap Bs Z g p W) (hB : Below w.heap.size w W) (F : Frs (RS2 w g p) W W') (hb : 0 < xs.length → b < w.heap.size) :
 KeepsOthers W W' ∧ (Src xs ao Bs b off cap W → Src xs ao Bs b off cap W') ∧ Boxed W' (w.heap.size + 1) 84 (.pointer (some ⟨w.heap.size, 0, none⟩)) ∧ Boxed W' Bs 24 (.slice ao n cap) ∧ Below w.heap.size w W' := by
 have hcell : ∀ k, RS2 w g p k → ∃ cs t, W.heap[k]? = some (.cells cs t (0, 0)) ∧ t ≠ 84 ∧ t ≠ 24 := by
  intro k hk
  rcases hk with rfl | hk | hk
  ·exact ⟨_, 144, h.bun.box, by decide, by decide⟩
  ·obtain ⟨cs, hc⟩ := own_cells_block h.gs hk
   exact ⟨_, 34, hc, by decide, by decide⟩
  ·obtain ⟨cs, hc⟩ := own_cells_block h.ps hk
   exact ⟨_, 3, hc, by decide, by decide⟩
 have hge : ∀ k, RS2 w g p k → w.heap.size ≤ k := by
  intro k hk
  rcases hk with rfl | hk | hk
  ·exact Nat.le_refl _
  ·exact (World.ownsRow.lt h.gs k hk).1
  ·exact (World.ownsRow.lt h.ps k hk).1
 have h1 : ¬ RS2 w g p (w.heap.size + 1) := fun hk => by
  obtain ⟨cs, t, hc, ht, _⟩ := hcell _ hk
  have := h.ptr
  unfold Boxed at this
  rw [this] at hc
  cases hc
  exact ht rfl
 have h2 : ¬ RS2 w g p Bs := fun hk => by
  obtain ⟨cs, t, hc, _, ht⟩ := hcell _ hk
  have := h.src
  unfold Boxed at this
  rw [this] at hc
  cases hc
  exact ht rfl
 have hbs := F.block Bs h.src.lt h2
 refine ⟨⟨F.size, fun k o hk ho => ?_⟩, fun hsrc => ?_, (F.block _ h.ptr.lt h1).trans h.ptr, hbs.trans h.src, F.toBelow hB hge hB.size⟩
 ·have hlt := (Array.getElem?_eq_some_iff.1 hk).1
  refine (F.block k hlt (fun hs => ?_)).trans hk
  obtain ⟨cs, t, hc, _⟩ := hcell k hs
  rw [hk] at hc
  cases hc
  cases ho
 ·refine ⟨(World.cell?_of_block (w := W) (a := ⟨Bs, 0, none⟩) hbs).trans hsrc.box, hsrc.some_, fun i hi => ?_⟩
  obtain ⟨y, hk, hcy⟩ := hsrc.at_ i hi
  have hbl := hb (by omega)
  refine ⟨y, hk, fun j hj => ?_⟩
  exact (World.cell?_of_block (w := W) (a := ⟨b, off + i * 15 + j, none⟩) (F.block b (Nat.lt_of_lt_of_le hbl hB.size) (fun hs => by have := hge b hs; omega))).trans (hcy j hj)
theorem rj_tall {w W W2 : World} {xs : List Nd} {ao : Option Addr} {n cap Bs : Nat} {Z : List Nat} {g p : Value} {o : Obj} (h : RJ w xs ao n cap Bs Z g p W) (hf : Shr.Fr w.heap.size (W.alloc o) W2) :
 W2.ownsRow w.heap.size 34 5 g (rowTo xs Z).gs.length (f5 (rowTo xs Z).gs) ∧ W2.ownsRow w.heap.size 3 1 p (gluesAt xs Z).length ((natI (gluesAt xs Z)).map (Value.int .i64)) := by
 have k1 := own_neR h.bun h.gs (by decide)
 have k2 := own_neR h.bun h.ps (by decide)
 refine ⟨ownG_same h.gs (fun b hb => ?_), ownG_same h.ps (fun b hb => ?_)⟩
 ·have hlt := (World.ownsRow.lt h.gs b hb).2
  exact (hf.2.2.2.2 b (by simp; omega) (fun e => k1 (by rw [hb, e]))).trans (Below.heap_alloc _ _ _ hlt)
 ·have hlt := (World.ownsRow.lt h.ps b hb).2
  exact (hf.2.2.2.2 b (by simp; omega) (fun e => k2 (by rw [hb, e]))).trans (Below.heap_alloc _ _ _ hlt)
set_option maxRecDepth 100000 in
set_option maxHeartbeats 8000000 in
theorem rowOf_in {v : Value} {xs : List Nd} {w : World} (h : NRow 0 w v xs) (AOK0 : AllOk xs) (hin : ∀ i, i < xs.length → NdIn (xs.getD i Nd.none)) (hs0 : ∀ i, i < xs.length → ((xs.getD i Nd.none).k = 1 ∨ (xs.getD i Nd.none).k = 5) → (xs.getD i Nd.none).sh = 0) :
 CallsIn Fence.wide 5 Tryz.prog 44 #[v] w fun e W' => (∃ g p, e = .returned (.pointer (some ⟨w.heap.size, 0, none⟩)) ∧ Bun W' w.heap.size 6 0 (hpS xs).h (hpS xs).d (hpS xs).w g p ∧ W'.ownsRow w.heap.size 34 5 g (hpS xs).gs.length (f5 (hpS xs).gs) ∧ W'.ownsRow w.heap.size 3 1 p (gluesAt xs (begins xs)).length ((natI (gluesAt xs (begins xs))).map (Value.int .i64))) ∧ Below w.heap.size w W' := by
 have AOK := hideP AOK0
 have HIN := hideP hin
 have HS0 := hideP hs0
 obtain ⟨ao, n, cap, rfl, hl, hr⟩ := h
 have hnm : n ≤ 20000 := by rw [← hl]; exact AOK0.len
 have HL := hideP hl
 obtain ⟨b, off, hbo⟩ : ∃ b off, 0 < n → ao = some ⟨b, off, none⟩ ∧ b < w.heap.size ∧ ∀ j u, (flatN xs)[j]? = some u → w.cell? ⟨b, off + j, none⟩ = some u := by
  by_cases hn0 : 0 < n
  ·obtain ⟨b, off, e, _, hb, hc⟩ := hr hn0
   exact ⟨b, off, fun _ => ⟨e, hb, row_cells (fun i hi => hc i (by rw [← hl]; exact hi))⟩⟩
  ·exact ⟨0, 0, fun h => absurd h hn0⟩
 have HBO := hideP hbo
 clear hr hl hbo AOK0 hin hs0
 refine callsIn_of_wp_marks Tryz.func44 rfl trivial ?_ rfl
 simp only [Tryz.ntmps44, List.size_toArray, List.length_cons, List.length_nil, Nat.reduceAdd, Nat.reduceSub, Array.replicate_succ, Array.replicate_zero, List.push_toArray, List.append_toArray, List.nil_append, List.cons_append]
 gi_wp2_with fail
 refine ⟨trivial, CallsIn.mono (callsIn_wide.2 (eachItem_any ao n cap _)) ?_⟩
 rintro e w2 ⟨rfl, rfl⟩
 gi_wp2_with fail
 obtain ⟨W0, hW0⟩ : ∃ W0, W0 = ((w.alloc (.cells #[.int .i64 6, .int .i64 0, .int .i64 0, .int .i64 0, .int .i64 0, .int .i64 0, .int .i64 0, .slice none 0 0, .slice none 0 0] 144)).alloc (.cells #[.pointer (some ⟨w.heap.size, 0, none⟩)] 84)).alloc (.cells #[.slice ao n cap] 24) := ⟨_, rfl⟩
 rw [← hW0]
 have hB0 : Below w.heap.size w W0 := by rw [hW0]; exact below3 _ _ _ _
 have hptr : Boxed W0 (w.heap.size + 1) 84 (.pointer (some ⟨w.heap.size, 0, none⟩)) := by
  rw [hW0]
  have h := Boxed.new (w.alloc (.cells #[.int .i64 6, .int .i64 0, .int .i64 0, .int .i64 0, .int .i64 0, .int .i64 0, .int .i64 0, .slice none 0 0, .slice none 0 0] 144)) 84 (.pointer (some ⟨w.heap.size, 0, none⟩))
  rw [World.size_alloc] at h
  exact h.alloc _
 have hsrc : Boxed W0 (w.heap.size + 1 + 1) 24 (.slice ao n cap) := by
  rw [hW0]
  have h := Boxed.new ((w.alloc (.cells #[.int .i64 6, .int .i64 0, .int .i64 0, .int .i64 0, .int .i64 0, .int .i64 0, .int .i64 0, .slice none 0 0, .slice none 0 0] 144)).alloc (.cells #[.pointer (some ⟨w.heap.size, 0, none⟩)] 84)) 24 (.slice ao n cap)
  rw [World.size_alloc, World.size_alloc] at h
  exact h
 have hbun : Bun W0 w.heap.size 6 0 0 0 0 (.slice none 0 0) (.slice none 0 0) := by
  rw [hW0]
  exact Bun.alloc (Bun.alloc ⟨heap_alloc_new w _⟩ _) _
 have hsz : W0.heap.size = w.heap.size + 3 := by rw [hW0]; simp
 clear hW0
 obtain ⟨Bs, hBs⟩ : ∃ B, B = w.heap.size + 1 + 1 := ⟨_, rfl⟩
 rw [← hBs] at hsrc ⊢
 have HSR : Hid (Src xs ao Bs b off cap W0) := hideP (by
  refine ⟨by rw [HL.out]; exact hsrc.cell, fun h => (HBO.out (by rw [← HL.out]; exact h)).1, fun i hi => ⟨xs.getD i Nd.none, ⟨rfl, rfl⟩, fun j hj => ?_⟩⟩
  obtain ⟨_, hbw, hcell⟩ := HBO.out (by rw [← HL.out]; omega)
  have h1 := flatN_get xs i hi j hj
  rw [List.getElem?_eq_getElem (show j < (xs.getD i Nd.none).cells.length from hj)] at h1 ⊢
  have h2 := hcell _ _ h1
  rw [show off + i * 15 + j = off + (i * 15 + j) by omega]
  exact (hB0.cell (p := ⟨b, off + (i * 15 + j), none⟩) hbw).trans h2)
 have HBW : Hid (0 < xs.length → b < w.heap.size) := hideP (fun h => (HBO.out (by rw [← HL.out]; exact h)).2.1)
 have hys2 : xs.length ≤ 20000 ∧ ∀ i, i < xs.length → 0 ≤ (xs.getD i Nd.none).kids ∧ (xs.getD i Nd.none).kids ≤ 20000 := ⟨AOK.out.len, AOK.out.weak⟩
 refine wpIn_rangeFunc_ownF (F := Fence.wide) (n := 5) rfl (by omega) (gf := 88) (lb := #[.pointer (some ⟨Bs, 0, none⟩)]) rfl trivial (enters_of Tryz.func88 (by kernel_rfl) rfl)
  (each_stops 4 (by omega) xs ao Bs b off cap hys2.1 hys2.2 W0 HSR.out) (fun h1 h2 h => h2 (h1 h)) ?keepb (Below.refl _ _) (fun _ => rfl)
  (fun pre W => (∃ g p, RJ w xs ao n cap Bs (pre.map (fun x => x.1.1)) g p W) ∧ Below w.heap.size w W)
  (fun _ _ _ => False) ?ownI (fun _ _ _ _ _ hs _ _ => hs) ?start ?a1z ?assign ?body ?done ?stop
 case assign =>
  intro l x W K hK
  simp [Item.encs]
  gi_wp2
  exact hK
 case start => exact ⟨⟨_, _, ⟨hptr, hsrc, hbun, World.ownsRow_nil _ _ _ _, World.ownsRow_nil _ _ _ _⟩⟩, hB0⟩
 case keepb =>
  intro W l o o' hl hlo hoc _ hsrc
  exact hsrc.kept (grownBy_putObj' W l o') (fun r e => by cases e; exact ⟨o, hlo, hoc⟩)
 case ownI =>
  refine OwnFrom.and (Own.from ?_ _) (ownFrom_below (Nat.le_refl _) (by omega))
  rintro s A B row ⟨g, p, h1⟩ hg hr
  exact ⟨g, p, boxed_kept h1.ptr hg hr, boxed_kept h1.src hg hr, h1.bun.kept hg hr, ownG_kept h1.gs hg hr, ownG_kept h1.ps hg hr⟩
 case stop =>
  rintro D c pre W _ _ h _
  exact h.elim
 case done =>
  rintro D its' W hD hst ⟨⟨g, p, hj⟩, hB⟩ hK
  have hc2 := hj.ptr.cell
  have HJ : Hid (RJ w xs ao n cap Bs (begins xs) g p W) := hideP (by
   have e : its'.map (fun x => x.1.1) = begins xs := hst
   rw [e] at hj
   exact hj)
  have HBB := hideP hB
  clear hj hB
  gi_wp2
  refine ⟨by simp, .inl ⟨_, _, rfl, run_takeDeferred hK, ?_⟩⟩
  have hg := grownBy_putObj' W D (.deferred none)
  have hr : ∀ r, (some D) = some r → ∃ o : Obj, W.heap[r]? = some o ∧ o.isCells = false := fun r e => by cases e; exact ⟨_, hK, rfl⟩
  exact ⟨_, results_tmp rfl _ _ _, ⟨g, p, rfl, HJ.out.bun.kept hg hr, ownG_kept HJ.out.gs hg hr, ownG_kept HJ.out.ps hg hr⟩, HBB.out.trans (belowK_b (w := w) (Nat.le_refl _) W D _ _ (by omega) hK rfl rfl)⟩
 case body =>
  rintro l pre x W ⟨⟨g, p, hj⟩, hB⟩ hpl
  have hat := x.2.1
  obtain ⟨y, hy, hyq⟩ := x.2.2
  have hvt : x.1.2 = thV (xs.getD x.1.1 Nd.none) := by rw [hyq.2.2, hy.1]
  obtain ⟨at_, ha⟩ : ∃ a, x.1.1 = a := ⟨_, rfl⟩
  obtain ⟨vt, hv⟩ : ∃ v, x.1.2 = v := ⟨_, rfl⟩
  rw [hv, ha] at hvt
  rw [ha] at hat
  rw [ha, hv]
  obtain ⟨Z, hZ⟩ : ∃ Z, Z = pre.map (fun x => x.1.1) := ⟨_, rfl⟩
  rw [← hZ] at hj
  have HA : Hid ((pre ++ [x]).map (fun x => x.1.1) = Z ++ [at_]) := hideP (by rw [List.map_append, List.map_singleton, ha, ← hZ])
  have HZ : Hid (∀ q ∈ Z, q < xs.length) := hideP (by rw [hZ]; intro q hq; obtain ⟨z, _, rfl⟩ := List.mem_map.1 hq; exact z.2.1)
  have hZl : Z.length = pre.length := by rw [hZ, List.length_map]
  have HRI : Hid (RIn (rowTo xs Z) Z.length) := hideP (rowTo_in xs HIN.out Z HZ.out)
  have hzl : Z.length ≤ 20000 := by have := HL.out; omega
  have hNI := HIN.out at_ hat
  have hS0 := HS0.out at_ hat
  have hwb : -1152921504606846976 ≤ (rowTo xs Z).w ∧ (rowTo xs Z).w ≤ 1152921504606846976 := ⟨by have := HRI.out.w1; omega, by have := HRI.out.w2; omega⟩
  have hgl : (rowTo xs Z).gs.length ≤ 20001 := by have := HRI.out.n; omega
  have hpl2 : (gluesAt xs Z).length ≤ 20001 := by have := List.length_filter_le (fun p => (xs.getD p Nd.none).k == 3) Z; unfold gluesAt; omega
  clear ha hv hy hyq hZ hZl hpl
  obtain ⟨nd, hnd⟩ : ∃ nd, nd = xs.getD at_ Nd.none := ⟨_, rfl⟩
  rw [← hnd] at hvt hNI hS0
  have HSS := hideP hS0
  clear hS0
  have HND : Hid (rowTo xs (Z ++ [at_]) = rowStep (rowTo xs Z) nd) := hideP (by rw [rowTo_snoc, hnd])
  have HG3 : Hid (nd.k = 3 → gluesAt xs (Z ++ [at_]) = gluesAt xs Z ++ [at_]) := hideP (fun e => gluesAt_yes xs Z (by rw [← hnd]; exact e))
  have HG0 : Hid (nd.k ≠ 3 → gluesAt xs (Z ++ [at_]) = gluesAt xs Z) := hideP (fun e => gluesAt_no xs Z (by rw [← hnd]; exact e))
  obtain ⟨l0, l1, l2, l3, l4, AL, AL'⟩ := ask_letter nd
  obtain ⟨r0, r1, r2, AR, AR'⟩ := ask_rule nd
  obtain ⟨x0, x1, x2, x3, x4, x5, AX, AX'⟩ := ask_box nd
  obtain ⟨k0, AK, AK'⟩ := ask_kern nd
  obtain ⟨s0, s1, s2, s3, s4, s5, AS, AS'⟩ := ask_space nd
  have hsh := thV_shape nd
  rw [← hvt] at AL AR AX AK AS hsh
  have hcp := hj.ptr.cell
  have HJ := hideP hj
  have HBB := hideP hB
  have hlt := hj.ptr.lt
  have hlt0 := hj.bun.lt
  clear hj hB hvt hnd hsh hBs
  by_cases h1 : nd.k = 1
  ·have hk : nd.k = 1 ∨ nd.k = 1 := .inl h1
   have qAL : (nd.k == 1) = true := by rcases hk with hk | hk <;> simp [hk]
   rw [qAL] at AL
   have qAR : (nd.k == 5) = false := by simp; omega
   rw [qAR] at AR
   have qAX : (nd.k == 6 || nd.k == 7) = false := by simp; omega
   rw [qAX] at AX
   have qAK : (nd.k == 2) = false := by simp; omega
   rw [qAK] at AK
   have qAS : (nd.k == 3) = false := by simp; omega
   rw [qAS] at AS
   obtain ⟨rfl, rfl, rfl⟩ := AL' (by omega)
   clear AL' AR' AX' AK' AS' qAL qAR qAX qAK qAS
   gi_wp2_with (rw [Oper.semAt_some _ _ _ (by intro c h; cases h)]; unfold execOp; simp only [Act.eval]; go_simp)
   refine ⟨trivial, CallsIn.mono (callsIn_wide.2 (beside_any nd.wd nd.ht nd.dp 0 (HJ.out.bun.alloc _) hwb hNI.wd hNI.ht hNI.dp ⟨by omega, by omega⟩)) ?_⟩
   rintro e W2 ⟨⟨vr, rfl⟩, hbun2, hfr2⟩
   have F2 := Frs.fr ((Frs.refl (RS2 w g p) W).alloc _) hfr2 (.inl rfl)
   obtain ⟨d1, d2, d3, d4, d5⟩ := rj_round HJ.out HBB.out F2 HBW.out
   obtain ⟨e1, e2⟩ := rj_tall HJ.out hfr2
   have HD : Hid (KeepsOthers W W2 ∧ (Src xs ao Bs b off cap W → Src xs ao Bs b off cap W2) ∧ RJ w xs ao n cap Bs (Z ++ [at_]) g p W2 ∧ Below w.heap.size w W2) := hideP (by
    refine ⟨d1, d2, ⟨d3, d4, ?_, ?_, ?_⟩, d5⟩
    ·rw [HND.out, rowStep_1 h1]
     show Bun W2 _ 6 0 (Shr.mxI (rowTo xs Z).h (nd.ht - nd.sh)) (Shr.mxI (rowTo xs Z).d (nd.dp + nd.sh)) ((rowTo xs Z).w + nd.wd) g p
     rw [HSS.out (by omega)]
     exact hbun2
    ·rw [HND.out, rowStep_1 h1]; exact e1
    ·rw [HG0.out (by omega)]; exact e2)
   clear d1 d2 d3 d4 d5 e1 e2 F2 hbun2 hfr2
   gi_wp2
   exact ⟨HD.out.1, HD.out.2.1, ⟨_, _, by have h := HD.out.2.2.1; rw [← HA.out] at h; exact h⟩, HD.out.2.2.2⟩
  by_cases h5 : nd.k = 5
  ·have hk : nd.k = 5 ∨ nd.k = 5 := .inl h5
   have qAL : (nd.k == 1) = false := by simp; omega
   rw [qAL] at AL
   have qAR : (nd.k == 5) = true := by rcases hk with hk | hk <;> simp [hk]
   rw [qAR] at AR
   have qAX : (nd.k == 6 || nd.k == 7) = false := by simp; omega
   rw [qAX] at AX
   have qAK : (nd.k == 2) = false := by simp; omega
   rw [qAK] at AK
   have qAS : (nd.k == 3) = false := by simp; omega
   rw [qAS] at AS
   obtain ⟨rfl, rfl, rfl⟩ := AR' (by omega)
   clear AL' AR' AX' AK' AS' qAL qAR qAX qAK qAS
   gi_wp2_with (rw [Oper.semAt_some _ _ _ (by intro c h; cases h)]; unfold execOp; simp only [Act.eval]; go_simp)
   refine ⟨trivial, CallsIn.mono (callsIn_wide.2 (beside_any nd.wd nd.ht nd.dp 0 (HJ.out.bun.alloc _) hwb hNI.wd hNI.ht hNI.dp ⟨by omega, by omega⟩)) ?_⟩
   rintro e W2 ⟨⟨vr, rfl⟩, hbun2, hfr2⟩
   have F2 := Frs.fr ((Frs.refl (RS2 w g p) W).alloc _) hfr2 (.inl rfl)
   obtain ⟨d1, d2, d3, d4, d5⟩ := rj_round HJ.out HBB.out F2 HBW.out
   obtain ⟨e1, e2⟩ := rj_tall HJ.out hfr2
   have HD : Hid (KeepsOthers W W2 ∧ (Src xs ao Bs b off cap W → Src xs ao Bs b off cap W2) ∧ RJ w xs ao n cap Bs (Z ++ [at_]) g p W2 ∧ Below w.heap.size w W2) := hideP (by
    refine ⟨d1, d2, ⟨d3, d4, ?_, ?_, ?_⟩, d5⟩
    ·rw [HND.out, rowStep_5 h5]
     show Bun W2 _ 6 0 (Shr.mxI (rowTo xs Z).h (nd.ht - nd.sh)) (Shr.mxI (rowTo xs Z).d (nd.dp + nd.sh)) ((rowTo xs Z).w + nd.wd) g p
     rw [HSS.out (by omega)]
     exact hbun2
    ·rw [HND.out, rowStep_5 h5]; exact e1
    ·rw [HG0.out (by omega)]; exact e2)
   clear d1 d2 d3 d4 d5 e1 e2 F2 hbun2 hfr2
   gi_wp2
   exact ⟨HD.out.1, HD.out.2.1, ⟨_, _, by have h := HD.out.2.2.1; rw [← HA.out] at h; exact h⟩, HD.out.2.2.2⟩
  by_cases h6 : nd.k = 6 ∨ nd.k = 7
  ·have hk := h6
   have hst : ∀ s, rowStep s nd = s.tall nd := fun s => by rcases h6 with h | h; exact rowStep_6 h; exact rowStep_7 h
   have qAL : (nd.k == 1) = false := by simp; omega
   rw [qAL] at AL
   have qAR : (nd.k == 5) = false := by simp; omega
   rw [qAR] at AR
   have qAX : (nd.k == 6 || nd.k == 7) = true := by rcases hk with hk | hk <;> simp [hk]
   rw [qAX] at AX
   have qAK : (nd.k == 2) = false := by simp; omega
   rw [qAK] at AK
   have qAS : (nd.k == 3) = false := by simp; omega
   rw [qAS] at AS
   obtain ⟨rfl, rfl, rfl, rfl⟩ := AX' (by omega)
   clear AL' AR' AX' AK' AS' qAL qAR qAX qAK qAS
   gi_wp2_with (rw [Oper.semAt_some _ _ _ (by intro c h; cases h)]; unfold execOp; simp only [Act.eval]; go_simp)
   refine ⟨trivial, CallsIn.mono (callsIn_wide.2 (beside_any nd.wd nd.ht nd.dp nd.sh (HJ.out.bun.alloc _) hwb hNI.wd hNI.ht hNI.dp hNI.sh)) ?_⟩
   rintro e W2 ⟨⟨vr, rfl⟩, hbun2, hfr2⟩
   have F2 := Frs.fr ((Frs.refl (RS2 w g p) W).alloc _) hfr2 (.inl rfl)
   obtain ⟨d1, d2, d3, d4, d5⟩ := rj_round HJ.out HBB.out F2 HBW.out
   obtain ⟨e1, e2⟩ := rj_tall HJ.out hfr2
   have HD : Hid (KeepsOthers W W2 ∧ (Src xs ao Bs b off cap W → Src xs ao Bs b off cap W2) ∧ RJ w xs ao n cap Bs (Z ++ [at_]) g p W2 ∧ Below w.heap.size w W2) := hideP (by
    refine ⟨d1, d2, ⟨d3, d4, ?_, ?_, ?_⟩, d5⟩
    ·rw [HND.out, hst]
     show Bun W2 _ 6 0 (Shr.mxI (rowTo xs Z).h (nd.ht - nd.sh)) (Shr.mxI (rowTo xs Z).d (nd.dp + nd.sh)) ((rowTo xs Z).w + nd.wd) g p
     exact hbun2
    ·rw [HND.out, hst]; exact e1
    ·rw [HG0.out (by omega)]; exact e2)
   clear d1 d2 d3 d4 d5 e1 e2 F2 hbun2 hfr2
   gi_wp2
   exact ⟨HD.out.1, HD.out.2.1, ⟨_, _, by have h := HD.out.2.2.1; rw [← HA.out] at h; exact h⟩, HD.out.2.2.2⟩
  by_cases h2 : nd.k = 2
  ·have qAL : (nd.k == 1) = false := by simp; omega
   rw [qAL] at AL
   have qAR : (nd.k == 5) = false := by simp; omega
   rw [qAR] at AR
   have qAX : (nd.k == 6 || nd.k == 7) = false := by simp; omega
   rw [qAX] at AX
   have qAK : (nd.k == 2) = true := by simp [h2]
   rw [qAK] at AK
   have qAS : (nd.k == 3) = false := by simp; omega
   rw [qAS] at AS
   obtain rfl := AK' h2
   clear AL' AR' AX' AK' AS' qAL qAR qAX qAK qAS
   gi_wp2_with (rw [Oper.semAt_some _ _ _ (by intro c h; cases h)]; unfold execOp; simp only [Act.eval]; go_simp)
   have hwr : IntKind.i64.wrap ((rowTo xs Z).w + nd.wd) = (rowTo xs Z).w + nd.wd := by have := hNI.wd; rw [IntKind.wrap_i64]; omega
   obtain ⟨WA, hWA⟩ : ∃ WA, WA = W.alloc (.cells #[.int .i64 nd.wd] 151) := ⟨_, rfl⟩
   rw [← hWA]
   have BA : Hid (Bun WA w.heap.size 6 0 (rowTo xs Z).h (rowTo xs Z).d (rowTo xs Z).w g p) := hideP (by rw [hWA]; exact HJ.out.bun.alloc _)
   have hcpA : WA.cell? ⟨w.heap.size + 1, 0, none⟩ = some (.pointer (some ⟨w.heap.size, 0, none⟩)) := by rw [hWA]; exact (HJ.out.ptr.alloc _).cell
   have hcT : WA.cell? ⟨W.heap.size, 0, none⟩ = some (.int .i64 nd.wd) := by rw [hWA]; simp [go_sem]
   have hc6 := BA.out.cells.2.2.2.2.2.2.1
   have fzA := BA.out.free
   have hltA := BA.out.lt
   have hTw : w.heap.size + 1 < W.heap.size := hlt
   have W9 : Hid (Bun (WA.setCell ⟨w.heap.size, 6, none⟩ (.int .i64 ((rowTo xs Z).w + nd.wd))) w.heap.size 6 0 (rowTo xs Z).h (rowTo xs Z).d ((rowTo xs Z).w + nd.wd) g p ∧ Shr.Fr w.heap.size (W.alloc (.cells #[.int .i64 nd.wd] 151)) (WA.setCell ⟨w.heap.size, 6, none⟩ (.int .i64 ((rowTo xs Z).w + nd.wd)))) := hideP ⟨BA.out.setL _, by rw [hWA]; exact Shr.Fr.set (Shr.Fr.refl _ _) (.inl rfl) _⟩
   clear hWA
   refine region_heldR (S := fun X => X.cell? ⟨w.heap.size + 1, 0, none⟩ = some (.pointer (some ⟨w.heap.size, 0, none⟩)) ∧ X.cell? ⟨W.heap.size, 0, none⟩ = some (.int .i64 nd.wd)) (by kernel_rfl) (plain_spec (by kernel_rfl)) (by rintro ⟨a, w, h⟩; exact h) ?_
   have hS : WA.drew.cell? ⟨w.heap.size + 1, 0, none⟩ = some (.pointer (some ⟨w.heap.size, 0, none⟩)) ∧ WA.drew.cell? ⟨W.heap.size, 0, none⟩ = some (.int .i64 nd.wd) := ⟨hcpA, hcT⟩
   refine tkS (i := 0) (v := .pointer (some ⟨w.heap.size, 0, none⟩)) rfl (by kernel_rfl) (by first | rfl | go_simp) (fun wx hx => by obtain ⟨hx1, hx2⟩ := hx; go_simp) hS ?_
   try simp only [sput]
   refine tkS (i := 1) (v := .pointer (some ⟨w.heap.size, 0, none⟩)) rfl (by kernel_rfl) (by first | rfl | go_simp) (fun wx hx => by obtain ⟨hx1, hx2⟩ := hx; go_simp) hS ?_
   try simp only [sput]
   refine tkS (i := 2) (v := .pointer (some ⟨w.heap.size, 6, none⟩)) rfl (by kernel_rfl) (by first | rfl | go_simp) (fun wx hx => by obtain ⟨hx1, hx2⟩ := hx; go_simp) hS ?_
   try simp only [sput]
   refine tkS (i := 4) (v := .pointer (some ⟨W.heap.size, 0, none⟩)) rfl (by kernel_rfl) (by first | rfl | go_simp) (fun wx hx => by obtain ⟨hx1, hx2⟩ := hx; go_simp) hS ?_
   try simp only [sput]
   refine tkS (i := 5) (v := .int .i64 nd.wd) rfl (by kernel_rfl) (by first | rfl | go_simp) (fun wx hx => by obtain ⟨hx1, hx2⟩ := hx; go_simp) hS ?_
   try simp only [sput]
   refine wpAnyH_ready (rs := [3]) (by kernel_rfl) (by simp) ?_
   refine AllReadyH.cons rfl (fun K hK => ?_) AllReadyH.nil
   rw [if_pos (by first | rfl | go_simp)]
   go_simp
   refine hK.out _ _ hS (fun _ => ?_)
   try simp only [sput]
   clear hK K
   refine tkS (i := 6) (v := .int .i64 ((rowTo xs Z).w + nd.wd)) rfl (by kernel_rfl) (by first | rfl | go_simp) (fun wx hx => by obtain ⟨hx1, hx2⟩ := hx; go_simp; first | done | (go_num; done) | (go_bits; done) | (go_bits; trivial)) hS ?_
   try simp only [sput]
   refine tkS (i := 7) (v := .pointer (some ⟨w.heap.size, 0, none⟩)) rfl (by kernel_rfl) (by first | rfl | go_simp) (fun wx hx => by obtain ⟨hx1, hx2⟩ := hx; go_simp) hS ?_
   try simp only [sput]
   refine tkS (i := 8) (v := .pointer (some ⟨w.heap.size, 6, none⟩)) rfl (by kernel_rfl) (by first | rfl | go_simp) (fun wx hx => by obtain ⟨hx1, hx2⟩ := hx; go_simp) hS ?_
   try simp only [sput]
   refine wpAnyH_ready (rs := [9]) (by kernel_rfl) (by simp) ?_
   refine AllReadyH.cons rfl (fun K hK => ?_) AllReadyH.nil
   rw [if_pos (by first | rfl | go_simp)]
   go_simp
   refine hK.out _ _ ⟨(World.cell?_setCell_far _ _ _ _ (by simp)).trans hcpA, (World.cell?_setCell_far _ _ _ _ (by simp; omega)).trans hcT⟩ (fun _ => ?_)
   try simp only [sput]
   clear hK K
   refine wpAnyH_done (by kernel_rfl) ?_ _
   obtain ⟨W2, hW2⟩ : ∃ W2, W2 = (WA.setCell ⟨w.heap.size, 6, none⟩ (.int .i64 ((rowTo xs Z).w + nd.wd))).drew := ⟨_, rfl⟩
   rw [← hW2]
   have hbun2 : Bun W2 w.heap.size 6 0 (rowTo xs Z).h (rowTo xs Z).d ((rowTo xs Z).w + nd.wd) g p := by rw [hW2]; exact W9.out.1.drew
   have hfr2 : Shr.Fr w.heap.size (W.alloc (.cells #[.int .i64 nd.wd] 151)) W2 := by rw [hW2]; exact Shr.Fr.drew W9.out.2
   clear hW2
   have F2 := Frs.fr ((Frs.refl (RS2 w g p) W).alloc _) hfr2 (.inl rfl)
   obtain ⟨d1, d2, d3, d4, d5⟩ := rj_round HJ.out HBB.out F2 HBW.out
   obtain ⟨e1, e2⟩ := rj_tall HJ.out hfr2
   have HD : Hid (KeepsOthers W W2 ∧ (Src xs ao Bs b off cap W → Src xs ao Bs b off cap W2) ∧ RJ w xs ao n cap Bs (Z ++ [at_]) g p W2 ∧ Below w.heap.size w W2) := hideP (by
    refine ⟨d1, d2, ⟨d3, d4, ?_, ?_, ?_⟩, d5⟩
    ·rw [HND.out, rowStep_2 h2]; exact hbun2
    ·rw [HND.out, rowStep_2 h2]; exact e1
    ·rw [HG0.out (by omega)]; exact e2)
   clear d1 d2 d3 d4 d5 e1 e2 F2 hbun2 hfr2
   gi_wp2
   exact ⟨HD.out.1, HD.out.2.1, ⟨_, _, by have h := HD.out.2.2.1; rw [← HA.out] at h; exact h⟩, HD.out.2.2.2⟩
  by_cases h3 : nd.k = 3
  ·have qAL : (nd.k == 1) = false := by simp; omega
   rw [qAL] at AL
   have qAR : (nd.k == 5) = false := by simp; omega
   rw [qAR] at AR
   have qAX : (nd.k == 6 || nd.k == 7) = false := by simp; omega
   rw [qAX] at AX
   have qAK : (nd.k == 2) = false := by simp; omega
   rw [qAK] at AK
   have qAS : (nd.k == 3) = true := by simp [h3]
   rw [qAS] at AS
   obtain ⟨rfl, rfl, rfl, rfl, rfl, rfl⟩ := AS' h3
   clear AL' AR' AX' AK' AS' qAL qAR qAX qAK qAS
   gi_wp2_with (rw [Oper.semAt_some _ _ _ (by intro c h; cases h)]; unfold execOp; simp only [Act.eval]; go_simp)
   refine ⟨trivial, CallsIn.mono (callsIn_wide.2 (addGlue_any (at_ : Int) (glOf nd) (HJ.out.bun.alloc _) (HJ.out.gs.alloc _) (HJ.out.ps.alloc _) (Nat.le_refl _) hgl hpl2)) ?_⟩
   rintro e W2 ⟨⟨vr, rfl⟩, ⟨g', p', hbun2, hg2, hp2⟩, hfr2⟩
   have F2 : Frs (RS2 w g p) W W2 := Frs.frs ((Frs.refl (RS2 w g p) W).alloc _) hfr2 (fun x hx => hx)
   obtain ⟨d1, d2, d3, d4, d5⟩ := rj_round HJ.out HBB.out F2 HBW.out
   have HD : Hid (KeepsOthers W W2 ∧ (Src xs ao Bs b off cap W → Src xs ao Bs b off cap W2) ∧ RJ w xs ao n cap Bs (Z ++ [at_]) g' p' W2 ∧ Below w.heap.size w W2) := hideP (by
    refine ⟨d1, d2, ⟨d3, d4, ?_, ?_, ?_⟩, d5⟩
    ·rw [HND.out, rowStep_3 h3]; exact hbun2
    ·rw [HND.out, rowStep_3 h3]; show W2.ownsRow _ 34 5 g' ((rowTo xs Z).gs ++ [glOf nd]).length (f5 ((rowTo xs Z).gs ++ [glOf nd])); rw [List.length_append]; exact hg2
    ·rw [HG3.out h3, List.length_append]; unfold natI; rw [List.map_append, List.map_append]; exact hp2)
   clear d1 d2 d3 d4 d5 F2 hbun2 hfr2 hg2 hp2
   gi_wp2
   exact ⟨HD.out.1, HD.out.2.1, ⟨_, _, by have h := HD.out.2.2.1; rw [← HA.out] at h; exact h⟩, HD.out.2.2.2⟩
  have hn1 : rowStep (rowTo xs Z) nd = rowTo xs Z := rowStep_0 h1 h2 h3 h5 (by omega) (by omega)
  have qAL : (nd.k == 1) = false := by simp; omega
  rw [qAL] at AL
  have qAR : (nd.k == 5) = false := by simp; omega
  rw [qAR] at AR
  have qAX : (nd.k == 6 || nd.k == 7) = false := by simp; omega
  rw [qAX] at AX
  have qAK : (nd.k == 2) = false := by simp; omega
  rw [qAK] at AK
  have qAS : (nd.k == 3) = false := by simp; omega
  rw [qAS] at AS
  have HD : Hid (RJ w xs ao n cap Bs (Z ++ [at_]) g p W) := hideP (by
   obtain ⟨c1, c2, c3, c4, c5⟩ := HJ.out
   refine ⟨c1, c2, ?_, ?_, ?_⟩
   ·rw [HND.out, hn1]; exact c3
   ·rw [HND.out, hn1]; exact c4
   ·rw [HG0.out h3]; exact c5)
  clear AL' AR' AX' AK' AS' qAL qAR qAX qAK qAS hn1
  gi_wp2_with (rw [Oper.semAt_some _ _ _ (by intro c h; cases h)]; unfold execOp; simp only [Act.eval]; go_simp)
  exact ⟨KeepsOthers.refl _, id, ⟨_, _, by have h := HD.out; rw [← HA.out] at h; exact h⟩, HBB.out⟩
theorem siz_take {gs : List Shr.Gl} {j : Nat} (h : j < gs.length) : Shr.siz (gs.take (j + 1)) = Shr.siz (gs.take j) + (gs.getD j Shr.Gl.none).s := by
 unfold Shr.siz
 rw [List.take_succ_eq_append_getElem h, List.map_append, List.sum_append]
 simp [List.getD, List.getElem?_eq_getElem h]
theorem siz_le {gs : List Shr.Gl} (hg : ∀ x ∈ gs, -1073741823 ≤ x.s ∧ x.s ≤ 1073741823) : -(1073741823 * (gs.length : Int)) ≤ Shr.siz gs ∧ Shr.siz gs ≤ 1073741823 * (gs.length : Int) := by
 induction gs with
 | nil => simp [Shr.siz]
 | cons x gs ih =>
  have h1 := ih (fun y hy => hg y (List.mem_cons_of_mem _ hy))
  have h2 := hg x (List.mem_cons_self ..)
  have e : Shr.siz (x :: gs) = x.s + Shr.siz gs := by simp [Shr.siz]
  rw [e, List.length_cons]
  push_cast
  omega
theorem siz_bound {gs : List Shr.Gl} (hg : ∀ x ∈ gs, -1073741823 ≤ x.s ∧ x.s ≤ 1073741823) (hn : gs.length ≤ 20001) (j : Nat) : -21476983091871 ≤ Shr.siz (gs.take j) ∧ Shr.siz (gs.take j) ≤ 21476983091871 := by
 have h := siz_le (gs := gs.take j) (fun x hx => hg x (List.mem_of_mem_take hx))
 have h2 : (gs.take j).length ≤ 20001 := by rw [List.length_take]; omega
 omega
set_option maxRecDepth 20000 in
set_option maxHeartbeats 4000000 in
theorem wanted_any {w : World} {R : Nat} {k wd h d len : Int} {g p : Value} {gs : List Shr.Gl} (mode size : Int) (B : Bun w R k wd h d len g p) (hg : Shr.GRow w g gs) (hgs : ∀ x ∈ gs, -1073741823 ≤ x.s ∧ x.s ≤ 1073741823) (hn : gs.length ≤ 20001)
 (hl : -1073741823000000 ≤ len ∧ len ≤ 1073741823000000) (hsz : -1073741823 ≤ size ∧ size ≤ 1073741823) :
 Calls Tryz.prog 81 #[.pointer (some ⟨R, 0, none⟩), .int .i64 mode, .int .i64 size] w fun e w' => e = .returned (.int .i64 (Shr.alongI len gs mode size)) ∧ Below w.heap.size w w' := by
 obtain ⟨b0, b1, b2, b3, b4, b5, b6, b7, b8⟩ := B.cells
 have hR := B.lt
 obtain ⟨ga, m, gc, rfl, hgl, hgr⟩ := hg
 have HSB : Hid (∀ j, -21476983091871 ≤ Shr.siz (gs.take j) ∧ Shr.siz (gs.take j) ≤ 21476983091871) := hideP (siz_bound hgs hn)
 have HGR := hideP hgr
 have HGL := hideP hgl
 have HB := hideP B
 have hm : m ≤ 20001 := by omega
 have HBN := hideP hl
 have HSZ := hideP hsz
 clear hgr hgl B hgs hl hsz hn
 by_cases h1 : mode = 1
 ·subst h1
  go_enter Tryz.func81, Tryz.ntmps81
  go_wp2
  go_ret
  exact ⟨rfl, Below.refl _ _⟩
 ·have h1' : (mode == 1) = false := by simpa using h1
  have HR2 : Hid (Shr.alongI len gs mode size = if mode = 2 then len + Shr.siz gs + size else len + Shr.siz gs) := hideP (by unfold Shr.alongI; rw [if_neg h1])
  go_enter Tryz.func81, Tryz.ntmps81
  go_wp2_with fail
  go_loopw [7, 22] (fun x i wr => ∃ j : Nat, j ≤ m ∧ i = .int .i64 j ∧ x = .int .i64 (len + Shr.siz (gs.take j)) ∧ Below w.heap.size w wr) (fun _ i _ => m - (intOf i).toNat)
  case atStart => exact ⟨0, by omega, rfl, by simp [Shr.siz], Below.refl _ _⟩
  case round =>
   obtain ⟨j, hj, rfl, rfl, hb⟩ := hrel
   have HBB := hideP hb
   by_cases hjm : j < m
   ·have hji : (j : Int) < (m : Int) := by omega
    obtain ⟨gb, off, rfl, hgb, hc⟩ := HGR.out (by omega)
    have hcc := hc j hjm
    obtain ⟨q0, q1, q2, q3, q4⟩ := hcc
    have k0 := (hb.cell (p := ⟨gb, off + j * 5, none⟩) hgb).trans q0
    have k1 := (hb.cell (p := ⟨gb, off + j * 5 + 1, none⟩) hgb).trans q1
    have k2 := (hb.cell (p := ⟨gb, off + j * 5 + 2, none⟩) hgb).trans q2
    have k3 := (hb.cell (p := ⟨gb, off + j * 5 + 3, none⟩) hgb).trans q3
    have k4 := (hb.cell (p := ⟨gb, off + j * 5 + 4, none⟩) hgb).trans q4
    have hst : Shr.siz (gs.take (j + 1)) = Shr.siz (gs.take j) + (gs.getD j Shr.Gl.none).s := siz_take (by rw [HGL.out]; exact hjm)
    have hx1 := HSB.out (j + 1)
    obtain ⟨z, hz⟩ : ∃ z, z = len + Shr.siz (gs.take j) := ⟨_, rfl⟩
    rw [← hz]
    have HZ : Hid (z + (gs.getD j Shr.Gl.none).s = len + Shr.siz (gs.take (j + 1))) := hideP (by rw [hst, hz]; omega)
    have hzb : -9000000000000000000 ≤ z + (gs.getD j Shr.Gl.none).s ∧ z + (gs.getD j Shr.Gl.none).s ≤ 9000000000000000000 := by rw [HZ.out]; have := HBN.out; omega
    obtain ⟨⟨y0, y1, y2, y3, y4⟩, hy⟩ : ∃ y : Shr.Gl, y = gs.getD j Shr.Gl.none := ⟨_, rfl⟩
    rw [← hy] at k0 k1 k2 k3 k4 HZ hzb
    simp only at k0 k1 k2 k3 k4 hzb
    clear hc q0 q1 q2 q3 q4 hst hx1 hz hy hb
    go_wp2
    go_roundw
    case rel => exact ⟨j + 1, by omega, by go_num, by rw [← HZ.out], HBB.out.alloc HBB.out.size _⟩
    case measure => simp [intOf]; omega
   ·have hji : ¬ (j : Int) < (m : Int) := by omega
    obtain rfl : j = m := by omega
    have HT : Hid (len + Shr.siz (gs.take j) = len + Shr.siz gs) := hideP (by rw [← HGL.out, List.take_length])
    have hx1 := HSB.out j
    obtain ⟨z, hz⟩ : ∃ z, z = len + Shr.siz (gs.take j) := ⟨_, rfl⟩
    rw [← hz] at HT ⊢
    have hzb : -9000000000000000000 ≤ z + size ∧ z + size ≤ 9000000000000000000 := by rw [hz]; have := HBN.out; have := HSZ.out; omega
    clear hz hx1 hb
    by_cases h2 : mode = 2
    ·subst h2
     have HRA : Hid (Shr.alongI len gs 2 size = z + size) := hideP (by rw [HR2.out, if_pos rfl, ← HT.out])
     clear HR2
     go_wp2
     go_ret
     refine ⟨?_, HBB.out⟩
     rw [HRA.out]
     rfl
    ·have h2' : (mode == 2) = false := by simpa using h2
     have HRA : Hid (Shr.alongI len gs mode size = z) := hideP (by rw [HR2.out, if_neg h2, ← HT.out])
     clear HR2
     go_wp2
     go_ret
     refine ⟨?_, HBB.out⟩
     rw [HRA.out]
     rfl
abbrev ndO (x : Nd) : Obj := .cells #[.int .i64 x.k, .int .i64 x.wd, .int .i64 x.ht, .int .i64 x.dp, .int .i64 x.sh, .int .i64 x.fo, .int .i64 x.ch, .int .i64 x.nn, .int .i64 x.gs, .int .i64 x.gp, .int .i64 x.gpo, .int .i64 x.gm, .int .i64 x.gmo, .string x.tx, .int .i64 x.kids] 36 (0, 0)
abbrev fif (w : World) (R : Nat) (k wd ht dp sh fo ch nn gs gp gpo gm gmo : Int) (tx : ByteArray) (kids : Int) : World := (((((((((((((((w.setCell ⟨R, 0, none⟩ (.int .i64 k)).setCell ⟨R, 1, none⟩ (.int .i64 wd)).setCell ⟨R, 2, none⟩ (.int .i64 ht)).setCell ⟨R, 3, none⟩ (.int .i64 dp)).setCell ⟨R, 4, none⟩ (.int .i64 sh)).setCell ⟨R, 5, none⟩ (.int .i64 fo)).setCell ⟨R, 6, none⟩ (.int .i64 ch)).setCell ⟨R, 7, none⟩ (.int .i64 nn)).setCell ⟨R, 8, none⟩ (.int .i64 gs)).setCell ⟨R, 9, none⟩ (.int .i64 gp)).setCell ⟨R, 10, none⟩ (.int .i64 gpo)).setCell ⟨R, 11, none⟩ (.int .i64 gm)).setCell ⟨R, 12, none⟩ (.int .i64 gmo)).setCell ⟨R, 13, none⟩ (.string tx)).setCell ⟨R, 14, none⟩ (.int .i64 kids))
theorem fif_heap {w : World} {R : Nat} {y : Nd} (h : w.heap[R]? = some (ndO y)) (k wd ht dp sh fo ch nn gs gp gpo gm gmo : Int) (tx : ByteArray) (kids : Int) : (fif w R k wd ht dp sh fo ch nn gs gp gpo gm gmo tx kids).heap[R]? = some (ndO ⟨k, wd, ht, dp, sh, fo, ch, nn, gs, gp, gpo, gm, gmo, tx, kids⟩) := by
 obtain ⟨w0, e0⟩ : ∃ W, W = w.setCell ⟨R, 0, none⟩ (.int .i64 k) := ⟨_, rfl⟩
 have h0 : w0.heap[R]? = some (.cells #[.int .i64 k, .int .i64 y.wd, .int .i64 y.ht, .int .i64 y.dp, .int .i64 y.sh, .int .i64 y.fo, .int .i64 y.ch, .int .i64 y.nn, .int .i64 y.gs, .int .i64 y.gp, .int .i64 y.gpo, .int .i64 y.gm, .int .i64 y.gmo, .string y.tx, .int .i64 y.kids] 36 (0, 0)) := by rw [e0]; exact heap_setCell_same _ R 0 _ 36 _ h
 obtain ⟨w1, e1⟩ : ∃ W, W = w0.setCell ⟨R, 1, none⟩ (.int .i64 wd) := ⟨_, rfl⟩
 have h1 : w1.heap[R]? = some (.cells #[.int .i64 k, .int .i64 wd, .int .i64 y.ht, .int .i64 y.dp, .int .i64 y.sh, .int .i64 y.fo, .int .i64 y.ch, .int .i64 y.nn, .int .i64 y.gs, .int .i64 y.gp, .int .i64 y.gpo, .int .i64 y.gm, .int .i64 y.gmo, .string y.tx, .int .i64 y.kids] 36 (0, 0)) := by rw [e1]; exact heap_setCell_same _ R 1 _ 36 _ h0
 obtain ⟨w2, e2⟩ : ∃ W, W = w1.setCell ⟨R, 2, none⟩ (.int .i64 ht) := ⟨_, rfl⟩
 have h2 : w2.heap[R]? = some (.cells #[.int .i64 k, .int .i64 wd, .int .i64 ht, .int .i64 y.dp, .int .i64 y.sh, .int .i64 y.fo, .int .i64 y.ch, .int .i64 y.nn, .int .i64 y.gs, .int .i64 y.gp, .int .i64 y.gpo, .int .i64 y.gm, .int .i64 y.gmo, .string y.tx, .int .i64 y.kids] 36 (0, 0)) := by rw [e2]; exact heap_setCell_same _ R 2 _ 36 _ h1
 obtain ⟨w3, e3⟩ : ∃ W, W = w2.setCell ⟨R, 3, none⟩ (.int .i64 dp) := ⟨_, rfl⟩
 have h3 : w3.heap[R]? = some (.cells #[.int .i64 k, .int .i64 wd, .int .i64 ht, .int .i64 dp, .int .i64 y.sh, .int .i64 y.fo, .int .i64 y.ch, .int .i64 y.nn, .int .i64 y.gs, .int .i64 y.gp, .int .i64 y.gpo, .int .i64 y.gm, .int .i64 y.gmo, .string y.tx, .int .i64 y.kids] 36 (0, 0)) := by rw [e3]; exact heap_setCell_same _ R 3 _ 36 _ h2
 obtain ⟨w4, e4⟩ : ∃ W, W = w3.setCell ⟨R, 4, none⟩ (.int .i64 sh) := ⟨_, rfl⟩
 have h4 : w4.heap[R]? = some (.cells #[.int .i64 k, .int .i64 wd, .int .i64 ht, .int .i64 dp, .int .i64 sh, .int .i64 y.fo, .int .i64 y.ch, .int .i64 y.nn, .int .i64 y.gs, .int .i64 y.gp, .int .i64 y.gpo, .int .i64 y.gm, .int .i64 y.gmo, .string y.tx, .int .i64 y.kids] 36 (0, 0)) := by rw [e4]; exact heap_setCell_same _ R 4 _ 36 _ h3
 obtain ⟨w5, e5⟩ : ∃ W, W = w4.setCell ⟨R, 5, none⟩ (.int .i64 fo) := ⟨_, rfl⟩
 have h5 : w5.heap[R]? = some (.cells #[.int .i64 k, .int .i64 wd, .int .i64 ht, .int .i64 dp, .int .i64 sh, .int .i64 fo, .int .i64 y.ch, .int .i64 y.nn, .int .i64 y.gs, .int .i64 y.gp, .int .i64 y.gpo, .int .i64 y.gm, .int .i64 y.gmo, .string y.tx, .int .i64 y.kids] 36 (0, 0)) := by rw [e5]; exact heap_setCell_same _ R 5 _ 36 _ h4
 obtain ⟨w6, e6⟩ : ∃ W, W = w5.setCell ⟨R, 6, none⟩ (.int .i64 ch) := ⟨_, rfl⟩
 have h6 : w6.heap[R]? = some (.cells #[.int .i64 k, .int .i64 wd, .int .i64 ht, .int .i64 dp, .int .i64 sh, .int .i64 fo, .int .i64 ch, .int .i64 y.nn, .int .i64 y.gs, .int .i64 y.gp, .int .i64 y.gpo, .int .i64 y.gm, .int .i64 y.gmo, .string y.tx, .int .i64 y.kids] 36 (0, 0)) := by rw [e6]; exact heap_setCell_same _ R 6 _ 36 _ h5
 obtain ⟨w7, e7⟩ : ∃ W, W = w6.setCell ⟨R, 7, none⟩ (.int .i64 nn) := ⟨_, rfl⟩
 have h7 : w7.heap[R]? = some (.cells #[.int .i64 k, .int .i64 wd, .int .i64 ht, .int .i64 dp, .int .i64 sh, .int .i64 fo, .int .i64 ch, .int .i64 nn, .int .i64 y.gs, .int .i64 y.gp, .int .i64 y.gpo, .int .i64 y.gm, .int .i64 y.gmo, .string y.tx, .int .i64 y.kids] 36 (0, 0)) := by rw [e7]; exact heap_setCell_same _ R 7 _ 36 _ h6
 obtain ⟨w8, e8⟩ : ∃ W, W = w7.setCell ⟨R, 8, none⟩ (.int .i64 gs) := ⟨_, rfl⟩
 have h8 : w8.heap[R]? = some (.cells #[.int .i64 k, .int .i64 wd, .int .i64 ht, .int .i64 dp, .int .i64 sh, .int .i64 fo, .int .i64 ch, .int .i64 nn, .int .i64 gs, .int .i64 y.gp, .int .i64 y.gpo, .int .i64 y.gm, .int .i64 y.gmo, .string y.tx, .int .i64 y.kids] 36 (0, 0)) := by rw [e8]; exact heap_setCell_same _ R 8 _ 36 _ h7
 obtain ⟨w9, e9⟩ : ∃ W, W = w8.setCell ⟨R, 9, none⟩ (.int .i64 gp) := ⟨_, rfl⟩
 have h9 : w9.heap[R]? = some (.cells #[.int .i64 k, .int .i64 wd, .int .i64 ht, .int .i64 dp, .int .i64 sh, .int .i64 fo, .int .i64 ch, .int .i64 nn, .int .i64 gs, .int .i64 gp, .int .i64 y.gpo, .int .i64 y.gm, .int .i64 y.gmo, .string y.tx, .int .i64 y.kids] 36 (0, 0)) := by rw [e9]; exact heap_setCell_same _ R 9 _ 36 _ h8
 obtain ⟨w10, e10⟩ : ∃ W, W = w9.setCell ⟨R, 10, none⟩ (.int .i64 gpo) := ⟨_, rfl⟩
 have h10 : w10.heap[R]? = some (.cells #[.int .i64 k, .int .i64 wd, .int .i64 ht, .int .i64 dp, .int .i64 sh, .int .i64 fo, .int .i64 ch, .int .i64 nn, .int .i64 gs, .int .i64 gp, .int .i64 gpo, .int .i64 y.gm, .int .i64 y.gmo, .string y.tx, .int .i64 y.kids] 36 (0, 0)) := by rw [e10]; exact heap_setCell_same _ R 10 _ 36 _ h9
 obtain ⟨w11, e11⟩ : ∃ W, W = w10.setCell ⟨R, 11, none⟩ (.int .i64 gm) := ⟨_, rfl⟩
 have h11 : w11.heap[R]? = some (.cells #[.int .i64 k, .int .i64 wd, .int .i64 ht, .int .i64 dp, .int .i64 sh, .int .i64 fo, .int .i64 ch, .int .i64 nn, .int .i64 gs, .int .i64 gp, .int .i64 gpo, .int .i64 gm, .int .i64 y.gmo, .string y.tx, .int .i64 y.kids] 36 (0, 0)) := by rw [e11]; exact heap_setCell_same _ R 11 _ 36 _ h10
 obtain ⟨w12, e12⟩ : ∃ W, W = w11.setCell ⟨R, 12, none⟩ (.int .i64 gmo) := ⟨_, rfl⟩
 have h12 : w12.heap[R]? = some (.cells #[.int .i64 k, .int .i64 wd, .int .i64 ht, .int .i64 dp, .int .i64 sh, .int .i64 fo, .int .i64 ch, .int .i64 nn, .int .i64 gs, .int .i64 gp, .int .i64 gpo, .int .i64 gm, .int .i64 gmo, .string y.tx, .int .i64 y.kids] 36 (0, 0)) := by rw [e12]; exact heap_setCell_same _ R 12 _ 36 _ h11
 obtain ⟨w13, e13⟩ : ∃ W, W = w12.setCell ⟨R, 13, none⟩ (.string tx) := ⟨_, rfl⟩
 have h13 : w13.heap[R]? = some (.cells #[.int .i64 k, .int .i64 wd, .int .i64 ht, .int .i64 dp, .int .i64 sh, .int .i64 fo, .int .i64 ch, .int .i64 nn, .int .i64 gs, .int .i64 gp, .int .i64 gpo, .int .i64 gm, .int .i64 gmo, .string tx, .int .i64 y.kids] 36 (0, 0)) := by rw [e13]; exact heap_setCell_same _ R 13 _ 36 _ h12
 obtain ⟨w14, e14⟩ : ∃ W, W = w13.setCell ⟨R, 14, none⟩ (.int .i64 kids) := ⟨_, rfl⟩
 have h14 : w14.heap[R]? = some (.cells #[.int .i64 k, .int .i64 wd, .int .i64 ht, .int .i64 dp, .int .i64 sh, .int .i64 fo, .int .i64 ch, .int .i64 nn, .int .i64 gs, .int .i64 gp, .int .i64 gpo, .int .i64 gm, .int .i64 gmo, .string tx, .int .i64 kids] 36 (0, 0)) := by rw [e14]; exact heap_setCell_same _ R 14 _ 36 _ h13
 have e : fif w R k wd ht dp sh fo ch nn gs gp gpo gm gmo tx kids = w14 := by rw [e14, e13, e12, e11, e10, e9, e8, e7, e6, e5, e4, e3, e2, e1, e0]
 rw [e]
 exact h14
theorem fif_below {B : Nat} {w W : World} {R : Nat} (h : Below B w W) (hR : B ≤ R) (k wd ht dp sh fo ch nn gs gp gpo gm gmo : Int) (tx : ByteArray) (kids : Int) : Below B w (fif W R k wd ht dp sh fo ch nn gs gp gpo gm gmo tx kids) := by
 repeat (first | with_reducible exact h | (with_reducible refine Below.setCell ?_ ?_ _; rotate_left; focus exact hR))
theorem loadNd {w : World} {R : Nat} {x : Nd} (h : w.heap[R]? = some (ndO x)) : (loadVar 36 ⟨R, 0, none⟩).run Tryz.prog w = .ok (ndV x) w :=
 run_loadVar_row _ _ 36 36 _ (0, 0) _ h Tryz.underlying36 rfl (by kernel_rfl)
theorem nd_cells {W : World} {R : Nat} {x : Nd} (h : W.heap[R]? = some (ndO x)) : W.cell? ⟨R, 0, none⟩ = some (.int .i64 x.k) ∧ W.cell? ⟨R, 1, none⟩ = some (.int .i64 x.wd) ∧ W.cell? ⟨R, 2, none⟩ = some (.int .i64 x.ht) ∧ W.cell? ⟨R, 3, none⟩ = some (.int .i64 x.dp) ∧ W.cell? ⟨R, 4, none⟩ = some (.int .i64 x.sh) ∧ W.cell? ⟨R, 5, none⟩ = some (.int .i64 x.fo) ∧ W.cell? ⟨R, 6, none⟩ = some (.int .i64 x.ch) ∧ W.cell? ⟨R, 7, none⟩ = some (.int .i64 x.nn) ∧ W.cell? ⟨R, 8, none⟩ = some (.int .i64 x.gs) ∧ W.cell? ⟨R, 9, none⟩ = some (.int .i64 x.gp) ∧ W.cell? ⟨R, 10, none⟩ = some (.int .i64 x.gpo) ∧ W.cell? ⟨R, 11, none⟩ = some (.int .i64 x.gm) ∧ W.cell? ⟨R, 12, none⟩ = some (.int .i64 x.gmo) ∧ W.cell? ⟨R, 13, none⟩ = some (.string x.tx) ∧ W.cell? ⟨R, 14, none⟩ = some (.int .i64 x.kids) :=
 ⟨cell_of_row W R 0 _ 36 _ h, cell_of_row W R 1 _ 36 _ h, cell_of_row W R 2 _ 36 _ h, cell_of_row W R 3 _ 36 _ h, cell_of_row W R 4 _ 36 _ h, cell_of_row W R 5 _ 36 _ h, cell_of_row W R 6 _ 36 _ h, cell_of_row W R 7 _ 36 _ h, cell_of_row W R 8 _ 36 _ h, cell_of_row W R 9 _ 36 _ h, cell_of_row W R 10 _ 36 _ h, cell_of_row W R 11 _ 36 _ h, cell_of_row W R 12 _ 36 _ h, cell_of_row W R 13 _ 36 _ h, cell_of_row W R 14 _ 36 _ h⟩
set_option maxRecDepth 20000 in
set_option maxHeartbeats 4000000 in
theorem around_any {w : World} {R : Nat} {wd h d len : Int} {g p : Value} (length : Int) (kids : Nat) (B : Bun w R 6 wd h d len g p) :
 Calls Tryz.prog 84 #[.pointer (some ⟨R, 0, none⟩), .int .i64 length, .int .i64 (kids : Int)] w fun e w' => e = .returned (ndV (boxN 6 length h d kids)) ∧ Below w.heap.size w w' := by
 obtain ⟨b0, b1, b2, b3, b4, b5, b6, b7, b8⟩ := B.cells
 have hR := B.lt
 go_enter Tryz.func84, Tryz.ntmps84
 go_wp2_with fail
 refine (node_box 6 length h d 0 kids _).mono ?_
 rintro e w1 ⟨rfl, hb1⟩
 have hbx : w1.heap[w.heap.size]? = some (ndO Nd.none) := by
  refine (hb1.block _ (by simp; omega)).trans ?_
  exact (Below.heap_alloc _ _ _ (by simp)).trans (heap_alloc_new w _)
 have HBB : Hid (Below w.heap.size w w1) := hideP (below_more (below2 w _ _) hb1 (by simp; omega))
 have HF : Hid ((fif w1 w.heap.size 6 length h d 0 0 0 0 0 0 0 0 0 ⟨#[]⟩ (kids : Int)).heap[w.heap.size]? = some (ndO ⟨6, length, h, d, 0, 0, 0, 0, 0, 0, 0, 0, 0, ⟨#[]⟩, (kids : Int)⟩) ∧ Below w.heap.size w (fif w1 w.heap.size 6 length h d 0 0 0 0 0 0 0 0 0 ⟨#[]⟩ (kids : Int))) := hideP ⟨fif_heap hbx _ _ _ _ _ _ _ _ _ _ _ _ _ _ _, fif_below HBB.out (Nat.le_refl _) _ _ _ _ _ _ _ _ _ _ _ _ _ _ _⟩
 obtain ⟨c0, c1, c2, c3, c4, c5, c6, c7, c8, c9, c10, c11, c12, c13, c14⟩ := nd_cells hbx
 have fR : ∀ j, w1.frozen? ⟨w.heap.size, j, none⟩ = false := fun j => frozen_of_row w1 w.heap.size j _ _ hbx
 clear hb1 hbx b0 b1 b2 b3 b4 b5 b6 b7 b8
 go_wp2
 exact bodyPost_ret (v := ndV ⟨6, length, h, d, 0, 0, 0, 0, 0, 0, 0, 0, 0, ⟨#[]⟩, (kids : Int)⟩) (results_one_cell rfl _ _ w.heap.size _ rfl (loadNd HF.out.1)) rfl ⟨rfl, HF.out.2⟩
end Go.Proofs.YtojoehdmjkgnnaaGreat
