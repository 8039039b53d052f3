import Derived.Test.YtlohbaoigfaneaaGreatIts
import Derived.Test.YtlohbaoigfaneaaGreatItb
import Derived.LoopIn
import Derived.LoopNIn
import Derived.Maps.AppendAt
import Derived.OwnWalkIn
import Derived.RangeFuncBound
import Derived.RangeFuncCalls
import Derived.RangeFuncLeaves
import Derived.RangeFuncNested
import Derived.Shelf.Abstract
import Derived.Shelf.RegionOpen
import Derived.TacticsInMore
import Derived.WalkKit
namespace Go.Proofs.YtlohbaoigfaneaaGreat
open Go.RowKit Go.Shelf
set_option linter.unusedVariables false
set_option linter.unusedSimpArgs false
structure AllOk3 (xs : List Nd) : Prop where
 len : xs.length ≤ 20003
 kids : ∀ i, i < xs.length → 0 ≤ (xs.getD i Nd.none).kids ∧ (i : Int) + 1 + (xs.getD i Nd.none).kids ≤ xs.length
 text : ∀ i, i < xs.length → (xs.getD i Nd.none).tx.size ≤ 1000
theorem AllOk3.weak {xs : List Nd} (h : AllOk3 xs) : ∀ i, i < xs.length → 0 ≤ (xs.getD i Nd.none).kids ∧ (xs.getD i Nd.none).kids ≤ 20003 := fun i hi => by
 have h1 := h.kids i hi
 have h2 := h.len
 omega
set_option maxRecDepth 100000 in
set_option maxHeartbeats 4000000 in
theorem each1_3 (n l : Nat) (hn : 1 ≤ n) (xs : List Nd) (ao : Option Addr) (Bs b off cap : Nat) (hlen : xs.length ≤ 20003) (hkids : ∀ i, i < xs.length → 0 ≤ (xs.getD i Nd.none).kids ∧ (xs.getD i Nd.none).kids ≤ 20003) (J Jx : List (Item xs) → World → Prop) (W : World) (hJ : AbidesFrom W.heap.size J) (hS : Src xs ao Bs b off cap W)
 (hY : ∀ pre x W1, J pre W1 → pre.length < xs.length + 1 → YieldAt Fence.wide (n - 1) Tryz.prog l (Item.encs x) W1 fun e W' =>
  (e = .returned (.bool true) ∧ J (pre ++ [x]) W' ∧ (Src xs ao Bs b off cap W1 → Src xs ao Bs b off cap W')) ∨ (e = .returned (.bool false) ∧ Jx (pre ++ [x]) W')) (h0 : J [] W) :
 CallsIn Fence.wide n Tryz.prog 108 #[.func (.yield l) #[] #[], .pointer (some ⟨Bs, 0, none⟩)] W fun e W' => (∃ v, e = .returned v) ∧
  ((∃ ys : List (Item xs), ys.map (·.1.1) = starts xs (xs.length + 1) 0 ∧ J ys W') ∨ (∃ pre, True ∧ Jx pre W')) := by
 refine callsIn_of_wp Tryz.func108 rfl trivial ?_ rfl
 simp only [Tryz.ntmps108, List.size_toArray, List.length_cons, List.length_nil, Nat.reduceAdd, Nat.reduceSub, Array.replicate_succ, Array.replicate_zero, List.push_toArray, List.append_toArray, List.nil_append, List.cons_append]
 gi_wp2
 gi_loopw [3] (fun a wr => ∃ (i f : Nat) (pre : List (Item xs)), a = .int .i64 (i : Int) ∧ i ≤ 40010 ∧ xs.length < i + f ∧ Hid (pre.map (·.1.1) ++ starts xs f i = starts xs (xs.length + 1) 0) ∧ pre.length ≤ i ∧ J pre wr ∧ Hid (Src xs ao Bs b off cap wr)) (fun a _ => xs.length - (intOf a).toNat)
 case atStart => exact ⟨0, xs.length + 1, [], rfl, by omega, by omega, rfl, by simp, h0, hS⟩
 case round =>
  obtain ⟨i, f, pre, rfl, hi, hf, HP, hpl, hJs, HS⟩ := hrel
  have hbox := HS.out.box
  by_cases hil : i < xs.length
  ·have hii : (i : Int) < (xs.length : Int) := by omega
   obtain rfl := HS.out.some_ (by omega)
   obtain ⟨y, hy, hyc⟩ := HS.out.at_ i hil
   have TC : Hid (∀ w : World, Calls Tryz.prog 107 #[ndV y] w fun r w' => (∃ v, r = .returned v ∧ ThingQ y v) ∧ Below w.heap.size w w') := hideP (fun w => thing_q y w)
   have HY := hideP hy
   have hkk := hkids i hil
   rw [← hy.2] at hkk
   obtain ⟨y0, hy0⟩ : ∃ y0, y0 = y := ⟨_, rfl⟩
   rw [← hy0] at HY
   have HY0 := hideP hy0
   obtain ⟨kd, wd, hh, dp, sh, fo, ch, nn, gs, gp, gpo, gm, gmo, tx, kids⟩ := y
   simp only [Nd.cells] at hyc
   have c0 : wr.cell? ⟨b, off + i * 15, none⟩ = some (.int .i64 kd) := hyc 0 (by omega)
   have c1 : wr.cell? ⟨b, off + i * 15 + 1, none⟩ = some (.int .i64 wd) := hyc 1 (by omega)
   have c2 : wr.cell? ⟨b, off + i * 15 + 2, none⟩ = some (.int .i64 hh) := hyc 2 (by omega)
   have c3 : wr.cell? ⟨b, off + i * 15 + 3, none⟩ = some (.int .i64 dp) := hyc 3 (by omega)
   have c4 : wr.cell? ⟨b, off + i * 15 + 4, none⟩ = some (.int .i64 sh) := hyc 4 (by omega)
   have c5 : wr.cell? ⟨b, off + i * 15 + 5, none⟩ = some (.int .i64 fo) := hyc 5 (by omega)
   have c6 : wr.cell? ⟨b, off + i * 15 + 6, none⟩ = some (.int .i64 ch) := hyc 6 (by omega)
   have c7 : wr.cell? ⟨b, off + i * 15 + 7, none⟩ = some (.int .i64 nn) := hyc 7 (by omega)
   have c8 : wr.cell? ⟨b, off + i * 15 + 8, none⟩ = some (.int .i64 gs) := hyc 8 (by omega)
   have c9 : wr.cell? ⟨b, off + i * 15 + 9, none⟩ = some (.int .i64 gp) := hyc 9 (by omega)
   have c10 : wr.cell? ⟨b, off + i * 15 + 10, none⟩ = some (.int .i64 gpo) := hyc 10 (by omega)
   have c11 : wr.cell? ⟨b, off + i * 15 + 11, none⟩ = some (.int .i64 gm) := hyc 11 (by omega)
   have c12 : wr.cell? ⟨b, off + i * 15 + 12, none⟩ = some (.int .i64 gmo) := hyc 12 (by omega)
   have c13 : wr.cell? ⟨b, off + i * 15 + 13, none⟩ = some (.string tx) := hyc 13 (by omega)
   have c14 : wr.cell? ⟨b, off + i * 15 + 14, none⟩ = some (.int .i64 kids) := hyc 14 (by omega)
   have HJ := hideP hJs
   dsimp only at hkk
   obtain ⟨hk0, hk1⟩ := hkk
   obtain ⟨f, rfl⟩ : ∃ q, f = q + 1 := ⟨f - 1, by omega⟩
   have HST : Hid (pre.map (·.1.1) ++ i :: starts xs f (i + 1 + kids.toNat) = starts xs (xs.length + 1) 0) := hideP (by
    have h := HP.out
    rw [show starts xs (f + 1) i = i :: starts xs f (i + 1 + (xs.getD i Nd.none).kids.toNat) by simp only [starts]; rw [if_pos hil]] at h
    rw [← HY.out.2, HY0.out] at h
    exact h)
   clear hyc hJs hy hy0
   gi_wp2_with fail
   refine ⟨trivial, CallsIn.mono (callsIn_wide.2 (TC.out wr)) ?_⟩
   rintro e w1 ⟨⟨v, rfl, hth⟩, hb1⟩
   have hJ1 : J pre w1 := hJ pre wr w1 none HJ.out ⟨hb1.os, hb1.tape, hb1.output, hb1.size, fun k hk _ => hb1.block k hk⟩ (fun r e => by cases e)
   have HS1 := hideP (HS.out.grown hb1)
   rw [← HY0.out] at hth
   obtain ⟨x, hx⟩ : ∃ x : Item xs, x = ⟨(i, v), hil, y0, HY.out, hth⟩ := ⟨_, rfl⟩
   obtain ⟨fn, tmps, assign, body, hyl, hR⟩ := hY pre x w1 hJ1 (by omega)
   have HX : Hid (x.1.1 = i) := hideP (by rw [hx])
   rw [show Item.encs x = #[.int .i64 (i : Int), v] by rw [hx]; rfl] at hyl
   clear hb1 hJ1 hth hbox hx c0 c1 c2 c3 c4 c5 c6 c7 c8 c9 c10 c11 c12 c13 c14
   have HRR := hideP hR
   clear hR
   gi_wp2_with fail
   refine HRR.out.mono ?_
   rintro e W3 (⟨rfl, hJ3, hk3⟩ | ⟨rfl, hJx3⟩)
   ·have HS3 := hideP (hk3 HS1.out)
    have hbox3 := HS3.out.box
    obtain ⟨y3, hy3, hc3⟩ := HS3.out.at_ i hil
    have c14 : W3.cell? ⟨b, off + i * 15 + 14, none⟩ = some (.int .i64 kids) := by
     rw [hc3 14 (by omega), show y3.cells[14]? = some (.int .i64 y3.kids) from rfl, hy3.2, ← HY.out.2, HY0.out]
    have HJ3 := hideP hJ3
    clear hJ3 hk3 hc3 hy3
    gi_wp2_with fail
    go_roundw
    case rel =>
     refine ⟨i + 1 + kids.toNat, f, pre ++ [x], congrArg _ (by omega), by omega, by omega, hideP ?_, by simp; omega, HJ3.out, HS3⟩
     rw [List.map_append, List.append_assoc, List.map_singleton, HX.out]
     exact HST.out
    case measure => simp [intOf]; omega
   ·gi_wp2
    refine bodyPost_ret (results_none rfl _ _ _) rfl ?_
    exact ⟨⟨_, rfl⟩, .inr ⟨pre ++ [x], trivial, hJx3⟩⟩
  ·have hii : ¬ (i : Int) < (xs.length : Int) := by omega
   have HE : Hid (pre.map (·.1.1) = starts xs (xs.length + 1) 0) := hideP (by
    have h := HP.out
    cases f with
    | zero => simpa [starts] using h
    | succ f =>
     rw [show starts xs (f + 1) i = [] by simp only [starts]; rw [if_neg hil]] at h
     simpa using h)
   gi_wp2
   go_end0
   exact ⟨⟨_, rfl⟩, .inl ⟨pre, HE.out, hJs⟩⟩
theorem each_stops3 (n : Nat) (hn : 1 ≤ n) (xs : List Nd) (ao : Option Addr) (Bs b off cap : Nat) (hlen : xs.length ≤ 20003) (hkids : ∀ i, i < xs.length → 0 ≤ (xs.getD i Nd.none).kids ∧ (xs.getD i Nd.none).kids ≤ 20003) (w : World) (hS : Src xs ao Bs b off cap w) :
 SeqStopsK Fence.wide n Tryz.prog 108 #[.pointer (some ⟨Bs, 0, none⟩)] (Item.encs (xs := xs)) (fun A B => Src xs ao Bs b off cap A → Src xs ao Bs b off cap B) (fun ys => ys.map (·.1.1) = starts xs (xs.length + 1) 0) (fun _ => True) (xs.length + 1) w := fun l J Jx W hW hJ _ hY h0 => by
 refine (each1_3 n l hn xs ao Bs b off cap hlen hkids J Jx W hJ (hS.grown hW) hY h0).mono ?_
 rintro e W' ⟨he, ⟨ys, hys, hj⟩ | ⟨pre, _, hj⟩⟩
 ·exact ⟨he, .inl ⟨ys, hys, hj⟩⟩
 ·exact ⟨he, .inr ⟨pre, trivial, hj⟩⟩
set_option maxRecDepth 100000 in
set_option maxHeartbeats 8000000 in
theorem itemsOf3_in {v : Value} {xs : List Nd} {w : World} (h : NRow 0 w v xs) (hcp : ∀ a n c, v = .slice a n c → n ≤ c ∧ c ≤ 9223372036854775807) (AOK0 : AllOk3 xs) :
 CallsIn Fence.wide 5 Tryz.prog 89 #[v] w fun e W' => (∃ u, e = .returned u ∧ W'.ownsRow w.heap.size 186 3 u (its xs).length (flatI (its xs))) ∧ Below w.heap.size w W' := by
 have AOK := hideP AOK0
 obtain ⟨ao, n, cap, rfl, hl, hr⟩ := h
 have hcap := hcp _ _ _ rfl
 obtain ⟨hcap1, hcap2⟩ := hcap
 have hnm : n ≤ 20003 := by rw [← hl]; exact AOK0.len
 have HL := hideP hl
 obtain ⟨b, off, hbo⟩ : ∃ b off, 0 < n → ao = some ⟨b, off, none⟩ ∧ b < w.heap.size ∧ ∀ j u, (flatN xs)[j]? = some u → w.cell? ⟨b, off + j, none⟩ = some u := by
  by_cases hn0 : 0 < n
  ·obtain ⟨b, off, e, _, hb, hc⟩ := hr hn0
   exact ⟨b, off, fun _ => ⟨e, hb, row_cells (fun i hi => hc i (by rw [← hl]; exact hi))⟩⟩
  ·exact ⟨0, 0, fun h => absurd h hn0⟩
 have HBO := hideP hbo
 clear hr hl hcp hbo AOK0
 refine callsIn_of_wp_marks Tryz.func89 rfl trivial ?_ rfl
 simp only [Tryz.ntmps89, List.size_toArray, List.length_cons, List.length_nil, Nat.reduceAdd, Nat.reduceSub, Array.replicate_succ, Array.replicate_zero, List.push_toArray, List.append_toArray, List.nil_append, List.cons_append]
 gi_wp2_with fail
 refine ⟨trivial, CallsIn.mono (callsIn_wide.2 (eachItem_any ao n cap _)) ?_⟩
 rintro e w2 ⟨rfl, rfl⟩
 gi_wp2_with fail
 have B1 : Below w.heap.size w (((w.alloc (.cells #[.slice ao n cap] 31)).alloc (.cells #[] 186)).alloc (.cells #[.slice (some ⟨w.heap.size + 1, 0, none⟩) 0 0] 86)) := below3 _ _ _ _
 have q0 : Boxed (((w.alloc (.cells #[.slice ao n cap] 31)).alloc (.cells #[] 186)).alloc (.cells #[.slice (some ⟨w.heap.size + 1, 0, none⟩) 0 0] 86)) w.heap.size 31 (.slice ao n cap) := ((Boxed.new w 31 (.slice ao n cap)).alloc _).alloc _
 have q2 : Boxed (((w.alloc (.cells #[.slice ao n cap] 31)).alloc (.cells #[] 186)).alloc (.cells #[.slice (some ⟨w.heap.size + 1, 0, none⟩) 0 0] 86)) (w.heap.size + 1 + 1) 86 (.slice (some ⟨w.heap.size + 1, 0, none⟩) 0 0) := by
  have h := Boxed.new ((w.alloc (.cells #[.slice ao n cap] 31)).alloc (.cells #[] 186)) 86 (.slice (some ⟨w.heap.size + 1, 0, none⟩) 0 0)
  rw [World.size_alloc, World.size_alloc] at h
  exact h
 have q1 : (((w.alloc (.cells #[.slice ao n cap] 31)).alloc (.cells #[] 186)).alloc (.cells #[.slice (some ⟨w.heap.size + 1, 0, none⟩) 0 0] 86)).heap[w.heap.size + 1]? = some (.cells #[] 186) := by
  have h := World.alloc_heap_new (w.alloc (.cells #[.slice ao n cap] 31)) (.cells #[] 186)
  rw [World.size_alloc] at h
  exact ((below1 _ _).block _ (by simp)).trans h
 have hO1 : (((w.alloc (.cells #[.slice ao n cap] 31)).alloc (.cells #[] 186)).alloc (.cells #[.slice (some ⟨w.heap.size + 1, 0, none⟩) 0 0] 86)).ownsRow w.heap.size 186 3 (.slice (some ⟨w.heap.size + 1, 0, none⟩) 0 0) 0 [] := ⟨rfl, .inr ⟨_, _, _, rfl, by omega, q1, by omega, by unfold maxLen; omega, rfl, rfl⟩⟩
 have hw1s : (((w.alloc (.cells #[.slice ao n cap] 31)).alloc (.cells #[] 186)).alloc (.cells #[.slice (some ⟨w.heap.size + 1, 0, none⟩) 0 0] 86)).heap.size = w.heap.size + 3 := by simp
 obtain ⟨w1, hw1⟩ : ∃ w1, (((w.alloc (.cells #[.slice ao n cap] 31)).alloc (.cells #[] 186)).alloc (.cells #[.slice (some ⟨w.heap.size + 1, 0, none⟩) 0 0] 86)) = w1 := ⟨_, rfl⟩
 rw [hw1] at B1 q0 q2 hO1 hw1s ⊢
 have hbs3 : w.heap.size + 1 + 1 + 1 = w1.heap.size := by omega
 try rw [hbs3]
 clear q1 hw1
 have bS : (w1.alloc (.cells #[.slice ao n cap] 31)).cell? ⟨w1.heap.size, 0, none⟩ = some (.slice ao n cap) := by simp [go_sem]
 have hB0 : Below w.heap.size w (w1.alloc (.cells #[.slice ao n cap] 31)) := B1.alloc B1.size _
 have hOW := hO1.alloc (.cells #[.slice ao n cap] 31)
 have hI0 := q0.alloc (.cells #[.slice ao n cap] 31)
 have hI2 := q2.alloc (.cells #[.slice ao n cap] 31)
 have hws : w.heap.size + 1 + 1 < w1.heap.size := by omega
 clear hbs3 hw1s
 obtain ⟨Bs, hBs⟩ : ∃ B, B = w1.heap.size := ⟨_, rfl⟩
 obtain ⟨W0, hW0⟩ : ∃ W0, w1.alloc (.cells #[.slice ao n cap] 31) = W0 := ⟨_, rfl⟩
 have hsz : W0.heap.size = Bs + 1 := by rw [← hW0, hBs]; simp
 rw [hW0] at hB0 hOW hI0 hI2 bS ⊢
 rw [← hBs] at bS hws ⊢
 clear hW0 q0 q2 hO1
 have HSR : Hid (Src xs ao Bs b off cap W0) := hideP (by
  refine ⟨by rw [HL.out]; exact bS, fun h => (HBO.out (by rw [← HL.out]; exact h)).1, fun i hi => ⟨xs.getD i Nd.none, ⟨rfl, rfl⟩, fun j hj => ?_⟩⟩
  obtain ⟨_, hbw, hcell⟩ := HBO.out (by rw [← HL.out]; omega)
  have h1 := flatN_get xs i hi j hj
  rw [List.getElem?_eq_getElem (show j < (xs.getD i Nd.none).cells.length from hj)] at h1 ⊢
  have h2 := hcell _ _ h1
  rw [show off + i * 15 + j = off + (i * 15 + j) by omega]
  exact (hB0.cell (p := ⟨b, off + (i * 15 + j), none⟩) hbw).trans h2)
 have hys2 : xs.length ≤ 20003 ∧ ∀ i, i < xs.length → 0 ≤ (xs.getD i Nd.none).kids ∧ (xs.getD i Nd.none).kids ≤ 20003 := ⟨AOK.out.len, AOK.out.weak⟩
 refine wpIn_rangeFunc_ownF (F := Fence.wide) (n := 5) rfl (by omega) (gf := 108) (lb := #[.pointer (some ⟨Bs, 0, none⟩)]) rfl trivial (enters_of Tryz.func108 (by kernel_rfl) rfl)
  (each_stops3 4 (by omega) xs ao Bs b off cap hys2.1 hys2.2 W0 HSR.out) (fun h1 h2 h => h2 (h1 h)) ?keepb (Below.refl _ _) (fun _ => rfl)
  (fun pre W => (Boxed W w.heap.size 31 (.slice ao n cap) ∧ ∃ u, Boxed W (w.heap.size + 1 + 1) 86 u ∧ W.ownsRow w.heap.size 186 3 u pre.length (flatI (pre.map (fun x => itAt xs x.1.1))) ∧ (∀ g, u.ownBlock = some g → g ≠ w.heap.size ∧ g ≠ Bs) ∧ Bs < W.heap.size) ∧ Below w.heap.size w W)
  (fun _ _ _ => False) ?ownI (fun _ _ _ _ _ hs _ _ => hs) ?start ?a1z ?assign ?body ?done ?stop
 case assign =>
  intro l x W K hK
  simp [Item.encs]
  gi_wp2
  exact hK
 case start =>
  refine ⟨⟨hI0, _, hI2, hOW, ?_, by omega⟩, hB0⟩
  intro g hg
  simp [Value.ownBlock] at hg
  omega
 case keepb =>
  intro W l o o' hl hlo hoc _ hsrc
  exact hsrc.kept (grownBy_putObj' W l o') (fun r e => by cases e; exact ⟨o, hlo, hoc⟩)
 case ownI =>
  refine OwnFrom.and (Own.from ?_ _) (ownFrom_below (Nat.le_refl _) (by omega))
  rintro s A B row ⟨h1, u, h2, h3, h5, h6⟩ hg hr
  exact ⟨boxed_kept h1 hg hr, u, boxed_kept h2 hg hr, ownG_kept h3 hg hr, h5, Nat.lt_of_lt_of_le h6 hg.size⟩
 case stop =>
  rintro D c pre W _ _ h _
  exact h.elim
 case done =>
  rintro D its' W hD hst ⟨⟨h1, u, h2, h3, h5, _⟩, hB⟩ hK
  have hc2 := h2.cell
  have HF : Hid (its'.length = (its xs).length ∧ its'.map (fun x => itAt xs x.1.1) = its xs) := hideP (by
   have e : its'.map (fun x => itAt xs x.1.1) = its xs := by
    unfold its
    rw [← hst, List.map_map]
    rfl
   exact ⟨by rw [← e, List.length_map], e⟩)
  have H3 := hideP h3
  have HBB := hideP hB
  clear h3 hB
  gi_wp2
  refine ⟨by simp, .inl ⟨_, _, rfl, run_takeDeferred hK, ?_⟩⟩
  refine ⟨_, results_tmp rfl _ _ _, ⟨u, rfl, ?_⟩, HBB.out.trans (belowK_b (w := w) (Nat.le_refl _) W D _ _ (by omega) hK rfl rfl)⟩
  rw [← HF.out.1, ← HF.out.2]
  exact ownsRow_putObj H3.out (.deferred none) hK rfl
 case body =>
  rintro l pre x W ⟨⟨hbx, u, hbu, how, hne, hbsW⟩, hB⟩ hpl
  have hat := x.2.1
  obtain ⟨y, hy, hyq⟩ := x.2.2
  have hvt : x.1.2 = thV (xs.getD x.1.1 Nd.none) := by rw [hyq.2.2, hy.1]
  obtain ⟨at_, ha⟩ : ∃ a, x.1.1 = a := ⟨_, rfl⟩
  obtain ⟨vt, hv⟩ : ∃ v, x.1.2 = v := ⟨_, rfl⟩
  rw [hv, ha] at hvt
  rw [ha] at hat
  rw [ha, hv]
  have HA : Hid ((pre ++ [x]).map (fun x => itAt xs x.1.1) = pre.map (fun x => itAt xs x.1.1) ++ [itAt xs at_]) := hideP (by rw [List.map_append, List.map_singleton, ha])
  clear ha hv hy hyq
  have hatn : at_ < n := by rw [← HL.out]; exact hat
  obtain ⟨rfl, hbw, hcell⟩ := HBO.out (by omega)
  have hkk := AOK.out.kids at_ hat
  have hn20 : n ≤ 20003 := by rw [← HL.out]; exact AOK.out.len
  rw [HL.out] at hkk
  obtain ⟨kids, hkd⟩ : ∃ z, z = (xs.getD at_ Nd.none).kids := ⟨_, rfl⟩
  rw [← hkd] at hkk
  obtain ⟨kn, rfl⟩ : ∃ kn : Nat, kids = (kn : Int) := ⟨kids.toNat, by omega⟩
  have hsum : at_ + 1 + kn ≤ n := by omega
  have HIT : Hid (itAt xs at_ = (xs.getD at_ Nd.none, (at_ : Int), (at_ : Int) + 1 + (kn : Int)) ∧ vt = thV (xs.getD at_ Nd.none)) := hideP ⟨by unfold itAt; rw [← hkd], hvt⟩
  have g14 : W.cell? ⟨b, off + at_ * 15 + 14, none⟩ = some (.int .i64 (kn : Int)) := by
   have h1 := flatN_at xs at_ hat 14 (by omega) (u := .int .i64 (xs.getD at_ Nd.none).kids) rfl
   rw [← hkd] at h1
   have h2 := hcell _ _ h1
   rw [show off + at_ * 15 + 14 = off + (at_ * 15 + 14) by omega]
   exact (hB.cell (p := ⟨b, off + (at_ * 15 + 14), none⟩) hbw).trans h2
  obtain ⟨ua, uc, rfl⟩ := ownG_shape how
  have hbxc := hbx.cell
  have hbuc := hbu.cell
  have hbuf := hbu.frozen
  have hpn : pre.length ≤ 20004 := by have := HL.out; omega
  have HRO : Hid (Boxed W w.heap.size 31 (.slice (some ⟨b, off, none⟩) n cap) ∧ Boxed W (w.heap.size + 1 + 1) 86 (.slice ua pre.length uc) ∧ W.ownsRow w.heap.size 186 3 (.slice ua pre.length uc) pre.length (flatI (pre.map (fun x => itAt xs x.1.1))) ∧ (∀ g, (Value.slice ua pre.length uc).ownBlock = some g → g ≠ w.heap.size ∧ g ≠ Bs) ∧ Bs < W.heap.size ∧ Below w.heap.size w W) := hideP ⟨hbx, hbu, how, hne, hbsW, hB⟩
  have hone : vt.oneCell' = true := by
   rw [hvt]
   rcases thV_shape (xs.getD at_ Nd.none) with h | ⟨X, q, h⟩ <;> rw [h] <;> rfl
  have hsh := thV_shape (xs.getD at_ Nd.none)
  rw [← hvt] at hsh
  clear hkk hkd hcell hbx hbu how hne hB hvt
  rcases hsh with rfl | ⟨X, q, rfl⟩
  ·gi_wp2_with fail
   refine region_heldR (S := fun X => X.cell? ⟨w.heap.size, 0, none⟩ = some (.slice (some ⟨b, off, none⟩) n cap) ∧ X.cell? ⟨b, off + at_ * 15 + 14, none⟩ = some (.int .i64 (kn : Int))) (by kernel_rfl) (plain_spec (by kernel_rfl)) (by rintro ⟨a, w, h⟩; exact h) ?_
   have hS : W.drew.cell? ⟨w.heap.size, 0, none⟩ = some (.slice (some ⟨b, off, none⟩) n cap) ∧ W.drew.cell? ⟨b, off + at_ * 15 + 14, none⟩ = some (.int .i64 (kn : Int)) := ⟨hbxc, g14⟩
   refine wpAnyH_take (i := 1) (v := .nilIface) rfl (by kernel_rfl) (by kernel_rfl) (by kernel_rfl) (fun _ _ _ h => h) (Or.inl ⟨by first | rfl | go_simp, fun wx hx => by obtain ⟨hx1, hx2⟩ := hx; go_simp⟩) hS ?_
   try simp only [Act.put, List.getElem_toArray, List.getElem_cons_zero, List.getElem_cons_succ, List.setIfInBounds_toArray, List.set_cons_zero, List.set_cons_succ]
   refine wpAnyH_take (i := 2) (v := .int .i64 (at_ : Int)) rfl (by kernel_rfl) (by kernel_rfl) (by kernel_rfl) (fun _ _ _ h => h) (Or.inl ⟨by first | rfl | go_simp, fun wx hx => by obtain ⟨hx1, hx2⟩ := hx; go_simp⟩) hS ?_
   try simp only [Act.put, List.getElem_toArray, List.getElem_cons_zero, List.getElem_cons_succ, List.setIfInBounds_toArray, List.set_cons_zero, List.set_cons_succ]
   refine wpAnyH_take (i := 3) (v := .int .i64 (at_ : Int)) rfl (by kernel_rfl) (by kernel_rfl) (by kernel_rfl) (fun _ _ _ h => h) (Or.inl ⟨by first | rfl | go_simp, fun wx hx => by obtain ⟨hx1, hx2⟩ := hx; go_simp⟩) hS ?_
   try simp only [Act.put, List.getElem_toArray, List.getElem_cons_zero, List.getElem_cons_succ, List.setIfInBounds_toArray, List.set_cons_zero, List.set_cons_succ]
   refine wpAnyH_take (i := 4) (v := .int .i64 ((at_ : Int) + 1)) rfl (by kernel_rfl) (by kernel_rfl) (by kernel_rfl) (fun _ _ _ h => h) (Or.inl ⟨by first | rfl | go_simp, fun wx hx => by obtain ⟨hx1, hx2⟩ := hx; go_simp; first | (go_num; done) | (go_bits; done) | (go_bits; trivial)⟩) hS ?_
   try simp only [Act.put, List.getElem_toArray, List.getElem_cons_zero, List.getElem_cons_succ, List.setIfInBounds_toArray, List.set_cons_zero, List.set_cons_succ]
   refine wpAnyH_take (i := 5) (v := .slice (some ⟨b, off, none⟩) n cap) rfl (by kernel_rfl) (by kernel_rfl) (by kernel_rfl) (fun _ _ _ h => h) (Or.inl ⟨by first | rfl | go_simp, fun wx hx => by obtain ⟨hx1, hx2⟩ := hx; go_simp⟩) hS ?_
   try simp only [Act.put, List.getElem_toArray, List.getElem_cons_zero, List.getElem_cons_succ, List.setIfInBounds_toArray, List.set_cons_zero, List.set_cons_succ]
   refine wpAnyH_take (i := 6) (v := .int .i64 (at_ : Int)) rfl (by kernel_rfl) (by kernel_rfl) (by kernel_rfl) (fun _ _ _ h => h) (Or.inl ⟨by first | rfl | go_simp, fun wx hx => by obtain ⟨hx1, hx2⟩ := hx; go_simp⟩) hS ?_
   try simp only [Act.put, List.getElem_toArray, List.getElem_cons_zero, List.getElem_cons_succ, List.setIfInBounds_toArray, List.set_cons_zero, List.set_cons_succ]
   refine wpAnyH_take (i := 7) (v := .pointer (some ⟨b, off + at_ * 15, none⟩)) rfl (by kernel_rfl) (by kernel_rfl) (by kernel_rfl) (fun _ _ _ h => h) (Or.inl ⟨by first | rfl | go_simp, fun wx hx => by obtain ⟨hx1, hx2⟩ := hx; go_simp⟩) hS ?_
   try simp only [Act.put, List.getElem_toArray, List.getElem_cons_zero, List.getElem_cons_succ, List.setIfInBounds_toArray, List.set_cons_zero, List.set_cons_succ]
   refine wpAnyH_take (i := 8) (v := .pointer (some ⟨b, off + at_ * 15 + 14, none⟩)) rfl (by kernel_rfl) (by kernel_rfl) (by kernel_rfl) (fun _ _ _ h => h) (Or.inl ⟨by first | rfl | go_simp, fun wx hx => by obtain ⟨hx1, hx2⟩ := hx; go_simp⟩) hS ?_
   try simp only [Act.put, List.getElem_toArray, List.getElem_cons_zero, List.getElem_cons_succ, List.setIfInBounds_toArray, List.set_cons_zero, List.set_cons_succ]
   refine wpAnyH_take (i := 9) (v := .int .i64 (kn : Int)) rfl (by kernel_rfl) (by kernel_rfl) (by kernel_rfl) (fun _ _ _ h => h) (Or.inl ⟨by first | rfl | go_simp, fun wx hx => by obtain ⟨hx1, hx2⟩ := hx; go_simp⟩) hS ?_
   try simp only [Act.put, List.getElem_toArray, List.getElem_cons_zero, List.getElem_cons_succ, List.setIfInBounds_toArray, List.set_cons_zero, List.set_cons_succ]
   refine wpAnyH_take (i := 10) (v := .int .i64 ((at_ : Int) + 1 + (kn : Int))) rfl (by kernel_rfl) (by kernel_rfl) (by kernel_rfl) (fun _ _ _ h => h) (Or.inl ⟨by first | rfl | go_simp, fun wx hx => by obtain ⟨hx1, hx2⟩ := hx; go_simp; first | (go_num; done) | (go_bits; done) | (go_bits; trivial)⟩) hS ?_
   try simp only [Act.put, List.getElem_toArray, List.getElem_cons_zero, List.getElem_cons_succ, List.setIfInBounds_toArray, List.set_cons_zero, List.set_cons_succ]
   refine wpAnyH_take (i := 11) (v := .agg #[.nilIface, .int .i64 (at_ : Int), .int .i64 ((at_ : Int) + 1 + (kn : Int))]) rfl (by kernel_rfl) (by kernel_rfl) (by kernel_rfl) (fun _ _ _ h => h) (Or.inl ⟨by first | rfl | go_simp, fun wx hx => by obtain ⟨hx1, hx2⟩ := hx; go_simp⟩) hS ?_
   try simp only [Act.put, List.getElem_toArray, List.getElem_cons_zero, List.getElem_cons_succ, List.setIfInBounds_toArray, List.set_cons_zero, List.set_cons_succ]
   obtain ⟨i0, hi0, hz0, hz1, hz2⟩ := info_parts Tryz.info141i
   have hwW : w.heap.size < W.heap.size := HRO.out.1.lt
   have hbW : b < W.heap.size := by omega
   have S4 : (W.alloc (.cells #[.nilIface, .int .i64 (at_ : Int), .int .i64 ((at_ : Int) + 1 + (kn : Int))] 186)).drew.cell? ⟨w.heap.size, 0, none⟩ = some (.slice (some ⟨b, off, none⟩) n cap) ∧ (W.alloc (.cells #[.nilIface, .int .i64 (at_ : Int), .int .i64 ((at_ : Int) + 1 + (kn : Int))] 186)).drew.cell? ⟨b, off + at_ * 15 + 14, none⟩ = some (.int .i64 (kn : Int)) := ⟨((below1 W _).cell (p := ⟨w.heap.size, 0, none⟩) hwW).trans hS.1, ((below1 W _).cell (p := ⟨b, off + at_ * 15 + 14, none⟩) hbW).trans hS.2⟩
   have U4 : Boxed (W.alloc (.cells #[.nilIface, .int .i64 (at_ : Int), .int .i64 ((at_ : Int) + 1 + (kn : Int))] 186)).drew (w.heap.size + 1 + 1) 86 (.slice ua pre.length uc) := Boxed.alloc HRO.out.2.1 _
   have hcu4 := U4.cell
   clear U4
   refine wpAnyH_ready (rs := [0, 12]) (by kernel_rfl) (by simp) ?_
   refine AllReadyH.cons rfl (fun K hK => ?_) (AllReadyH.cons rfl (fun K hK => ?_) AllReadyH.nil)
   ·rw [if_pos (by first | rfl | go_simp)]
    have hcu := hbuc
    go_simp
    refine hK.out _ _ hS (fun _ => ?_)
    try simp only [Act.put, List.getElem_toArray, List.getElem_cons_zero, List.getElem_cons_succ, List.setIfInBounds_toArray, List.set_cons_zero, List.set_cons_succ]
    clear hK K
    refine wpAnyH_ready (rs := [12]) (by kernel_rfl) (by simp) ?_
    refine AllReadyH.cons rfl (fun K hK => ?_) AllReadyH.nil
    rw [if_pos (by first | rfl | go_simp)]
    go_simp
    refine hK.out _ _ S4 (fun _ => ?_)
    try simp only [Act.put, List.getElem_toArray, List.getElem_cons_zero, List.getElem_cons_succ, List.setIfInBounds_toArray, List.set_cons_zero, List.set_cons_succ]
    clear hK K
    refine wpAnyH_ready (rs := [13]) (by kernel_rfl) (by simp) ?_
    refine AllReadyH.cons rfl (fun K hK => ?_) AllReadyH.nil
    rw [if_pos (by first | rfl | go_simp)]
    refine wp_append_at _ _ 86 rfl w.heap.size 186 i0 (.agg #[.nilIface, .int .i64 0, .int .i64 0]) 3 32 Tryz.underlying86 hi0 hz0 hz1 hz2 rfl (by decide) (.slice ua pre.length uc) pre.length _ rfl (show ((W.alloc (.cells #[.nilIface, .int .i64 (at_ : Int), .int .i64 ((at_ : Int) + 1 + (kn : Int))] 186)).drew).ownsRow _ _ _ _ _ _ from World.ownsRow.alloc HRO.out.2.2.1 _) ⟨W.heap.size, 0, none⟩ 1 1 [.nilIface, .int .i64 (at_ : Int), .int .i64 ((at_ : Int) + 1 + (kn : Int))] rfl rfl (fun j u hj => cell_three_new W _ _ _ _ j u hj) (by intro z hz; simp at hz; rcases hz with rfl | rfl | rfl; exact hone; rfl; rfl) (by unfold maxLen; omega) (by omega) (by simp; omega) ?_
    intro v5 w5 ho5 hg5 hnil5 hat5
    obtain ⟨g5, c5, rfl⟩ := ownsRow_succ ho5
    obtain ⟨d1, d2, d3, d4, d5, d6, d7, d8, d9⟩ := itf_done (xs := xs) (ao := some ⟨b, off, none⟩) (Bs := Bs) (b := b) (off := off) (cap := cap) HRO.out.1 HRO.out.2.1 HRO.out.2.2.1 HRO.out.2.2.2.1 HRO.out.2.2.2.2.2 HRO.out.2.2.2.2.1 (by omega) hws (fun _ => hbw) (by omega) ho5 hg5 hat5
    have hcu5 := d9.cell
    have hfu5 := d9.frozen
    have S5 : w5.cell? ⟨w.heap.size, 0, none⟩ = some (.slice (some ⟨b, off, none⟩) n cap) ∧ w5.cell? ⟨b, off + at_ * 15 + 14, none⟩ = some (.int .i64 (kn : Int)) := by
     have e1 : ∀ p : Addr, p.block ≠ w.heap.size + 1 + 1 → (w5.setCell ⟨w.heap.size + 1 + 1, 0, none⟩ (.slice (some ⟨g5, 0, none⟩) (pre.length + 1) c5)).cell? p = w5.cell? p := fun p hp => World.cell?_setCell_far _ _ _ _ (Ne.symm hp)
     refine ⟨?_, ?_⟩
     ·rw [← e1 _ (by simp; omega)]
      exact d3.cell
     ·rw [← e1 _ (by simp; omega)]
      exact (d8.cell (p := ⟨b, off + at_ * 15 + 14, none⟩) hbw).trans ((HRO.out.2.2.2.2.2.cell (p := ⟨b, off + at_ * 15 + 14, none⟩) hbw).symm.trans g14)
    have S6 : (w5.setCell ⟨w.heap.size + 1 + 1, 0, none⟩ (.slice (some ⟨g5, 0, none⟩) (pre.length + 1) c5)).cell? ⟨w.heap.size, 0, none⟩ = some (.slice (some ⟨b, off, none⟩) n cap) ∧ (w5.setCell ⟨w.heap.size + 1 + 1, 0, none⟩ (.slice (some ⟨g5, 0, none⟩) (pre.length + 1) c5)).cell? ⟨b, off + at_ * 15 + 14, none⟩ = some (.int .i64 (kn : Int)) := ⟨d3.cell, (d8.cell (p := ⟨b, off + at_ * 15 + 14, none⟩) hbw).trans ((HRO.out.2.2.2.2.2.cell (p := ⟨b, off + at_ * 15 + 14, none⟩) hbw).symm.trans g14)⟩
    have HD := hideP d1
    have D2 := hideP d2
    have D3 := hideP d3
    have D4 := hideP d4
    have D5 := hideP d5
    have D6 := hideP d6
    have D7 := hideP d7
    have D8 := hideP d8
    clear d1 d2 d3 d4 d5 d6 d7 d8 d9 ho5 hg5 hat5 hnil5
    refine hK.out _ _ S5 (fun _ => ?_)
    try simp only [Act.put, List.getElem_toArray, List.getElem_cons_zero, List.getElem_cons_succ, List.setIfInBounds_toArray, List.set_cons_zero, List.set_cons_succ]
    clear hK K
    refine wpAnyH_ready (rs := [14]) (by kernel_rfl) (by simp) ?_
    refine AllReadyH.cons rfl (fun K hK => ?_) AllReadyH.nil
    rw [if_pos (by first | rfl | go_simp)]
    go_simp
    refine hK.out _ _ S6 (fun _ => ?_)
    try simp only [Act.put, List.getElem_toArray, List.getElem_cons_zero, List.getElem_cons_succ, List.setIfInBounds_toArray, List.set_cons_zero, List.set_cons_succ]
    clear hK K
    refine wpAnyH_done (by kernel_rfl) ?_ _
    gi_wp2
    refine ⟨HD.out, D2.out, ⟨D3.out, _, D4.out, ?_, D6.out, D7.out⟩, D8.out⟩
    rw [List.length_append, List.length_singleton, HA.out, flatI_snoc, HIT.out.1, ← HIT.out.2]
    exact D5.out
   ·rw [if_pos (by first | rfl | go_simp)]
    go_simp
    refine hK.out _ _ S4 (fun _ => ?_)
    try simp only [Act.put, List.getElem_toArray, List.getElem_cons_zero, List.getElem_cons_succ, List.setIfInBounds_toArray, List.set_cons_zero, List.set_cons_succ]
    clear hK K
    refine wpAnyH_ready (rs := [0]) (by kernel_rfl) (by simp) ?_
    refine AllReadyH.cons rfl (fun K hK => ?_) AllReadyH.nil
    rw [if_pos (by first | rfl | go_simp)]
    go_simp
    refine hK.out _ _ S4 (fun _ => ?_)
    try simp only [Act.put, List.getElem_toArray, List.getElem_cons_zero, List.getElem_cons_succ, List.setIfInBounds_toArray, List.set_cons_zero, List.set_cons_succ]
    clear hK K
    refine wpAnyH_ready (rs := [13]) (by kernel_rfl) (by simp) ?_
    refine AllReadyH.cons rfl (fun K hK => ?_) AllReadyH.nil
    rw [if_pos (by first | rfl | go_simp)]
    refine wp_append_at _ _ 86 rfl w.heap.size 186 i0 (.agg #[.nilIface, .int .i64 0, .int .i64 0]) 3 32 Tryz.underlying86 hi0 hz0 hz1 hz2 rfl (by decide) (.slice ua pre.length uc) pre.length _ rfl (show ((W.alloc (.cells #[.nilIface, .int .i64 (at_ : Int), .int .i64 ((at_ : Int) + 1 + (kn : Int))] 186)).drew).ownsRow _ _ _ _ _ _ from World.ownsRow.alloc HRO.out.2.2.1 _) ⟨W.heap.size, 0, none⟩ 1 1 [.nilIface, .int .i64 (at_ : Int), .int .i64 ((at_ : Int) + 1 + (kn : Int))] rfl rfl (fun j u hj => cell_three_new W _ _ _ _ j u hj) (by intro z hz; simp at hz; rcases hz with rfl | rfl | rfl; exact hone; rfl; rfl) (by unfold maxLen; omega) (by omega) (by simp; omega) ?_
    intro v5 w5 ho5 hg5 hnil5 hat5
    obtain ⟨g5, c5, rfl⟩ := ownsRow_succ ho5
    obtain ⟨d1, d2, d3, d4, d5, d6, d7, d8, d9⟩ := itf_done (xs := xs) (ao := some ⟨b, off, none⟩) (Bs := Bs) (b := b) (off := off) (cap := cap) HRO.out.1 HRO.out.2.1 HRO.out.2.2.1 HRO.out.2.2.2.1 HRO.out.2.2.2.2.2 HRO.out.2.2.2.2.1 (by omega) hws (fun _ => hbw) (by omega) ho5 hg5 hat5
    have hcu5 := d9.cell
    have hfu5 := d9.frozen
    have S5 : w5.cell? ⟨w.heap.size, 0, none⟩ = some (.slice (some ⟨b, off, none⟩) n cap) ∧ w5.cell? ⟨b, off + at_ * 15 + 14, none⟩ = some (.int .i64 (kn : Int)) := by
     have e1 : ∀ p : Addr, p.block ≠ w.heap.size + 1 + 1 → (w5.setCell ⟨w.heap.size + 1 + 1, 0, none⟩ (.slice (some ⟨g5, 0, none⟩) (pre.length + 1) c5)).cell? p = w5.cell? p := fun p hp => World.cell?_setCell_far _ _ _ _ (Ne.symm hp)
     refine ⟨?_, ?_⟩
     ·rw [← e1 _ (by simp; omega)]
      exact d3.cell
     ·rw [← e1 _ (by simp; omega)]
      exact (d8.cell (p := ⟨b, off + at_ * 15 + 14, none⟩) hbw).trans ((HRO.out.2.2.2.2.2.cell (p := ⟨b, off + at_ * 15 + 14, none⟩) hbw).symm.trans g14)
    have S6 : (w5.setCell ⟨w.heap.size + 1 + 1, 0, none⟩ (.slice (some ⟨g5, 0, none⟩) (pre.length + 1) c5)).cell? ⟨w.heap.size, 0, none⟩ = some (.slice (some ⟨b, off, none⟩) n cap) ∧ (w5.setCell ⟨w.heap.size + 1 + 1, 0, none⟩ (.slice (some ⟨g5, 0, none⟩) (pre.length + 1) c5)).cell? ⟨b, off + at_ * 15 + 14, none⟩ = some (.int .i64 (kn : Int)) := ⟨d3.cell, (d8.cell (p := ⟨b, off + at_ * 15 + 14, none⟩) hbw).trans ((HRO.out.2.2.2.2.2.cell (p := ⟨b, off + at_ * 15 + 14, none⟩) hbw).symm.trans g14)⟩
    have HD := hideP d1
    have D2 := hideP d2
    have D3 := hideP d3
    have D4 := hideP d4
    have D5 := hideP d5
    have D6 := hideP d6
    have D7 := hideP d7
    have D8 := hideP d8
    clear d1 d2 d3 d4 d5 d6 d7 d8 d9 ho5 hg5 hat5 hnil5
    refine hK.out _ _ S5 (fun _ => ?_)
    try simp only [Act.put, List.getElem_toArray, List.getElem_cons_zero, List.getElem_cons_succ, List.setIfInBounds_toArray, List.set_cons_zero, List.set_cons_succ]
    clear hK K
    refine wpAnyH_ready (rs := [14]) (by kernel_rfl) (by simp) ?_
    refine AllReadyH.cons rfl (fun K hK => ?_) AllReadyH.nil
    rw [if_pos (by first | rfl | go_simp)]
    go_simp
    refine hK.out _ _ S6 (fun _ => ?_)
    try simp only [Act.put, List.getElem_toArray, List.getElem_cons_zero, List.getElem_cons_succ, List.setIfInBounds_toArray, List.set_cons_zero, List.set_cons_succ]
    clear hK K
    refine wpAnyH_done (by kernel_rfl) ?_ _
    gi_wp2
    refine ⟨HD.out, D2.out, ⟨D3.out, _, D4.out, ?_, D6.out, D7.out⟩, D8.out⟩
    rw [List.length_append, List.length_singleton, HA.out, flatI_snoc, HIT.out.1, ← HIT.out.2]
    exact D5.out
  ·gi_wp2_with fail
   refine region_heldR (S := fun X => X.cell? ⟨w.heap.size, 0, none⟩ = some (.slice (some ⟨b, off, none⟩) n cap) ∧ X.cell? ⟨b, off + at_ * 15 + 14, none⟩ = some (.int .i64 (kn : Int))) (by kernel_rfl) (plain_spec (by kernel_rfl)) (by rintro ⟨a, w, h⟩; exact h) ?_
   have hS : W.drew.cell? ⟨w.heap.size, 0, none⟩ = some (.slice (some ⟨b, off, none⟩) n cap) ∧ W.drew.cell? ⟨b, off + at_ * 15 + 14, none⟩ = some (.int .i64 (kn : Int)) := ⟨hbxc, g14⟩
   refine wpAnyH_take (i := 1) (v := (.iface X q)) rfl (by kernel_rfl) (by kernel_rfl) (by kernel_rfl) (fun _ _ _ h => h) (Or.inl ⟨by first | rfl | go_simp, fun wx hx => by obtain ⟨hx1, hx2⟩ := hx; go_simp⟩) hS ?_
   try simp only [Act.put, List.getElem_toArray, List.getElem_cons_zero, List.getElem_cons_succ, List.setIfInBounds_toArray, List.set_cons_zero, List.set_cons_succ]
   refine wpAnyH_take (i := 2) (v := .int .i64 (at_ : Int)) rfl (by kernel_rfl) (by kernel_rfl) (by kernel_rfl) (fun _ _ _ h => h) (Or.inl ⟨by first | rfl | go_simp, fun wx hx => by obtain ⟨hx1, hx2⟩ := hx; go_simp⟩) hS ?_
   try simp only [Act.put, List.getElem_toArray, List.getElem_cons_zero, List.getElem_cons_succ, List.setIfInBounds_toArray, List.set_cons_zero, List.set_cons_succ]
   refine wpAnyH_take (i := 3) (v := .int .i64 (at_ : Int)) rfl (by kernel_rfl) (by kernel_rfl) (by kernel_rfl) (fun _ _ _ h => h) (Or.inl ⟨by first | rfl | go_simp, fun wx hx => by obtain ⟨hx1, hx2⟩ := hx; go_simp⟩) hS ?_
   try simp only [Act.put, List.getElem_toArray, List.getElem_cons_zero, List.getElem_cons_succ, List.setIfInBounds_toArray, List.set_cons_zero, List.set_cons_succ]
   refine wpAnyH_take (i := 4) (v := .int .i64 ((at_ : Int) + 1)) rfl (by kernel_rfl) (by kernel_rfl) (by kernel_rfl) (fun _ _ _ h => h) (Or.inl ⟨by first | rfl | go_simp, fun wx hx => by obtain ⟨hx1, hx2⟩ := hx; go_simp; first | (go_num; done) | (go_bits; done) | (go_bits; trivial)⟩) hS ?_
   try simp only [Act.put, List.getElem_toArray, List.getElem_cons_zero, List.getElem_cons_succ, List.setIfInBounds_toArray, List.set_cons_zero, List.set_cons_succ]
   refine wpAnyH_take (i := 5) (v := .slice (some ⟨b, off, none⟩) n cap) rfl (by kernel_rfl) (by kernel_rfl) (by kernel_rfl) (fun _ _ _ h => h) (Or.inl ⟨by first | rfl | go_simp, fun wx hx => by obtain ⟨hx1, hx2⟩ := hx; go_simp⟩) hS ?_
   try simp only [Act.put, List.getElem_toArray, List.getElem_cons_zero, List.getElem_cons_succ, List.setIfInBounds_toArray, List.set_cons_zero, List.set_cons_succ]
   refine wpAnyH_take (i := 6) (v := .int .i64 (at_ : Int)) rfl (by kernel_rfl) (by kernel_rfl) (by kernel_rfl) (fun _ _ _ h => h) (Or.inl ⟨by first | rfl | go_simp, fun wx hx => by obtain ⟨hx1, hx2⟩ := hx; go_simp⟩) hS ?_
   try simp only [Act.put, List.getElem_toArray, List.getElem_cons_zero, List.getElem_cons_succ, List.setIfInBounds_toArray, List.set_cons_zero, List.set_cons_succ]
   refine wpAnyH_take (i := 7) (v := .pointer (some ⟨b, off + at_ * 15, none⟩)) rfl (by kernel_rfl) (by kernel_rfl) (by kernel_rfl) (fun _ _ _ h => h) (Or.inl ⟨by first | rfl | go_simp, fun wx hx => by obtain ⟨hx1, hx2⟩ := hx; go_simp⟩) hS ?_
   try simp only [Act.put, List.getElem_toArray, List.getElem_cons_zero, List.getElem_cons_succ, List.setIfInBounds_toArray, List.set_cons_zero, List.set_cons_succ]
   refine wpAnyH_take (i := 8) (v := .pointer (some ⟨b, off + at_ * 15 + 14, none⟩)) rfl (by kernel_rfl) (by kernel_rfl) (by kernel_rfl) (fun _ _ _ h => h) (Or.inl ⟨by first | rfl | go_simp, fun wx hx => by obtain ⟨hx1, hx2⟩ := hx; go_simp⟩) hS ?_
   try simp only [Act.put, List.getElem_toArray, List.getElem_cons_zero, List.getElem_cons_succ, List.setIfInBounds_toArray, List.set_cons_zero, List.set_cons_succ]
   refine wpAnyH_take (i := 9) (v := .int .i64 (kn : Int)) rfl (by kernel_rfl) (by kernel_rfl) (by kernel_rfl) (fun _ _ _ h => h) (Or.inl ⟨by first | rfl | go_simp, fun wx hx => by obtain ⟨hx1, hx2⟩ := hx; go_simp⟩) hS ?_
   try simp only [Act.put, List.getElem_toArray, List.getElem_cons_zero, List.getElem_cons_succ, List.setIfInBounds_toArray, List.set_cons_zero, List.set_cons_succ]
   refine wpAnyH_take (i := 10) (v := .int .i64 ((at_ : Int) + 1 + (kn : Int))) rfl (by kernel_rfl) (by kernel_rfl) (by kernel_rfl) (fun _ _ _ h => h) (Or.inl ⟨by first | rfl | go_simp, fun wx hx => by obtain ⟨hx1, hx2⟩ := hx; go_simp; first | (go_num; done) | (go_bits; done) | (go_bits; trivial)⟩) hS ?_
   try simp only [Act.put, List.getElem_toArray, List.getElem_cons_zero, List.getElem_cons_succ, List.setIfInBounds_toArray, List.set_cons_zero, List.set_cons_succ]
   refine wpAnyH_take (i := 11) (v := .agg #[(.iface X q), .int .i64 (at_ : Int), .int .i64 ((at_ : Int) + 1 + (kn : Int))]) rfl (by kernel_rfl) (by kernel_rfl) (by kernel_rfl) (fun _ _ _ h => h) (Or.inl ⟨by first | rfl | go_simp, fun wx hx => by obtain ⟨hx1, hx2⟩ := hx; go_simp⟩) hS ?_
   try simp only [Act.put, List.getElem_toArray, List.getElem_cons_zero, List.getElem_cons_succ, List.setIfInBounds_toArray, List.set_cons_zero, List.set_cons_succ]
   obtain ⟨i0, hi0, hz0, hz1, hz2⟩ := info_parts Tryz.info141i
   have hwW : w.heap.size < W.heap.size := HRO.out.1.lt
   have hbW : b < W.heap.size := by omega
   have S4 : (W.alloc (.cells #[(.iface X q), .int .i64 (at_ : Int), .int .i64 ((at_ : Int) + 1 + (kn : Int))] 186)).drew.cell? ⟨w.heap.size, 0, none⟩ = some (.slice (some ⟨b, off, none⟩) n cap) ∧ (W.alloc (.cells #[(.iface X q), .int .i64 (at_ : Int), .int .i64 ((at_ : Int) + 1 + (kn : Int))] 186)).drew.cell? ⟨b, off + at_ * 15 + 14, none⟩ = some (.int .i64 (kn : Int)) := ⟨((below1 W _).cell (p := ⟨w.heap.size, 0, none⟩) hwW).trans hS.1, ((below1 W _).cell (p := ⟨b, off + at_ * 15 + 14, none⟩) hbW).trans hS.2⟩
   have U4 : Boxed (W.alloc (.cells #[(.iface X q), .int .i64 (at_ : Int), .int .i64 ((at_ : Int) + 1 + (kn : Int))] 186)).drew (w.heap.size + 1 + 1) 86 (.slice ua pre.length uc) := Boxed.alloc HRO.out.2.1 _
   have hcu4 := U4.cell
   clear U4
   refine wpAnyH_ready (rs := [0, 12]) (by kernel_rfl) (by simp) ?_
   refine AllReadyH.cons rfl (fun K hK => ?_) (AllReadyH.cons rfl (fun K hK => ?_) AllReadyH.nil)
   ·rw [if_pos (by first | rfl | go_simp)]
    have hcu := hbuc
    go_simp
    refine hK.out _ _ hS (fun _ => ?_)
    try simp only [Act.put, List.getElem_toArray, List.getElem_cons_zero, List.getElem_cons_succ, List.setIfInBounds_toArray, List.set_cons_zero, List.set_cons_succ]
    clear hK K
    refine wpAnyH_ready (rs := [12]) (by kernel_rfl) (by simp) ?_
    refine AllReadyH.cons rfl (fun K hK => ?_) AllReadyH.nil
    rw [if_pos (by first | rfl | go_simp)]
    go_simp
    refine hK.out _ _ S4 (fun _ => ?_)
    try simp only [Act.put, List.getElem_toArray, List.getElem_cons_zero, List.getElem_cons_succ, List.setIfInBounds_toArray, List.set_cons_zero, List.set_cons_succ]
    clear hK K
    refine wpAnyH_ready (rs := [13]) (by kernel_rfl) (by simp) ?_
    refine AllReadyH.cons rfl (fun K hK => ?_) AllReadyH.nil
    rw [if_pos (by first | rfl | go_simp)]
    refine wp_append_at _ _ 86 rfl w.heap.size 186 i0 (.agg #[.nilIface, .int .i64 0, .int .i64 0]) 3 32 Tryz.underlying86 hi0 hz0 hz1 hz2 rfl (by decide) (.slice ua pre.length uc) pre.length _ rfl (show ((W.alloc (.cells #[(.iface X q), .int .i64 (at_ : Int), .int .i64 ((at_ : Int) + 1 + (kn : Int))] 186)).drew).ownsRow _ _ _ _ _ _ from World.ownsRow.alloc HRO.out.2.2.1 _) ⟨W.heap.size, 0, none⟩ 1 1 [(.iface X q), .int .i64 (at_ : Int), .int .i64 ((at_ : Int) + 1 + (kn : Int))] rfl rfl (fun j u hj => cell_three_new W _ _ _ _ j u hj) (by intro z hz; simp at hz; rcases hz with rfl | rfl | rfl; exact hone; rfl; rfl) (by unfold maxLen; omega) (by omega) (by simp; omega) ?_
    intro v5 w5 ho5 hg5 hnil5 hat5
    obtain ⟨g5, c5, rfl⟩ := ownsRow_succ ho5
    obtain ⟨d1, d2, d3, d4, d5, d6, d7, d8, d9⟩ := itf_done (xs := xs) (ao := some ⟨b, off, none⟩) (Bs := Bs) (b := b) (off := off) (cap := cap) HRO.out.1 HRO.out.2.1 HRO.out.2.2.1 HRO.out.2.2.2.1 HRO.out.2.2.2.2.2 HRO.out.2.2.2.2.1 (by omega) hws (fun _ => hbw) (by omega) ho5 hg5 hat5
    have hcu5 := d9.cell
    have hfu5 := d9.frozen
    have S5 : w5.cell? ⟨w.heap.size, 0, none⟩ = some (.slice (some ⟨b, off, none⟩) n cap) ∧ w5.cell? ⟨b, off + at_ * 15 + 14, none⟩ = some (.int .i64 (kn : Int)) := by
     have e1 : ∀ p : Addr, p.block ≠ w.heap.size + 1 + 1 → (w5.setCell ⟨w.heap.size + 1 + 1, 0, none⟩ (.slice (some ⟨g5, 0, none⟩) (pre.length + 1) c5)).cell? p = w5.cell? p := fun p hp => World.cell?_setCell_far _ _ _ _ (Ne.symm hp)
     refine ⟨?_, ?_⟩
     ·rw [← e1 _ (by simp; omega)]
      exact d3.cell
     ·rw [← e1 _ (by simp; omega)]
      exact (d8.cell (p := ⟨b, off + at_ * 15 + 14, none⟩) hbw).trans ((HRO.out.2.2.2.2.2.cell (p := ⟨b, off + at_ * 15 + 14, none⟩) hbw).symm.trans g14)
    have S6 : (w5.setCell ⟨w.heap.size + 1 + 1, 0, none⟩ (.slice (some ⟨g5, 0, none⟩) (pre.length + 1) c5)).cell? ⟨w.heap.size, 0, none⟩ = some (.slice (some ⟨b, off, none⟩) n cap) ∧ (w5.setCell ⟨w.heap.size + 1 + 1, 0, none⟩ (.slice (some ⟨g5, 0, none⟩) (pre.length + 1) c5)).cell? ⟨b, off + at_ * 15 + 14, none⟩ = some (.int .i64 (kn : Int)) := ⟨d3.cell, (d8.cell (p := ⟨b, off + at_ * 15 + 14, none⟩) hbw).trans ((HRO.out.2.2.2.2.2.cell (p := ⟨b, off + at_ * 15 + 14, none⟩) hbw).symm.trans g14)⟩
    have HD := hideP d1
    have D2 := hideP d2
    have D3 := hideP d3
    have D4 := hideP d4
    have D5 := hideP d5
    have D6 := hideP d6
    have D7 := hideP d7
    have D8 := hideP d8
    clear d1 d2 d3 d4 d5 d6 d7 d8 d9 ho5 hg5 hat5 hnil5
    refine hK.out _ _ S5 (fun _ => ?_)
    try simp only [Act.put, List.getElem_toArray, List.getElem_cons_zero, List.getElem_cons_succ, List.setIfInBounds_toArray, List.set_cons_zero, List.set_cons_succ]
    clear hK K
    refine wpAnyH_ready (rs := [14]) (by kernel_rfl) (by simp) ?_
    refine AllReadyH.cons rfl (fun K hK => ?_) AllReadyH.nil
    rw [if_pos (by first | rfl | go_simp)]
    go_simp
    refine hK.out _ _ S6 (fun _ => ?_)
    try simp only [Act.put, List.getElem_toArray, List.getElem_cons_zero, List.getElem_cons_succ, List.setIfInBounds_toArray, List.set_cons_zero, List.set_cons_succ]
    clear hK K
    refine wpAnyH_done (by kernel_rfl) ?_ _
    gi_wp2
    refine ⟨HD.out, D2.out, ⟨D3.out, _, D4.out, ?_, D6.out, D7.out⟩, D8.out⟩
    rw [List.length_append, List.length_singleton, HA.out, flatI_snoc, HIT.out.1, ← HIT.out.2]
    exact D5.out
   ·rw [if_pos (by first | rfl | go_simp)]
    go_simp
    refine hK.out _ _ S4 (fun _ => ?_)
    try simp only [Act.put, List.getElem_toArray, List.getElem_cons_zero, List.getElem_cons_succ, List.setIfInBounds_toArray, List.set_cons_zero, List.set_cons_succ]
    clear hK K
    refine wpAnyH_ready (rs := [0]) (by kernel_rfl) (by simp) ?_
    refine AllReadyH.cons rfl (fun K hK => ?_) AllReadyH.nil
    rw [if_pos (by first | rfl | go_simp)]
    go_simp
    refine hK.out _ _ S4 (fun _ => ?_)
    try simp only [Act.put, List.getElem_toArray, List.getElem_cons_zero, List.getElem_cons_succ, List.setIfInBounds_toArray, List.set_cons_zero, List.set_cons_succ]
    clear hK K
    refine wpAnyH_ready (rs := [13]) (by kernel_rfl) (by simp) ?_
    refine AllReadyH.cons rfl (fun K hK => ?_) AllReadyH.nil
    rw [if_pos (by first | rfl | go_simp)]
    refine wp_append_at _ _ 86 rfl w.heap.size 186 i0 (.agg #[.nilIface, .int .i64 0, .int .i64 0]) 3 32 Tryz.underlying86 hi0 hz0 hz1 hz2 rfl (by decide) (.slice ua pre.length uc) pre.length _ rfl (show ((W.alloc (.cells #[(.iface X q), .int .i64 (at_ : Int), .int .i64 ((at_ : Int) + 1 + (kn : Int))] 186)).drew).ownsRow _ _ _ _ _ _ from World.ownsRow.alloc HRO.out.2.2.1 _) ⟨W.heap.size, 0, none⟩ 1 1 [(.iface X q), .int .i64 (at_ : Int), .int .i64 ((at_ : Int) + 1 + (kn : Int))] rfl rfl (fun j u hj => cell_three_new W _ _ _ _ j u hj) (by intro z hz; simp at hz; rcases hz with rfl | rfl | rfl; exact hone; rfl; rfl) (by unfold maxLen; omega) (by omega) (by simp; omega) ?_
    intro v5 w5 ho5 hg5 hnil5 hat5
    obtain ⟨g5, c5, rfl⟩ := ownsRow_succ ho5
    obtain ⟨d1, d2, d3, d4, d5, d6, d7, d8, d9⟩ := itf_done (xs := xs) (ao := some ⟨b, off, none⟩) (Bs := Bs) (b := b) (off := off) (cap := cap) HRO.out.1 HRO.out.2.1 HRO.out.2.2.1 HRO.out.2.2.2.1 HRO.out.2.2.2.2.2 HRO.out.2.2.2.2.1 (by omega) hws (fun _ => hbw) (by omega) ho5 hg5 hat5
    have hcu5 := d9.cell
    have hfu5 := d9.frozen
    have S5 : w5.cell? ⟨w.heap.size, 0, none⟩ = some (.slice (some ⟨b, off, none⟩) n cap) ∧ w5.cell? ⟨b, off + at_ * 15 + 14, none⟩ = some (.int .i64 (kn : Int)) := by
     have e1 : ∀ p : Addr, p.block ≠ w.heap.size + 1 + 1 → (w5.setCell ⟨w.heap.size + 1 + 1, 0, none⟩ (.slice (some ⟨g5, 0, none⟩) (pre.length + 1) c5)).cell? p = w5.cell? p := fun p hp => World.cell?_setCell_far _ _ _ _ (Ne.symm hp)
     refine ⟨?_, ?_⟩
     ·rw [← e1 _ (by simp; omega)]
      exact d3.cell
     ·rw [← e1 _ (by simp; omega)]
      exact (d8.cell (p := ⟨b, off + at_ * 15 + 14, none⟩) hbw).trans ((HRO.out.2.2.2.2.2.cell (p := ⟨b, off + at_ * 15 + 14, none⟩) hbw).symm.trans g14)
    have S6 : (w5.setCell ⟨w.heap.size + 1 + 1, 0, none⟩ (.slice (some ⟨g5, 0, none⟩) (pre.length + 1) c5)).cell? ⟨w.heap.size, 0, none⟩ = some (.slice (some ⟨b, off, none⟩) n cap) ∧ (w5.setCell ⟨w.heap.size + 1 + 1, 0, none⟩ (.slice (some ⟨g5, 0, none⟩) (pre.length + 1) c5)).cell? ⟨b, off + at_ * 15 + 14, none⟩ = some (.int .i64 (kn : Int)) := ⟨d3.cell, (d8.cell (p := ⟨b, off + at_ * 15 + 14, none⟩) hbw).trans ((HRO.out.2.2.2.2.2.cell (p := ⟨b, off + at_ * 15 + 14, none⟩) hbw).symm.trans g14)⟩
    have HD := hideP d1
    have D2 := hideP d2
    have D3 := hideP d3
    have D4 := hideP d4
    have D5 := hideP d5
    have D6 := hideP d6
    have D7 := hideP d7
    have D8 := hideP d8
    clear d1 d2 d3 d4 d5 d6 d7 d8 d9 ho5 hg5 hat5 hnil5
    refine hK.out _ _ S5 (fun _ => ?_)
    try simp only [Act.put, List.getElem_toArray, List.getElem_cons_zero, List.getElem_cons_succ, List.setIfInBounds_toArray, List.set_cons_zero, List.set_cons_succ]
    clear hK K
    refine wpAnyH_ready (rs := [14]) (by kernel_rfl) (by simp) ?_
    refine AllReadyH.cons rfl (fun K hK => ?_) AllReadyH.nil
    rw [if_pos (by first | rfl | go_simp)]
    go_simp
    refine hK.out _ _ S6 (fun _ => ?_)
    try simp only [Act.put, List.getElem_toArray, List.getElem_cons_zero, List.getElem_cons_succ, List.setIfInBounds_toArray, List.set_cons_zero, List.set_cons_succ]
    clear hK K
    refine wpAnyH_done (by kernel_rfl) ?_ _
    gi_wp2
    refine ⟨HD.out, D2.out, ⟨D3.out, _, D4.out, ?_, D6.out, D7.out⟩, D8.out⟩
    rw [List.length_append, List.length_singleton, HA.out, flatI_snoc, HIT.out.1, ← HIT.out.2]
    exact D5.out
end Go.Proofs.YtlohbaoigfaneaaGreat
