/-
  The items of a paragraph, and their sums.
-/
import Derived.Test.YtdgfnceipginkaaItf
import Derived.Test.YtdgfnceipginkaaIta
import Derived.LoopIn
import Derived.LoopNIn
import Derived.Maps.AppendAt
import Derived.OwnWalkIn
import Derived.RangeFuncBound
import Derived.RangeFuncCalls
import Derived.RangeFuncLeaves
import Derived.RangeFuncNested
import Derived.Shelf.Abstract
import Derived.Shelf.RegionOpen
import Derived.TacticsInMore
import Derived.WalkKit
import Derived.Test.YtdgfnceipginkaaTns
import Derived.Test.YtdgfnceipginkaaScr
namespace Go.Proofs.Ytdgfnceipginkaa
open Go.RowKit Go.Shelf
set_option linter.unusedVariables false
set_option linter.unusedSimpArgs false

structure AllOk3 (xs : List Nd) : Prop where
  len : xs.length ≤ 20003
  kids : ∀ i, i < xs.length → 0 ≤ (xs.getD i Nd.none).kids ∧ (i : Int) + 1 + (xs.getD i Nd.none).kids ≤ xs.length
  text : ∀ i, i < xs.length → (xs.getD i Nd.none).tx.size ≤ 1000
theorem AllOk3.weak {xs : List Nd} (h : AllOk3 xs) : ∀ i, i < xs.length → 0 ≤ (xs.getD i Nd.none).kids ∧ (xs.getD i Nd.none).kids ≤ 20003 := fun i hi => by
  have h1 := h.kids i hi
  have h2 := h.len
  omega

set_option maxRecDepth 100000 in
set_option maxHeartbeats 4000000 in
theorem each1_3 (n l : Nat) (hn : 1 ≤ n) (xs : List Nd) (ao : Option Addr) (Bs b off cap : Nat) (hlen : xs.length ≤ 20003) (hkids : ∀ i, i < xs.length → 0 ≤ (xs.getD i Nd.none).kids ∧ (xs.getD i Nd.none).kids ≤ 20003) (J Jx : List (Item xs) → World → Prop) (W : World) (hJ : AbidesFrom W.heap.size J) (hS : Src xs ao Bs b off cap W)
    (hY : ∀ pre x W1, J pre W1 → pre.length < xs.length + 1 → YieldAt Fence.wide (n - 1) Try.prog l (Item.encs x) W1 fun e W' =>
      (e = .returned (.bool true) ∧ J (pre ++ [x]) W' ∧ (Src xs ao Bs b off cap W1 → Src xs ao Bs b off cap W')) ∨ (e = .returned (.bool false) ∧ Jx (pre ++ [x]) W')) (h0 : J [] W) :
    CallsIn Fence.wide n Try.prog 51 #[.func (.yield l) #[] #[], .pointer (some ⟨Bs, 0, none⟩)] W fun e W' => (∃ v, e = .returned v) ∧
      ((∃ ys : List (Item xs), ys.map (·.1.1) = starts xs (xs.length + 1) 0 ∧ J ys W') ∨ (∃ pre, True ∧ Jx pre W')) := by
  refine callsIn_of_wp Try.func51 rfl trivial ?_ rfl
  simp only [Try.ntmps51, List.size_toArray, List.length_cons, List.length_nil, Nat.reduceAdd, Nat.reduceSub, Array.replicate_succ, Array.replicate_zero, List.push_toArray, List.append_toArray, List.nil_append, List.cons_append]
  gi_wp2
  gi_loopw [3] (fun a wr => ∃ (i f : Nat) (pre : List (Item xs)), a = .int .i64 (i : Int) ∧ i ≤ 40010 ∧ xs.length < i + f ∧ Hid (pre.map (·.1.1) ++ starts xs f i = starts xs (xs.length + 1) 0) ∧ pre.length ≤ i ∧ J pre wr ∧ Hid (Src xs ao Bs b off cap wr)) (fun a _ => xs.length - (intOf a).toNat)
  case atStart => exact ⟨0, xs.length + 1, [], rfl, by omega, by omega, rfl, by simp, h0, hS⟩
  case round =>
    obtain ⟨i, f, pre, rfl, hi, hf, HP, hpl, hJs, HS⟩ := hrel
    have hbox := HS.out.box
    by_cases hil : i < xs.length
    · have hii : (i : Int) < (xs.length : Int) := by omega
      obtain rfl := HS.out.some_ (by omega)
      obtain ⟨y, hy, hyc⟩ := HS.out.at_ i hil
      have TC : Hid (∀ w : World, Calls Try.prog 50 #[ndV y] w fun r w' => (∃ v, r = .returned v ∧ ThingQ y v) ∧ Below w.heap.size w w') := hideP (fun w => thing_q y w)
      have HY := hideP hy
      have hkk := hkids i hil
      rw [← hy.2] at hkk
      obtain ⟨y0, hy0⟩ : ∃ y0, y0 = y := ⟨_, rfl⟩
      rw [← hy0] at HY
      have HY0 := hideP hy0
      obtain ⟨kd, wd, hh, dp, sh, fo, ch, nn, gs, gp, gpo, gm, gmo, tx, kids⟩ := y
      simp only [Nd.cells] at hyc
      have c0 : wr.cell? ⟨b, off + i * 15, none⟩ = some (.int .i64 kd) := hyc 0 (by omega)
      have c1 : wr.cell? ⟨b, off + i * 15 + 1, none⟩ = some (.int .i64 wd) := hyc 1 (by omega)
      have c2 : wr.cell? ⟨b, off + i * 15 + 2, none⟩ = some (.int .i64 hh) := hyc 2 (by omega)
      have c3 : wr.cell? ⟨b, off + i * 15 + 3, none⟩ = some (.int .i64 dp) := hyc 3 (by omega)
      have c4 : wr.cell? ⟨b, off + i * 15 + 4, none⟩ = some (.int .i64 sh) := hyc 4 (by omega)
      have c5 : wr.cell? ⟨b, off + i * 15 + 5, none⟩ = some (.int .i64 fo) := hyc 5 (by omega)
      have c6 : wr.cell? ⟨b, off + i * 15 + 6, none⟩ = some (.int .i64 ch) := hyc 6 (by omega)
      have c7 : wr.cell? ⟨b, off + i * 15 + 7, none⟩ = some (.int .i64 nn) := hyc 7 (by omega)
      have c8 : wr.cell? ⟨b, off + i * 15 + 8, none⟩ = some (.int .i64 gs) := hyc 8 (by omega)
      have c9 : wr.cell? ⟨b, off + i * 15 + 9, none⟩ = some (.int .i64 gp) := hyc 9 (by omega)
      have c10 : wr.cell? ⟨b, off + i * 15 + 10, none⟩ = some (.int .i64 gpo) := hyc 10 (by omega)
      have c11 : wr.cell? ⟨b, off + i * 15 + 11, none⟩ = some (.int .i64 gm) := hyc 11 (by omega)
      have c12 : wr.cell? ⟨b, off + i * 15 + 12, none⟩ = some (.int .i64 gmo) := hyc 12 (by omega)
      have c13 : wr.cell? ⟨b, off + i * 15 + 13, none⟩ = some (.string tx) := hyc 13 (by omega)
      have c14 : wr.cell? ⟨b, off + i * 15 + 14, none⟩ = some (.int .i64 kids) := hyc 14 (by omega)
      have HJ := hideP hJs
      dsimp only at hkk
      obtain ⟨hk0, hk1⟩ := hkk
      obtain ⟨f, rfl⟩ : ∃ q, f = q + 1 := ⟨f - 1, by omega⟩
      have HST : Hid (pre.map (·.1.1) ++ i :: starts xs f (i + 1 + kids.toNat) = starts xs (xs.length + 1) 0) := hideP (by
        have h := HP.out
        rw [show starts xs (f + 1) i = i :: starts xs f (i + 1 + (xs.getD i Nd.none).kids.toNat) by simp only [starts]; rw [if_pos hil]] at h
        rw [← HY.out.2, HY0.out] at h
        exact h)
      clear hyc hJs hy hy0
      gi_wp2_with fail
      refine ⟨trivial, CallsIn.mono (callsIn_wide.2 (TC.out wr)) ?_⟩
      rintro e w1 ⟨⟨v, rfl, hth⟩, hb1⟩
      have hJ1 : J pre w1 := hJ pre wr w1 none HJ.out ⟨hb1.os, hb1.tape, hb1.output, hb1.size, fun k hk _ => hb1.block k hk⟩ (fun r e => by cases e)
      have HS1 := hideP (HS.out.grown hb1)
      rw [← HY0.out] at hth
      obtain ⟨x, hx⟩ : ∃ x : Item xs, x = ⟨(i, v), hil, y0, HY.out, hth⟩ := ⟨_, rfl⟩
      obtain ⟨fn, tmps, assign, body, hyl, hR⟩ := hY pre x w1 hJ1 (by omega)
      have HX : Hid (x.1.1 = i) := hideP (by rw [hx])
      rw [show Item.encs x = #[.int .i64 (i : Int), v] by rw [hx]; rfl] at hyl
      clear hb1 hJ1 hth hbox hx c0 c1 c2 c3 c4 c5 c6 c7 c8 c9 c10 c11 c12 c13 c14
      have HRR := hideP hR
      clear hR
      gi_wp2_with fail
      refine HRR.out.mono ?_
      rintro e W3 (⟨rfl, hJ3, hk3⟩ | ⟨rfl, hJx3⟩)
      · have HS3 := hideP (hk3 HS1.out)
        have hbox3 := HS3.out.box
        obtain ⟨y3, hy3, hc3⟩ := HS3.out.at_ i hil
        have c14 : W3.cell? ⟨b, off + i * 15 + 14, none⟩ = some (.int .i64 kids) := by
          rw [hc3 14 (by omega), show y3.cells[14]? = some (.int .i64 y3.kids) from rfl, hy3.2, ← HY.out.2, HY0.out]
        have HJ3 := hideP hJ3
        clear hJ3 hk3 hc3 hy3
        gi_wp2_with fail
        go_roundw
        case rel =>
          refine ⟨i + 1 + kids.toNat, f, pre ++ [x], congrArg _ (by omega), by omega, by omega, hideP ?_, by simp; omega, HJ3.out, HS3⟩
          rw [List.map_append, List.append_assoc, List.map_singleton, HX.out]
          exact HST.out
        case measure => simp [intOf]; omega
      · gi_wp2
        refine bodyPost_ret (results_none rfl _ _ _) rfl ?_
        exact ⟨⟨_, rfl⟩, .inr ⟨pre ++ [x], trivial, hJx3⟩⟩
    · have hii : ¬ (i : Int) < (xs.length : Int) := by omega
      have HE : Hid (pre.map (·.1.1) = starts xs (xs.length + 1) 0) := hideP (by
        have h := HP.out
        cases f with
        | zero => simpa [starts] using h
        | succ f =>
          rw [show starts xs (f + 1) i = [] by simp only [starts]; rw [if_neg hil]] at h
          simpa using h)
      gi_wp2
      go_end0
      exact ⟨⟨_, rfl⟩, .inl ⟨pre, HE.out, hJs⟩⟩

theorem each_stops3 (n : Nat) (hn : 1 ≤ n) (xs : List Nd) (ao : Option Addr) (Bs b off cap : Nat) (hlen : xs.length ≤ 20003) (hkids : ∀ i, i < xs.length → 0 ≤ (xs.getD i Nd.none).kids ∧ (xs.getD i Nd.none).kids ≤ 20003) (w : World) (hS : Src xs ao Bs b off cap w) :
    SeqStopsK Fence.wide n Try.prog 51 #[.pointer (some ⟨Bs, 0, none⟩)] (Item.encs (xs := xs)) (fun A B => Src xs ao Bs b off cap A → Src xs ao Bs b off cap B) (fun ys => ys.map (·.1.1) = starts xs (xs.length + 1) 0) (fun _ => True) (xs.length + 1) w := fun l J Jx W hW hJ _ hY h0 => by
  refine (each1_3 n l hn xs ao Bs b off cap hlen hkids J Jx W hJ (hS.grown hW) hY h0).mono ?_
  rintro e W' ⟨he, ⟨ys, hys, hj⟩ | ⟨pre, _, hj⟩⟩
  · exact ⟨he, .inl ⟨ys, hys, hj⟩⟩
  · exact ⟨he, .inr ⟨pre, trivial, hj⟩⟩

set_option maxRecDepth 100000 in
set_option maxHeartbeats 8000000 in
theorem itemsOf3_in {v : Value} {xs : List Nd} {w : World} (h : NRow 0 w v xs) (hcp : ∀ a n c, v = .slice a n c → n ≤ c ∧ c ≤ 9223372036854775807) (AOK0 : AllOk3 xs) :
    CallsIn Fence.wide 5 Try.prog 52 #[v] w fun e W' => (∃ u, e = .returned u ∧ W'.ownsRow w.heap.size 93 3 u (its xs).length (flatI (its xs))) ∧ Below w.heap.size w W' := by
  have AOK := hideP AOK0
  obtain ⟨ao, n, cap, rfl, hl, hr⟩ := h
  have hcap := hcp _ _ _ rfl
  obtain ⟨hcap1, hcap2⟩ := hcap
  have hnm : n ≤ 20003 := by rw [← hl]; exact AOK0.len
  have HL := hideP hl
  obtain ⟨b, off, hbo⟩ : ∃ b off, 0 < n → ao = some ⟨b, off, none⟩ ∧ b < w.heap.size ∧ ∀ j u, (flatN xs)[j]? = some u → w.cell? ⟨b, off + j, none⟩ = some u := by
    by_cases hn0 : 0 < n
    · obtain ⟨b, off, e, _, hb, hc⟩ := hr hn0
      exact ⟨b, off, fun _ => ⟨e, hb, row_cells (fun i hi => hc i (by rw [← hl]; exact hi))⟩⟩
    · exact ⟨0, 0, fun h => absurd h hn0⟩
  have HBO := hideP hbo
  clear hr hl hcp hbo AOK0
  refine callsIn_of_wp_marks Try.func52 rfl trivial ?_ rfl
  simp only [Try.ntmps52, List.size_toArray, List.length_cons, List.length_nil, Nat.reduceAdd, Nat.reduceSub, Array.replicate_succ, Array.replicate_zero, List.push_toArray, List.append_toArray, List.nil_append, List.cons_append]
  gi_wp2_with fail
  refine ⟨trivial, CallsIn.mono (callsIn_wide.2 (eachItem_any ao n cap _)) ?_⟩
  rintro e w2 ⟨rfl, rfl⟩
  gi_wp2_with fail
  have B1 : Below w.heap.size w (((w.alloc (.cells #[.slice ao n cap] 28)).alloc (.cells #[] 93)).alloc (.cells #[.slice (some ⟨w.heap.size + 1, 0, none⟩) 0 0] 78)) := below3 _ _ _ _
  have q0 : Boxed (((w.alloc (.cells #[.slice ao n cap] 28)).alloc (.cells #[] 93)).alloc (.cells #[.slice (some ⟨w.heap.size + 1, 0, none⟩) 0 0] 78)) w.heap.size 28 (.slice ao n cap) := ((Boxed.new w 28 (.slice ao n cap)).alloc _).alloc _
  have q2 : Boxed (((w.alloc (.cells #[.slice ao n cap] 28)).alloc (.cells #[] 93)).alloc (.cells #[.slice (some ⟨w.heap.size + 1, 0, none⟩) 0 0] 78)) (w.heap.size + 1 + 1) 78 (.slice (some ⟨w.heap.size + 1, 0, none⟩) 0 0) := by
    have h := Boxed.new ((w.alloc (.cells #[.slice ao n cap] 28)).alloc (.cells #[] 93)) 78 (.slice (some ⟨w.heap.size + 1, 0, none⟩) 0 0)
    rw [World.size_alloc, World.size_alloc] at h
    exact h
  have q1 : (((w.alloc (.cells #[.slice ao n cap] 28)).alloc (.cells #[] 93)).alloc (.cells #[.slice (some ⟨w.heap.size + 1, 0, none⟩) 0 0] 78)).heap[w.heap.size + 1]? = some (.cells #[] 93) := by
    have h := World.alloc_heap_new (w.alloc (.cells #[.slice ao n cap] 28)) (.cells #[] 93)
    rw [World.size_alloc] at h
    exact ((below1 _ _).block _ (by simp)).trans h
  have hO1 : (((w.alloc (.cells #[.slice ao n cap] 28)).alloc (.cells #[] 93)).alloc (.cells #[.slice (some ⟨w.heap.size + 1, 0, none⟩) 0 0] 78)).ownsRow w.heap.size 93 3 (.slice (some ⟨w.heap.size + 1, 0, none⟩) 0 0) 0 [] := ⟨rfl, .inr ⟨_, _, _, rfl, by omega, q1, by omega, by unfold maxLen; omega, rfl, rfl⟩⟩
  have hw1s : (((w.alloc (.cells #[.slice ao n cap] 28)).alloc (.cells #[] 93)).alloc (.cells #[.slice (some ⟨w.heap.size + 1, 0, none⟩) 0 0] 78)).heap.size = w.heap.size + 3 := by simp
  obtain ⟨w1, hw1⟩ : ∃ w1, (((w.alloc (.cells #[.slice ao n cap] 28)).alloc (.cells #[] 93)).alloc (.cells #[.slice (some ⟨w.heap.size + 1, 0, none⟩) 0 0] 78)) = w1 := ⟨_, rfl⟩
  rw [hw1] at B1 q0 q2 hO1 hw1s ⊢
  have hbs3 : w.heap.size + 1 + 1 + 1 = w1.heap.size := by omega
  try rw [hbs3]
  clear q1 hw1
  have bS : (w1.alloc (.cells #[.slice ao n cap] 28)).cell? ⟨w1.heap.size, 0, none⟩ = some (.slice ao n cap) := by simp [go_sem]
  have hB0 : Below w.heap.size w (w1.alloc (.cells #[.slice ao n cap] 28)) := B1.alloc B1.size _
  have hOW := hO1.alloc (.cells #[.slice ao n cap] 28)
  have hI0 := q0.alloc (.cells #[.slice ao n cap] 28)
  have hI2 := q2.alloc (.cells #[.slice ao n cap] 28)
  have hws : w.heap.size + 1 + 1 < w1.heap.size := by omega
  clear hbs3 hw1s
  obtain ⟨Bs, hBs⟩ : ∃ B, B = w1.heap.size := ⟨_, rfl⟩
  obtain ⟨W0, hW0⟩ : ∃ W0, w1.alloc (.cells #[.slice ao n cap] 28) = W0 := ⟨_, rfl⟩
  have hsz : W0.heap.size = Bs + 1 := by rw [← hW0, hBs]; simp
  rw [hW0] at hB0 hOW hI0 hI2 bS ⊢
  rw [← hBs] at bS hws ⊢
  clear hW0 q0 q2 hO1
  have HSR : Hid (Src xs ao Bs b off cap W0) := hideP (by
    refine ⟨by rw [HL.out]; exact bS, fun h => (HBO.out (by rw [← HL.out]; exact h)).1, fun i hi => ⟨xs.getD i Nd.none, ⟨rfl, rfl⟩, fun j hj => ?_⟩⟩
    obtain ⟨_, hbw, hcell⟩ := HBO.out (by rw [← HL.out]; omega)
    have h1 := flatN_get xs i hi j hj
    rw [List.getElem?_eq_getElem (show j < (xs.getD i Nd.none).cells.length from hj)] at h1 ⊢
    have h2 := hcell _ _ h1
    rw [show off + i * 15 + j = off + (i * 15 + j) by omega]
    exact (hB0.cell (p := ⟨b, off + (i * 15 + j), none⟩) hbw).trans h2)
  have hys2 : xs.length ≤ 20003 ∧ ∀ i, i < xs.length → 0 ≤ (xs.getD i Nd.none).kids ∧ (xs.getD i Nd.none).kids ≤ 20003 := ⟨AOK.out.len, AOK.out.weak⟩
  refine wpIn_rangeFunc_ownF (F := Fence.wide) (n := 5) rfl (by omega) (gf := 51) (lb := #[.pointer (some ⟨Bs, 0, none⟩)]) rfl trivial (enters_of Try.func51 (by kernel_rfl) rfl)
    (each_stops3 4 (by omega) xs ao Bs b off cap hys2.1 hys2.2 W0 HSR.out) (fun h1 h2 h => h2 (h1 h)) ?keepb (Below.refl _ _) (fun _ => rfl)
    (fun pre W => (Boxed W w.heap.size 28 (.slice ao n cap) ∧ ∃ u, Boxed W (w.heap.size + 1 + 1) 78 u ∧ W.ownsRow w.heap.size 93 3 u pre.length (flatI (pre.map (fun x => itAt xs x.1.1))) ∧ (∀ g, u.ownBlock = some g → g ≠ w.heap.size ∧ g ≠ Bs) ∧ Bs < W.heap.size) ∧ Below w.heap.size w W)
    (fun _ _ _ => False) ?ownI (fun _ _ _ _ _ hs _ _ => hs) ?start ?a1z ?assign ?body ?done ?stop
  case assign =>
    intro l x W K hK
    simp [Item.encs]
    gi_wp2
    exact hK
  case start =>
    refine ⟨⟨hI0, _, hI2, hOW, ?_, by omega⟩, hB0⟩
    intro g hg
    simp [Value.ownBlock] at hg
    omega
  case keepb =>
    intro W l o o' hl hlo hoc _ hsrc
    exact hsrc.kept (grownBy_putObj' W l o') (fun r e => by cases e; exact ⟨o, hlo, hoc⟩)
  case ownI =>
    refine OwnFrom.and (Own.from ?_ _) (ownFrom_below (Nat.le_refl _) (by omega))
    rintro s A B row ⟨h1, u, h2, h3, h5, h6⟩ hg hr
    exact ⟨boxed_kept h1 hg hr, u, boxed_kept h2 hg hr, ownG_kept h3 hg hr, h5, Nat.lt_of_lt_of_le h6 hg.size⟩
  case stop =>
    rintro D c pre W _ _ h _
    exact h.elim
  case done =>
    rintro D its' W hD hst ⟨⟨h1, u, h2, h3, h5, _⟩, hB⟩ hK
    have hc2 := h2.cell
    have HF : Hid (its'.length = (its xs).length ∧ its'.map (fun x => itAt xs x.1.1) = its xs) := hideP (by
      have e : its'.map (fun x => itAt xs x.1.1) = its xs := by
        unfold its
        rw [← hst, List.map_map]
        rfl
      exact ⟨by rw [← e, List.length_map], e⟩)
    have H3 := hideP h3
    have HBB := hideP hB
    clear h3 hB
    gi_wp2
    refine ⟨by simp, .inl ⟨_, _, rfl, run_takeDeferred hK, ?_⟩⟩
    refine ⟨_, results_tmp rfl _ _ _, ⟨u, rfl, ?_⟩, HBB.out.trans (belowK_b (w := w) (Nat.le_refl _) W D _ _ (by omega) hK rfl rfl)⟩
    rw [← HF.out.1, ← HF.out.2]
    exact ownsRow_putObj H3.out (.deferred none) hK rfl
  case body =>
    rintro l pre x W ⟨⟨hbx, u, hbu, how, hne, hbsW⟩, hB⟩ hpl
    have hat := x.2.1
    obtain ⟨y, hy, hyq⟩ := x.2.2
    have hvt : x.1.2 = thV (xs.getD x.1.1 Nd.none) := by rw [hyq.2.2, hy.1]
    obtain ⟨at_, ha⟩ : ∃ a, x.1.1 = a := ⟨_, rfl⟩
    obtain ⟨vt, hv⟩ : ∃ v, x.1.2 = v := ⟨_, rfl⟩
    rw [hv, ha] at hvt
    rw [ha] at hat
    rw [ha, hv]
    have HA : Hid ((pre ++ [x]).map (fun x => itAt xs x.1.1) = pre.map (fun x => itAt xs x.1.1) ++ [itAt xs at_]) := hideP (by rw [List.map_append, List.map_singleton, ha])
    clear ha hv hy hyq
    have hatn : at_ < n := by rw [← HL.out]; exact hat
    obtain ⟨rfl, hbw, hcell⟩ := HBO.out (by omega)
    have hkk := AOK.out.kids at_ hat
    have hn20 : n ≤ 20003 := by rw [← HL.out]; exact AOK.out.len
    rw [HL.out] at hkk
    obtain ⟨kids, hkd⟩ : ∃ z, z = (xs.getD at_ Nd.none).kids := ⟨_, rfl⟩
    rw [← hkd] at hkk
    obtain ⟨kn, rfl⟩ : ∃ kn : Nat, kids = (kn : Int) := ⟨kids.toNat, by omega⟩
    have hsum : at_ + 1 + kn ≤ n := by omega
    have HIT : Hid (itAt xs at_ = (xs.getD at_ Nd.none, (at_ : Int), (at_ : Int) + 1 + (kn : Int)) ∧ vt = thV (xs.getD at_ Nd.none)) := hideP ⟨by unfold itAt; rw [← hkd], hvt⟩
    have g14 : W.cell? ⟨b, off + at_ * 15 + 14, none⟩ = some (.int .i64 (kn : Int)) := by
      have h1 := flatN_at xs at_ hat 14 (by omega) (u := .int .i64 (xs.getD at_ Nd.none).kids) rfl
      rw [← hkd] at h1
      have h2 := hcell _ _ h1
      rw [show off + at_ * 15 + 14 = off + (at_ * 15 + 14) by omega]
      exact (hB.cell (p := ⟨b, off + (at_ * 15 + 14), none⟩) hbw).trans h2
    obtain ⟨ua, uc, rfl⟩ := ownG_shape how
    have hbxc := hbx.cell
    have hbuc := hbu.cell
    have hbuf := hbu.frozen
    have hpn : pre.length ≤ 20004 := by have := HL.out; omega
    have HRO : Hid (Boxed W w.heap.size 28 (.slice (some ⟨b, off, none⟩) n cap) ∧ Boxed W (w.heap.size + 1 + 1) 78 (.slice ua pre.length uc) ∧ W.ownsRow w.heap.size 93 3 (.slice ua pre.length uc) pre.length (flatI (pre.map (fun x => itAt xs x.1.1))) ∧ (∀ g, (Value.slice ua pre.length uc).ownBlock = some g → g ≠ w.heap.size ∧ g ≠ Bs) ∧ Bs < W.heap.size ∧ Below w.heap.size w W) := hideP ⟨hbx, hbu, how, hne, hbsW, hB⟩
    have hone : vt.oneCell' = true := by
      rw [hvt]
      rcases thV_shape (xs.getD at_ Nd.none) with h | ⟨X, q, h⟩ <;> rw [h] <;> rfl
    have hsh := thV_shape (xs.getD at_ Nd.none)
    rw [← hvt] at hsh
    clear hkk hkd hcell hbx hbu how hne hB hvt
    rcases hsh with rfl | ⟨X, q, rfl⟩
    · gi_wp2_with fail
      refine region_heldR (S := fun X => X.cell? ⟨w.heap.size, 0, none⟩ = some (.slice (some ⟨b, off, none⟩) n cap) ∧ X.cell? ⟨b, off + at_ * 15 + 14, none⟩ = some (.int .i64 (kn : Int))) (by kernel_rfl) (plain_spec (by kernel_rfl)) (by rintro ⟨a, w, h⟩; exact h) ?_
      have hS : W.drew.cell? ⟨w.heap.size, 0, none⟩ = some (.slice (some ⟨b, off, none⟩) n cap) ∧ W.drew.cell? ⟨b, off + at_ * 15 + 14, none⟩ = some (.int .i64 (kn : Int)) := ⟨hbxc, g14⟩
      refine wpAnyH_take (i := 1) (v := .nilIface) rfl (by kernel_rfl) (by kernel_rfl) (by kernel_rfl) (fun _ _ _ h => h) (Or.inl ⟨by first | rfl | go_simp, fun wx hx => by obtain ⟨hx1, hx2⟩ := hx; go_simp⟩) hS ?_
      try simp only [Act.put, List.getElem_toArray, List.getElem_cons_zero, List.getElem_cons_succ, List.setIfInBounds_toArray, List.set_cons_zero, List.set_cons_succ]
      refine wpAnyH_take (i := 2) (v := .int .i64 (at_ : Int)) rfl (by kernel_rfl) (by kernel_rfl) (by kernel_rfl) (fun _ _ _ h => h) (Or.inl ⟨by first | rfl | go_simp, fun wx hx => by obtain ⟨hx1, hx2⟩ := hx; go_simp⟩) hS ?_
      try simp only [Act.put, List.getElem_toArray, List.getElem_cons_zero, List.getElem_cons_succ, List.setIfInBounds_toArray, List.set_cons_zero, List.set_cons_succ]
      refine wpAnyH_take (i := 3) (v := .int .i64 (at_ : Int)) rfl (by kernel_rfl) (by kernel_rfl) (by kernel_rfl) (fun _ _ _ h => h) (Or.inl ⟨by first | rfl | go_simp, fun wx hx => by obtain ⟨hx1, hx2⟩ := hx; go_simp⟩) hS ?_
      try simp only [Act.put, List.getElem_toArray, List.getElem_cons_zero, List.getElem_cons_succ, List.setIfInBounds_toArray, List.set_cons_zero, List.set_cons_succ]
      refine wpAnyH_take (i := 4) (v := .int .i64 ((at_ : Int) + 1)) rfl (by kernel_rfl) (by kernel_rfl) (by kernel_rfl) (fun _ _ _ h => h) (Or.inl ⟨by first | rfl | go_simp, fun wx hx => by obtain ⟨hx1, hx2⟩ := hx; go_simp; first | (go_num; done) | (go_bits; done) | (go_bits; trivial)⟩) hS ?_
      try simp only [Act.put, List.getElem_toArray, List.getElem_cons_zero, List.getElem_cons_succ, List.setIfInBounds_toArray, List.set_cons_zero, List.set_cons_succ]
      refine wpAnyH_take (i := 5) (v := .slice (some ⟨b, off, none⟩) n cap) rfl (by kernel_rfl) (by kernel_rfl) (by kernel_rfl) (fun _ _ _ h => h) (Or.inl ⟨by first | rfl | go_simp, fun wx hx => by obtain ⟨hx1, hx2⟩ := hx; go_simp⟩) hS ?_
      try simp only [Act.put, List.getElem_toArray, List.getElem_cons_zero, List.getElem_cons_succ, List.setIfInBounds_toArray, List.set_cons_zero, List.set_cons_succ]
      refine wpAnyH_take (i := 6) (v := .int .i64 (at_ : Int)) rfl (by kernel_rfl) (by kernel_rfl) (by kernel_rfl) (fun _ _ _ h => h) (Or.inl ⟨by first | rfl | go_simp, fun wx hx => by obtain ⟨hx1, hx2⟩ := hx; go_simp⟩) hS ?_
      try simp only [Act.put, List.getElem_toArray, List.getElem_cons_zero, List.getElem_cons_succ, List.setIfInBounds_toArray, List.set_cons_zero, List.set_cons_succ]
      refine wpAnyH_take (i := 7) (v := .pointer (some ⟨b, off + at_ * 15, none⟩)) rfl (by kernel_rfl) (by kernel_rfl) (by kernel_rfl) (fun _ _ _ h => h) (Or.inl ⟨by first | rfl | go_simp, fun wx hx => by obtain ⟨hx1, hx2⟩ := hx; go_simp⟩) hS ?_
      try simp only [Act.put, List.getElem_toArray, List.getElem_cons_zero, List.getElem_cons_succ, List.setIfInBounds_toArray, List.set_cons_zero, List.set_cons_succ]
      refine wpAnyH_take (i := 8) (v := .pointer (some ⟨b, off + at_ * 15 + 14, none⟩)) rfl (by kernel_rfl) (by kernel_rfl) (by kernel_rfl) (fun _ _ _ h => h) (Or.inl ⟨by first | rfl | go_simp, fun wx hx => by obtain ⟨hx1, hx2⟩ := hx; go_simp⟩) hS ?_
      try simp only [Act.put, List.getElem_toArray, List.getElem_cons_zero, List.getElem_cons_succ, List.setIfInBounds_toArray, List.set_cons_zero, List.set_cons_succ]
      refine wpAnyH_take (i := 9) (v := .int .i64 (kn : Int)) rfl (by kernel_rfl) (by kernel_rfl) (by kernel_rfl) (fun _ _ _ h => h) (Or.inl ⟨by first | rfl | go_simp, fun wx hx => by obtain ⟨hx1, hx2⟩ := hx; go_simp⟩) hS ?_
      try simp only [Act.put, List.getElem_toArray, List.getElem_cons_zero, List.getElem_cons_succ, List.setIfInBounds_toArray, List.set_cons_zero, List.set_cons_succ]
      refine wpAnyH_take (i := 10) (v := .int .i64 ((at_ : Int) + 1 + (kn : Int))) rfl (by kernel_rfl) (by kernel_rfl) (by kernel_rfl) (fun _ _ _ h => h) (Or.inl ⟨by first | rfl | go_simp, fun wx hx => by obtain ⟨hx1, hx2⟩ := hx; go_simp; first | (go_num; done) | (go_bits; done) | (go_bits; trivial)⟩) hS ?_
      try simp only [Act.put, List.getElem_toArray, List.getElem_cons_zero, List.getElem_cons_succ, List.setIfInBounds_toArray, List.set_cons_zero, List.set_cons_succ]
      refine wpAnyH_take (i := 11) (v := .agg #[.nilIface, .int .i64 (at_ : Int), .int .i64 ((at_ : Int) + 1 + (kn : Int))]) rfl (by kernel_rfl) (by kernel_rfl) (by kernel_rfl) (fun _ _ _ h => h) (Or.inl ⟨by first | rfl | go_simp, fun wx hx => by obtain ⟨hx1, hx2⟩ := hx; go_simp⟩) hS ?_
      try simp only [Act.put, List.getElem_toArray, List.getElem_cons_zero, List.getElem_cons_succ, List.setIfInBounds_toArray, List.set_cons_zero, List.set_cons_succ]
      obtain ⟨i0, hi0, hz0, hz1, hz2⟩ := info_parts Try.info141i
      have hwW : w.heap.size < W.heap.size := HRO.out.1.lt
      have hbW : b < W.heap.size := by omega
      have S4 : (W.alloc (.cells #[.nilIface, .int .i64 (at_ : Int), .int .i64 ((at_ : Int) + 1 + (kn : Int))] 93)).drew.cell? ⟨w.heap.size, 0, none⟩ = some (.slice (some ⟨b, off, none⟩) n cap) ∧ (W.alloc (.cells #[.nilIface, .int .i64 (at_ : Int), .int .i64 ((at_ : Int) + 1 + (kn : Int))] 93)).drew.cell? ⟨b, off + at_ * 15 + 14, none⟩ = some (.int .i64 (kn : Int)) := ⟨((below1 W _).cell (p := ⟨w.heap.size, 0, none⟩) hwW).trans hS.1, ((below1 W _).cell (p := ⟨b, off + at_ * 15 + 14, none⟩) hbW).trans hS.2⟩
      have U4 : Boxed (W.alloc (.cells #[.nilIface, .int .i64 (at_ : Int), .int .i64 ((at_ : Int) + 1 + (kn : Int))] 93)).drew (w.heap.size + 1 + 1) 78 (.slice ua pre.length uc) := Boxed.alloc HRO.out.2.1 _
      have hcu4 := U4.cell
      clear U4
      refine wpAnyH_ready (rs := [0, 12]) (by kernel_rfl) (by simp) ?_
      refine AllReadyH.cons rfl (fun K hK => ?_) (AllReadyH.cons rfl (fun K hK => ?_) AllReadyH.nil)
      · rw [if_pos (by first | rfl | go_simp)]
        have hcu := hbuc
        go_simp
        refine hK.out _ _ hS (fun _ => ?_)
        try simp only [Act.put, List.getElem_toArray, List.getElem_cons_zero, List.getElem_cons_succ, List.setIfInBounds_toArray, List.set_cons_zero, List.set_cons_succ]
        clear hK K
        refine wpAnyH_ready (rs := [12]) (by kernel_rfl) (by simp) ?_
        refine AllReadyH.cons rfl (fun K hK => ?_) AllReadyH.nil
        rw [if_pos (by first | rfl | go_simp)]
        go_simp
        refine hK.out _ _ S4 (fun _ => ?_)
        try simp only [Act.put, List.getElem_toArray, List.getElem_cons_zero, List.getElem_cons_succ, List.setIfInBounds_toArray, List.set_cons_zero, List.set_cons_succ]
        clear hK K
        refine wpAnyH_ready (rs := [13]) (by kernel_rfl) (by simp) ?_
        refine AllReadyH.cons rfl (fun K hK => ?_) AllReadyH.nil
        rw [if_pos (by first | rfl | go_simp)]
        refine wp_append_at _ _ 78 rfl w.heap.size 93 i0 (.agg #[.nilIface, .int .i64 0, .int .i64 0]) 3 32 Try.underlying78 hi0 hz0 hz1 hz2 rfl (by decide) (.slice ua pre.length uc) pre.length _ rfl (show ((W.alloc (.cells #[.nilIface, .int .i64 (at_ : Int), .int .i64 ((at_ : Int) + 1 + (kn : Int))] 93)).drew).ownsRow _ _ _ _ _ _ from World.ownsRow.alloc HRO.out.2.2.1 _) ⟨W.heap.size, 0, none⟩ 1 1 [.nilIface, .int .i64 (at_ : Int), .int .i64 ((at_ : Int) + 1 + (kn : Int))] rfl rfl (fun j u hj => cell_three_new W _ _ _ _ j u hj) (by intro z hz; simp at hz; rcases hz with rfl | rfl | rfl; exact hone; rfl; rfl) (by unfold maxLen; omega) (by omega) (by simp; omega) ?_
        intro v5 w5 ho5 hg5 hnil5 hat5
        obtain ⟨g5, c5, rfl⟩ := ownsRow_succ ho5
        obtain ⟨d1, d2, d3, d4, d5, d6, d7, d8, d9⟩ := itf_done (xs := xs) (ao := some ⟨b, off, none⟩) (Bs := Bs) (b := b) (off := off) (cap := cap) HRO.out.1 HRO.out.2.1 HRO.out.2.2.1 HRO.out.2.2.2.1 HRO.out.2.2.2.2.2 HRO.out.2.2.2.2.1 (by omega) hws (fun _ => hbw) (by omega) ho5 hg5 hat5
        have hcu5 := d9.cell
        have hfu5 := d9.frozen
        have S5 : w5.cell? ⟨w.heap.size, 0, none⟩ = some (.slice (some ⟨b, off, none⟩) n cap) ∧ w5.cell? ⟨b, off + at_ * 15 + 14, none⟩ = some (.int .i64 (kn : Int)) := by
          have e1 : ∀ p : Addr, p.block ≠ w.heap.size + 1 + 1 → (w5.setCell ⟨w.heap.size + 1 + 1, 0, none⟩ (.slice (some ⟨g5, 0, none⟩) (pre.length + 1) c5)).cell? p = w5.cell? p := fun p hp => World.cell?_setCell_far _ _ _ _ (Ne.symm hp)
          refine ⟨?_, ?_⟩
          · rw [← e1 _ (by simp; omega)]
            exact d3.cell
          · rw [← e1 _ (by simp; omega)]
            exact (d8.cell (p := ⟨b, off + at_ * 15 + 14, none⟩) hbw).trans ((HRO.out.2.2.2.2.2.cell (p := ⟨b, off + at_ * 15 + 14, none⟩) hbw).symm.trans g14)
        have S6 : (w5.setCell ⟨w.heap.size + 1 + 1, 0, none⟩ (.slice (some ⟨g5, 0, none⟩) (pre.length + 1) c5)).cell? ⟨w.heap.size, 0, none⟩ = some (.slice (some ⟨b, off, none⟩) n cap) ∧ (w5.setCell ⟨w.heap.size + 1 + 1, 0, none⟩ (.slice (some ⟨g5, 0, none⟩) (pre.length + 1) c5)).cell? ⟨b, off + at_ * 15 + 14, none⟩ = some (.int .i64 (kn : Int)) := ⟨d3.cell, (d8.cell (p := ⟨b, off + at_ * 15 + 14, none⟩) hbw).trans ((HRO.out.2.2.2.2.2.cell (p := ⟨b, off + at_ * 15 + 14, none⟩) hbw).symm.trans g14)⟩
        have HD := hideP d1
        have D2 := hideP d2
        have D3 := hideP d3
        have D4 := hideP d4
        have D5 := hideP d5
        have D6 := hideP d6
        have D7 := hideP d7
        have D8 := hideP d8
        clear d1 d2 d3 d4 d5 d6 d7 d8 d9 ho5 hg5 hat5 hnil5
        refine hK.out _ _ S5 (fun _ => ?_)
        try simp only [Act.put, List.getElem_toArray, List.getElem_cons_zero, List.getElem_cons_succ, List.setIfInBounds_toArray, List.set_cons_zero, List.set_cons_succ]
        clear hK K
        refine wpAnyH_ready (rs := [14]) (by kernel_rfl) (by simp) ?_
        refine AllReadyH.cons rfl (fun K hK => ?_) AllReadyH.nil
        rw [if_pos (by first | rfl | go_simp)]
        go_simp
        refine hK.out _ _ S6 (fun _ => ?_)
        try simp only [Act.put, List.getElem_toArray, List.getElem_cons_zero, List.getElem_cons_succ, List.setIfInBounds_toArray, List.set_cons_zero, List.set_cons_succ]
        clear hK K
        refine wpAnyH_done (by kernel_rfl) ?_ _
        gi_wp2
        refine ⟨HD.out, D2.out, ⟨D3.out, _, D4.out, ?_, D6.out, D7.out⟩, D8.out⟩
        rw [List.length_append, List.length_singleton, HA.out, flatI_snoc, HIT.out.1, ← HIT.out.2]
        exact D5.out
      · rw [if_pos (by first | rfl | go_simp)]
        go_simp
        refine hK.out _ _ S4 (fun _ => ?_)
        try simp only [Act.put, List.getElem_toArray, List.getElem_cons_zero, List.getElem_cons_succ, List.setIfInBounds_toArray, List.set_cons_zero, List.set_cons_succ]
        clear hK K
        refine wpAnyH_ready (rs := [0]) (by kernel_rfl) (by simp) ?_
        refine AllReadyH.cons rfl (fun K hK => ?_) AllReadyH.nil
        rw [if_pos (by first | rfl | go_simp)]
        go_simp
        refine hK.out _ _ S4 (fun _ => ?_)
        try simp only [Act.put, List.getElem_toArray, List.getElem_cons_zero, List.getElem_cons_succ, List.setIfInBounds_toArray, List.set_cons_zero, List.set_cons_succ]
        clear hK K
        refine wpAnyH_ready (rs := [13]) (by kernel_rfl) (by simp) ?_
        refine AllReadyH.cons rfl (fun K hK => ?_) AllReadyH.nil
        rw [if_pos (by first | rfl | go_simp)]
        refine wp_append_at _ _ 78 rfl w.heap.size 93 i0 (.agg #[.nilIface, .int .i64 0, .int .i64 0]) 3 32 Try.underlying78 hi0 hz0 hz1 hz2 rfl (by decide) (.slice ua pre.length uc) pre.length _ rfl (show ((W.alloc (.cells #[.nilIface, .int .i64 (at_ : Int), .int .i64 ((at_ : Int) + 1 + (kn : Int))] 93)).drew).ownsRow _ _ _ _ _ _ from World.ownsRow.alloc HRO.out.2.2.1 _) ⟨W.heap.size, 0, none⟩ 1 1 [.nilIface, .int .i64 (at_ : Int), .int .i64 ((at_ : Int) + 1 + (kn : Int))] rfl rfl (fun j u hj => cell_three_new W _ _ _ _ j u hj) (by intro z hz; simp at hz; rcases hz with rfl | rfl | rfl; exact hone; rfl; rfl) (by unfold maxLen; omega) (by omega) (by simp; omega) ?_
        intro v5 w5 ho5 hg5 hnil5 hat5
        obtain ⟨g5, c5, rfl⟩ := ownsRow_succ ho5
        obtain ⟨d1, d2, d3, d4, d5, d6, d7, d8, d9⟩ := itf_done (xs := xs) (ao := some ⟨b, off, none⟩) (Bs := Bs) (b := b) (off := off) (cap := cap) HRO.out.1 HRO.out.2.1 HRO.out.2.2.1 HRO.out.2.2.2.1 HRO.out.2.2.2.2.2 HRO.out.2.2.2.2.1 (by omega) hws (fun _ => hbw) (by omega) ho5 hg5 hat5
        have hcu5 := d9.cell
        have hfu5 := d9.frozen
        have S5 : w5.cell? ⟨w.heap.size, 0, none⟩ = some (.slice (some ⟨b, off, none⟩) n cap) ∧ w5.cell? ⟨b, off + at_ * 15 + 14, none⟩ = some (.int .i64 (kn : Int)) := by
          have e1 : ∀ p : Addr, p.block ≠ w.heap.size + 1 + 1 → (w5.setCell ⟨w.heap.size + 1 + 1, 0, none⟩ (.slice (some ⟨g5, 0, none⟩) (pre.length + 1) c5)).cell? p = w5.cell? p := fun p hp => World.cell?_setCell_far _ _ _ _ (Ne.symm hp)
          refine ⟨?_, ?_⟩
          · rw [← e1 _ (by simp; omega)]
            exact d3.cell
          · rw [← e1 _ (by simp; omega)]
            exact (d8.cell (p := ⟨b, off + at_ * 15 + 14, none⟩) hbw).trans ((HRO.out.2.2.2.2.2.cell (p := ⟨b, off + at_ * 15 + 14, none⟩) hbw).symm.trans g14)
        have S6 : (w5.setCell ⟨w.heap.size + 1 + 1, 0, none⟩ (.slice (some ⟨g5, 0, none⟩) (pre.length + 1) c5)).cell? ⟨w.heap.size, 0, none⟩ = some (.slice (some ⟨b, off, none⟩) n cap) ∧ (w5.setCell ⟨w.heap.size + 1 + 1, 0, none⟩ (.slice (some ⟨g5, 0, none⟩) (pre.length + 1) c5)).cell? ⟨b, off + at_ * 15 + 14, none⟩ = some (.int .i64 (kn : Int)) := ⟨d3.cell, (d8.cell (p := ⟨b, off + at_ * 15 + 14, none⟩) hbw).trans ((HRO.out.2.2.2.2.2.cell (p := ⟨b, off + at_ * 15 + 14, none⟩) hbw).symm.trans g14)⟩
        have HD := hideP d1
        have D2 := hideP d2
        have D3 := hideP d3
        have D4 := hideP d4
        have D5 := hideP d5
        have D6 := hideP d6
        have D7 := hideP d7
        have D8 := hideP d8
        clear d1 d2 d3 d4 d5 d6 d7 d8 d9 ho5 hg5 hat5 hnil5
        refine hK.out _ _ S5 (fun _ => ?_)
        try simp only [Act.put, List.getElem_toArray, List.getElem_cons_zero, List.getElem_cons_succ, List.setIfInBounds_toArray, List.set_cons_zero, List.set_cons_succ]
        clear hK K
        refine wpAnyH_ready (rs := [14]) (by kernel_rfl) (by simp) ?_
        refine AllReadyH.cons rfl (fun K hK => ?_) AllReadyH.nil
        rw [if_pos (by first | rfl | go_simp)]
        go_simp
        refine hK.out _ _ S6 (fun _ => ?_)
        try simp only [Act.put, List.getElem_toArray, List.getElem_cons_zero, List.getElem_cons_succ, List.setIfInBounds_toArray, List.set_cons_zero, List.set_cons_succ]
        clear hK K
        refine wpAnyH_done (by kernel_rfl) ?_ _
        gi_wp2
        refine ⟨HD.out, D2.out, ⟨D3.out, _, D4.out, ?_, D6.out, D7.out⟩, D8.out⟩
        rw [List.length_append, List.length_singleton, HA.out, flatI_snoc, HIT.out.1, ← HIT.out.2]
        exact D5.out
    · gi_wp2_with fail
      refine region_heldR (S := fun X => X.cell? ⟨w.heap.size, 0, none⟩ = some (.slice (some ⟨b, off, none⟩) n cap) ∧ X.cell? ⟨b, off + at_ * 15 + 14, none⟩ = some (.int .i64 (kn : Int))) (by kernel_rfl) (plain_spec (by kernel_rfl)) (by rintro ⟨a, w, h⟩; exact h) ?_
      have hS : W.drew.cell? ⟨w.heap.size, 0, none⟩ = some (.slice (some ⟨b, off, none⟩) n cap) ∧ W.drew.cell? ⟨b, off + at_ * 15 + 14, none⟩ = some (.int .i64 (kn : Int)) := ⟨hbxc, g14⟩
      refine wpAnyH_take (i := 1) (v := (.iface X q)) rfl (by kernel_rfl) (by kernel_rfl) (by kernel_rfl) (fun _ _ _ h => h) (Or.inl ⟨by first | rfl | go_simp, fun wx hx => by obtain ⟨hx1, hx2⟩ := hx; go_simp⟩) hS ?_
      try simp only [Act.put, List.getElem_toArray, List.getElem_cons_zero, List.getElem_cons_succ, List.setIfInBounds_toArray, List.set_cons_zero, List.set_cons_succ]
      refine wpAnyH_take (i := 2) (v := .int .i64 (at_ : Int)) rfl (by kernel_rfl) (by kernel_rfl) (by kernel_rfl) (fun _ _ _ h => h) (Or.inl ⟨by first | rfl | go_simp, fun wx hx => by obtain ⟨hx1, hx2⟩ := hx; go_simp⟩) hS ?_
      try simp only [Act.put, List.getElem_toArray, List.getElem_cons_zero, List.getElem_cons_succ, List.setIfInBounds_toArray, List.set_cons_zero, List.set_cons_succ]
      refine wpAnyH_take (i := 3) (v := .int .i64 (at_ : Int)) rfl (by kernel_rfl) (by kernel_rfl) (by kernel_rfl) (fun _ _ _ h => h) (Or.inl ⟨by first | rfl | go_simp, fun wx hx => by obtain ⟨hx1, hx2⟩ := hx; go_simp⟩) hS ?_
      try simp only [Act.put, List.getElem_toArray, List.getElem_cons_zero, List.getElem_cons_succ, List.setIfInBounds_toArray, List.set_cons_zero, List.set_cons_succ]
      refine wpAnyH_take (i := 4) (v := .int .i64 ((at_ : Int) + 1)) rfl (by kernel_rfl) (by kernel_rfl) (by kernel_rfl) (fun _ _ _ h => h) (Or.inl ⟨by first | rfl | go_simp, fun wx hx => by obtain ⟨hx1, hx2⟩ := hx; go_simp; first | (go_num; done) | (go_bits; done) | (go_bits; trivial)⟩) hS ?_
      try simp only [Act.put, List.getElem_toArray, List.getElem_cons_zero, List.getElem_cons_succ, List.setIfInBounds_toArray, List.set_cons_zero, List.set_cons_succ]
      refine wpAnyH_take (i := 5) (v := .slice (some ⟨b, off, none⟩) n cap) rfl (by kernel_rfl) (by kernel_rfl) (by kernel_rfl) (fun _ _ _ h => h) (Or.inl ⟨by first | rfl | go_simp, fun wx hx => by obtain ⟨hx1, hx2⟩ := hx; go_simp⟩) hS ?_
      try simp only [Act.put, List.getElem_toArray, List.getElem_cons_zero, List.getElem_cons_succ, List.setIfInBounds_toArray, List.set_cons_zero, List.set_cons_succ]
      refine wpAnyH_take (i := 6) (v := .int .i64 (at_ : Int)) rfl (by kernel_rfl) (by kernel_rfl) (by kernel_rfl) (fun _ _ _ h => h) (Or.inl ⟨by first | rfl | go_simp, fun wx hx => by obtain ⟨hx1, hx2⟩ := hx; go_simp⟩) hS ?_
      try simp only [Act.put, List.getElem_toArray, List.getElem_cons_zero, List.getElem_cons_succ, List.setIfInBounds_toArray, List.set_cons_zero, List.set_cons_succ]
      refine wpAnyH_take (i := 7) (v := .pointer (some ⟨b, off + at_ * 15, none⟩)) rfl (by kernel_rfl) (by kernel_rfl) (by kernel_rfl) (fun _ _ _ h => h) (Or.inl ⟨by first | rfl | go_simp, fun wx hx => by obtain ⟨hx1, hx2⟩ := hx; go_simp⟩) hS ?_
      try simp only [Act.put, List.getElem_toArray, List.getElem_cons_zero, List.getElem_cons_succ, List.setIfInBounds_toArray, List.set_cons_zero, List.set_cons_succ]
      refine wpAnyH_take (i := 8) (v := .pointer (some ⟨b, off + at_ * 15 + 14, none⟩)) rfl (by kernel_rfl) (by kernel_rfl) (by kernel_rfl) (fun _ _ _ h => h) (Or.inl ⟨by first | rfl | go_simp, fun wx hx => by obtain ⟨hx1, hx2⟩ := hx; go_simp⟩) hS ?_
      try simp only [Act.put, List.getElem_toArray, List.getElem_cons_zero, List.getElem_cons_succ, List.setIfInBounds_toArray, List.set_cons_zero, List.set_cons_succ]
      refine wpAnyH_take (i := 9) (v := .int .i64 (kn : Int)) rfl (by kernel_rfl) (by kernel_rfl) (by kernel_rfl) (fun _ _ _ h => h) (Or.inl ⟨by first | rfl | go_simp, fun wx hx => by obtain ⟨hx1, hx2⟩ := hx; go_simp⟩) hS ?_
      try simp only [Act.put, List.getElem_toArray, List.getElem_cons_zero, List.getElem_cons_succ, List.setIfInBounds_toArray, List.set_cons_zero, List.set_cons_succ]
      refine wpAnyH_take (i := 10) (v := .int .i64 ((at_ : Int) + 1 + (kn : Int))) rfl (by kernel_rfl) (by kernel_rfl) (by kernel_rfl) (fun _ _ _ h => h) (Or.inl ⟨by first | rfl | go_simp, fun wx hx => by obtain ⟨hx1, hx2⟩ := hx; go_simp; first | (go_num; done) | (go_bits; done) | (go_bits; trivial)⟩) hS ?_
      try simp only [Act.put, List.getElem_toArray, List.getElem_cons_zero, List.getElem_cons_succ, List.setIfInBounds_toArray, List.set_cons_zero, List.set_cons_succ]
      refine wpAnyH_take (i := 11) (v := .agg #[(.iface X q), .int .i64 (at_ : Int), .int .i64 ((at_ : Int) + 1 + (kn : Int))]) rfl (by kernel_rfl) (by kernel_rfl) (by kernel_rfl) (fun _ _ _ h => h) (Or.inl ⟨by first | rfl | go_simp, fun wx hx => by obtain ⟨hx1, hx2⟩ := hx; go_simp⟩) hS ?_
      try simp only [Act.put, List.getElem_toArray, List.getElem_cons_zero, List.getElem_cons_succ, List.setIfInBounds_toArray, List.set_cons_zero, List.set_cons_succ]
      obtain ⟨i0, hi0, hz0, hz1, hz2⟩ := info_parts Try.info141i
      have hwW : w.heap.size < W.heap.size := HRO.out.1.lt
      have hbW : b < W.heap.size := by omega
      have S4 : (W.alloc (.cells #[(.iface X q), .int .i64 (at_ : Int), .int .i64 ((at_ : Int) + 1 + (kn : Int))] 93)).drew.cell? ⟨w.heap.size, 0, none⟩ = some (.slice (some ⟨b, off, none⟩) n cap) ∧ (W.alloc (.cells #[(.iface X q), .int .i64 (at_ : Int), .int .i64 ((at_ : Int) + 1 + (kn : Int))] 93)).drew.cell? ⟨b, off + at_ * 15 + 14, none⟩ = some (.int .i64 (kn : Int)) := ⟨((below1 W _).cell (p := ⟨w.heap.size, 0, none⟩) hwW).trans hS.1, ((below1 W _).cell (p := ⟨b, off + at_ * 15 + 14, none⟩) hbW).trans hS.2⟩
      have U4 : Boxed (W.alloc (.cells #[(.iface X q), .int .i64 (at_ : Int), .int .i64 ((at_ : Int) + 1 + (kn : Int))] 93)).drew (w.heap.size + 1 + 1) 78 (.slice ua pre.length uc) := Boxed.alloc HRO.out.2.1 _
      have hcu4 := U4.cell
      clear U4
      refine wpAnyH_ready (rs := [0, 12]) (by kernel_rfl) (by simp) ?_
      refine AllReadyH.cons rfl (fun K hK => ?_) (AllReadyH.cons rfl (fun K hK => ?_) AllReadyH.nil)
      · rw [if_pos (by first | rfl | go_simp)]
        have hcu := hbuc
        go_simp
        refine hK.out _ _ hS (fun _ => ?_)
        try simp only [Act.put, List.getElem_toArray, List.getElem_cons_zero, List.getElem_cons_succ, List.setIfInBounds_toArray, List.set_cons_zero, List.set_cons_succ]
        clear hK K
        refine wpAnyH_ready (rs := [12]) (by kernel_rfl) (by simp) ?_
        refine AllReadyH.cons rfl (fun K hK => ?_) AllReadyH.nil
        rw [if_pos (by first | rfl | go_simp)]
        go_simp
        refine hK.out _ _ S4 (fun _ => ?_)
        try simp only [Act.put, List.getElem_toArray, List.getElem_cons_zero, List.getElem_cons_succ, List.setIfInBounds_toArray, List.set_cons_zero, List.set_cons_succ]
        clear hK K
        refine wpAnyH_ready (rs := [13]) (by kernel_rfl) (by simp) ?_
        refine AllReadyH.cons rfl (fun K hK => ?_) AllReadyH.nil
        rw [if_pos (by first | rfl | go_simp)]
        refine wp_append_at _ _ 78 rfl w.heap.size 93 i0 (.agg #[.nilIface, .int .i64 0, .int .i64 0]) 3 32 Try.underlying78 hi0 hz0 hz1 hz2 rfl (by decide) (.slice ua pre.length uc) pre.length _ rfl (show ((W.alloc (.cells #[(.iface X q), .int .i64 (at_ : Int), .int .i64 ((at_ : Int) + 1 + (kn : Int))] 93)).drew).ownsRow _ _ _ _ _ _ from World.ownsRow.alloc HRO.out.2.2.1 _) ⟨W.heap.size, 0, none⟩ 1 1 [(.iface X q), .int .i64 (at_ : Int), .int .i64 ((at_ : Int) + 1 + (kn : Int))] rfl rfl (fun j u hj => cell_three_new W _ _ _ _ j u hj) (by intro z hz; simp at hz; rcases hz with rfl | rfl | rfl; exact hone; rfl; rfl) (by unfold maxLen; omega) (by omega) (by simp; omega) ?_
        intro v5 w5 ho5 hg5 hnil5 hat5
        obtain ⟨g5, c5, rfl⟩ := ownsRow_succ ho5
        obtain ⟨d1, d2, d3, d4, d5, d6, d7, d8, d9⟩ := itf_done (xs := xs) (ao := some ⟨b, off, none⟩) (Bs := Bs) (b := b) (off := off) (cap := cap) HRO.out.1 HRO.out.2.1 HRO.out.2.2.1 HRO.out.2.2.2.1 HRO.out.2.2.2.2.2 HRO.out.2.2.2.2.1 (by omega) hws (fun _ => hbw) (by omega) ho5 hg5 hat5
        have hcu5 := d9.cell
        have hfu5 := d9.frozen
        have S5 : w5.cell? ⟨w.heap.size, 0, none⟩ = some (.slice (some ⟨b, off, none⟩) n cap) ∧ w5.cell? ⟨b, off + at_ * 15 + 14, none⟩ = some (.int .i64 (kn : Int)) := by
          have e1 : ∀ p : Addr, p.block ≠ w.heap.size + 1 + 1 → (w5.setCell ⟨w.heap.size + 1 + 1, 0, none⟩ (.slice (some ⟨g5, 0, none⟩) (pre.length + 1) c5)).cell? p = w5.cell? p := fun p hp => World.cell?_setCell_far _ _ _ _ (Ne.symm hp)
          refine ⟨?_, ?_⟩
          · rw [← e1 _ (by simp; omega)]
            exact d3.cell
          · rw [← e1 _ (by simp; omega)]
            exact (d8.cell (p := ⟨b, off + at_ * 15 + 14, none⟩) hbw).trans ((HRO.out.2.2.2.2.2.cell (p := ⟨b, off + at_ * 15 + 14, none⟩) hbw).symm.trans g14)
        have S6 : (w5.setCell ⟨w.heap.size + 1 + 1, 0, none⟩ (.slice (some ⟨g5, 0, none⟩) (pre.length + 1) c5)).cell? ⟨w.heap.size, 0, none⟩ = some (.slice (some ⟨b, off, none⟩) n cap) ∧ (w5.setCell ⟨w.heap.size + 1 + 1, 0, none⟩ (.slice (some ⟨g5, 0, none⟩) (pre.length + 1) c5)).cell? ⟨b, off + at_ * 15 + 14, none⟩ = some (.int .i64 (kn : Int)) := ⟨d3.cell, (d8.cell (p := ⟨b, off + at_ * 15 + 14, none⟩) hbw).trans ((HRO.out.2.2.2.2.2.cell (p := ⟨b, off + at_ * 15 + 14, none⟩) hbw).symm.trans g14)⟩
        have HD := hideP d1
        have D2 := hideP d2
        have D3 := hideP d3
        have D4 := hideP d4
        have D5 := hideP d5
        have D6 := hideP d6
        have D7 := hideP d7
        have D8 := hideP d8
        clear d1 d2 d3 d4 d5 d6 d7 d8 d9 ho5 hg5 hat5 hnil5
        refine hK.out _ _ S5 (fun _ => ?_)
        try simp only [Act.put, List.getElem_toArray, List.getElem_cons_zero, List.getElem_cons_succ, List.setIfInBounds_toArray, List.set_cons_zero, List.set_cons_succ]
        clear hK K
        refine wpAnyH_ready (rs := [14]) (by kernel_rfl) (by simp) ?_
        refine AllReadyH.cons rfl (fun K hK => ?_) AllReadyH.nil
        rw [if_pos (by first | rfl | go_simp)]
        go_simp
        refine hK.out _ _ S6 (fun _ => ?_)
        try simp only [Act.put, List.getElem_toArray, List.getElem_cons_zero, List.getElem_cons_succ, List.setIfInBounds_toArray, List.set_cons_zero, List.set_cons_succ]
        clear hK K
        refine wpAnyH_done (by kernel_rfl) ?_ _
        gi_wp2
        refine ⟨HD.out, D2.out, ⟨D3.out, _, D4.out, ?_, D6.out, D7.out⟩, D8.out⟩
        rw [List.length_append, List.length_singleton, HA.out, flatI_snoc, HIT.out.1, ← HIT.out.2]
        exact D5.out
      · rw [if_pos (by first | rfl | go_simp)]
        go_simp
        refine hK.out _ _ S4 (fun _ => ?_)
        try simp only [Act.put, List.getElem_toArray, List.getElem_cons_zero, List.getElem_cons_succ, List.setIfInBounds_toArray, List.set_cons_zero, List.set_cons_succ]
        clear hK K
        refine wpAnyH_ready (rs := [0]) (by kernel_rfl) (by simp) ?_
        refine AllReadyH.cons rfl (fun K hK => ?_) AllReadyH.nil
        rw [if_pos (by first | rfl | go_simp)]
        go_simp
        refine hK.out _ _ S4 (fun _ => ?_)
        try simp only [Act.put, List.getElem_toArray, List.getElem_cons_zero, List.getElem_cons_succ, List.setIfInBounds_toArray, List.set_cons_zero, List.set_cons_succ]
        clear hK K
        refine wpAnyH_ready (rs := [13]) (by kernel_rfl) (by simp) ?_
        refine AllReadyH.cons rfl (fun K hK => ?_) AllReadyH.nil
        rw [if_pos (by first | rfl | go_simp)]
        refine wp_append_at _ _ 78 rfl w.heap.size 93 i0 (.agg #[.nilIface, .int .i64 0, .int .i64 0]) 3 32 Try.underlying78 hi0 hz0 hz1 hz2 rfl (by decide) (.slice ua pre.length uc) pre.length _ rfl (show ((W.alloc (.cells #[(.iface X q), .int .i64 (at_ : Int), .int .i64 ((at_ : Int) + 1 + (kn : Int))] 93)).drew).ownsRow _ _ _ _ _ _ from World.ownsRow.alloc HRO.out.2.2.1 _) ⟨W.heap.size, 0, none⟩ 1 1 [(.iface X q), .int .i64 (at_ : Int), .int .i64 ((at_ : Int) + 1 + (kn : Int))] rfl rfl (fun j u hj => cell_three_new W _ _ _ _ j u hj) (by intro z hz; simp at hz; rcases hz with rfl | rfl | rfl; exact hone; rfl; rfl) (by unfold maxLen; omega) (by omega) (by simp; omega) ?_
        intro v5 w5 ho5 hg5 hnil5 hat5
        obtain ⟨g5, c5, rfl⟩ := ownsRow_succ ho5
        obtain ⟨d1, d2, d3, d4, d5, d6, d7, d8, d9⟩ := itf_done (xs := xs) (ao := some ⟨b, off, none⟩) (Bs := Bs) (b := b) (off := off) (cap := cap) HRO.out.1 HRO.out.2.1 HRO.out.2.2.1 HRO.out.2.2.2.1 HRO.out.2.2.2.2.2 HRO.out.2.2.2.2.1 (by omega) hws (fun _ => hbw) (by omega) ho5 hg5 hat5
        have hcu5 := d9.cell
        have hfu5 := d9.frozen
        have S5 : w5.cell? ⟨w.heap.size, 0, none⟩ = some (.slice (some ⟨b, off, none⟩) n cap) ∧ w5.cell? ⟨b, off + at_ * 15 + 14, none⟩ = some (.int .i64 (kn : Int)) := by
          have e1 : ∀ p : Addr, p.block ≠ w.heap.size + 1 + 1 → (w5.setCell ⟨w.heap.size + 1 + 1, 0, none⟩ (.slice (some ⟨g5, 0, none⟩) (pre.length + 1) c5)).cell? p = w5.cell? p := fun p hp => World.cell?_setCell_far _ _ _ _ (Ne.symm hp)
          refine ⟨?_, ?_⟩
          · rw [← e1 _ (by simp; omega)]
            exact d3.cell
          · rw [← e1 _ (by simp; omega)]
            exact (d8.cell (p := ⟨b, off + at_ * 15 + 14, none⟩) hbw).trans ((HRO.out.2.2.2.2.2.cell (p := ⟨b, off + at_ * 15 + 14, none⟩) hbw).symm.trans g14)
        have S6 : (w5.setCell ⟨w.heap.size + 1 + 1, 0, none⟩ (.slice (some ⟨g5, 0, none⟩) (pre.length + 1) c5)).cell? ⟨w.heap.size, 0, none⟩ = some (.slice (some ⟨b, off, none⟩) n cap) ∧ (w5.setCell ⟨w.heap.size + 1 + 1, 0, none⟩ (.slice (some ⟨g5, 0, none⟩) (pre.length + 1) c5)).cell? ⟨b, off + at_ * 15 + 14, none⟩ = some (.int .i64 (kn : Int)) := ⟨d3.cell, (d8.cell (p := ⟨b, off + at_ * 15 + 14, none⟩) hbw).trans ((HRO.out.2.2.2.2.2.cell (p := ⟨b, off + at_ * 15 + 14, none⟩) hbw).symm.trans g14)⟩
        have HD := hideP d1
        have D2 := hideP d2
        have D3 := hideP d3
        have D4 := hideP d4
        have D5 := hideP d5
        have D6 := hideP d6
        have D7 := hideP d7
        have D8 := hideP d8
        clear d1 d2 d3 d4 d5 d6 d7 d8 d9 ho5 hg5 hat5 hnil5
        refine hK.out _ _ S5 (fun _ => ?_)
        try simp only [Act.put, List.getElem_toArray, List.getElem_cons_zero, List.getElem_cons_succ, List.setIfInBounds_toArray, List.set_cons_zero, List.set_cons_succ]
        clear hK K
        refine wpAnyH_ready (rs := [14]) (by kernel_rfl) (by simp) ?_
        refine AllReadyH.cons rfl (fun K hK => ?_) AllReadyH.nil
        rw [if_pos (by first | rfl | go_simp)]
        go_simp
        refine hK.out _ _ S6 (fun _ => ?_)
        try simp only [Act.put, List.getElem_toArray, List.getElem_cons_zero, List.getElem_cons_succ, List.setIfInBounds_toArray, List.set_cons_zero, List.set_cons_succ]
        clear hK K
        refine wpAnyH_done (by kernel_rfl) ?_ _
        gi_wp2
        refine ⟨HD.out, D2.out, ⟨D3.out, _, D4.out, ?_, D6.out, D7.out⟩, D8.out⟩
        rw [List.length_append, List.length_singleton, HA.out, flatI_snoc, HIT.out.1, ← HIT.out.2]
        exact D5.out
end Go.Proofs.Ytdgfnceipginkaa
namespace Go.Proofs.Ytdgfnceipginkaa
open Go.RowKit
set_option linter.unusedVariables false
set_option linter.unusedSimpArgs false

/-- A paragraph in its memory: the cost of a hyphen, its nodes, items, sums and turns. -/
structure ParB (w : World) (PB : Nat) (z5 : Sy) (nodes items sums turns : Value) : Prop where
  blk : ∃ cs, w.heap[PB]? = some (.cells cs 82 (0, 0)) ∧ cs.size = 27
  c5 : w.cell? ⟨PB, 5, none⟩ = some (.int .i64 z5.hy)
  c23 : w.cell? ⟨PB, 23, none⟩ = some nodes
  c24 : w.cell? ⟨PB, 24, none⟩ = some items
  c25 : w.cell? ⟨PB, 25, none⟩ = some sums
  c26 : w.cell? ⟨PB, 26, none⟩ = some turns
  sty : ∀ o, o < 23 → w.cell? ⟨PB, o, none⟩ = (syL z5)[o]?
theorem ParB.par {w : World} {PB : Nat} {z5 : Sy} {a i b t : Value} (h : ParB w PB z5 a i b t) : ParA w PB ⟨z5, a, b⟩ i t := ⟨h.blk, h.c5, h.c24, h.c26, h.c23, h.c25, h.sty⟩
theorem ParB.keep {w w' : World} {PB : Nat} {z5 : Sy} {a i b t : Value} (h : ParB w PB z5 a i b t) (hb : w'.heap[PB]? = w.heap[PB]?) : ParB w' PB z5 a i b t := by
  obtain ⟨⟨cs, h1, h2⟩, c5, c23, c24, c25, c26, sty⟩ := h
  exact ⟨⟨cs, hb.trans h1, h2⟩, (World.cell?_of_block (a := ⟨PB, 5, none⟩) hb).trans c5, (World.cell?_of_block (a := ⟨PB, 23, none⟩) hb).trans c23, (World.cell?_of_block (a := ⟨PB, 24, none⟩) hb).trans c24, (World.cell?_of_block (a := ⟨PB, 25, none⟩) hb).trans c25, (World.cell?_of_block (a := ⟨PB, 26, none⟩) hb).trans c26, fun o ho => (World.cell?_of_block (a := ⟨PB, o, none⟩) hb).trans (sty o ho)⟩
theorem ParB.put {w : World} {PB o : Nat} {z5 : Sy} {a i b t t' : Value} (h : ParB w PB z5 a i b t) (ho : o < 27) : ∃ cur : Array Value, (w.setCell ⟨PB, o, none⟩ t').heap[PB]? = some (.cells cur 82 (0, 0)) ∧ cur.size = 27 ∧ (∀ p, p ≠ o → (w.setCell ⟨PB, o, none⟩ t').cell? ⟨PB, p, none⟩ = w.cell? ⟨PB, p, none⟩) ∧ (w.setCell ⟨PB, o, none⟩ t').cell? ⟨PB, o, none⟩ = some t' := by
  obtain ⟨⟨cs, h1, h2⟩, _⟩ := h
  obtain ⟨cur, q1, q2, q3, q4⟩ := putC_block [t'] o w cs h1 (by simp; omega)
  have q1' : (w.setCell ⟨PB, o, none⟩ t').heap[PB]? = some (.cells cur 82 (0, 0)) := q1
  refine ⟨cur, q1', q2.trans h2, fun p hp => ?_, ?_⟩
  · rw [cell_of_row _ _ _ _ _ _ q1', cell_of_row _ _ _ _ _ _ h1, q3 p (by simp; omega)]
  · rw [cell_of_row _ _ _ _ _ _ q1']
    exact q4 0 (by simp)
theorem ParB.items {w : World} {PB : Nat} {z5 : Sy} {a i b t t' : Value} (h : ParB w PB z5 a i b t) : ParB (w.setCell ⟨PB, 24, none⟩ t') PB z5 a t' b t := by
  obtain ⟨cur, q1, q2, q3, q4⟩ := h.put (o := 24) (t' := t') (by omega)
  exact ⟨⟨cur, q1, q2⟩, (q3 5 (by omega)).trans h.c5, (q3 23 (by omega)).trans h.c23, q4, (q3 25 (by omega)).trans h.c25, (q3 26 (by omega)).trans h.c26, fun p hp => (q3 p (by omega)).trans (h.sty p hp)⟩
theorem ParB.sums {w : World} {PB : Nat} {z5 : Sy} {a i b t t' : Value} (h : ParB w PB z5 a i b t) : ParB (w.setCell ⟨PB, 25, none⟩ t') PB z5 a i t' t := by
  obtain ⟨cur, q1, q2, q3, q4⟩ := h.put (o := 25) (t' := t') (by omega)
  exact ⟨⟨cur, q1, q2⟩, (q3 5 (by omega)).trans h.c5, (q3 23 (by omega)).trans h.c23, (q3 24 (by omega)).trans h.c24, q4, (q3 26 (by omega)).trans h.c26, fun p hp => (q3 p (by omega)).trans (h.sty p hp)⟩
theorem ParB.lt {w : World} {PB : Nat} {z5 : Sy} {a i b t : Value} (h : ParB w PB z5 a i b t) : PB < w.heap.size := h.par.lt
theorem ParB.free {w : World} {PB : Nat} {z5 : Sy} {a i b t : Value} (h : ParB w PB z5 a i b t) (o : Nat) : w.frozen? ⟨PB, o, none⟩ = false := h.par.free o
theorem Try.info145t : (Try.prog.info? 119).map (fun i => (i.zero, i.size, i.bytes)) = some (some (.agg #[.int .i64 0, .int .i64 0, .int .i64 0, .int .i64 0, .int .i64 0, .int .i64 0, .int .i64 0, .int .i64 0, .int .i64 0]), 9, 72) := by kernel_rfl

set_option maxRecDepth 20000 in
set_option maxHeartbeats 8000000 in
theorem addItems_any {w : World} {PB : Nat} {z5 : Sy} {v : Value} {xs : List Nd} (hP : ParB w PB z5 v (.slice none 0 0) (.slice none 0 0) (.slice none 0 0)) (h : NRow 0 w v xs) (hcp : ∀ a n c, v = .slice a n c → n ≤ c ∧ c ≤ 9223372036854775807) (hok : AllOk3 xs) (hord : ∀ i, i < xs.length → Ord (xs.getD i Nd.none)) (hN : 0 < (its xs).length ∧ (its xs).length ≤ 5000) :
    Calls Try.prog 34 #[.pointer (some ⟨PB, 0, none⟩)] w fun e w' => (∃ v, e = .returned v) ∧ (∃ (B cap : Nat) (sv : Value), ParB w' PB z5 v (.slice (some ⟨B, 0, none⟩) (its xs).length cap) sv (.slice none 0 0) ∧ w'.ownsRow w.heap.size 93 3 (.slice (some ⟨B, 0, none⟩) (its xs).length cap) (its xs).length (flatI (its xs))) ∧ Fr PB w w' := by
  have IC : Hid (∀ W, Below w.heap.size w W → Calls Try.prog 52 #[v] W fun e W' => (∃ u, e = .returned u ∧ W'.ownsRow W.heap.size 93 3 u (its xs).length (flatI (its xs))) ∧ Below W.heap.size W W') := hideP (fun W hW => callsIn_wide.1 (itemsOf3_in (SRow.below ndStable h hW) hcp hok))
  obtain ⟨N, hN0⟩ : ∃ N, (its xs).length = N := ⟨_, rfl⟩
  simp only [hN0] at IC hN ⊢
  have HN := hideP hN0
  obtain ⟨hN1, hN2⟩ := hN
  have HOR : Hid (∀ k, k < N → Ord ((its xs).getD k It.none).1) := hideP (fun k hk => by
    obtain ⟨a, ha, he⟩ := its_get (xs := xs) (k := k) (by omega)
    rw [he]
    exact hord a ha)
  have HP := hideP hP
  have c23 := hP.c23
  have c24 := hP.c24
  have fz := hP.free
  have hPl := hP.lt
  obtain ⟨va, vn, vc, rfl, _⟩ := h
  obtain ⟨i0, hi0, hy0, hy1, hy2⟩ := info_parts Try.info145t
  clear hP hok hord hcp hN0
  go_enter Try.func34, Try.ntmps34
  go_wp2_with fail
  refine (IC.out _ (Below.refl _ _)).mono ?_
  rintro e w1 ⟨⟨u, rfl, hu⟩, hb1⟩
  obtain ⟨B, cap, rfl⟩ : ∃ B cap, u = .slice (some ⟨B, 0, none⟩) N cap := by
    rcases hu.2 with ⟨_, h0⟩ | ⟨g', cap', cur, hv, _⟩
    · omega
    · exact ⟨g', cap', hv⟩
  have P1 : Hid (ParB w1 PB z5 (.slice va vn vc) (.slice none 0 0) (.slice none 0 0) (.slice none 0 0)) := hideP (HP.out.keep (hb1.block PB hPl))
  have U1 := hideP hu
  have F1 : Hid (Fr PB w w1) := hideP ((Fr.refl PB w).below hb1)
  have hBP : Hid (PB < B ∧ B < w1.heap.size) := hideP ⟨by have := (World.ownsRow.lt hu B rfl).1; omega, (World.ownsRow.lt hu B rfl).2⟩
  have b24 := P1.out.c24
  have fz1 := P1.out.free
  have hP1l := P1.out.lt
  clear hb1 hu c23 c24 fz IC
  -- LOOP
  obtain ⟨T, hT⟩ : ∃ T, T = w1.heap.size := ⟨_, rfl⟩
  obtain ⟨W2, hW2⟩ : ∃ W2, W2 = (w1.setCell ⟨PB, 24, none⟩ (.slice (some ⟨B, 0, none⟩) N cap)).alloc (.cells #[.int .i64 0, .int .i64 0, .int .i64 0, .int .i64 0, .int .i64 0, .int .i64 0, .int .i64 0, .int .i64 0, .int .i64 0] 119) := ⟨_, rfl⟩
  have P2 : Hid (ParB W2 PB z5 (.slice va vn vc) (.slice (some ⟨B, 0, none⟩) N cap) (.slice none 0 0) (.slice none 0 0)) := hideP (by rw [hW2]; exact P1.out.items.keep ((below1 _ _).block PB (by simpa using hP1l)))
  have I2 : Hid (Ints W2 T 119 9) := hideP ⟨List.replicate 9 0, rfl, by rw [hW2, hT]; have := heap_alloc_new (w1.setCell ⟨PB, 24, none⟩ (.slice (some ⟨B, 0, none⟩) N cap)) (.cells #[.int .i64 0, .int .i64 0, .int .i64 0, .int .i64 0, .int .i64 0, .int .i64 0, .int .i64 0, .int .i64 0, .int .i64 0] 119); simpa using this⟩
  have F2 : Hid (Fr PB w W2) := hideP (by rw [hW2]; exact (F1.out.set _ _).alloc _)
  have B2 : Hid (W2.heap[B]? = w1.heap[B]?) := hideP (by rw [hW2]; exact ((below1 _ _).block B (by simpa using hBP.out.2)).trans (Below.heap_setCell _ _ _ _ (by simp; have := hBP.out; omega)))
  have HPT : Hid (PB < T) := hideP (by rw [hT]; exact hP1l)
  have HWT : Hid (w.heap.size ≤ T) := hideP (by rw [hT]; exact F1.out.2.2.2.1)
  have HTB1 : Hid (B < T) := hideP (by rw [hT]; exact hBP.out.2)
  go_wp2
  rw [← hW2, ← hT]
  clear hW2 hT b24 fz1
  go_loopw [19] (fun s19 wr => ∃ (k : Nat) (sv : Value) (m : Nat) (L : List Value), k ≤ N ∧ s19 = .int .i64 (k : Int) ∧ m ≤ k ∧ Hid (ParB wr PB z5 (.slice va vn vc) (.slice (some ⟨B, 0, none⟩) N cap) sv (.slice none 0 0)) ∧ Hid (Ints wr T 119 9) ∧ Hid (wr.ownsRow (T + 1) 119 9 sv m L) ∧ Hid (Fr PB w wr) ∧ Hid (wr.heap[B]? = w1.heap[B]?)) (fun s _ => N - (intOf s).toNat)
  case atStart => exact ⟨0, _, 0, [], by omega, rfl, Nat.le_refl _, P2, I2, hideP ⟨rfl, .inl ⟨rfl, rfl⟩⟩, F2, B2⟩
  case round =>
    obtain ⟨k, sv, m, L, hk, rfl, hmk, HPr, HIr, HOr, HFr, HBr⟩ := hrel
    by_cases hkN : k < N
    · have hki : (k : Int) < (N : Int) := by omega
      obtain ⟨ut, ct, rfl⟩ := ownG_shape HOr.out
      obtain ⟨y, hy⟩ : ∃ y, y = (its xs).getD k It.none := ⟨_, rfl⟩
      have hItR : ItR wr B (its xs) := by
        have h0 := its_row U1.out HN.out hN1
        obtain ⟨g, e, _, _, h1⟩ := h0
        obtain rfl : B = g := by simpa using e
        exact h1.block HBr.out
      have hkl : k < (its xs).length := by rw [HN.out]; exact hkN
      have k0 := hItR.c0 k hkl
      have k1 := hItR.c1 k hkl
      have k2 := hItR.c2 k hkl
      have hOy := HOR.out k hkN
      rw [← hy] at k0 k1 k2 hOy
      have MC : Hid (∀ W, Ints W T 119 9 → Calls Try.prog 53 #[.pointer (some ⟨T, 0, none⟩), thV y.1] W fun e w' => (∃ v, e = .returned v) ∧ Ints w' T 119 9 ∧ Fr T W w') := hideP (fun W hW => madd_any 0 y.1 hW (by omega) hOy)
      obtain ⟨y0, y1, y2⟩ := y
      simp only at k0 k1 k2 MC
      have hBl : B < wr.heap.size := by have h1 := hBP.out.2; exact (Array.getElem?_eq_some_iff.1 (HBr.out.trans (Array.getElem?_eq_getElem h1))).1
      have c25 := HPr.out.c25
      have fz := HPr.out.free
      have hPl2 := HPr.out.lt
      have hsh := thV_shape y0
      obtain ⟨vy, hvy⟩ : ∃ v, v = thV y0 := ⟨_, rfl⟩
      rw [← hvy] at k0 MC hsh
      clear hy hOy hItR hkl hvy
      have HEX : Hid (vy = vy) := hideP rfl
      rcases hsh with rfl | ⟨Xi, qi, rfl⟩
      · go_wp2
        obtain ⟨WA, hWA⟩ : ∃ WA, WA = wr.alloc (.cells #[.nilIface, .int .i64 y1, .int .i64 y2] 93) := ⟨_, rfl⟩
        rw [← hWA]
        have hqI := heap_alloc_new wr (.cells #[.nilIface, .int .i64 y1, .int .i64 y2] 93)
        rw [← hWA] at hqI
        have hsA : WA.heap.size = wr.heap.size + 1 := by rw [hWA]; simp
        have BA : Hid (Below wr.heap.size wr WA) := hideP (by rw [hWA]; exact below1 _ _)
        have PA : Hid (ParB WA PB z5 (.slice va vn vc) (.slice (some ⟨B, 0, none⟩) N cap) (.slice ut m ct) (.slice none 0 0)) := hideP (HPr.out.keep (BA.out.block PB hPl2))
        have IA : Hid (Ints WA T 119 9) := hideP (HIr.out.below BA.out)
        have OA : Hid (WA.ownsRow (T + 1) 119 9 (.slice ut m ct) m L) := hideP (ownG_below HOr.out BA.out)
        have O5 := HOr
        have FA : Hid (Fr PB w WA) := hideP (HFr.out.below BA.out)
        have HBA : Hid (B < WA.heap.size ∧ WA.heap[B]? = w1.heap[B]?) := hideP ⟨by omega, (BA.out.block B hBl).trans HBr.out⟩
        have HIC : Hid (∀ X : World, X.heap[wr.heap.size]? = WA.heap[wr.heap.size]? → X.cell? ⟨wr.heap.size, 0, none⟩ = some (.nilIface) ∧ X.cell? ⟨wr.heap.size, 1, none⟩ = some (.int .i64 y1) ∧ X.cell? ⟨wr.heap.size, 2, none⟩ = some (.int .i64 y2) ∧ wr.heap.size < X.heap.size) := hideP (fun X hX => by
          have hh := hX.trans hqI
          exact ⟨by rw [cell_of_row X _ _ _ _ _ hh]; rfl, by rw [cell_of_row X _ _ _ _ _ hh]; rfl, by rw [cell_of_row X _ _ _ _ _ hh]; rfl, (Array.getElem?_eq_some_iff.1 hh).1⟩)
        have HIB : Hid (PB < wr.heap.size) := hideP hPl2
        have c25A := PA.out.c25
        have fzA := PA.out.free
        have hPAl : PB < WA.heap.size := PA.out.lt
        have hTl : T < WA.heap.size := IA.out.lt
        obtain ⟨z0, t0⟩ := IA.out.cell 0 (by omega)
        obtain ⟨z1, t1⟩ := IA.out.cell 1 (by omega)
        obtain ⟨z2, t2⟩ := IA.out.cell 2 (by omega)
        obtain ⟨z3, t3⟩ := IA.out.cell 3 (by omega)
        obtain ⟨z4, t4⟩ := IA.out.cell 4 (by omega)
        obtain ⟨z5', t5⟩ := IA.out.cell 5 (by omega)
        obtain ⟨z6, t6⟩ := IA.out.cell 6 (by omega)
        obtain ⟨z7, t7⟩ := IA.out.cell 7 (by omega)
        obtain ⟨z8, t8⟩ := IA.out.cell 8 (by omega)
        have HTB : Hid (∀ X : World, X.heap[T]? = WA.heap[T]? → X.cell? ⟨T, 0, none⟩ = some (.int .i64 z0) ∧ X.cell? ⟨T, 1, none⟩ = some (.int .i64 z1) ∧ X.cell? ⟨T, 2, none⟩ = some (.int .i64 z2) ∧ X.cell? ⟨T, 3, none⟩ = some (.int .i64 z3) ∧ X.cell? ⟨T, 4, none⟩ = some (.int .i64 z4) ∧ X.cell? ⟨T, 5, none⟩ = some (.int .i64 z5') ∧ X.cell? ⟨T, 6, none⟩ = some (.int .i64 z6) ∧ X.cell? ⟨T, 7, none⟩ = some (.int .i64 z7) ∧ X.cell? ⟨T, 8, none⟩ = some (.int .i64 z8)) := hideP (fun X hX => ⟨(World.cell?_of_block (a := ⟨T, 0, none⟩) hX).trans t0, (World.cell?_of_block (a := ⟨T, 1, none⟩) hX).trans t1, (World.cell?_of_block (a := ⟨T, 2, none⟩) hX).trans t2, (World.cell?_of_block (a := ⟨T, 3, none⟩) hX).trans t3, (World.cell?_of_block (a := ⟨T, 4, none⟩) hX).trans t4, (World.cell?_of_block (a := ⟨T, 5, none⟩) hX).trans t5, (World.cell?_of_block (a := ⟨T, 6, none⟩) hX).trans t6, (World.cell?_of_block (a := ⟨T, 7, none⟩) hX).trans t7, (World.cell?_of_block (a := ⟨T, 8, none⟩) hX).trans t8⟩)
        have TB : Hid ((WA.alloc (.cells #[.int .i64 z0, .int .i64 z1, .int .i64 z2, .int .i64 z3, .int .i64 z4, .int .i64 z5', .int .i64 z6, .int .i64 z7, .int .i64 z8] 119)).drew.cell? ⟨T, 0, none⟩ = some (.int .i64 z0) ∧ (WA.alloc (.cells #[.int .i64 z0, .int .i64 z1, .int .i64 z2, .int .i64 z3, .int .i64 z4, .int .i64 z5', .int .i64 z6, .int .i64 z7, .int .i64 z8] 119)).drew.cell? ⟨T, 1, none⟩ = some (.int .i64 z1) ∧ (WA.alloc (.cells #[.int .i64 z0, .int .i64 z1, .int .i64 z2, .int .i64 z3, .int .i64 z4, .int .i64 z5', .int .i64 z6, .int .i64 z7, .int .i64 z8] 119)).drew.cell? ⟨T, 2, none⟩ = some (.int .i64 z2) ∧ (WA.alloc (.cells #[.int .i64 z0, .int .i64 z1, .int .i64 z2, .int .i64 z3, .int .i64 z4, .int .i64 z5', .int .i64 z6, .int .i64 z7, .int .i64 z8] 119)).drew.cell? ⟨T, 3, none⟩ = some (.int .i64 z3) ∧ (WA.alloc (.cells #[.int .i64 z0, .int .i64 z1, .int .i64 z2, .int .i64 z3, .int .i64 z4, .int .i64 z5', .int .i64 z6, .int .i64 z7, .int .i64 z8] 119)).drew.cell? ⟨T, 4, none⟩ = some (.int .i64 z4) ∧ (WA.alloc (.cells #[.int .i64 z0, .int .i64 z1, .int .i64 z2, .int .i64 z3, .int .i64 z4, .int .i64 z5', .int .i64 z6, .int .i64 z7, .int .i64 z8] 119)).drew.cell? ⟨T, 5, none⟩ = some (.int .i64 z5') ∧ (WA.alloc (.cells #[.int .i64 z0, .int .i64 z1, .int .i64 z2, .int .i64 z3, .int .i64 z4, .int .i64 z5', .int .i64 z6, .int .i64 z7, .int .i64 z8] 119)).drew.cell? ⟨T, 6, none⟩ = some (.int .i64 z6) ∧ (WA.alloc (.cells #[.int .i64 z0, .int .i64 z1, .int .i64 z2, .int .i64 z3, .int .i64 z4, .int .i64 z5', .int .i64 z6, .int .i64 z7, .int .i64 z8] 119)).drew.cell? ⟨T, 7, none⟩ = some (.int .i64 z7) ∧ (WA.alloc (.cells #[.int .i64 z0, .int .i64 z1, .int .i64 z2, .int .i64 z3, .int .i64 z4, .int .i64 z5', .int .i64 z6, .int .i64 z7, .int .i64 z8] 119)).drew.cell? ⟨T, 8, none⟩ = some (.int .i64 z8)) := hideP (HTB.out _ ((below1 WA _).block _ hTl))
        have HNE : Hid ((Value.slice ut m ct).ownBlock ≠ some T) := hideP (fun e => by have := (World.ownsRow.lt OA.out _ e).1; omega)
        have HTP : Hid ((Value.slice ut m ct).ownBlock ≠ some PB) := hideP (fun e => by have := (World.ownsRow.lt OA.out _ e).1; have := HPT.out; omega)
        have OB : Hid ((WA.alloc (.cells #[.int .i64 z0, .int .i64 z1, .int .i64 z2, .int .i64 z3, .int .i64 z4, .int .i64 z5', .int .i64 z6, .int .i64 z7, .int .i64 z8] 119)).drew.ownsRow (T + 1) 119 9 (.slice ut m ct) m L) := hideP (show World.ownsRow (WA.alloc (.cells #[.int .i64 z0, .int .i64 z1, .int .i64 z2, .int .i64 z3, .int .i64 z4, .int .i64 z5', .int .i64 z6, .int .i64 z7, .int .i64 z8] 119)) _ _ _ _ _ _ from ownG_below OA.out (below1 _ _))
        have NB : Hid (∀ j z, ([.int .i64 z0, .int .i64 z1, .int .i64 z2, .int .i64 z3, .int .i64 z4, .int .i64 z5', .int .i64 z6, .int .i64 z7, .int .i64 z8] : List Value)[j]? = some z → (WA.alloc (.cells #[.int .i64 z0, .int .i64 z1, .int .i64 z2, .int .i64 z3, .int .i64 z4, .int .i64 z5', .int .i64 z6, .int .i64 z7, .int .i64 z8] 119)).drew.cell? ((⟨WA.heap.size, 0, none⟩ : Addr).add j) = some z) := hideP (fun j z hz => by
          have he : ((⟨WA.heap.size, 0, none⟩ : Addr).add j) = ⟨WA.heap.size, j, none⟩ := by simp only [Addr.add]; split <;> simp_all
          have hh2 : (WA.alloc (.cells #[.int .i64 z0, .int .i64 z1, .int .i64 z2, .int .i64 z3, .int .i64 z4, .int .i64 z5', .int .i64 z6, .int .i64 z7, .int .i64 z8] 119)).drew.heap[WA.heap.size]? = some (.cells #[.int .i64 z0, .int .i64 z1, .int .i64 z2, .int .i64 z3, .int .i64 z4, .int .i64 z5', .int .i64 z6, .int .i64 z7, .int .i64 z8] 119 (0, 0)) := heap_alloc_new WA (.cells #[.int .i64 z0, .int .i64 z1, .int .i64 z2, .int .i64 z3, .int .i64 z4, .int .i64 z5', .int .i64 z6, .int .i64 z7, .int .i64 z8] 119)
          rw [he, cell_of_row _ _ _ _ _ _ hh2, ← hz]
          simp)
        have hwB : T + 1 ≤ (WA.alloc (.cells #[.int .i64 z0, .int .i64 z1, .int .i64 z2, .int .i64 z3, .int .i64 z4, .int .i64 z5', .int .i64 z6, .int .i64 z7, .int .i64 z8] 119)).drew.heap.size := show T + 1 ≤ (WA.alloc (.cells #[.int .i64 z0, .int .i64 z1, .int .i64 z2, .int .i64 z3, .int .i64 z4, .int .i64 z5', .int .i64 z6, .int .i64 z7, .int .i64 z8] 119)).heap.size by simp; omega
        have FB : Hid (Fr PB w (WA.alloc (.cells #[.int .i64 z0, .int .i64 z1, .int .i64 z2, .int .i64 z3, .int .i64 z4, .int .i64 z5', .int .i64 z6, .int .i64 z7, .int .i64 z8] 119)).drew) := hideP ((FA.out.alloc _).drew)
        have PBk : Hid (ParB (WA.alloc (.cells #[.int .i64 z0, .int .i64 z1, .int .i64 z2, .int .i64 z3, .int .i64 z4, .int .i64 z5', .int .i64 z6, .int .i64 z7, .int .i64 z8] 119)).drew PB z5 (.slice va vn vc) (.slice (some ⟨B, 0, none⟩) N cap) (.slice ut m ct) (.slice none 0 0)) := hideP (PA.out.keep ((below1 WA _).block PB hPAl))
        obtain ⟨WB, hWB⟩ : ∃ WB, WB = (WA.alloc (.cells #[.int .i64 z0, .int .i64 z1, .int .i64 z2, .int .i64 z3, .int .i64 z4, .int .i64 z5', .int .i64 z6, .int .i64 z7, .int .i64 z8] 119)).drew := ⟨_, rfl⟩
        have HLB : Hid (T < WB.heap.size ∧ PB < WB.heap.size ∧ WB.heap[T]? = WA.heap[T]?) := hideP (by
          rw [hWB]
          exact ⟨Nat.lt_of_lt_of_le hTl (below1 WA (.cells #[.int .i64 z0, .int .i64 z1, .int .i64 z2, .int .i64 z3, .int .i64 z4, .int .i64 z5', .int .i64 z6, .int .i64 z7, .int .i64 z8] 119)).size, Nat.lt_of_lt_of_le hPAl (below1 WA (.cells #[.int .i64 z0, .int .i64 z1, .int .i64 z2, .int .i64 z3, .int .i64 z4, .int .i64 z5', .int .i64 z6, .int .i64 z7, .int .i64 z8] 119)).size, (below1 WA (.cells #[.int .i64 z0, .int .i64 z1, .int .i64 z2, .int .i64 z3, .int .i64 z4, .int .i64 z5', .int .i64 z6, .int .i64 z7, .int .i64 z8] 119)).block _ hTl⟩)
        have HBL : Hid (B < WB.heap.size ∧ WB.heap[B]? = w1.heap[B]?) := hideP (by
          rw [hWB]
          exact ⟨Nat.lt_of_lt_of_le HBA.out.1 (below1 WA (.cells #[.int .i64 z0, .int .i64 z1, .int .i64 z2, .int .i64 z3, .int .i64 z4, .int .i64 z5', .int .i64 z6, .int .i64 z7, .int .i64 z8] 119)).size, ((below1 WA (.cells #[.int .i64 z0, .int .i64 z1, .int .i64 z2, .int .i64 z3, .int .i64 z4, .int .i64 z5', .int .i64 z6, .int .i64 z7, .int .i64 z8] 119)).block _ HBA.out.1).trans HBA.out.2⟩)
        have HIL : Hid (wr.heap.size < WB.heap.size ∧ WB.heap[wr.heap.size]? = WA.heap[wr.heap.size]?) := hideP (by
          rw [hWB]
          exact ⟨Nat.lt_of_lt_of_le (by omega) (below1 WA (.cells #[.int .i64 z0, .int .i64 z1, .int .i64 z2, .int .i64 z3, .int .i64 z4, .int .i64 z5', .int .i64 z6, .int .i64 z7, .int .i64 z8] 119)).size, (below1 WA (.cells #[.int .i64 z0, .int .i64 z1, .int .i64 z2, .int .i64 z3, .int .i64 z4, .int .i64 z5', .int .i64 z6, .int .i64 z7, .int .i64 z8] 119)).block _ (by omega)⟩)
        rw [← hWB] at OB NB hwB FB PBk
        clear hWA hqI k0 k1 k2 c25 fz hsA
        refine wp_region_held_drew (S := (fun x => x.cell? ⟨T, 0, none⟩ = some (.int .i64 z0) ∧ x.cell? ⟨T, 1, none⟩ = some (.int .i64 z1) ∧ x.cell? ⟨T, 2, none⟩ = some (.int .i64 z2) ∧ x.cell? ⟨T, 3, none⟩ = some (.int .i64 z3) ∧ x.cell? ⟨T, 4, none⟩ = some (.int .i64 z4) ∧ x.cell? ⟨T, 5, none⟩ = some (.int .i64 z5') ∧ x.cell? ⟨T, 6, none⟩ = some (.int .i64 z6) ∧ x.cell? ⟨T, 7, none⟩ = some (.int .i64 z7) ∧ x.cell? ⟨T, 8, none⟩ = some (.int .i64 z8))) (by kernel_rfl) ⟨t0, t1, t2, t3, t4, t5, t6, t7, t8⟩ (fun hS => ?_)
        refine wpAnyH_take (i := 0) (v := .pointer (some ⟨PB, 0, none⟩)) rfl (by kernel_rfl) (by kernel_rfl) (by kernel_rfl) (fun _ _ _ h => h) (Or.inl ⟨by first | rfl | go_simp, fun wx hx => by obtain ⟨hx0, hx1, hx2, hx3, hx4, hx5, hx6, hx7, hx8⟩ := hx; go_simp⟩) hS ?_
        try simp only [Act.put, List.getElem_toArray, List.getElem_cons_zero, List.getElem_cons_succ, List.setIfInBounds_toArray, List.set_cons_zero, List.set_cons_succ]
        refine wpAnyH_take (i := 1) (v := .pointer (some ⟨PB, 0, none⟩)) rfl (by kernel_rfl) (by kernel_rfl) (by kernel_rfl) (fun _ _ _ h => h) (Or.inl ⟨by first | rfl | go_simp, fun wx hx => by obtain ⟨hx0, hx1, hx2, hx3, hx4, hx5, hx6, hx7, hx8⟩ := hx; go_simp⟩) hS ?_
        try simp only [Act.put, List.getElem_toArray, List.getElem_cons_zero, List.getElem_cons_succ, List.setIfInBounds_toArray, List.set_cons_zero, List.set_cons_succ]
        refine wpAnyH_take (i := 2) (v := .pointer (some ⟨PB, 0, none⟩)) rfl (by kernel_rfl) (by kernel_rfl) (by kernel_rfl) (fun _ _ _ h => h) (Or.inl ⟨by first | rfl | go_simp, fun wx hx => by obtain ⟨hx0, hx1, hx2, hx3, hx4, hx5, hx6, hx7, hx8⟩ := hx; go_simp⟩) hS ?_
        try simp only [Act.put, List.getElem_toArray, List.getElem_cons_zero, List.getElem_cons_succ, List.setIfInBounds_toArray, List.set_cons_zero, List.set_cons_succ]
        refine wpAnyH_take (i := 3) (v := .pointer (some ⟨PB, 25, none⟩)) rfl (by kernel_rfl) (by kernel_rfl) (by kernel_rfl) (fun _ _ _ h => h) (Or.inl ⟨by first | rfl | go_simp, fun wx hx => by obtain ⟨hx0, hx1, hx2, hx3, hx4, hx5, hx6, hx7, hx8⟩ := hx; go_simp⟩) hS ?_
        try simp only [Act.put, List.getElem_toArray, List.getElem_cons_zero, List.getElem_cons_succ, List.setIfInBounds_toArray, List.set_cons_zero, List.set_cons_succ]
        refine wpAnyH_take (i := 5) (v := .agg #[.int .i64 z0, .int .i64 z1, .int .i64 z2, .int .i64 z3, .int .i64 z4, .int .i64 z5', .int .i64 z6, .int .i64 z7, .int .i64 z8]) rfl (by kernel_rfl) (by kernel_rfl) (by kernel_rfl) (fun _ _ _ h => h) (Or.inl ⟨by first | rfl | go_simp, fun wx hx => by obtain ⟨hx0, hx1, hx2, hx3, hx4, hx5, hx6, hx7, hx8⟩ := hx; go_simp⟩) hS ?_
        try simp only [Act.put, List.getElem_toArray, List.getElem_cons_zero, List.getElem_cons_succ, List.setIfInBounds_toArray, List.set_cons_zero, List.set_cons_succ]
        refine wpAnyH_ready (rs := [4, 6]) (by kernel_rfl) (by simp) ?_
        refine AllReadyH.cons rfl (fun K hK => ?_) (AllReadyH.cons rfl (fun K hK => ?_) AllReadyH.nil)
        · rw [if_pos (by first | rfl | go_simp)]
          go_simp
          refine hK.out _ _ (⟨t0, t1, t2, t3, t4, t5, t6, t7, t8⟩) (fun hS2 => ?_)
          try simp only [Act.put, List.getElem_toArray, List.getElem_cons_zero, List.getElem_cons_succ, List.setIfInBounds_toArray, List.set_cons_zero, List.set_cons_succ]
          clear hK K
          refine wpAnyH_ready (rs := [6]) (by kernel_rfl) (by simp) ?_
          refine AllReadyH.cons rfl (fun K hK => ?_) AllReadyH.nil
          rw [if_pos (by first | rfl | go_simp)]
          go_simp
          refine hK.out _ _ (TB.out) (fun hS3 => ?_)
          try simp only [Act.put, List.getElem_toArray, List.getElem_cons_zero, List.getElem_cons_succ, List.setIfInBounds_toArray, List.set_cons_zero, List.set_cons_succ]
          clear hK K
          refine wpAnyH_ready (rs := [7]) (by kernel_rfl) (by simp) ?_
          refine AllReadyH.cons rfl (fun K hK => ?_) AllReadyH.nil
          rw [if_pos (by first | rfl | go_simp)]
          rw [← hWB]
          refine wp_append_at _ _ 79 rfl (T + 1) 119 i0 (.agg #[.int .i64 0, .int .i64 0, .int .i64 0, .int .i64 0, .int .i64 0, .int .i64 0, .int .i64 0, .int .i64 0, .int .i64 0]) 9 72 Try.underlying79 hi0 hy0 hy1 hy2 rfl (by decide) (.slice ut m ct) m L rfl OB.out ⟨WA.heap.size, 0, none⟩ 1 1 [.int .i64 z0, .int .i64 z1, .int .i64 z2, .int .i64 z3, .int .i64 z4, .int .i64 z5', .int .i64 z6, .int .i64 z7, .int .i64 z8] rfl rfl NB.out (by intro u hu; simp at hu; rcases hu with rfl | rfl | rfl | rfl | rfl | rfl | rfl | rfl | rfl <;> rfl) (by unfold maxLen; omega) (by omega) hwB ?_
          intro v6 w6 ho6 hg6 hn6 hat6
          obtain ⟨u6, d6, rfl⟩ := ownG_shape ho6
          have hb6 : w6.heap[T]? = WA.heap[T]? := (hg6.block _ HLB.out.1 (fun e => HNE.out e.symm)).trans HLB.out.2.2
          have T6 := hideP (HTB.out w6 hb6)
          have P6 : Hid (ParB w6 PB z5 (.slice va vn vc) (.slice (some ⟨B, 0, none⟩) N cap) (.slice ut m ct) (.slice none 0 0)) := hideP (PBk.out.keep (hg6.block PB HLB.out.2.1 (fun e => HTP.out e.symm)))
          have c25B := P6.out.c25
          have fz6 := P6.out.free
          have O6 : Hid (w6.ownsRow (T + 1) 119 9 (.slice u6 (m + 1) d6) (m + 1) (L ++ [.int .i64 z0, .int .i64 z1, .int .i64 z2, .int .i64 z3, .int .i64 z4, .int .i64 z5', .int .i64 z6, .int .i64 z7, .int .i64 z8])) := hideP ho6
          have T7 := hideP (HTB.out (w6.setCell ⟨PB, 25, none⟩ (.slice u6 (m + 1) d6)) ((Below.heap_setCell _ _ _ _ (by simp; have := HPT.out; omega)).trans hb6))
          have hP6l : PB < w6.heap.size := P6.out.lt
          have G6 := hideP hg6
          have HB6 := hideP hb6
          clear ho6 hg6 hn6 hat6 hb6
          refine hK.out _ _ T6.out (fun hS6 => ?_)
          try simp only [Act.put, List.getElem_toArray, List.getElem_cons_zero, List.getElem_cons_succ, List.setIfInBounds_toArray, List.set_cons_zero, List.set_cons_succ]
          clear hK K
          refine wpAnyH_take (i := 8) (v := .pointer (some ⟨PB, 0, none⟩)) rfl (by kernel_rfl) (by kernel_rfl) (by kernel_rfl) (fun _ _ _ h => h) (Or.inl ⟨by first | rfl | go_simp, fun wx hx => by obtain ⟨hx0, hx1, hx2, hx3, hx4, hx5, hx6, hx7, hx8⟩ := hx; go_simp⟩) hS6 ?_
          try simp only [Act.put, List.getElem_toArray, List.getElem_cons_zero, List.getElem_cons_succ, List.setIfInBounds_toArray, List.set_cons_zero, List.set_cons_succ]
          refine wpAnyH_take (i := 9) (v := .pointer (some ⟨PB, 25, none⟩)) rfl (by kernel_rfl) (by kernel_rfl) (by kernel_rfl) (fun _ _ _ h => h) (Or.inl ⟨by first | rfl | go_simp, fun wx hx => by obtain ⟨hx0, hx1, hx2, hx3, hx4, hx5, hx6, hx7, hx8⟩ := hx; go_simp⟩) hS6 ?_
          try simp only [Act.put, List.getElem_toArray, List.getElem_cons_zero, List.getElem_cons_succ, List.setIfInBounds_toArray, List.set_cons_zero, List.set_cons_succ]
          refine wpAnyH_ready (rs := [10]) (by kernel_rfl) (by simp) ?_
          refine AllReadyH.cons rfl (fun K hK => ?_) AllReadyH.nil
          rw [if_pos (by first | rfl | go_simp)]
          go_simp
          refine hK.out _ _ (T7.out) (fun _ => ?_)
          try simp only [Act.put, List.getElem_toArray, List.getElem_cons_zero, List.getElem_cons_succ, List.setIfInBounds_toArray, List.set_cons_zero, List.set_cons_succ]
          clear hK K
          refine wpAnyH_done (by kernel_rfl) ?_ _
          obtain ⟨W7, hW7⟩ : ∃ W7, W7 = w6.setCell ⟨PB, 25, none⟩ (.slice u6 (m + 1) d6) := ⟨_, rfl⟩
          rw [← hW7]
          have HNP : Hid ((Value.slice u6 (m + 1) d6).ownBlock ≠ some PB) := hideP (fun e => by have := (World.ownsRow.lt O6.out _ e).1; have := HPT.out; omega)
          have HNT : Hid ((Value.slice u6 (m + 1) d6).ownBlock ≠ some T) := hideP (fun e => by have := (World.ownsRow.lt O6.out _ e).1; omega)
          have P7 : Hid (ParB W7 PB z5 (.slice va vn vc) (.slice (some ⟨B, 0, none⟩) N cap) (.slice u6 (m + 1) d6) (.slice none 0 0)) := hideP (by rw [hW7]; exact P6.out.sums)
          have O7 : Hid (W7.ownsRow (T + 1) 119 9 (.slice u6 (m + 1) d6) (m + 1) (L ++ [.int .i64 z0, .int .i64 z1, .int .i64 z2, .int .i64 z3, .int .i64 z4, .int .i64 z5', .int .i64 z6, .int .i64 z7, .int .i64 z8])) := hideP (by rw [hW7]; exact ownG_other O6.out HNP.out 25 _)
          have F7 : Hid (Fr PB w W7) := hideP (by
            rw [hW7]
            refine Fr.set ?_ _ _
            refine ⟨G6.out.os.trans FB.out.1, G6.out.tape.trans FB.out.2.1, G6.out.output.trans FB.out.2.2.1, Nat.le_trans FB.out.2.2.2.1 G6.out.size, fun b hb hn => ?_⟩
            exact (G6.out.block b (Nat.lt_of_lt_of_le hb FB.out.2.2.2.1) (fun e => by have := (World.ownsRow.lt OB.out b e.symm).1; have := HWT.out; omega)).trans (FB.out.2.2.2.2 b hb hn))
          have hbT : W7.heap[T]? = WA.heap[T]? := by rw [hW7]; exact (Below.heap_setCell _ _ _ _ (by simp; have := HPT.out; omega)).trans HB6.out
          have I7 : Hid (Ints W7 T 119 9) := hideP (by obtain ⟨zs, h1, h2⟩ := IA.out; exact ⟨zs, h1, hbT.trans h2⟩)
          have hbB : W7.heap[B]? = w1.heap[B]? := by
            rw [hW7]
            refine (Below.heap_setCell _ _ _ _ (by simp; have := hBP.out; omega)).trans ?_
            exact (G6.out.block B HBL.out.1 (fun e => by have := (World.ownsRow.lt OB.out B e.symm).1; have := HTB1.out; omega)).trans HBL.out.2
          have HBB := hideP hbB
          obtain ⟨j0, j1, j2, j3⟩ := HIC.out W7 (by
            rw [hW7]
            refine (Below.heap_setCell _ _ _ _ (by simp; have := HIB.out; omega)).trans ?_
            exact (G6.out.block _ HIL.out.1 (fun e => by have := (World.ownsRow.lt O5.out _ e.symm).2; have := HIL.out; have := HIB.out; omega)).trans HIL.out.2)
          have hP7l : PB < W7.heap.size := P7.out.lt
          clear hW7 c25B fz6 hS hS2 hS3 hS6 hbT hbB
          go_wp2_with fail
          refine (MC.out _ I7.out).mono ?_
          rintro e w8 ⟨⟨vr, rfl⟩, hi8, hf8⟩
          have HR8 : Hid (ParB w8 PB z5 (.slice va vn vc) (.slice (some ⟨B, 0, none⟩) N cap) (.slice u6 (m + 1) d6) (.slice none 0 0)) := hideP (P7.out.keep (hf8.2.2.2.2 PB hP7l (by have := HPT.out; omega)))
          have HI8 := hideP hi8
          have HO8 : Hid (w8.ownsRow (T + 1) 119 9 (.slice u6 (m + 1) d6) (m + 1) (L ++ [.int .i64 z0, .int .i64 z1, .int .i64 z2, .int .i64 z3, .int .i64 z4, .int .i64 z5', .int .i64 z6, .int .i64 z7, .int .i64 z8])) := hideP (by
            obtain ⟨h0, h | ⟨gg, cap', cur, e, hgb, hb, hr'⟩⟩ := O7.out
            · exact ⟨h0, .inl h⟩
            · exact ⟨h0, .inr ⟨gg, cap', cur, e, hgb, (hf8.2.2.2.2 gg (Array.getElem?_eq_some_iff.1 hb).1 (by omega)).trans hb, hr'⟩⟩)
          have HF8 : Hid (Fr PB w w8) := hideP ⟨hf8.1.trans F7.out.1, hf8.2.1.trans F7.out.2.1, hf8.2.2.1.trans F7.out.2.2.1, Nat.le_trans F7.out.2.2.2.1 hf8.2.2.2.1, fun b hb hn => (hf8.2.2.2.2 b (Nat.lt_of_lt_of_le hb F7.out.2.2.2.1) (by have := HWT.out; omega)).trans (F7.out.2.2.2.2 b hb hn)⟩
          have HB8 : Hid (w8.heap[B]? = w1.heap[B]?) := hideP ((hf8.2.2.2.2 B (by have h := HBB.out; have h1 := hBP.out.2; exact (Array.getElem?_eq_some_iff.1 (h.trans (Array.getElem?_eq_getElem h1))).1) (by have := HTB1.out; omega)).trans HBB.out)
          clear hi8 hf8 j0 j1 j2 j3
          go_wp2
          go_roundw
          case rel => exact ⟨k + 1, _, m + 1, _, by omega, by go_num, by omega, HR8, HI8, HO8, HF8, HB8⟩
          case measure => simp [intOf]; omega
        · rw [if_pos (by first | rfl | go_simp)]
          go_simp
          refine hK.out _ _ (TB.out) (fun hS2 => ?_)
          try simp only [Act.put, List.getElem_toArray, List.getElem_cons_zero, List.getElem_cons_succ, List.setIfInBounds_toArray, List.set_cons_zero, List.set_cons_succ]
          clear hK K
          have c25W : (WA.alloc (.cells #[.int .i64 z0, .int .i64 z1, .int .i64 z2, .int .i64 z3, .int .i64 z4, .int .i64 z5', .int .i64 z6, .int .i64 z7, .int .i64 z8] 119)).drew.cell? ⟨PB, 25, none⟩ = some (.slice ut m ct) := by rw [← hWB]; exact PBk.out.c25
          refine wpAnyH_ready (rs := [4]) (by kernel_rfl) (by simp) ?_
          refine AllReadyH.cons rfl (fun K hK => ?_) AllReadyH.nil
          rw [if_pos (by first | rfl | go_simp)]
          go_simp
          refine hK.out _ _ (TB.out) (fun hS3 => ?_)
          try simp only [Act.put, List.getElem_toArray, List.getElem_cons_zero, List.getElem_cons_succ, List.setIfInBounds_toArray, List.set_cons_zero, List.set_cons_succ]
          clear hK K
          refine wpAnyH_ready (rs := [7]) (by kernel_rfl) (by simp) ?_
          refine AllReadyH.cons rfl (fun K hK => ?_) AllReadyH.nil
          rw [if_pos (by first | rfl | go_simp)]
          rw [← hWB]
          refine wp_append_at _ _ 79 rfl (T + 1) 119 i0 (.agg #[.int .i64 0, .int .i64 0, .int .i64 0, .int .i64 0, .int .i64 0, .int .i64 0, .int .i64 0, .int .i64 0, .int .i64 0]) 9 72 Try.underlying79 hi0 hy0 hy1 hy2 rfl (by decide) (.slice ut m ct) m L rfl OB.out ⟨WA.heap.size, 0, none⟩ 1 1 [.int .i64 z0, .int .i64 z1, .int .i64 z2, .int .i64 z3, .int .i64 z4, .int .i64 z5', .int .i64 z6, .int .i64 z7, .int .i64 z8] rfl rfl NB.out (by intro u hu; simp at hu; rcases hu with rfl | rfl | rfl | rfl | rfl | rfl | rfl | rfl | rfl <;> rfl) (by unfold maxLen; omega) (by omega) hwB ?_
          intro v6 w6 ho6 hg6 hn6 hat6
          obtain ⟨u6, d6, rfl⟩ := ownG_shape ho6
          have hb6 : w6.heap[T]? = WA.heap[T]? := (hg6.block _ HLB.out.1 (fun e => HNE.out e.symm)).trans HLB.out.2.2
          have T6 := hideP (HTB.out w6 hb6)
          have P6 : Hid (ParB w6 PB z5 (.slice va vn vc) (.slice (some ⟨B, 0, none⟩) N cap) (.slice ut m ct) (.slice none 0 0)) := hideP (PBk.out.keep (hg6.block PB HLB.out.2.1 (fun e => HTP.out e.symm)))
          have c25B := P6.out.c25
          have fz6 := P6.out.free
          have O6 : Hid (w6.ownsRow (T + 1) 119 9 (.slice u6 (m + 1) d6) (m + 1) (L ++ [.int .i64 z0, .int .i64 z1, .int .i64 z2, .int .i64 z3, .int .i64 z4, .int .i64 z5', .int .i64 z6, .int .i64 z7, .int .i64 z8])) := hideP ho6
          have T7 := hideP (HTB.out (w6.setCell ⟨PB, 25, none⟩ (.slice u6 (m + 1) d6)) ((Below.heap_setCell _ _ _ _ (by simp; have := HPT.out; omega)).trans hb6))
          have hP6l : PB < w6.heap.size := P6.out.lt
          have G6 := hideP hg6
          have HB6 := hideP hb6
          clear ho6 hg6 hn6 hat6 hb6
          refine hK.out _ _ T6.out (fun hS6 => ?_)
          try simp only [Act.put, List.getElem_toArray, List.getElem_cons_zero, List.getElem_cons_succ, List.setIfInBounds_toArray, List.set_cons_zero, List.set_cons_succ]
          clear hK K
          refine wpAnyH_take (i := 8) (v := .pointer (some ⟨PB, 0, none⟩)) rfl (by kernel_rfl) (by kernel_rfl) (by kernel_rfl) (fun _ _ _ h => h) (Or.inl ⟨by first | rfl | go_simp, fun wx hx => by obtain ⟨hx0, hx1, hx2, hx3, hx4, hx5, hx6, hx7, hx8⟩ := hx; go_simp⟩) hS6 ?_
          try simp only [Act.put, List.getElem_toArray, List.getElem_cons_zero, List.getElem_cons_succ, List.setIfInBounds_toArray, List.set_cons_zero, List.set_cons_succ]
          refine wpAnyH_take (i := 9) (v := .pointer (some ⟨PB, 25, none⟩)) rfl (by kernel_rfl) (by kernel_rfl) (by kernel_rfl) (fun _ _ _ h => h) (Or.inl ⟨by first | rfl | go_simp, fun wx hx => by obtain ⟨hx0, hx1, hx2, hx3, hx4, hx5, hx6, hx7, hx8⟩ := hx; go_simp⟩) hS6 ?_
          try simp only [Act.put, List.getElem_toArray, List.getElem_cons_zero, List.getElem_cons_succ, List.setIfInBounds_toArray, List.set_cons_zero, List.set_cons_succ]
          refine wpAnyH_ready (rs := [10]) (by kernel_rfl) (by simp) ?_
          refine AllReadyH.cons rfl (fun K hK => ?_) AllReadyH.nil
          rw [if_pos (by first | rfl | go_simp)]
          go_simp
          refine hK.out _ _ (T7.out) (fun _ => ?_)
          try simp only [Act.put, List.getElem_toArray, List.getElem_cons_zero, List.getElem_cons_succ, List.setIfInBounds_toArray, List.set_cons_zero, List.set_cons_succ]
          clear hK K
          refine wpAnyH_done (by kernel_rfl) ?_ _
          obtain ⟨W7, hW7⟩ : ∃ W7, W7 = w6.setCell ⟨PB, 25, none⟩ (.slice u6 (m + 1) d6) := ⟨_, rfl⟩
          rw [← hW7]
          have HNP : Hid ((Value.slice u6 (m + 1) d6).ownBlock ≠ some PB) := hideP (fun e => by have := (World.ownsRow.lt O6.out _ e).1; have := HPT.out; omega)
          have HNT : Hid ((Value.slice u6 (m + 1) d6).ownBlock ≠ some T) := hideP (fun e => by have := (World.ownsRow.lt O6.out _ e).1; omega)
          have P7 : Hid (ParB W7 PB z5 (.slice va vn vc) (.slice (some ⟨B, 0, none⟩) N cap) (.slice u6 (m + 1) d6) (.slice none 0 0)) := hideP (by rw [hW7]; exact P6.out.sums)
          have O7 : Hid (W7.ownsRow (T + 1) 119 9 (.slice u6 (m + 1) d6) (m + 1) (L ++ [.int .i64 z0, .int .i64 z1, .int .i64 z2, .int .i64 z3, .int .i64 z4, .int .i64 z5', .int .i64 z6, .int .i64 z7, .int .i64 z8])) := hideP (by rw [hW7]; exact ownG_other O6.out HNP.out 25 _)
          have F7 : Hid (Fr PB w W7) := hideP (by
            rw [hW7]
            refine Fr.set ?_ _ _
            refine ⟨G6.out.os.trans FB.out.1, G6.out.tape.trans FB.out.2.1, G6.out.output.trans FB.out.2.2.1, Nat.le_trans FB.out.2.2.2.1 G6.out.size, fun b hb hn => ?_⟩
            exact (G6.out.block b (Nat.lt_of_lt_of_le hb FB.out.2.2.2.1) (fun e => by have := (World.ownsRow.lt OB.out b e.symm).1; have := HWT.out; omega)).trans (FB.out.2.2.2.2 b hb hn))
          have hbT : W7.heap[T]? = WA.heap[T]? := by rw [hW7]; exact (Below.heap_setCell _ _ _ _ (by simp; have := HPT.out; omega)).trans HB6.out
          have I7 : Hid (Ints W7 T 119 9) := hideP (by obtain ⟨zs, h1, h2⟩ := IA.out; exact ⟨zs, h1, hbT.trans h2⟩)
          have hbB : W7.heap[B]? = w1.heap[B]? := by
            rw [hW7]
            refine (Below.heap_setCell _ _ _ _ (by simp; have := hBP.out; omega)).trans ?_
            exact (G6.out.block B HBL.out.1 (fun e => by have := (World.ownsRow.lt OB.out B e.symm).1; have := HTB1.out; omega)).trans HBL.out.2
          have HBB := hideP hbB
          obtain ⟨j0, j1, j2, j3⟩ := HIC.out W7 (by
            rw [hW7]
            refine (Below.heap_setCell _ _ _ _ (by simp; have := HIB.out; omega)).trans ?_
            exact (G6.out.block _ HIL.out.1 (fun e => by have := (World.ownsRow.lt O5.out _ e.symm).2; have := HIL.out; have := HIB.out; omega)).trans HIL.out.2)
          have hP7l : PB < W7.heap.size := P7.out.lt
          clear hW7 c25B fz6 hS hS2 hS3 hS6 hbT hbB
          go_wp2_with fail
          refine (MC.out _ I7.out).mono ?_
          rintro e w8 ⟨⟨vr, rfl⟩, hi8, hf8⟩
          have HR8 : Hid (ParB w8 PB z5 (.slice va vn vc) (.slice (some ⟨B, 0, none⟩) N cap) (.slice u6 (m + 1) d6) (.slice none 0 0)) := hideP (P7.out.keep (hf8.2.2.2.2 PB hP7l (by have := HPT.out; omega)))
          have HI8 := hideP hi8
          have HO8 : Hid (w8.ownsRow (T + 1) 119 9 (.slice u6 (m + 1) d6) (m + 1) (L ++ [.int .i64 z0, .int .i64 z1, .int .i64 z2, .int .i64 z3, .int .i64 z4, .int .i64 z5', .int .i64 z6, .int .i64 z7, .int .i64 z8])) := hideP (by
            obtain ⟨h0, h | ⟨gg, cap', cur, e, hgb, hb, hr'⟩⟩ := O7.out
            · exact ⟨h0, .inl h⟩
            · exact ⟨h0, .inr ⟨gg, cap', cur, e, hgb, (hf8.2.2.2.2 gg (Array.getElem?_eq_some_iff.1 hb).1 (by omega)).trans hb, hr'⟩⟩)
          have HF8 : Hid (Fr PB w w8) := hideP ⟨hf8.1.trans F7.out.1, hf8.2.1.trans F7.out.2.1, hf8.2.2.1.trans F7.out.2.2.1, Nat.le_trans F7.out.2.2.2.1 hf8.2.2.2.1, fun b hb hn => (hf8.2.2.2.2 b (Nat.lt_of_lt_of_le hb F7.out.2.2.2.1) (by have := HWT.out; omega)).trans (F7.out.2.2.2.2 b hb hn)⟩
          have HB8 : Hid (w8.heap[B]? = w1.heap[B]?) := hideP ((hf8.2.2.2.2 B (by have h := HBB.out; have h1 := hBP.out.2; exact (Array.getElem?_eq_some_iff.1 (h.trans (Array.getElem?_eq_getElem h1))).1) (by have := HTB1.out; omega)).trans HBB.out)
          clear hi8 hf8 j0 j1 j2 j3
          go_wp2
          go_roundw
          case rel => exact ⟨k + 1, _, m + 1, _, by omega, by go_num, by omega, HR8, HI8, HO8, HF8, HB8⟩
          case measure => simp [intOf]; omega
      · go_wp2
        obtain ⟨WA, hWA⟩ : ∃ WA, WA = wr.alloc (.cells #[.iface Xi qi, .int .i64 y1, .int .i64 y2] 93) := ⟨_, rfl⟩
        rw [← hWA]
        have hqI := heap_alloc_new wr (.cells #[.iface Xi qi, .int .i64 y1, .int .i64 y2] 93)
        rw [← hWA] at hqI
        have hsA : WA.heap.size = wr.heap.size + 1 := by rw [hWA]; simp
        have BA : Hid (Below wr.heap.size wr WA) := hideP (by rw [hWA]; exact below1 _ _)
        have PA : Hid (ParB WA PB z5 (.slice va vn vc) (.slice (some ⟨B, 0, none⟩) N cap) (.slice ut m ct) (.slice none 0 0)) := hideP (HPr.out.keep (BA.out.block PB hPl2))
        have IA : Hid (Ints WA T 119 9) := hideP (HIr.out.below BA.out)
        have OA : Hid (WA.ownsRow (T + 1) 119 9 (.slice ut m ct) m L) := hideP (ownG_below HOr.out BA.out)
        have O5 := HOr
        have FA : Hid (Fr PB w WA) := hideP (HFr.out.below BA.out)
        have HBA : Hid (B < WA.heap.size ∧ WA.heap[B]? = w1.heap[B]?) := hideP ⟨by omega, (BA.out.block B hBl).trans HBr.out⟩
        have HIC : Hid (∀ X : World, X.heap[wr.heap.size]? = WA.heap[wr.heap.size]? → X.cell? ⟨wr.heap.size, 0, none⟩ = some (.iface Xi qi) ∧ X.cell? ⟨wr.heap.size, 1, none⟩ = some (.int .i64 y1) ∧ X.cell? ⟨wr.heap.size, 2, none⟩ = some (.int .i64 y2) ∧ wr.heap.size < X.heap.size) := hideP (fun X hX => by
          have hh := hX.trans hqI
          exact ⟨by rw [cell_of_row X _ _ _ _ _ hh]; rfl, by rw [cell_of_row X _ _ _ _ _ hh]; rfl, by rw [cell_of_row X _ _ _ _ _ hh]; rfl, (Array.getElem?_eq_some_iff.1 hh).1⟩)
        have HIB : Hid (PB < wr.heap.size) := hideP hPl2
        have c25A := PA.out.c25
        have fzA := PA.out.free
        have hPAl : PB < WA.heap.size := PA.out.lt
        have hTl : T < WA.heap.size := IA.out.lt
        obtain ⟨z0, t0⟩ := IA.out.cell 0 (by omega)
        obtain ⟨z1, t1⟩ := IA.out.cell 1 (by omega)
        obtain ⟨z2, t2⟩ := IA.out.cell 2 (by omega)
        obtain ⟨z3, t3⟩ := IA.out.cell 3 (by omega)
        obtain ⟨z4, t4⟩ := IA.out.cell 4 (by omega)
        obtain ⟨z5', t5⟩ := IA.out.cell 5 (by omega)
        obtain ⟨z6, t6⟩ := IA.out.cell 6 (by omega)
        obtain ⟨z7, t7⟩ := IA.out.cell 7 (by omega)
        obtain ⟨z8, t8⟩ := IA.out.cell 8 (by omega)
        have HTB : Hid (∀ X : World, X.heap[T]? = WA.heap[T]? → X.cell? ⟨T, 0, none⟩ = some (.int .i64 z0) ∧ X.cell? ⟨T, 1, none⟩ = some (.int .i64 z1) ∧ X.cell? ⟨T, 2, none⟩ = some (.int .i64 z2) ∧ X.cell? ⟨T, 3, none⟩ = some (.int .i64 z3) ∧ X.cell? ⟨T, 4, none⟩ = some (.int .i64 z4) ∧ X.cell? ⟨T, 5, none⟩ = some (.int .i64 z5') ∧ X.cell? ⟨T, 6, none⟩ = some (.int .i64 z6) ∧ X.cell? ⟨T, 7, none⟩ = some (.int .i64 z7) ∧ X.cell? ⟨T, 8, none⟩ = some (.int .i64 z8)) := hideP (fun X hX => ⟨(World.cell?_of_block (a := ⟨T, 0, none⟩) hX).trans t0, (World.cell?_of_block (a := ⟨T, 1, none⟩) hX).trans t1, (World.cell?_of_block (a := ⟨T, 2, none⟩) hX).trans t2, (World.cell?_of_block (a := ⟨T, 3, none⟩) hX).trans t3, (World.cell?_of_block (a := ⟨T, 4, none⟩) hX).trans t4, (World.cell?_of_block (a := ⟨T, 5, none⟩) hX).trans t5, (World.cell?_of_block (a := ⟨T, 6, none⟩) hX).trans t6, (World.cell?_of_block (a := ⟨T, 7, none⟩) hX).trans t7, (World.cell?_of_block (a := ⟨T, 8, none⟩) hX).trans t8⟩)
        have TB : Hid ((WA.alloc (.cells #[.int .i64 z0, .int .i64 z1, .int .i64 z2, .int .i64 z3, .int .i64 z4, .int .i64 z5', .int .i64 z6, .int .i64 z7, .int .i64 z8] 119)).drew.cell? ⟨T, 0, none⟩ = some (.int .i64 z0) ∧ (WA.alloc (.cells #[.int .i64 z0, .int .i64 z1, .int .i64 z2, .int .i64 z3, .int .i64 z4, .int .i64 z5', .int .i64 z6, .int .i64 z7, .int .i64 z8] 119)).drew.cell? ⟨T, 1, none⟩ = some (.int .i64 z1) ∧ (WA.alloc (.cells #[.int .i64 z0, .int .i64 z1, .int .i64 z2, .int .i64 z3, .int .i64 z4, .int .i64 z5', .int .i64 z6, .int .i64 z7, .int .i64 z8] 119)).drew.cell? ⟨T, 2, none⟩ = some (.int .i64 z2) ∧ (WA.alloc (.cells #[.int .i64 z0, .int .i64 z1, .int .i64 z2, .int .i64 z3, .int .i64 z4, .int .i64 z5', .int .i64 z6, .int .i64 z7, .int .i64 z8] 119)).drew.cell? ⟨T, 3, none⟩ = some (.int .i64 z3) ∧ (WA.alloc (.cells #[.int .i64 z0, .int .i64 z1, .int .i64 z2, .int .i64 z3, .int .i64 z4, .int .i64 z5', .int .i64 z6, .int .i64 z7, .int .i64 z8] 119)).drew.cell? ⟨T, 4, none⟩ = some (.int .i64 z4) ∧ (WA.alloc (.cells #[.int .i64 z0, .int .i64 z1, .int .i64 z2, .int .i64 z3, .int .i64 z4, .int .i64 z5', .int .i64 z6, .int .i64 z7, .int .i64 z8] 119)).drew.cell? ⟨T, 5, none⟩ = some (.int .i64 z5') ∧ (WA.alloc (.cells #[.int .i64 z0, .int .i64 z1, .int .i64 z2, .int .i64 z3, .int .i64 z4, .int .i64 z5', .int .i64 z6, .int .i64 z7, .int .i64 z8] 119)).drew.cell? ⟨T, 6, none⟩ = some (.int .i64 z6) ∧ (WA.alloc (.cells #[.int .i64 z0, .int .i64 z1, .int .i64 z2, .int .i64 z3, .int .i64 z4, .int .i64 z5', .int .i64 z6, .int .i64 z7, .int .i64 z8] 119)).drew.cell? ⟨T, 7, none⟩ = some (.int .i64 z7) ∧ (WA.alloc (.cells #[.int .i64 z0, .int .i64 z1, .int .i64 z2, .int .i64 z3, .int .i64 z4, .int .i64 z5', .int .i64 z6, .int .i64 z7, .int .i64 z8] 119)).drew.cell? ⟨T, 8, none⟩ = some (.int .i64 z8)) := hideP (HTB.out _ ((below1 WA _).block _ hTl))
        have HNE : Hid ((Value.slice ut m ct).ownBlock ≠ some T) := hideP (fun e => by have := (World.ownsRow.lt OA.out _ e).1; omega)
        have HTP : Hid ((Value.slice ut m ct).ownBlock ≠ some PB) := hideP (fun e => by have := (World.ownsRow.lt OA.out _ e).1; have := HPT.out; omega)
        have OB : Hid ((WA.alloc (.cells #[.int .i64 z0, .int .i64 z1, .int .i64 z2, .int .i64 z3, .int .i64 z4, .int .i64 z5', .int .i64 z6, .int .i64 z7, .int .i64 z8] 119)).drew.ownsRow (T + 1) 119 9 (.slice ut m ct) m L) := hideP (show World.ownsRow (WA.alloc (.cells #[.int .i64 z0, .int .i64 z1, .int .i64 z2, .int .i64 z3, .int .i64 z4, .int .i64 z5', .int .i64 z6, .int .i64 z7, .int .i64 z8] 119)) _ _ _ _ _ _ from ownG_below OA.out (below1 _ _))
        have NB : Hid (∀ j z, ([.int .i64 z0, .int .i64 z1, .int .i64 z2, .int .i64 z3, .int .i64 z4, .int .i64 z5', .int .i64 z6, .int .i64 z7, .int .i64 z8] : List Value)[j]? = some z → (WA.alloc (.cells #[.int .i64 z0, .int .i64 z1, .int .i64 z2, .int .i64 z3, .int .i64 z4, .int .i64 z5', .int .i64 z6, .int .i64 z7, .int .i64 z8] 119)).drew.cell? ((⟨WA.heap.size, 0, none⟩ : Addr).add j) = some z) := hideP (fun j z hz => by
          have he : ((⟨WA.heap.size, 0, none⟩ : Addr).add j) = ⟨WA.heap.size, j, none⟩ := by simp only [Addr.add]; split <;> simp_all
          have hh2 : (WA.alloc (.cells #[.int .i64 z0, .int .i64 z1, .int .i64 z2, .int .i64 z3, .int .i64 z4, .int .i64 z5', .int .i64 z6, .int .i64 z7, .int .i64 z8] 119)).drew.heap[WA.heap.size]? = some (.cells #[.int .i64 z0, .int .i64 z1, .int .i64 z2, .int .i64 z3, .int .i64 z4, .int .i64 z5', .int .i64 z6, .int .i64 z7, .int .i64 z8] 119 (0, 0)) := heap_alloc_new WA (.cells #[.int .i64 z0, .int .i64 z1, .int .i64 z2, .int .i64 z3, .int .i64 z4, .int .i64 z5', .int .i64 z6, .int .i64 z7, .int .i64 z8] 119)
          rw [he, cell_of_row _ _ _ _ _ _ hh2, ← hz]
          simp)
        have hwB : T + 1 ≤ (WA.alloc (.cells #[.int .i64 z0, .int .i64 z1, .int .i64 z2, .int .i64 z3, .int .i64 z4, .int .i64 z5', .int .i64 z6, .int .i64 z7, .int .i64 z8] 119)).drew.heap.size := show T + 1 ≤ (WA.alloc (.cells #[.int .i64 z0, .int .i64 z1, .int .i64 z2, .int .i64 z3, .int .i64 z4, .int .i64 z5', .int .i64 z6, .int .i64 z7, .int .i64 z8] 119)).heap.size by simp; omega
        have FB : Hid (Fr PB w (WA.alloc (.cells #[.int .i64 z0, .int .i64 z1, .int .i64 z2, .int .i64 z3, .int .i64 z4, .int .i64 z5', .int .i64 z6, .int .i64 z7, .int .i64 z8] 119)).drew) := hideP ((FA.out.alloc _).drew)
        have PBk : Hid (ParB (WA.alloc (.cells #[.int .i64 z0, .int .i64 z1, .int .i64 z2, .int .i64 z3, .int .i64 z4, .int .i64 z5', .int .i64 z6, .int .i64 z7, .int .i64 z8] 119)).drew PB z5 (.slice va vn vc) (.slice (some ⟨B, 0, none⟩) N cap) (.slice ut m ct) (.slice none 0 0)) := hideP (PA.out.keep ((below1 WA _).block PB hPAl))
        obtain ⟨WB, hWB⟩ : ∃ WB, WB = (WA.alloc (.cells #[.int .i64 z0, .int .i64 z1, .int .i64 z2, .int .i64 z3, .int .i64 z4, .int .i64 z5', .int .i64 z6, .int .i64 z7, .int .i64 z8] 119)).drew := ⟨_, rfl⟩
        have HLB : Hid (T < WB.heap.size ∧ PB < WB.heap.size ∧ WB.heap[T]? = WA.heap[T]?) := hideP (by
          rw [hWB]
          exact ⟨Nat.lt_of_lt_of_le hTl (below1 WA (.cells #[.int .i64 z0, .int .i64 z1, .int .i64 z2, .int .i64 z3, .int .i64 z4, .int .i64 z5', .int .i64 z6, .int .i64 z7, .int .i64 z8] 119)).size, Nat.lt_of_lt_of_le hPAl (below1 WA (.cells #[.int .i64 z0, .int .i64 z1, .int .i64 z2, .int .i64 z3, .int .i64 z4, .int .i64 z5', .int .i64 z6, .int .i64 z7, .int .i64 z8] 119)).size, (below1 WA (.cells #[.int .i64 z0, .int .i64 z1, .int .i64 z2, .int .i64 z3, .int .i64 z4, .int .i64 z5', .int .i64 z6, .int .i64 z7, .int .i64 z8] 119)).block _ hTl⟩)
        have HBL : Hid (B < WB.heap.size ∧ WB.heap[B]? = w1.heap[B]?) := hideP (by
          rw [hWB]
          exact ⟨Nat.lt_of_lt_of_le HBA.out.1 (below1 WA (.cells #[.int .i64 z0, .int .i64 z1, .int .i64 z2, .int .i64 z3, .int .i64 z4, .int .i64 z5', .int .i64 z6, .int .i64 z7, .int .i64 z8] 119)).size, ((below1 WA (.cells #[.int .i64 z0, .int .i64 z1, .int .i64 z2, .int .i64 z3, .int .i64 z4, .int .i64 z5', .int .i64 z6, .int .i64 z7, .int .i64 z8] 119)).block _ HBA.out.1).trans HBA.out.2⟩)
        have HIL : Hid (wr.heap.size < WB.heap.size ∧ WB.heap[wr.heap.size]? = WA.heap[wr.heap.size]?) := hideP (by
          rw [hWB]
          exact ⟨Nat.lt_of_lt_of_le (by omega) (below1 WA (.cells #[.int .i64 z0, .int .i64 z1, .int .i64 z2, .int .i64 z3, .int .i64 z4, .int .i64 z5', .int .i64 z6, .int .i64 z7, .int .i64 z8] 119)).size, (below1 WA (.cells #[.int .i64 z0, .int .i64 z1, .int .i64 z2, .int .i64 z3, .int .i64 z4, .int .i64 z5', .int .i64 z6, .int .i64 z7, .int .i64 z8] 119)).block _ (by omega)⟩)
        rw [← hWB] at OB NB hwB FB PBk
        clear hWA hqI k0 k1 k2 c25 fz hsA
        refine wp_region_held_drew (S := (fun x => x.cell? ⟨T, 0, none⟩ = some (.int .i64 z0) ∧ x.cell? ⟨T, 1, none⟩ = some (.int .i64 z1) ∧ x.cell? ⟨T, 2, none⟩ = some (.int .i64 z2) ∧ x.cell? ⟨T, 3, none⟩ = some (.int .i64 z3) ∧ x.cell? ⟨T, 4, none⟩ = some (.int .i64 z4) ∧ x.cell? ⟨T, 5, none⟩ = some (.int .i64 z5') ∧ x.cell? ⟨T, 6, none⟩ = some (.int .i64 z6) ∧ x.cell? ⟨T, 7, none⟩ = some (.int .i64 z7) ∧ x.cell? ⟨T, 8, none⟩ = some (.int .i64 z8))) (by kernel_rfl) ⟨t0, t1, t2, t3, t4, t5, t6, t7, t8⟩ (fun hS => ?_)
        refine wpAnyH_take (i := 0) (v := .pointer (some ⟨PB, 0, none⟩)) rfl (by kernel_rfl) (by kernel_rfl) (by kernel_rfl) (fun _ _ _ h => h) (Or.inl ⟨by first | rfl | go_simp, fun wx hx => by obtain ⟨hx0, hx1, hx2, hx3, hx4, hx5, hx6, hx7, hx8⟩ := hx; go_simp⟩) hS ?_
        try simp only [Act.put, List.getElem_toArray, List.getElem_cons_zero, List.getElem_cons_succ, List.setIfInBounds_toArray, List.set_cons_zero, List.set_cons_succ]
        refine wpAnyH_take (i := 1) (v := .pointer (some ⟨PB, 0, none⟩)) rfl (by kernel_rfl) (by kernel_rfl) (by kernel_rfl) (fun _ _ _ h => h) (Or.inl ⟨by first | rfl | go_simp, fun wx hx => by obtain ⟨hx0, hx1, hx2, hx3, hx4, hx5, hx6, hx7, hx8⟩ := hx; go_simp⟩) hS ?_
        try simp only [Act.put, List.getElem_toArray, List.getElem_cons_zero, List.getElem_cons_succ, List.setIfInBounds_toArray, List.set_cons_zero, List.set_cons_succ]
        refine wpAnyH_take (i := 2) (v := .pointer (some ⟨PB, 0, none⟩)) rfl (by kernel_rfl) (by kernel_rfl) (by kernel_rfl) (fun _ _ _ h => h) (Or.inl ⟨by first | rfl | go_simp, fun wx hx => by obtain ⟨hx0, hx1, hx2, hx3, hx4, hx5, hx6, hx7, hx8⟩ := hx; go_simp⟩) hS ?_
        try simp only [Act.put, List.getElem_toArray, List.getElem_cons_zero, List.getElem_cons_succ, List.setIfInBounds_toArray, List.set_cons_zero, List.set_cons_succ]
        refine wpAnyH_take (i := 3) (v := .pointer (some ⟨PB, 25, none⟩)) rfl (by kernel_rfl) (by kernel_rfl) (by kernel_rfl) (fun _ _ _ h => h) (Or.inl ⟨by first | rfl | go_simp, fun wx hx => by obtain ⟨hx0, hx1, hx2, hx3, hx4, hx5, hx6, hx7, hx8⟩ := hx; go_simp⟩) hS ?_
        try simp only [Act.put, List.getElem_toArray, List.getElem_cons_zero, List.getElem_cons_succ, List.setIfInBounds_toArray, List.set_cons_zero, List.set_cons_succ]
        refine wpAnyH_take (i := 5) (v := .agg #[.int .i64 z0, .int .i64 z1, .int .i64 z2, .int .i64 z3, .int .i64 z4, .int .i64 z5', .int .i64 z6, .int .i64 z7, .int .i64 z8]) rfl (by kernel_rfl) (by kernel_rfl) (by kernel_rfl) (fun _ _ _ h => h) (Or.inl ⟨by first | rfl | go_simp, fun wx hx => by obtain ⟨hx0, hx1, hx2, hx3, hx4, hx5, hx6, hx7, hx8⟩ := hx; go_simp⟩) hS ?_
        try simp only [Act.put, List.getElem_toArray, List.getElem_cons_zero, List.getElem_cons_succ, List.setIfInBounds_toArray, List.set_cons_zero, List.set_cons_succ]
        refine wpAnyH_ready (rs := [4, 6]) (by kernel_rfl) (by simp) ?_
        refine AllReadyH.cons rfl (fun K hK => ?_) (AllReadyH.cons rfl (fun K hK => ?_) AllReadyH.nil)
        · rw [if_pos (by first | rfl | go_simp)]
          go_simp
          refine hK.out _ _ (⟨t0, t1, t2, t3, t4, t5, t6, t7, t8⟩) (fun hS2 => ?_)
          try simp only [Act.put, List.getElem_toArray, List.getElem_cons_zero, List.getElem_cons_succ, List.setIfInBounds_toArray, List.set_cons_zero, List.set_cons_succ]
          clear hK K
          refine wpAnyH_ready (rs := [6]) (by kernel_rfl) (by simp) ?_
          refine AllReadyH.cons rfl (fun K hK => ?_) AllReadyH.nil
          rw [if_pos (by first | rfl | go_simp)]
          go_simp
          refine hK.out _ _ (TB.out) (fun hS3 => ?_)
          try simp only [Act.put, List.getElem_toArray, List.getElem_cons_zero, List.getElem_cons_succ, List.setIfInBounds_toArray, List.set_cons_zero, List.set_cons_succ]
          clear hK K
          refine wpAnyH_ready (rs := [7]) (by kernel_rfl) (by simp) ?_
          refine AllReadyH.cons rfl (fun K hK => ?_) AllReadyH.nil
          rw [if_pos (by first | rfl | go_simp)]
          rw [← hWB]
          refine wp_append_at _ _ 79 rfl (T + 1) 119 i0 (.agg #[.int .i64 0, .int .i64 0, .int .i64 0, .int .i64 0, .int .i64 0, .int .i64 0, .int .i64 0, .int .i64 0, .int .i64 0]) 9 72 Try.underlying79 hi0 hy0 hy1 hy2 rfl (by decide) (.slice ut m ct) m L rfl OB.out ⟨WA.heap.size, 0, none⟩ 1 1 [.int .i64 z0, .int .i64 z1, .int .i64 z2, .int .i64 z3, .int .i64 z4, .int .i64 z5', .int .i64 z6, .int .i64 z7, .int .i64 z8] rfl rfl NB.out (by intro u hu; simp at hu; rcases hu with rfl | rfl | rfl | rfl | rfl | rfl | rfl | rfl | rfl <;> rfl) (by unfold maxLen; omega) (by omega) hwB ?_
          intro v6 w6 ho6 hg6 hn6 hat6
          obtain ⟨u6, d6, rfl⟩ := ownG_shape ho6
          have hb6 : w6.heap[T]? = WA.heap[T]? := (hg6.block _ HLB.out.1 (fun e => HNE.out e.symm)).trans HLB.out.2.2
          have T6 := hideP (HTB.out w6 hb6)
          have P6 : Hid (ParB w6 PB z5 (.slice va vn vc) (.slice (some ⟨B, 0, none⟩) N cap) (.slice ut m ct) (.slice none 0 0)) := hideP (PBk.out.keep (hg6.block PB HLB.out.2.1 (fun e => HTP.out e.symm)))
          have c25B := P6.out.c25
          have fz6 := P6.out.free
          have O6 : Hid (w6.ownsRow (T + 1) 119 9 (.slice u6 (m + 1) d6) (m + 1) (L ++ [.int .i64 z0, .int .i64 z1, .int .i64 z2, .int .i64 z3, .int .i64 z4, .int .i64 z5', .int .i64 z6, .int .i64 z7, .int .i64 z8])) := hideP ho6
          have T7 := hideP (HTB.out (w6.setCell ⟨PB, 25, none⟩ (.slice u6 (m + 1) d6)) ((Below.heap_setCell _ _ _ _ (by simp; have := HPT.out; omega)).trans hb6))
          have hP6l : PB < w6.heap.size := P6.out.lt
          have G6 := hideP hg6
          have HB6 := hideP hb6
          clear ho6 hg6 hn6 hat6 hb6
          refine hK.out _ _ T6.out (fun hS6 => ?_)
          try simp only [Act.put, List.getElem_toArray, List.getElem_cons_zero, List.getElem_cons_succ, List.setIfInBounds_toArray, List.set_cons_zero, List.set_cons_succ]
          clear hK K
          refine wpAnyH_take (i := 8) (v := .pointer (some ⟨PB, 0, none⟩)) rfl (by kernel_rfl) (by kernel_rfl) (by kernel_rfl) (fun _ _ _ h => h) (Or.inl ⟨by first | rfl | go_simp, fun wx hx => by obtain ⟨hx0, hx1, hx2, hx3, hx4, hx5, hx6, hx7, hx8⟩ := hx; go_simp⟩) hS6 ?_
          try simp only [Act.put, List.getElem_toArray, List.getElem_cons_zero, List.getElem_cons_succ, List.setIfInBounds_toArray, List.set_cons_zero, List.set_cons_succ]
          refine wpAnyH_take (i := 9) (v := .pointer (some ⟨PB, 25, none⟩)) rfl (by kernel_rfl) (by kernel_rfl) (by kernel_rfl) (fun _ _ _ h => h) (Or.inl ⟨by first | rfl | go_simp, fun wx hx => by obtain ⟨hx0, hx1, hx2, hx3, hx4, hx5, hx6, hx7, hx8⟩ := hx; go_simp⟩) hS6 ?_
          try simp only [Act.put, List.getElem_toArray, List.getElem_cons_zero, List.getElem_cons_succ, List.setIfInBounds_toArray, List.set_cons_zero, List.set_cons_succ]
          refine wpAnyH_ready (rs := [10]) (by kernel_rfl) (by simp) ?_
          refine AllReadyH.cons rfl (fun K hK => ?_) AllReadyH.nil
          rw [if_pos (by first | rfl | go_simp)]
          go_simp
          refine hK.out _ _ (T7.out) (fun _ => ?_)
          try simp only [Act.put, List.getElem_toArray, List.getElem_cons_zero, List.getElem_cons_succ, List.setIfInBounds_toArray, List.set_cons_zero, List.set_cons_succ]
          clear hK K
          refine wpAnyH_done (by kernel_rfl) ?_ _
          obtain ⟨W7, hW7⟩ : ∃ W7, W7 = w6.setCell ⟨PB, 25, none⟩ (.slice u6 (m + 1) d6) := ⟨_, rfl⟩
          rw [← hW7]
          have HNP : Hid ((Value.slice u6 (m + 1) d6).ownBlock ≠ some PB) := hideP (fun e => by have := (World.ownsRow.lt O6.out _ e).1; have := HPT.out; omega)
          have HNT : Hid ((Value.slice u6 (m + 1) d6).ownBlock ≠ some T) := hideP (fun e => by have := (World.ownsRow.lt O6.out _ e).1; omega)
          have P7 : Hid (ParB W7 PB z5 (.slice va vn vc) (.slice (some ⟨B, 0, none⟩) N cap) (.slice u6 (m + 1) d6) (.slice none 0 0)) := hideP (by rw [hW7]; exact P6.out.sums)
          have O7 : Hid (W7.ownsRow (T + 1) 119 9 (.slice u6 (m + 1) d6) (m + 1) (L ++ [.int .i64 z0, .int .i64 z1, .int .i64 z2, .int .i64 z3, .int .i64 z4, .int .i64 z5', .int .i64 z6, .int .i64 z7, .int .i64 z8])) := hideP (by rw [hW7]; exact ownG_other O6.out HNP.out 25 _)
          have F7 : Hid (Fr PB w W7) := hideP (by
            rw [hW7]
            refine Fr.set ?_ _ _
            refine ⟨G6.out.os.trans FB.out.1, G6.out.tape.trans FB.out.2.1, G6.out.output.trans FB.out.2.2.1, Nat.le_trans FB.out.2.2.2.1 G6.out.size, fun b hb hn => ?_⟩
            exact (G6.out.block b (Nat.lt_of_lt_of_le hb FB.out.2.2.2.1) (fun e => by have := (World.ownsRow.lt OB.out b e.symm).1; have := HWT.out; omega)).trans (FB.out.2.2.2.2 b hb hn))
          have hbT : W7.heap[T]? = WA.heap[T]? := by rw [hW7]; exact (Below.heap_setCell _ _ _ _ (by simp; have := HPT.out; omega)).trans HB6.out
          have I7 : Hid (Ints W7 T 119 9) := hideP (by obtain ⟨zs, h1, h2⟩ := IA.out; exact ⟨zs, h1, hbT.trans h2⟩)
          have hbB : W7.heap[B]? = w1.heap[B]? := by
            rw [hW7]
            refine (Below.heap_setCell _ _ _ _ (by simp; have := hBP.out; omega)).trans ?_
            exact (G6.out.block B HBL.out.1 (fun e => by have := (World.ownsRow.lt OB.out B e.symm).1; have := HTB1.out; omega)).trans HBL.out.2
          have HBB := hideP hbB
          obtain ⟨j0, j1, j2, j3⟩ := HIC.out W7 (by
            rw [hW7]
            refine (Below.heap_setCell _ _ _ _ (by simp; have := HIB.out; omega)).trans ?_
            exact (G6.out.block _ HIL.out.1 (fun e => by have := (World.ownsRow.lt O5.out _ e.symm).2; have := HIL.out; have := HIB.out; omega)).trans HIL.out.2)
          have hP7l : PB < W7.heap.size := P7.out.lt
          clear hW7 c25B fz6 hS hS2 hS3 hS6 hbT hbB
          go_wp2_with fail
          refine (MC.out _ I7.out).mono ?_
          rintro e w8 ⟨⟨vr, rfl⟩, hi8, hf8⟩
          have HR8 : Hid (ParB w8 PB z5 (.slice va vn vc) (.slice (some ⟨B, 0, none⟩) N cap) (.slice u6 (m + 1) d6) (.slice none 0 0)) := hideP (P7.out.keep (hf8.2.2.2.2 PB hP7l (by have := HPT.out; omega)))
          have HI8 := hideP hi8
          have HO8 : Hid (w8.ownsRow (T + 1) 119 9 (.slice u6 (m + 1) d6) (m + 1) (L ++ [.int .i64 z0, .int .i64 z1, .int .i64 z2, .int .i64 z3, .int .i64 z4, .int .i64 z5', .int .i64 z6, .int .i64 z7, .int .i64 z8])) := hideP (by
            obtain ⟨h0, h | ⟨gg, cap', cur, e, hgb, hb, hr'⟩⟩ := O7.out
            · exact ⟨h0, .inl h⟩
            · exact ⟨h0, .inr ⟨gg, cap', cur, e, hgb, (hf8.2.2.2.2 gg (Array.getElem?_eq_some_iff.1 hb).1 (by omega)).trans hb, hr'⟩⟩)
          have HF8 : Hid (Fr PB w w8) := hideP ⟨hf8.1.trans F7.out.1, hf8.2.1.trans F7.out.2.1, hf8.2.2.1.trans F7.out.2.2.1, Nat.le_trans F7.out.2.2.2.1 hf8.2.2.2.1, fun b hb hn => (hf8.2.2.2.2 b (Nat.lt_of_lt_of_le hb F7.out.2.2.2.1) (by have := HWT.out; omega)).trans (F7.out.2.2.2.2 b hb hn)⟩
          have HB8 : Hid (w8.heap[B]? = w1.heap[B]?) := hideP ((hf8.2.2.2.2 B (by have h := HBB.out; have h1 := hBP.out.2; exact (Array.getElem?_eq_some_iff.1 (h.trans (Array.getElem?_eq_getElem h1))).1) (by have := HTB1.out; omega)).trans HBB.out)
          clear hi8 hf8 j0 j1 j2 j3
          go_wp2
          go_roundw
          case rel => exact ⟨k + 1, _, m + 1, _, by omega, by go_num, by omega, HR8, HI8, HO8, HF8, HB8⟩
          case measure => simp [intOf]; omega
        · rw [if_pos (by first | rfl | go_simp)]
          go_simp
          refine hK.out _ _ (TB.out) (fun hS2 => ?_)
          try simp only [Act.put, List.getElem_toArray, List.getElem_cons_zero, List.getElem_cons_succ, List.setIfInBounds_toArray, List.set_cons_zero, List.set_cons_succ]
          clear hK K
          have c25W : (WA.alloc (.cells #[.int .i64 z0, .int .i64 z1, .int .i64 z2, .int .i64 z3, .int .i64 z4, .int .i64 z5', .int .i64 z6, .int .i64 z7, .int .i64 z8] 119)).drew.cell? ⟨PB, 25, none⟩ = some (.slice ut m ct) := by rw [← hWB]; exact PBk.out.c25
          refine wpAnyH_ready (rs := [4]) (by kernel_rfl) (by simp) ?_
          refine AllReadyH.cons rfl (fun K hK => ?_) AllReadyH.nil
          rw [if_pos (by first | rfl | go_simp)]
          go_simp
          refine hK.out _ _ (TB.out) (fun hS3 => ?_)
          try simp only [Act.put, List.getElem_toArray, List.getElem_cons_zero, List.getElem_cons_succ, List.setIfInBounds_toArray, List.set_cons_zero, List.set_cons_succ]
          clear hK K
          refine wpAnyH_ready (rs := [7]) (by kernel_rfl) (by simp) ?_
          refine AllReadyH.cons rfl (fun K hK => ?_) AllReadyH.nil
          rw [if_pos (by first | rfl | go_simp)]
          rw [← hWB]
          refine wp_append_at _ _ 79 rfl (T + 1) 119 i0 (.agg #[.int .i64 0, .int .i64 0, .int .i64 0, .int .i64 0, .int .i64 0, .int .i64 0, .int .i64 0, .int .i64 0, .int .i64 0]) 9 72 Try.underlying79 hi0 hy0 hy1 hy2 rfl (by decide) (.slice ut m ct) m L rfl OB.out ⟨WA.heap.size, 0, none⟩ 1 1 [.int .i64 z0, .int .i64 z1, .int .i64 z2, .int .i64 z3, .int .i64 z4, .int .i64 z5', .int .i64 z6, .int .i64 z7, .int .i64 z8] rfl rfl NB.out (by intro u hu; simp at hu; rcases hu with rfl | rfl | rfl | rfl | rfl | rfl | rfl | rfl | rfl <;> rfl) (by unfold maxLen; omega) (by omega) hwB ?_
          intro v6 w6 ho6 hg6 hn6 hat6
          obtain ⟨u6, d6, rfl⟩ := ownG_shape ho6
          have hb6 : w6.heap[T]? = WA.heap[T]? := (hg6.block _ HLB.out.1 (fun e => HNE.out e.symm)).trans HLB.out.2.2
          have T6 := hideP (HTB.out w6 hb6)
          have P6 : Hid (ParB w6 PB z5 (.slice va vn vc) (.slice (some ⟨B, 0, none⟩) N cap) (.slice ut m ct) (.slice none 0 0)) := hideP (PBk.out.keep (hg6.block PB HLB.out.2.1 (fun e => HTP.out e.symm)))
          have c25B := P6.out.c25
          have fz6 := P6.out.free
          have O6 : Hid (w6.ownsRow (T + 1) 119 9 (.slice u6 (m + 1) d6) (m + 1) (L ++ [.int .i64 z0, .int .i64 z1, .int .i64 z2, .int .i64 z3, .int .i64 z4, .int .i64 z5', .int .i64 z6, .int .i64 z7, .int .i64 z8])) := hideP ho6
          have T7 := hideP (HTB.out (w6.setCell ⟨PB, 25, none⟩ (.slice u6 (m + 1) d6)) ((Below.heap_setCell _ _ _ _ (by simp; have := HPT.out; omega)).trans hb6))
          have hP6l : PB < w6.heap.size := P6.out.lt
          have G6 := hideP hg6
          have HB6 := hideP hb6
          clear ho6 hg6 hn6 hat6 hb6
          refine hK.out _ _ T6.out (fun hS6 => ?_)
          try simp only [Act.put, List.getElem_toArray, List.getElem_cons_zero, List.getElem_cons_succ, List.setIfInBounds_toArray, List.set_cons_zero, List.set_cons_succ]
          clear hK K
          refine wpAnyH_take (i := 8) (v := .pointer (some ⟨PB, 0, none⟩)) rfl (by kernel_rfl) (by kernel_rfl) (by kernel_rfl) (fun _ _ _ h => h) (Or.inl ⟨by first | rfl | go_simp, fun wx hx => by obtain ⟨hx0, hx1, hx2, hx3, hx4, hx5, hx6, hx7, hx8⟩ := hx; go_simp⟩) hS6 ?_
          try simp only [Act.put, List.getElem_toArray, List.getElem_cons_zero, List.getElem_cons_succ, List.setIfInBounds_toArray, List.set_cons_zero, List.set_cons_succ]
          refine wpAnyH_take (i := 9) (v := .pointer (some ⟨PB, 25, none⟩)) rfl (by kernel_rfl) (by kernel_rfl) (by kernel_rfl) (fun _ _ _ h => h) (Or.inl ⟨by first | rfl | go_simp, fun wx hx => by obtain ⟨hx0, hx1, hx2, hx3, hx4, hx5, hx6, hx7, hx8⟩ := hx; go_simp⟩) hS6 ?_
          try simp only [Act.put, List.getElem_toArray, List.getElem_cons_zero, List.getElem_cons_succ, List.setIfInBounds_toArray, List.set_cons_zero, List.set_cons_succ]
          refine wpAnyH_ready (rs := [10]) (by kernel_rfl) (by simp) ?_
          refine AllReadyH.cons rfl (fun K hK => ?_) AllReadyH.nil
          rw [if_pos (by first | rfl | go_simp)]
          go_simp
          refine hK.out _ _ (T7.out) (fun _ => ?_)
          try simp only [Act.put, List.getElem_toArray, List.getElem_cons_zero, List.getElem_cons_succ, List.setIfInBounds_toArray, List.set_cons_zero, List.set_cons_succ]
          clear hK K
          refine wpAnyH_done (by kernel_rfl) ?_ _
          obtain ⟨W7, hW7⟩ : ∃ W7, W7 = w6.setCell ⟨PB, 25, none⟩ (.slice u6 (m + 1) d6) := ⟨_, rfl⟩
          rw [← hW7]
          have HNP : Hid ((Value.slice u6 (m + 1) d6).ownBlock ≠ some PB) := hideP (fun e => by have := (World.ownsRow.lt O6.out _ e).1; have := HPT.out; omega)
          have HNT : Hid ((Value.slice u6 (m + 1) d6).ownBlock ≠ some T) := hideP (fun e => by have := (World.ownsRow.lt O6.out _ e).1; omega)
          have P7 : Hid (ParB W7 PB z5 (.slice va vn vc) (.slice (some ⟨B, 0, none⟩) N cap) (.slice u6 (m + 1) d6) (.slice none 0 0)) := hideP (by rw [hW7]; exact P6.out.sums)
          have O7 : Hid (W7.ownsRow (T + 1) 119 9 (.slice u6 (m + 1) d6) (m + 1) (L ++ [.int .i64 z0, .int .i64 z1, .int .i64 z2, .int .i64 z3, .int .i64 z4, .int .i64 z5', .int .i64 z6, .int .i64 z7, .int .i64 z8])) := hideP (by rw [hW7]; exact ownG_other O6.out HNP.out 25 _)
          have F7 : Hid (Fr PB w W7) := hideP (by
            rw [hW7]
            refine Fr.set ?_ _ _
            refine ⟨G6.out.os.trans FB.out.1, G6.out.tape.trans FB.out.2.1, G6.out.output.trans FB.out.2.2.1, Nat.le_trans FB.out.2.2.2.1 G6.out.size, fun b hb hn => ?_⟩
            exact (G6.out.block b (Nat.lt_of_lt_of_le hb FB.out.2.2.2.1) (fun e => by have := (World.ownsRow.lt OB.out b e.symm).1; have := HWT.out; omega)).trans (FB.out.2.2.2.2 b hb hn))
          have hbT : W7.heap[T]? = WA.heap[T]? := by rw [hW7]; exact (Below.heap_setCell _ _ _ _ (by simp; have := HPT.out; omega)).trans HB6.out
          have I7 : Hid (Ints W7 T 119 9) := hideP (by obtain ⟨zs, h1, h2⟩ := IA.out; exact ⟨zs, h1, hbT.trans h2⟩)
          have hbB : W7.heap[B]? = w1.heap[B]? := by
            rw [hW7]
            refine (Below.heap_setCell _ _ _ _ (by simp; have := hBP.out; omega)).trans ?_
            exact (G6.out.block B HBL.out.1 (fun e => by have := (World.ownsRow.lt OB.out B e.symm).1; have := HTB1.out; omega)).trans HBL.out.2
          have HBB := hideP hbB
          obtain ⟨j0, j1, j2, j3⟩ := HIC.out W7 (by
            rw [hW7]
            refine (Below.heap_setCell _ _ _ _ (by simp; have := HIB.out; omega)).trans ?_
            exact (G6.out.block _ HIL.out.1 (fun e => by have := (World.ownsRow.lt O5.out _ e.symm).2; have := HIL.out; have := HIB.out; omega)).trans HIL.out.2)
          have hP7l : PB < W7.heap.size := P7.out.lt
          clear hW7 c25B fz6 hS hS2 hS3 hS6 hbT hbB
          go_wp2_with fail
          refine (MC.out _ I7.out).mono ?_
          rintro e w8 ⟨⟨vr, rfl⟩, hi8, hf8⟩
          have HR8 : Hid (ParB w8 PB z5 (.slice va vn vc) (.slice (some ⟨B, 0, none⟩) N cap) (.slice u6 (m + 1) d6) (.slice none 0 0)) := hideP (P7.out.keep (hf8.2.2.2.2 PB hP7l (by have := HPT.out; omega)))
          have HI8 := hideP hi8
          have HO8 : Hid (w8.ownsRow (T + 1) 119 9 (.slice u6 (m + 1) d6) (m + 1) (L ++ [.int .i64 z0, .int .i64 z1, .int .i64 z2, .int .i64 z3, .int .i64 z4, .int .i64 z5', .int .i64 z6, .int .i64 z7, .int .i64 z8])) := hideP (by
            obtain ⟨h0, h | ⟨gg, cap', cur, e, hgb, hb, hr'⟩⟩ := O7.out
            · exact ⟨h0, .inl h⟩
            · exact ⟨h0, .inr ⟨gg, cap', cur, e, hgb, (hf8.2.2.2.2 gg (Array.getElem?_eq_some_iff.1 hb).1 (by omega)).trans hb, hr'⟩⟩)
          have HF8 : Hid (Fr PB w w8) := hideP ⟨hf8.1.trans F7.out.1, hf8.2.1.trans F7.out.2.1, hf8.2.2.1.trans F7.out.2.2.1, Nat.le_trans F7.out.2.2.2.1 hf8.2.2.2.1, fun b hb hn => (hf8.2.2.2.2 b (Nat.lt_of_lt_of_le hb F7.out.2.2.2.1) (by have := HWT.out; omega)).trans (F7.out.2.2.2.2 b hb hn)⟩
          have HB8 : Hid (w8.heap[B]? = w1.heap[B]?) := hideP ((hf8.2.2.2.2 B (by have h := HBB.out; have h1 := hBP.out.2; exact (Array.getElem?_eq_some_iff.1 (h.trans (Array.getElem?_eq_getElem h1))).1) (by have := HTB1.out; omega)).trans HBB.out)
          clear hi8 hf8 j0 j1 j2 j3
          go_wp2
          go_roundw
          case rel => exact ⟨k + 1, _, m + 1, _, by omega, by go_num, by omega, HR8, HI8, HO8, HF8, HB8⟩
          case measure => simp [intOf]; omega
    · have hki : ¬ (k : Int) < (N : Int) := by omega
      go_wp2
      go_end0
      refine ⟨⟨_, rfl⟩, ⟨B, cap, ⟨sv, HPr.out⟩, ?_⟩, HFr.out⟩
      obtain ⟨h0, h | ⟨gg, cap', cur, e, hgb, hb, hr'⟩⟩ := U1.out
      · exact ⟨h0, .inl h⟩
      · obtain ⟨rfl, rfl⟩ : B = gg ∧ cap = cap' := by simpa using e
        exact ⟨h0, .inr ⟨_, _, cur, rfl, hgb, HBr.out.trans hb, hr'⟩⟩
end Go.Proofs.Ytdgfnceipginkaa
