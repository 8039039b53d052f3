import Derived.RangeFuncNested
import Derived.RangeFuncBound
import Derived.RangeFuncCalls
import Derived.RangeFuncLeaves
import Derived.Shelf.Abstract
import Derived.Shelf.RegionOpen
import Derived.WalkKit
import Derived.OwnWalkIn
import Derived.TacticsInMore
import Derived.LoopNIn
import Derived.LoopIn
import Derived.Test.YtlohbaoigfaneaaGreatBrk
import Derived.Test.YtlohbaoigfaneaaGreatSts
import Derived.Shelf.LaysM
import Derived.Shelf.Strconv.Clone
import Derived.Test.YtlohbaoigfaneaaGreatProg
import Derived.Lib.SliceRun
import Derived.OwnWalk
import Derived.Test.YtlohbaoigfaneaaGreatSpl
import Derived.Maps.AppendAt
import Derived.Test.YtlohbaoigfaneaaGreatNdq
import Derived.Deep.RegionWith
import Derived.Deep.RegionHeld3
namespace Go.Proofs.YtlohbaoigfaneaaGreat
open Go.RowKit Go.Shelf
set_option linter.unusedVariables false
set_option linter.unusedSimpArgs false
attribute [local go_sem] Oper.semAt_some
def starts (xs : List Nd) : Nat → Nat → List Nat
 | 0, _ => []
 | f + 1, i => if i < xs.length then i :: starts xs f (i + 1 + (xs.getD i Nd.none).kids.toNat) else []
def kin (y x : Nd) : Prop := y = x ∧ y.kids = x.kids
structure Src (xs : List Nd) (ao : Option Addr) (Bs b off cap : Nat) (W : World) : Prop where
 box : W.cell? ⟨Bs, 0, none⟩ = some (.slice ao xs.length cap)
 some_ : 0 < xs.length → ao = some ⟨b, off, none⟩
 at_ : ∀ i, i < xs.length → ∃ y : Nd, kin y (xs.getD i Nd.none) ∧ ∀ j, j < 15 → W.cell? ⟨b, off + i * 15 + j, none⟩ = y.cells[j]?
theorem Src.grown {xs : List Nd} {ao : Option Addr} {Bs b off cap : Nat} {W W' : World} (h : Src xs ao Bs b off cap W) (hb : Below W.heap.size W W') : Src xs ao Bs b off cap W' := by
 refine ⟨(hb.cell (p := ⟨Bs, 0, none⟩) (World.block_lt_of_cell? W _ h.box)).trans h.box, h.some_, fun i hi => ?_⟩
 obtain ⟨y, hk, hc⟩ := h.at_ i hi
 refine ⟨y, hk, fun j hj => ?_⟩
 have h1 := hc j hj
 rw [List.getElem?_eq_getElem (show j < y.cells.length by exact hj)] at h1 ⊢
 exact (hb.cell (p := ⟨b, off + i * 15 + j, none⟩) (World.block_lt_of_cell? W _ h1)).trans h1
def Item (xs : List Nd) : Type := { p : Nat × Value // p.1 < xs.length ∧ ∃ y : Nd, kin y (xs.getD p.1 Nd.none) ∧ ThingQ y p.2 }
def Item.encs {xs : List Nd} (x : Item xs) : Array Value := #[.int .i64 (x.1.1 : Int), x.1.2]
set_option maxRecDepth 100000 in
set_option maxHeartbeats 4000000 in
theorem each1_in (n l : Nat) (hn : 1 ≤ n) (xs : List Nd) (ao : Option Addr) (Bs b off cap : Nat) (hlen : xs.length ≤ 20000) (hkids : ∀ i, i < xs.length → 0 ≤ (xs.getD i Nd.none).kids ∧ (xs.getD i Nd.none).kids ≤ 20000) (J Jx : List (Item xs) → World → Prop) (W : World) (hJ : AbidesFrom W.heap.size J) (hS : Src xs ao Bs b off cap W)
 (hY : ∀ pre x W1, J pre W1 → pre.length < xs.length + 1 → YieldAt Fence.wide (n - 1) Tryz.prog l (Item.encs x) W1 fun e W' =>
  (e = .returned (.bool true) ∧ J (pre ++ [x]) W' ∧ (Src xs ao Bs b off cap W1 → Src xs ao Bs b off cap W')) ∨ (e = .returned (.bool false) ∧ Jx (pre ++ [x]) W')) (h0 : J [] W) :
 CallsIn Fence.wide n Tryz.prog 108 #[.func (.yield l) #[] #[], .pointer (some ⟨Bs, 0, none⟩)] W fun e W' => (∃ v, e = .returned v) ∧
  ((∃ ys : List (Item xs), ys.map (·.1.1) = starts xs (xs.length + 1) 0 ∧ J ys W') ∨ (∃ pre, True ∧ Jx pre W')) := by
 refine callsIn_of_wp Tryz.func108 rfl trivial ?_ rfl
 simp only [Tryz.ntmps108, List.size_toArray, List.length_cons, List.length_nil, Nat.reduceAdd, Nat.reduceSub, Array.replicate_succ, Array.replicate_zero, List.push_toArray, List.append_toArray, List.nil_append, List.cons_append]
 gi_wp2
 gi_loopw [3] (fun a wr => ∃ (i f : Nat) (pre : List (Item xs)), a = .int .i64 (i : Int) ∧ i ≤ 40001 ∧ xs.length < i + f ∧ Hid (pre.map (·.1.1) ++ starts xs f i = starts xs (xs.length + 1) 0) ∧ pre.length ≤ i ∧ J pre wr ∧ Hid (Src xs ao Bs b off cap wr)) (fun a _ => xs.length - (intOf a).toNat)
 case atStart => exact ⟨0, xs.length + 1, [], rfl, by omega, by omega, rfl, by simp, h0, hS⟩
 case round =>
  obtain ⟨i, f, pre, rfl, hi, hf, HP, hpl, hJs, HS⟩ := hrel
  have hbox := HS.out.box
  by_cases hil : i < xs.length
  ·have hii : (i : Int) < (xs.length : Int) := by omega
   obtain rfl := HS.out.some_ (by omega)
   obtain ⟨y, hy, hyc⟩ := HS.out.at_ i hil
   have TC : Hid (∀ w : World, Calls Tryz.prog 107 #[ndV y] w fun r w' => (∃ v, r = .returned v ∧ ThingQ y v) ∧ Below w.heap.size w w') := hideP (fun w => thing_q y w)
   have HY := hideP hy
   have hkk := hkids i hil
   rw [← hy.2] at hkk
   obtain ⟨y0, hy0⟩ : ∃ y0, y0 = y := ⟨_, rfl⟩
   rw [← hy0] at HY
   have HY0 := hideP hy0
   obtain ⟨kd, wd, hh, dp, sh, fo, ch, nn, gs, gp, gpo, gm, gmo, tx, kids⟩ := y
   simp only [Nd.cells] at hyc
   have c0 : wr.cell? ⟨b, off + i * 15, none⟩ = some (.int .i64 kd) := hyc 0 (by omega)
   have c1 : wr.cell? ⟨b, off + i * 15 + 1, none⟩ = some (.int .i64 wd) := hyc 1 (by omega)
   have c2 : wr.cell? ⟨b, off + i * 15 + 2, none⟩ = some (.int .i64 hh) := hyc 2 (by omega)
   have c3 : wr.cell? ⟨b, off + i * 15 + 3, none⟩ = some (.int .i64 dp) := hyc 3 (by omega)
   have c4 : wr.cell? ⟨b, off + i * 15 + 4, none⟩ = some (.int .i64 sh) := hyc 4 (by omega)
   have c5 : wr.cell? ⟨b, off + i * 15 + 5, none⟩ = some (.int .i64 fo) := hyc 5 (by omega)
   have c6 : wr.cell? ⟨b, off + i * 15 + 6, none⟩ = some (.int .i64 ch) := hyc 6 (by omega)
   have c7 : wr.cell? ⟨b, off + i * 15 + 7, none⟩ = some (.int .i64 nn) := hyc 7 (by omega)
   have c8 : wr.cell? ⟨b, off + i * 15 + 8, none⟩ = some (.int .i64 gs) := hyc 8 (by omega)
   have c9 : wr.cell? ⟨b, off + i * 15 + 9, none⟩ = some (.int .i64 gp) := hyc 9 (by omega)
   have c10 : wr.cell? ⟨b, off + i * 15 + 10, none⟩ = some (.int .i64 gpo) := hyc 10 (by omega)
   have c11 : wr.cell? ⟨b, off + i * 15 + 11, none⟩ = some (.int .i64 gm) := hyc 11 (by omega)
   have c12 : wr.cell? ⟨b, off + i * 15 + 12, none⟩ = some (.int .i64 gmo) := hyc 12 (by omega)
   have c13 : wr.cell? ⟨b, off + i * 15 + 13, none⟩ = some (.string tx) := hyc 13 (by omega)
   have c14 : wr.cell? ⟨b, off + i * 15 + 14, none⟩ = some (.int .i64 kids) := hyc 14 (by omega)
   have HJ := hideP hJs
   dsimp only at hkk
   obtain ⟨hk0, hk1⟩ := hkk
   obtain ⟨f, rfl⟩ : ∃ q, f = q + 1 := ⟨f - 1, by omega⟩
   have HST : Hid (pre.map (·.1.1) ++ i :: starts xs f (i + 1 + kids.toNat) = starts xs (xs.length + 1) 0) := hideP (by
    have h := HP.out
    rw [show starts xs (f + 1) i = i :: starts xs f (i + 1 + (xs.getD i Nd.none).kids.toNat) by simp only [starts]; rw [if_pos hil]] at h
    rw [← HY.out.2, HY0.out] at h
    exact h)
   clear hyc hJs hy hy0
   gi_wp2_with fail
   refine ⟨trivial, CallsIn.mono (callsIn_wide.2 (TC.out wr)) ?_⟩
   rintro e w1 ⟨⟨v, rfl, hth⟩, hb1⟩
   have hJ1 : J pre w1 := hJ pre wr w1 none HJ.out ⟨hb1.os, hb1.tape, hb1.output, hb1.size, fun k hk _ => hb1.block k hk⟩ (fun r e => by cases e)
   have HS1 := hideP (HS.out.grown hb1)
   rw [← HY0.out] at hth
   obtain ⟨x, hx⟩ : ∃ x : Item xs, x = ⟨(i, v), hil, y0, HY.out, hth⟩ := ⟨_, rfl⟩
   obtain ⟨fn, tmps, assign, body, hyl, hR⟩ := hY pre x w1 hJ1 (by omega)
   have HX : Hid (x.1.1 = i) := hideP (by rw [hx])
   rw [show Item.encs x = #[.int .i64 (i : Int), v] by rw [hx]; rfl] at hyl
   clear hb1 hJ1 hth hbox hx c0 c1 c2 c3 c4 c5 c6 c7 c8 c9 c10 c11 c12 c13 c14
   have HRR := hideP hR
   clear hR
   gi_wp2_with fail
   refine HRR.out.mono ?_
   rintro e W3 (⟨rfl, hJ3, hk3⟩ | ⟨rfl, hJx3⟩)
   ·have HS3 := hideP (hk3 HS1.out)
    have hbox3 := HS3.out.box
    obtain ⟨y3, hy3, hc3⟩ := HS3.out.at_ i hil
    have c14 : W3.cell? ⟨b, off + i * 15 + 14, none⟩ = some (.int .i64 kids) := by
     rw [hc3 14 (by omega), show y3.cells[14]? = some (.int .i64 y3.kids) from rfl, hy3.2, ← HY.out.2, HY0.out]
    have HJ3 := hideP hJ3
    clear hJ3 hk3 hc3 hy3
    gi_wp2_with fail
    go_roundw
    case rel =>
     refine ⟨i + 1 + kids.toNat, f, pre ++ [x], congrArg _ (by omega), by omega, by omega, hideP ?_, by simp; omega, HJ3.out, HS3⟩
     rw [List.map_append, List.append_assoc, List.map_singleton, HX.out]
     exact HST.out
    case measure => simp [intOf]; omega
   ·gi_wp2
    refine bodyPost_ret (results_none rfl _ _ _) rfl ?_
    exact ⟨⟨_, rfl⟩, .inr ⟨pre ++ [x], trivial, hJx3⟩⟩
  ·have hii : ¬ (i : Int) < (xs.length : Int) := by omega
   have HE : Hid (pre.map (·.1.1) = starts xs (xs.length + 1) 0) := hideP (by
    have h := HP.out
    cases f with
    | zero => simpa [starts] using h
    | succ f =>
     rw [show starts xs (f + 1) i = [] by simp only [starts]; rw [if_neg hil]] at h
     simpa using h)
   gi_wp2
   go_end0
   exact ⟨⟨_, rfl⟩, .inl ⟨pre, HE.out, hJs⟩⟩
set_option maxHeartbeats 1000000 in
theorem eachItem_any (a : Option Addr) (len cap : Nat) (w : World) :
 Calls Tryz.prog 67 #[.slice a len cap] w fun e w' => e = .returned (.func (.func 108) #[] #[.pointer (some ⟨w.heap.size, 0, none⟩)]) ∧ w' = w.alloc (.cells #[.slice a len cap] 31) := by
 go_enter Tryz.func67, Tryz.ntmps67
 go_wp2
 go_ret
 exact ⟨rfl, rfl⟩
theorem each_stops (n : Nat) (hn : 1 ≤ n) (xs : List Nd) (ao : Option Addr) (Bs b off cap : Nat) (hlen : xs.length ≤ 20000) (hkids : ∀ i, i < xs.length → 0 ≤ (xs.getD i Nd.none).kids ∧ (xs.getD i Nd.none).kids ≤ 20000) (w : World) (hS : Src xs ao Bs b off cap w) :
 SeqStopsK Fence.wide n Tryz.prog 108 #[.pointer (some ⟨Bs, 0, none⟩)] (Item.encs (xs := xs)) (fun A B => Src xs ao Bs b off cap A → Src xs ao Bs b off cap B) (fun ys => ys.map (·.1.1) = starts xs (xs.length + 1) 0) (fun _ => True) (xs.length + 1) w := fun l J Jx W hW hJ _ hY h0 => by
 refine (each1_in n l hn xs ao Bs b off cap hlen hkids J Jx W hJ (hS.grown hW) hY h0).mono ?_
 rintro e W' ⟨he, ⟨ys, hys, hj⟩ | ⟨pre, _, hj⟩⟩
 ·exact ⟨he, .inl ⟨ys, hys, hj⟩⟩
 ·exact ⟨he, .inr ⟨pre, trivial, hj⟩⟩
end Go.Proofs.YtlohbaoigfaneaaGreat
namespace Go.Proofs.YtlohbaoigfaneaaGreat
open Go.Shelf
end Go.Proofs.YtlohbaoigfaneaaGreat
namespace Go.Proofs.YtlohbaoigfaneaaGreat
open Go.RowKit
set_option linter.unusedVariables false
set_option linter.unusedSimpArgs false
def flatN : List Nd → List Value
 | [] => []
 | x :: xs => x.cells ++ flatN xs
theorem cells_len (x : Nd) : x.cells.length = 15 := rfl
theorem flatN_len : ∀ xs : List Nd, (flatN xs).length = xs.length * 15
 | [] => rfl
 | x :: xs => by simp only [flatN, List.length_append, List.length_cons, flatN_len xs, cells_len]; omega
theorem flatN_one : ∀ xs : List Nd, ∀ u ∈ flatN xs, u.oneCell' = true
 | [], u, h => by simp [flatN] at h
 | x :: xs, u, h => by
  simp only [flatN, List.mem_append] at h
  rcases h with h | h
  ·simp only [Nd.cells, List.mem_cons, List.not_mem_nil, or_false] at h
   rcases h with rfl | rfl | rfl | rfl | rfl | rfl | rfl | rfl | rfl | rfl | rfl | rfl | rfl | rfl | rfl <;> rfl
  ·exact flatN_one xs u h
theorem flatN_get : ∀ (xs : List Nd) (i : Nat), i < xs.length → ∀ j, j < 15 → (flatN xs)[i * 15 + j]? = (xs.getD i Nd.none).cells[j]?
 | [], i, h, _, _ => by simp at h
 | x :: xs, 0, h, j, hj => by
  simp only [flatN, List.getD_cons_zero]
  rw [Nat.zero_mul, Nat.zero_add, List.getElem?_append_left (by rw [cells_len]; exact hj)]
 | x :: xs, i + 1, h, j, hj => by
  simp only [List.length_cons] at h
  simp only [flatN, List.getD_cons_succ]
  rw [List.getElem?_append_right (by rw [cells_len]; omega), cells_len, show (i + 1) * 15 + j - 15 = i * 15 + j by omega]
  exact flatN_get xs i (by omega) j hj
theorem flatN_at (xs : List Nd) (i : Nat) (h : i < xs.length) (j : Nat) (hj : j < 15) {u : Value} (hu : (xs.getD i Nd.none).cells[j]? = some u) : (flatN xs)[i * 15 + j]? = some u := (flatN_get xs i h j hj).trans hu
theorem Tryz.info57c : (Tryz.prog.info? 61).map (fun i => (i.zero, i.size, i.bytes)) = some (some (ndV Nd.none), 15, 128) := by kernel_rfl
def NN (lo : Nat) (w : World) (v : Value) (xs : List Nd) : Prop := (v = .slice none 0 0 ∧ xs = []) ∨ ∃ b off cap, v = .slice (some ⟨b, off, none⟩) xs.length cap ∧ xs.length ≤ cap ∧ lo ≤ b ∧ (0 < xs.length → b < w.heap.size) ∧ ∀ j u, (flatN xs)[j]? = some u → w.cell? ⟨b, off + j, none⟩ = some u
theorem own_shape {base n : Nat} {w : World} {v : Value} {xs : List Value} (h : w.ownsRow base 61 15 v n xs) : ∃ ao cap, v = .slice ao n cap ∧ (0 < n → ∃ g, ao = some ⟨g, 0, none⟩ ∧ base ≤ g ∧ g < w.heap.size) := by
 obtain ⟨hl, ⟨rfl, rfl⟩ | ⟨g, cap, cur, rfl, hg, hb, _⟩⟩ := h
 ·exact ⟨_, _, rfl, fun h => absurd h (Nat.lt_irrefl 0)⟩
 ·exact ⟨_, _, rfl, fun _ => ⟨g, rfl, hg, (Array.getElem?_eq_some_iff.1 hb).1⟩⟩
theorem own_cell {base g n cap : Nat} {w : World} {xs : List Value} (h : w.ownsRow base 61 15 (.slice (some ⟨g, 0, none⟩) n cap) n xs) {j : Nat} {x : Value} (hj : xs[j]? = some x) : w.cell? ⟨g, j, none⟩ = some x ∧ w.frozen? ⟨g, j, none⟩ = false := by
 obtain ⟨hl, h | ⟨g', cap', cur, e, hg, hb, hn, hm, hs, hx⟩⟩ := h
 ·exact absurd h.1 (by simp)
 ·simp at e
  obtain ⟨rfl, rfl⟩ := e
  refine ⟨?_, frozen_of_row w g j cur 61 hb⟩
  rw [cell_of_row w g _ cur 61 _ hb, ← Array.getElem?_toList]
  rw [← hx, List.getElem?_take] at hj
  split at hj
  ·exact hj
  ·simp at hj
theorem own_below {base n : Nat} {w w' : World} {v : Value} {xs : List Value} (h : w.ownsRow base 61 15 v n xs) (hb : Below w.heap.size w w') : w'.ownsRow base 61 15 v n xs := by
 obtain ⟨hl, h | ⟨g, cap, cur, rfl, hg, hbk, hr⟩⟩ := h
 ·exact ⟨hl, .inl h⟩
 ·exact ⟨hl, .inr ⟨g, cap, cur, rfl, hg, (hb.block g (Array.getElem?_eq_some_iff.1 hbk).1).trans hbk, hr⟩⟩
def natI (ps : List Nat) : List Int := ps.map (fun p : Nat => (p : Int))
set_option maxRecDepth 20000 in
set_option maxHeartbeats 4000000 in
theorem starts_any {v : Value} {xs : List Nd} {w : World} (h : NRow 0 w v xs) (hlen : xs.length ≤ 20000) (hkids : ∀ i, i < xs.length → 0 ≤ (xs.getD i Nd.none).kids ∧ (xs.getD i Nd.none).kids ≤ 20000) :
 Calls Tryz.prog 87 #[v] w fun e w' => (∃ u, e = .returned u ∧ IR w' w.heap.size u (starts xs (xs.length + 1) 0).length (natI (starts xs (xs.length + 1) 0))) ∧ Below w.heap.size w w' := by
 obtain ⟨ao, n, cap, rfl, hl, hr⟩ := h
 have HL := hideP hl
 have HR : Hid (0 < n → ∃ b off, ao = some ⟨b, off, none⟩ ∧ 0 ≤ b ∧ b < w.heap.size ∧ ∀ i, i < n → ∃ cs : List Value, cs.length = 15 ∧ NdR 0 w cs (xs.getD i Nd.none) ∧ ∀ j, j < 15 → w.cell? ⟨b, off + i * 15 + j, none⟩ = cs[j]?) := hideP hr
 have HK := hideP hkids
 have hn : n ≤ 20000 := by rw [← hl]; exact hlen
 obtain ⟨Z, hZ⟩ : ∃ Z, Z = starts xs (xs.length + 1) 0 := ⟨_, rfl⟩
 rw [← hZ]
 have HZ := hideP hZ
 clear hr hl hkids hlen hZ
 go_enter Tryz.func87, Tryz.ntmps87
 go_wp2
 go_loopw [3, 4] (fun s a wr => ∃ (i f : Nat) (pre : List Nat) (g c r : Nat), a = .int .i64 (i : Int) ∧ i ≤ 40001 ∧ n < i + f ∧ Hid (pre ++ starts xs f i = Z) ∧ r ≤ i ∧ r ≤ 20001 ∧ pre.length = r ∧ s = .slice (some ⟨g, 0, none⟩) r c ∧ IR wr w.heap.size (.slice (some ⟨g, 0, none⟩) r c) r (natI pre) ∧ Below w.heap.size w wr) (fun _ a _ => n - (intOf a).toNat)
 case atStart =>
  exact ⟨0, n + 1, [], w.heap.size, 0, 0, rfl, by omega, by omega, hideP (by rw [HZ.out, ← HL.out]; rfl), by omega, by omega, rfl, rfl, ⟨rfl, .inr ⟨_, _, _, rfl, Nat.le_refl _, heap_alloc_new w _, by omega, by decide, rfl, rfl⟩⟩, below1 _ _⟩
 case round =>
  obtain ⟨i, f, pre, g, c, r, rfl, hi, hf, HP, hri, hr2, hpr, rfl, hI, hbel⟩ := hrel
  by_cases hin : i < n
  ·have hii : (i : Int) < (n : Int) := by omega
   obtain ⟨b, off, rfl, _, hb, hc⟩ := HR.out (by omega)
   obtain ⟨cs, hcl, hRel, hcj⟩ := hc i hin
   obtain ⟨t, ht⟩ : ∃ t, t = xs.getD i Nd.none := ⟨_, rfl⟩
   have hkk := HK.out i (by rw [HL.out]; exact hin)
   rw [← ht] at hRel hkk
   obtain ⟨kids, hkd⟩ : ∃ z, z = t.kids := ⟨_, rfl⟩
   rw [← hkd] at hkk
   obtain ⟨hk0, hk1⟩ := hkk
   have g14 : wr.cell? ⟨b, off + i * 15 + 14, none⟩ = some (.int .i64 kids) := (hbel.cell (p := ⟨b, off + i * 15 + 14, none⟩) hb).trans ((hcj 14 (by omega)).trans (by rw [show cs = _ from hRel, hkd]; rfl))
   obtain ⟨f, rfl⟩ : ∃ q, f = q + 1 := ⟨f - 1, by omega⟩
   have HST : Hid ((pre ++ [i]) ++ starts xs f (i + 1 + kids.toNat) = Z) := hideP (by
    have h := HP.out
    rw [show starts xs (f + 1) i = i :: starts xs f (i + 1 + (xs.getD i Nd.none).kids.toNat) by simp only [starts]; rw [if_pos (by rw [HL.out]; exact hin)]] at h
    rw [← ht, ← hkd] at h
    rw [List.append_assoc]
    exact h)
   have HI := hideP hI
   have HB := hideP hbel
   have hw1 : w.heap.size ≤ wr.heap.size := hbel.size
   have HPR := hideP hpr
   obtain ⟨i0, hi0, hy0, hy1, hy2⟩ := info_parts Tryz.info3b
   have Q14 : Hid (∀ x, Below w.heap.size w x → x.cell? ⟨b, off + i * 15 + 14, none⟩ = some (.int .i64 kids)) := hideP (fun x hx => (hx.cell (p := ⟨b, off + i * 15 + 14, none⟩) hb).trans ((hcj 14 (by omega)).trans (by rw [show cs = _ from hRel, hkd]; rfl)))
   clear hc hcj hcl ht hRel hI hbel hkd g14
   go_wp2_with (at_builtin; refine wpList_append_own_at _ rfl _ _ 182 rfl w.heap.size 3 i0 (.int .i64 0) 1 8 Tryz.underlying182 hi0 hy0 hy1 hy2 rfl (by decide) _ _ _ rfl (HI.out.alloc _) ⟨wr.heap.size, 0, none⟩ 1 1 [.int .i64 (i : Int)] rfl rfl (cell_one_new _ _ _) (by intro u hu; simp at hu; subst hu; rfl) (by unfold maxLen; omega) (by omega) (by simp; omega) ?_; intro v6 w6 hown6 hgrow6 hnil6 hlies6; have hg6 : (wr.alloc (.cells #[.int .i64 (i : Int)] 3)).grownBy w6 (some g) := hgrow6; have hB6 : Below w.heap.size w w6 := Below.grown (HB.out.alloc hw1 _) hg6 (by simp; omega) (by intro j hj; simp at hj; subst hj; exact (stk_cap HI.out).2.2.1); have hk6 := Q14.out w6 hB6; have H6 := hideP (And.intro hown6 hB6); clear hown6 hgrow6 hnil6 hlies6 hg6 hB6)
   have hI6 : IR w6 w.heap.size v6 (r + 1) (natI (pre ++ [i])) := by
    show w6.ownsRow w.heap.size 3 1 v6 (r + 1) ((natI (pre ++ [i])).map (Value.int .i64))
    unfold natI
    rw [List.map_append, List.map_append]
    exact H6.out.1
   go_roundw
   case rel =>
    obtain ⟨g6, c6, rfl⟩ : ∃ g c, v6 = .slice (some ⟨g, 0, none⟩) (r + 1) c := by
     rcases hI6.2 with ⟨_, h⟩ | ⟨g, c, cur, h, _⟩
     ·omega
     ·exact ⟨g, c, h⟩
    exact ⟨i + 1 + kids.toNat, f, pre ++ [i], g6, c6, r + 1, congrArg _ (by omega), by omega, by omega, HST, by omega, by omega, by simp [HPR.out], rfl, hI6, H6.out.2⟩
   case measure => simp [intOf]; omega
  ·have hii : ¬ (i : Int) < (n : Int) := by omega
   have HE : Hid (pre = Z) := hideP (by
    have h := HP.out
    cases f with
    | zero => simpa [starts] using h
    | succ f =>
     rw [show starts xs (f + 1) i = [] by simp only [starts]; rw [if_neg (by rw [HL.out]; exact hin)]] at h
     simpa using h)
   have HI := hideP hI
   have HB := hideP hbel
   clear hI hbel
   go_wp2
   go_ret
   refine ⟨⟨_, rfl, ?_⟩, HB.out⟩
   rw [← HE.out, hpr]
   exact HI.out
theorem SPart.own {w : World} {g n : Nat} {xs : List Nd} (h : SPart 15 NdR Nd.none 61 w g n n xs) (hn : xs.length = n) (hm : n ≤ 1048576) : w.ownsRow g 61 15 (.slice (some ⟨g, 0, none⟩) n n) n (flatN xs) := by
 obtain ⟨cur, hg, hs, hc⟩ := h
 refine ⟨by rw [flatN_len, hn], .inr ⟨g, n, cur, rfl, Nat.le_refl _, hg, Nat.le_refl _, by unfold maxLen; omega, hs, ?_⟩⟩
 apply List.ext_getElem?
 intro j
 by_cases hj : j < n * 15
 ·rw [List.getElem?_take_of_lt hj, Array.getElem?_toList]
  obtain ⟨cs, _, hR, hcj⟩ := hc (j / 15) (by omega)
  have h1 := hcj (j % 15) (by omega)
  rw [show j / 15 * 15 + j % 15 = j by omega, show cs = _ from hR] at h1
  have h2 := flatN_get xs (j / 15) (by omega) (j % 15) (by omega)
  rw [show j / 15 * 15 + j % 15 = j by omega] at h2
  rw [h1, h2]
 ·rw [List.getElem?_eq_none (by simp; omega), List.getElem?_eq_none (by rw [flatN_len, hn]; omega)]
set_option maxHeartbeats 4000000 in
theorem toNodeS_own {v : Value} {xs : List Nd} {w : World} (h : NRow 0 w v xs) (hs : xs.length ≤ 1048576) :
 Calls Tryz.prog 8 #[v] w fun e w' => e = .returned (.slice (some ⟨w.heap.size, 0, none⟩) xs.length xs.length) ∧ w'.ownsRow w.heap.size 61 15 (.slice (some ⟨w.heap.size, 0, none⟩) xs.length xs.length) xs.length (flatN xs) ∧ Below w.heap.size w w' := by
 obtain ⟨ao, n, cap, rfl, hn, hr⟩ := h
 have hsz : n ≤ 1048576 := by rw [← hn]; exact hs
 have HL : Hid (xs.length = n) := hn
 obtain ⟨i0, hi, hz0, hz1, hz2⟩ := info_parts Tryz.info61
 have HI : Hid (i0.bytes = 128) := hz2
 have HR : Hid (0 < n → ∃ b off, ao = some ⟨b, off, none⟩ ∧ 0 ≤ b ∧ b < w.heap.size ∧ ∀ i, i < n → ∃ cs : List Value, cs.length = 15 ∧ NdR 0 w cs (xs.getD i Nd.none) ∧ ∀ j, j < 15 → w.cell? ⟨b, off + i * 15 + j, none⟩ = cs[j]?) := hr
 clear hr hs hn
 go_enter Tryz.func8, Tryz.ntmps8
 go_wp2_with (first
  | (refine wpList_make_full _ rfl _ _ 31 rfl w.heap.size 61 i0 (ndV Nd.none) 15 Tryz.underlying31 hi hz0 hz1 _ _ _ _ n rfl rfl rfl rfl (by rw [show i0.bytes = 128 from HI]; omega) (by unfold maxLen; omega) (Nat.le_refl _) ?_; intro w1 hown hgrow))
 have hbel : Below w.heap.size w w1 := Below.grown (Below.refl _ _) hgrow (Nat.le_refl _) (by simp)
 have HO : Hid (SPart 15 NdR Nd.none 61 w1 w.heap.size n 0 xs ∧ Below w.heap.size w w1) := by
  refine ⟨?_, hbel⟩
  rcases hown.2 with ⟨h', _⟩ | ⟨g', cap', cur, h', _, hg, _, _, hcs, _⟩
  ·simp at h'
  ·simp only [Value.slice.injEq, Option.some.injEq, Addr.mk.injEq, and_true, true_and] at h'
   obtain ⟨rfl, rfl⟩ := h'
   exact SPart.new hg hcs
 clear hown hgrow hbel
 go_wp2
 go_loopw [4] (fun i wr => ∃ k : Nat, k ≤ n ∧ i = .int .i64 k ∧ SPart 15 NdR Nd.none 61 wr w.heap.size n k xs ∧ Below w.heap.size w wr) (fun i _ => n - (intOf i).toNat)
 case atStart => exact ⟨0, by omega, rfl, HO.1, HO.2⟩
 case round =>
  obtain ⟨k, hk, rfl, hp, hbel⟩ := hrel
  by_cases hkn : k < n
  ·have hki : (k : Int) < (n : Int) := by omega
   obtain ⟨b, off, rfl, hlo, hb, hc⟩ := HR (by omega)
   obtain ⟨cs, hcl, hRel, hcj⟩ := hc k hkn
   obtain ⟨t, ht⟩ : ∃ t, t = xs.getD k Nd.none := ⟨_, rfl⟩
   rw [← ht] at hRel
   have HT : Hid (NdR (w.heap.size + 1) w t.cells (xs.getD k Nd.none)) := hideP (by rw [← ht]; rfl)
   have HC : Hid (∀ W : World, Calls Tryz.prog 28 #[ndV t] W fun r w' => r = .returned (ndV t) ∧ Below W.heap.size W w') := hideP (fun W => toNode_any t W)
   obtain ⟨kd, wd, hh, dp, sh, fo, ch, nn, gs, gp, gpo, gm, gmo, tx, kids⟩ := t
   rw [show cs = _ from hRel] at hcj
   simp only [Nd.cells] at hcj HT
   have g0 : wr.cell? ⟨b, off + k * 15, none⟩ = some (.int .i64 kd) := (hbel.cell (p := ⟨b, off + k * 15, none⟩) hb).trans (hcj 0 (by omega))
   have g1 : wr.cell? ⟨b, off + k * 15 + 1, none⟩ = some (.int .i64 wd) := (hbel.cell (p := ⟨b, off + k * 15 + 1, none⟩) hb).trans (hcj 1 (by omega))
   have g2 : wr.cell? ⟨b, off + k * 15 + 2, none⟩ = some (.int .i64 hh) := (hbel.cell (p := ⟨b, off + k * 15 + 2, none⟩) hb).trans (hcj 2 (by omega))
   have g3 : wr.cell? ⟨b, off + k * 15 + 3, none⟩ = some (.int .i64 dp) := (hbel.cell (p := ⟨b, off + k * 15 + 3, none⟩) hb).trans (hcj 3 (by omega))
   have g4 : wr.cell? ⟨b, off + k * 15 + 4, none⟩ = some (.int .i64 sh) := (hbel.cell (p := ⟨b, off + k * 15 + 4, none⟩) hb).trans (hcj 4 (by omega))
   have g5 : wr.cell? ⟨b, off + k * 15 + 5, none⟩ = some (.int .i64 fo) := (hbel.cell (p := ⟨b, off + k * 15 + 5, none⟩) hb).trans (hcj 5 (by omega))
   have g6 : wr.cell? ⟨b, off + k * 15 + 6, none⟩ = some (.int .i64 ch) := (hbel.cell (p := ⟨b, off + k * 15 + 6, none⟩) hb).trans (hcj 6 (by omega))
   have g7 : wr.cell? ⟨b, off + k * 15 + 7, none⟩ = some (.int .i64 nn) := (hbel.cell (p := ⟨b, off + k * 15 + 7, none⟩) hb).trans (hcj 7 (by omega))
   have g8 : wr.cell? ⟨b, off + k * 15 + 8, none⟩ = some (.int .i64 gs) := (hbel.cell (p := ⟨b, off + k * 15 + 8, none⟩) hb).trans (hcj 8 (by omega))
   have g9 : wr.cell? ⟨b, off + k * 15 + 9, none⟩ = some (.int .i64 gp) := (hbel.cell (p := ⟨b, off + k * 15 + 9, none⟩) hb).trans (hcj 9 (by omega))
   have g10 : wr.cell? ⟨b, off + k * 15 + 10, none⟩ = some (.int .i64 gpo) := (hbel.cell (p := ⟨b, off + k * 15 + 10, none⟩) hb).trans (hcj 10 (by omega))
   have g11 : wr.cell? ⟨b, off + k * 15 + 11, none⟩ = some (.int .i64 gm) := (hbel.cell (p := ⟨b, off + k * 15 + 11, none⟩) hb).trans (hcj 11 (by omega))
   have g12 : wr.cell? ⟨b, off + k * 15 + 12, none⟩ = some (.int .i64 gmo) := (hbel.cell (p := ⟨b, off + k * 15 + 12, none⟩) hb).trans (hcj 12 (by omega))
   have g13 : wr.cell? ⟨b, off + k * 15 + 13, none⟩ = some (.string tx) := (hbel.cell (p := ⟨b, off + k * 15 + 13, none⟩) hb).trans (hcj 13 (by omega))
   have g14 : wr.cell? ⟨b, off + k * 15 + 14, none⟩ = some (.int .i64 kids) := (hbel.cell (p := ⟨b, off + k * 15 + 14, none⟩) hb).trans (hcj 14 (by omega))
   have HB : Hid (Below w.heap.size w wr) := hbel
   have HP : Hid (SPart 15 NdR Nd.none 61 wr w.heap.size n k xs) := hp
   clear hc hcj hcl hbel ht hp hRel
   go_wp2_with (go_at_call 28; refine (HC.out _).mono ?_; rintro e w2 ⟨rfl, hb1⟩; simp only [ndV]; have hp2 := SPart.below ndStable HP hb1; have hfz := hp2.free; obtain ⟨x0, hx0⟩ := hp2.cells (k * 15) (by omega); obtain ⟨x1, hx1⟩ := hp2.cells (k * 15 + 1) (by omega); obtain ⟨x2, hx2⟩ := hp2.cells (k * 15 + 2) (by omega); obtain ⟨x3, hx3⟩ := hp2.cells (k * 15 + 3) (by omega); obtain ⟨x4, hx4⟩ := hp2.cells (k * 15 + 4) (by omega); obtain ⟨x5, hx5⟩ := hp2.cells (k * 15 + 5) (by omega); obtain ⟨x6, hx6⟩ := hp2.cells (k * 15 + 6) (by omega); obtain ⟨x7, hx7⟩ := hp2.cells (k * 15 + 7) (by omega); obtain ⟨x8, hx8⟩ := hp2.cells (k * 15 + 8) (by omega); obtain ⟨x9, hx9⟩ := hp2.cells (k * 15 + 9) (by omega); obtain ⟨x10, hx10⟩ := hp2.cells (k * 15 + 10) (by omega); obtain ⟨x11, hx11⟩ := hp2.cells (k * 15 + 11) (by omega); obtain ⟨x12, hx12⟩ := hp2.cells (k * 15 + 12) (by omega); obtain ⟨x13, hx13⟩ := hp2.cells (k * 15 + 13) (by omega); obtain ⟨x14, hx14⟩ := hp2.cells (k * 15 + 14) (by omega); have hlt2 := hp2.lt; have HP2 : Hid (SPart 15 NdR Nd.none 61 w2 w.heap.size n k xs ∧ Below w.heap.size w w2) := ⟨hp2, below_more HB hb1 (Below.size HB)⟩; clear hp2 hb1)
   go_roundw
   case rel => exact ⟨k + 1, by omega, by go_num, SPart.put ndStable HP2.1 hkn (cs := [.int .i64 kd, .int .i64 wd, .int .i64 hh, .int .i64 dp, .int .i64 sh, .int .i64 fo, .int .i64 ch, .int .i64 nn, .int .i64 gs, .int .i64 gp, .int .i64 gpo, .int .i64 gm, .int .i64 gmo, .string tx, .int .i64 kids]) rfl HT.out, putC_below (Nat.le_refl _) [.int .i64 kd, .int .i64 wd, .int .i64 hh, .int .i64 dp, .int .i64 sh, .int .i64 fo, .int .i64 ch, .int .i64 nn, .int .i64 gs, .int .i64 gp, .int .i64 gpo, .int .i64 gm, .int .i64 gmo, .string tx, .int .i64 kids] (k * 15) _ HP2.2⟩
   case measure => simp [intOf]; omega
  ·have hki : ¬ (k : Int) < (n : Int) := by omega
   obtain rfl : k = n := by omega
   have HP : Hid (SPart 15 NdR Nd.none 61 wr w.heap.size k k xs ∧ Below w.heap.size w wr) := ⟨hp, hbel⟩
   clear hp hbel
   go_wp2
   go_ret
   rw [HL.out]
   exact ⟨rfl, SPart.own HP.1 HL hsz, HP.2⟩
end Go.Proofs.YtlohbaoigfaneaaGreat
