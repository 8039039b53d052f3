/-
  The items of a list, as the program keeps them.
-/
import Derived.RangeFuncNested
import Derived.RangeFuncBound
import Derived.RangeFuncCalls
import Derived.RangeFuncLeaves
import Derived.Shelf.Abstract
import Derived.Shelf.RegionOpen
import Derived.WalkKit
import Derived.OwnWalkIn
import Derived.TacticsInMore
import Derived.LoopNIn
import Derived.LoopIn
import Derived.Maps.AppendAt
import Derived.Test.YtjagagbelpihbaaItb
import Derived.Test.YtjagagbelpihbaaBrk
namespace Go.Proofs.Ytjagagbelpihbaa
open Go.RowKit Go.Shelf
set_option linter.unusedVariables false
set_option linter.unusedSimpArgs false
attribute [local go_sem] Oper.semAt_some

def itAt (xs : List Nd) (i : Nat) : It := (xs.getD i Nd.none, (i : Int), (i : Int) + 1 + (xs.getD i Nd.none).kids)
def its (xs : List Nd) : List It := (starts xs (xs.length + 1) 0).map (itAt xs)
def flatI (ys : List It) : List Value := ys.flatMap (fun y => [thV y.1, .int .i64 y.2.1, .int .i64 y.2.2])
theorem flatI_snoc (ys : List It) (y : It) : flatI (ys ++ [y]) = flatI ys ++ [thV y.1, .int .i64 y.2.1, .int .i64 y.2.2] := by simp [flatI]
theorem Try.info141i : (Try.prog.info? 141).map (fun i => (i.zero, i.size, i.bytes)) = some (some (.agg #[.nilIface, .int .i64 0, .int .i64 0]), 3, 32) := by kernel_rfl

theorem ownG_kept {v : Value} {base e s n : Nat} {xs : List Value} {A B : World} {row : Option Nat} (h : A.ownsRow base e s v n xs) (hg : A.grownBy B row) (hr : ∀ r, row = some r → ∃ o : Obj, A.heap[r]? = some o ∧ o.isCells = false) : B.ownsRow base e s v n xs := by
  refine World.ownsRow.kept h hg ?_
  obtain ⟨hl, ⟨rfl, _⟩ | ⟨g, cap, cur, rfl, _, hb, _⟩⟩ := h
  · exact .inl rfl
  · refine .inr fun e => ?_
    obtain ⟨o, ho, hc⟩ := hr g e.symm
    rw [hb] at ho
    cases ho
    cases hc
theorem ownG_shape {base e s n : Nat} {w : World} {v : Value} {xs : List Value} (h : w.ownsRow base e s v n xs) : ∃ ao cap, v = .slice ao n cap := by
  obtain ⟨hl, ⟨rfl, rfl⟩ | ⟨g, cap, cur, rfl, hg, hb, _⟩⟩ := h
  · exact ⟨_, _, rfl⟩
  · exact ⟨_, _, rfl⟩
theorem ownG_below {base e s n : Nat} {w w' : World} {v : Value} {xs : List Value} (h : w.ownsRow base e s v n xs) (hb : Below w.heap.size w w') : w'.ownsRow base e s v n xs := by
  obtain ⟨hl, h | ⟨g, cap, cur, rfl, hg, hbk, hr⟩⟩ := h
  · exact ⟨hl, .inl h⟩
  · exact ⟨hl, .inr ⟨g, cap, cur, rfl, hg, (hb.block g (Array.getElem?_eq_some_iff.1 hbk).1).trans hbk, hr⟩⟩

theorem cell_three_new (w : World) (x y z : Value) (t : TypeId) : ∀ j u, [x, y, z][j]? = some u → (w.alloc (.cells #[x, y, z] t)).cell? ((⟨w.heap.size, 0, none⟩ : Addr).add j) = some u := by
  intro j u hj
  match j, hj with
  | 0, hj => simp at hj; subst hj; simp [go_sem, Addr.add]
  | 1, hj => simp at hj; subst hj; simp [go_sem, Addr.add]
  | 2, hj => simp at hj; subst hj; simp [go_sem, Addr.add]
  | j + 3, hj => simp at hj
theorem itf_done {xs : List Nd} {ao : Option Addr} {Bs b off cap base B k m : Nat} {w W w5 : World} {V u v' : Value} {vs news : List Value} {tmp : Obj}
    (hbx : Boxed W base 25 V) (hbu : Boxed W B 86 u) (how : W.ownsRow base 141 3 u k vs) (hne : ∀ g, u.ownBlock = some g → g ≠ base ∧ g ≠ Bs) (hB : Below base w W) (hbs : Bs < W.heap.size)
    (hBB : base < B) (hBs : B < Bs) (hb : 0 < xs.length → b < base) (hW : base ≤ W.heap.size)
    (ho5 : w5.ownsRow base 141 3 v' m (vs ++ news)) (hg5' : (W.alloc tmp).drew.grownBy w5 u.ownBlock) (hat : v'.ownBlock = u.ownBlock ∨ v'.ownBlock = some (W.alloc tmp).drew.heap.size) :
    KeepsOthers W (w5.setCell ⟨B, 0, none⟩ v') ∧ (Src xs ao Bs b off cap W → Src xs ao Bs b off cap (w5.setCell ⟨B, 0, none⟩ v')) ∧ Boxed (w5.setCell ⟨B, 0, none⟩ v') base 25 V ∧ Boxed (w5.setCell ⟨B, 0, none⟩ v') B 86 v' ∧
      (w5.setCell ⟨B, 0, none⟩ v').ownsRow base 141 3 v' m (vs ++ news) ∧ (∀ g, v'.ownBlock = some g → g ≠ base ∧ g ≠ Bs) ∧ Bs < (w5.setCell ⟨B, 0, none⟩ v').heap.size ∧ Below base w (w5.setCell ⟨B, 0, none⟩ v') ∧ Boxed w5 B 86 u := by
  have hg5 : (W.drew.alloc tmp).grownBy w5 u.ownBlock := hg5'
  have hbu3 : Boxed W.drew B 86 u := hbu
  have how3 : W.drew.ownsRow base 141 3 u k vs := how
  obtain ⟨p1, p2, p3, p4, p5⟩ := Boxed.appended hbu3 (by decide) how3 hW (by omega) ho5 hg5
  have hbase : ∀ g, u.ownBlock = some g → base ≤ g := fun g hg => (World.ownsRow.lt how g hg).1
  have hblk : ∀ q, q < W.heap.size → u.ownBlock ≠ some q → q ≠ B → (w5.setCell ⟨B, 0, none⟩ v').heap[q]? = W.heap[q]? := by
    intro q hq hu hqB
    rw [Below.heap_setCell _ _ _ _ (by simpa using hqB), hg5.block q (by simp; exact Nat.lt_succ_of_lt hq) (fun e => hu e.symm), (below1 W.drew tmp).block q hq]
    rfl
  have hne' : ∀ g, v'.ownBlock = some g → g ≠ base ∧ g ≠ Bs := by
    intro g hg
    rcases hat with e | e
    · exact hne g (by rw [← e]; exact hg)
    · rw [hg] at e
      have h1 := Option.some.inj e
      have h2 : (W.alloc tmp).drew.heap.size = W.heap.size + 1 := by show (W.alloc tmp).heap.size = _; simp
      omega
  have p4' : KeepsOthers W (w5.setCell ⟨B, 0, none⟩ v') := ⟨p4.1, fun q o h hn => p4.2 q o h hn⟩
  refine ⟨p4', ?_, ?_, p2, p3, hne', ?_, ?_, p1⟩
  · intro hsrc
    refine ⟨?_, hsrc.some_, fun i hi => ?_⟩
    · have hlt := World.block_lt_of_cell? W _ hsrc.box
      exact (World.cell?_of_block (w := W) (a := ⟨Bs, 0, none⟩) (hblk Bs hlt (fun e => (hne Bs e).2 rfl) (by omega))).trans hsrc.box
    · obtain ⟨y, hk, hcy⟩ := hsrc.at_ i hi
      have hbl := hb (by omega)
      refine ⟨y, hk, fun j hj => ?_⟩
      exact (World.cell?_of_block (w := W) (a := ⟨b, off + i * 15 + j, none⟩) (hblk b (by omega) (fun e => by have := hbase b e; omega) (by omega))).trans (hcy j hj)
  · exact (hblk base hbx.lt (fun e => (hne base e).1 rfl) (by omega)).trans hbx
  · have h3 := p5.size
    have h2 : W.drew.heap.size = W.heap.size := rfl
    omega
  · exact hB.trans ⟨p5.os, p5.tape, p5.output, p5.size, fun q hq => p5.block q hq⟩

set_option maxRecDepth 100000 in
set_option maxHeartbeats 8000000 in
theorem itemsOf_in {v : Value} {xs : List Nd} {w : World} (h : NRow 0 w v xs) (hcp : ∀ a n c, v = .slice a n c → n ≤ c ∧ c ≤ 9223372036854775807) (AOK0 : AllOk xs) :
    CallsIn Fence.wide 5 Try.prog 66 #[v] w fun e W' => (∃ u, e = .returned u ∧ W'.ownsRow w.heap.size 141 3 u (its xs).length (flatI (its xs))) ∧ Below w.heap.size w W' := by
  have AOK := hideP AOK0
  obtain ⟨ao, n, cap, rfl, hl, hr⟩ := h
  have hcap := hcp _ _ _ rfl
  obtain ⟨hcap1, hcap2⟩ := hcap
  have hnm : n ≤ 20000 := by rw [← hl]; exact AOK0.len
  have HL := hideP hl
  obtain ⟨b, off, hbo⟩ : ∃ b off, 0 < n → ao = some ⟨b, off, none⟩ ∧ b < w.heap.size ∧ ∀ j u, (flatN xs)[j]? = some u → w.cell? ⟨b, off + j, none⟩ = some u := by
    by_cases hn0 : 0 < n
    · obtain ⟨b, off, e, _, hb, hc⟩ := hr hn0
      exact ⟨b, off, fun _ => ⟨e, hb, row_cells (fun i hi => hc i (by rw [← hl]; exact hi))⟩⟩
    · exact ⟨0, 0, fun h => absurd h hn0⟩
  have HBO := hideP hbo
  clear hr hl hcp hbo AOK0
  refine callsIn_of_wp_marks Try.func66 rfl trivial ?_ rfl
  simp only [Try.ntmps66, List.size_toArray, List.length_cons, List.length_nil, Nat.reduceAdd, Nat.reduceSub, Array.replicate_succ, Array.replicate_zero, List.push_toArray, List.append_toArray, List.nil_append, List.cons_append]
  gi_wp2_with fail
  refine ⟨trivial, CallsIn.mono (callsIn_wide.2 (eachItem_any ao n cap _)) ?_⟩
  rintro e w2 ⟨rfl, rfl⟩
  gi_wp2_with fail
  have B1 : Below w.heap.size w (((w.alloc (.cells #[.slice ao n cap] 25)).alloc (.cells #[] 141)).alloc (.cells #[.slice (some ⟨w.heap.size + 1, 0, none⟩) 0 0] 86)) := below3 _ _ _ _
  have q0 : Boxed (((w.alloc (.cells #[.slice ao n cap] 25)).alloc (.cells #[] 141)).alloc (.cells #[.slice (some ⟨w.heap.size + 1, 0, none⟩) 0 0] 86)) w.heap.size 25 (.slice ao n cap) := ((Boxed.new w 25 (.slice ao n cap)).alloc _).alloc _
  have q2 : Boxed (((w.alloc (.cells #[.slice ao n cap] 25)).alloc (.cells #[] 141)).alloc (.cells #[.slice (some ⟨w.heap.size + 1, 0, none⟩) 0 0] 86)) (w.heap.size + 1 + 1) 86 (.slice (some ⟨w.heap.size + 1, 0, none⟩) 0 0) := by
    have h := Boxed.new ((w.alloc (.cells #[.slice ao n cap] 25)).alloc (.cells #[] 141)) 86 (.slice (some ⟨w.heap.size + 1, 0, none⟩) 0 0)
    rw [World.size_alloc, World.size_alloc] at h
    exact h
  have q1 : (((w.alloc (.cells #[.slice ao n cap] 25)).alloc (.cells #[] 141)).alloc (.cells #[.slice (some ⟨w.heap.size + 1, 0, none⟩) 0 0] 86)).heap[w.heap.size + 1]? = some (.cells #[] 141) := by
    have h := World.alloc_heap_new (w.alloc (.cells #[.slice ao n cap] 25)) (.cells #[] 141)
    rw [World.size_alloc] at h
    exact ((below1 _ _).block _ (by simp)).trans h
  have hO1 : (((w.alloc (.cells #[.slice ao n cap] 25)).alloc (.cells #[] 141)).alloc (.cells #[.slice (some ⟨w.heap.size + 1, 0, none⟩) 0 0] 86)).ownsRow w.heap.size 141 3 (.slice (some ⟨w.heap.size + 1, 0, none⟩) 0 0) 0 [] := ⟨rfl, .inr ⟨_, _, _, rfl, by omega, q1, by omega, by unfold maxLen; omega, rfl, rfl⟩⟩
  have hw1s : (((w.alloc (.cells #[.slice ao n cap] 25)).alloc (.cells #[] 141)).alloc (.cells #[.slice (some ⟨w.heap.size + 1, 0, none⟩) 0 0] 86)).heap.size = w.heap.size + 3 := by simp
  obtain ⟨w1, hw1⟩ : ∃ w1, (((w.alloc (.cells #[.slice ao n cap] 25)).alloc (.cells #[] 141)).alloc (.cells #[.slice (some ⟨w.heap.size + 1, 0, none⟩) 0 0] 86)) = w1 := ⟨_, rfl⟩
  rw [hw1] at B1 q0 q2 hO1 hw1s ⊢
  have hbs3 : w.heap.size + 1 + 1 + 1 = w1.heap.size := by omega
  try rw [hbs3]
  clear q1 hw1
  have bS : (w1.alloc (.cells #[.slice ao n cap] 25)).cell? ⟨w1.heap.size, 0, none⟩ = some (.slice ao n cap) := by simp [go_sem]
  have hB0 : Below w.heap.size w (w1.alloc (.cells #[.slice ao n cap] 25)) := B1.alloc B1.size _
  have hOW := hO1.alloc (.cells #[.slice ao n cap] 25)
  have hI0 := q0.alloc (.cells #[.slice ao n cap] 25)
  have hI2 := q2.alloc (.cells #[.slice ao n cap] 25)
  have hws : w.heap.size + 1 + 1 < w1.heap.size := by omega
  clear hbs3 hw1s
  obtain ⟨Bs, hBs⟩ : ∃ B, B = w1.heap.size := ⟨_, rfl⟩
  obtain ⟨W0, hW0⟩ : ∃ W0, w1.alloc (.cells #[.slice ao n cap] 25) = W0 := ⟨_, rfl⟩
  have hsz : W0.heap.size = Bs + 1 := by rw [← hW0, hBs]; simp
  rw [hW0] at hB0 hOW hI0 hI2 bS ⊢
  rw [← hBs] at bS hws ⊢
  clear hW0 q0 q2 hO1
  have HSR : Hid (Src xs ao Bs b off cap W0) := hideP (by
    refine ⟨by rw [HL.out]; exact bS, fun h => (HBO.out (by rw [← HL.out]; exact h)).1, fun i hi => ⟨xs.getD i Nd.none, ⟨rfl, rfl⟩, fun j hj => ?_⟩⟩
    obtain ⟨_, hbw, hcell⟩ := HBO.out (by rw [← HL.out]; omega)
    have h1 := flatN_get xs i hi j hj
    rw [List.getElem?_eq_getElem (show j < (xs.getD i Nd.none).cells.length from hj)] at h1 ⊢
    have h2 := hcell _ _ h1
    rw [show off + i * 15 + j = off + (i * 15 + j) by omega]
    exact (hB0.cell (p := ⟨b, off + (i * 15 + j), none⟩) hbw).trans h2)
  have hys2 : xs.length ≤ 20000 ∧ ∀ i, i < xs.length → 0 ≤ (xs.getD i Nd.none).kids ∧ (xs.getD i Nd.none).kids ≤ 20000 := ⟨AOK.out.len, AOK.out.weak⟩
  refine wpIn_rangeFunc_ownF (F := Fence.wide) (n := 5) rfl (by omega) (gf := 55) (lb := #[.pointer (some ⟨Bs, 0, none⟩)]) rfl trivial (enters_of Try.func55 (by kernel_rfl) rfl)
    (each_stops 4 (by omega) xs ao Bs b off cap hys2.1 hys2.2 W0 HSR.out) (fun h1 h2 h => h2 (h1 h)) ?keepb (Below.refl _ _) (fun _ => rfl)
    (fun pre W => (Boxed W w.heap.size 25 (.slice ao n cap) ∧ ∃ u, Boxed W (w.heap.size + 1 + 1) 86 u ∧ W.ownsRow w.heap.size 141 3 u pre.length (flatI (pre.map (fun x => itAt xs x.1.1))) ∧ (∀ g, u.ownBlock = some g → g ≠ w.heap.size ∧ g ≠ Bs) ∧ Bs < W.heap.size) ∧ Below w.heap.size w W)
    (fun _ _ _ => False) ?ownI (fun _ _ _ _ _ hs _ _ => hs) ?start ?a1z ?assign ?body ?done ?stop
  case assign =>
    intro l x W K hK
    simp [Item.encs]
    gi_wp2
    exact hK
  case start =>
    refine ⟨⟨hI0, _, hI2, hOW, ?_, by omega⟩, hB0⟩
    intro g hg
    simp [Value.ownBlock] at hg
    omega
  case keepb =>
    intro W l o o' hl hlo hoc _ hsrc
    exact hsrc.kept (grownBy_putObj' W l o') (fun r e => by cases e; exact ⟨o, hlo, hoc⟩)
  case ownI =>
    refine OwnFrom.and (Own.from ?_ _) (ownFrom_below (Nat.le_refl _) (by omega))
    rintro s A B row ⟨h1, u, h2, h3, h5, h6⟩ hg hr
    exact ⟨boxed_kept h1 hg hr, u, boxed_kept h2 hg hr, ownG_kept h3 hg hr, h5, Nat.lt_of_lt_of_le h6 hg.size⟩
  case stop =>
    rintro D c pre W _ _ h _
    exact h.elim
  case done =>
    rintro D its' W hD hst ⟨⟨h1, u, h2, h3, h5, _⟩, hB⟩ hK
    have hc2 := h2.cell
    have HF : Hid (its'.length = (its xs).length ∧ its'.map (fun x => itAt xs x.1.1) = its xs) := hideP (by
      have e : its'.map (fun x => itAt xs x.1.1) = its xs := by
        unfold its
        rw [← hst, List.map_map]
        rfl
      exact ⟨by rw [← e, List.length_map], e⟩)
    have H3 := hideP h3
    have HBB := hideP hB
    clear h3 hB
    gi_wp2
    refine ⟨by simp, .inl ⟨_, _, rfl, run_takeDeferred hK, ?_⟩⟩
    refine ⟨_, results_tmp rfl _ _ _, ⟨u, rfl, ?_⟩, HBB.out.trans (belowK_b (w := w) (Nat.le_refl _) W D _ _ (by omega) hK rfl rfl)⟩
    rw [← HF.out.1, ← HF.out.2]
    exact ownsRow_putObj H3.out (.deferred none) hK rfl
  case body =>
    rintro l pre x W ⟨⟨hbx, u, hbu, how, hne, hbsW⟩, hB⟩ hpl
    have hat := x.2.1
    obtain ⟨y, hy, hyq⟩ := x.2.2
    have hvt : x.1.2 = thV (xs.getD x.1.1 Nd.none) := by rw [hyq.2.2, hy.1]
    obtain ⟨at_, ha⟩ : ∃ a, x.1.1 = a := ⟨_, rfl⟩
    obtain ⟨vt, hv⟩ : ∃ v, x.1.2 = v := ⟨_, rfl⟩
    rw [hv, ha] at hvt
    rw [ha] at hat
    rw [ha, hv]
    have HA : Hid ((pre ++ [x]).map (fun x => itAt xs x.1.1) = pre.map (fun x => itAt xs x.1.1) ++ [itAt xs at_]) := hideP (by rw [List.map_append, List.map_singleton, ha])
    clear ha hv hy hyq
    have hatn : at_ < n := by rw [← HL.out]; exact hat
    obtain ⟨rfl, hbw, hcell⟩ := HBO.out (by omega)
    have hkk := AOK.out.kids at_ hat
    have hn20 : n ≤ 20000 := by rw [← HL.out]; exact AOK.out.len
    rw [HL.out] at hkk
    obtain ⟨kids, hkd⟩ : ∃ z, z = (xs.getD at_ Nd.none).kids := ⟨_, rfl⟩
    rw [← hkd] at hkk
    obtain ⟨kn, rfl⟩ : ∃ kn : Nat, kids = (kn : Int) := ⟨kids.toNat, by omega⟩
    have hsum : at_ + 1 + kn ≤ n := by omega
    have HIT : Hid (itAt xs at_ = (xs.getD at_ Nd.none, (at_ : Int), (at_ : Int) + 1 + (kn : Int)) ∧ vt = thV (xs.getD at_ Nd.none)) := hideP ⟨by unfold itAt; rw [← hkd], hvt⟩
    have g14 : W.cell? ⟨b, off + at_ * 15 + 14, none⟩ = some (.int .i64 (kn : Int)) := by
      have h1 := flatN_at xs at_ hat 14 (by omega) (u := .int .i64 (xs.getD at_ Nd.none).kids) rfl
      rw [← hkd] at h1
      have h2 := hcell _ _ h1
      rw [show off + at_ * 15 + 14 = off + (at_ * 15 + 14) by omega]
      exact (hB.cell (p := ⟨b, off + (at_ * 15 + 14), none⟩) hbw).trans h2
    obtain ⟨ua, uc, rfl⟩ := ownG_shape how
    have hbxc := hbx.cell
    have hbuc := hbu.cell
    have hbuf := hbu.frozen
    have hpn : pre.length ≤ 20001 := by have := HL.out; omega
    have HRO : Hid (Boxed W w.heap.size 25 (.slice (some ⟨b, off, none⟩) n cap) ∧ Boxed W (w.heap.size + 1 + 1) 86 (.slice ua pre.length uc) ∧ W.ownsRow w.heap.size 141 3 (.slice ua pre.length uc) pre.length (flatI (pre.map (fun x => itAt xs x.1.1))) ∧ (∀ g, (Value.slice ua pre.length uc).ownBlock = some g → g ≠ w.heap.size ∧ g ≠ Bs) ∧ Bs < W.heap.size ∧ Below w.heap.size w W) := hideP ⟨hbx, hbu, how, hne, hbsW, hB⟩
    have hone : vt.oneCell' = true := by
      rw [hvt]
      rcases thV_shape (xs.getD at_ Nd.none) with h | ⟨X, q, h⟩ <;> rw [h] <;> rfl
    have hsh := thV_shape (xs.getD at_ Nd.none)
    rw [← hvt] at hsh
    clear hkk hkd hcell hbx hbu how hne hB hvt
    rcases hsh with rfl | ⟨X, q, rfl⟩
    · gi_wp2_with fail
      refine region_heldR (S := fun X => X.cell? ⟨w.heap.size, 0, none⟩ = some (.slice (some ⟨b, off, none⟩) n cap) ∧ X.cell? ⟨b, off + at_ * 15 + 14, none⟩ = some (.int .i64 (kn : Int))) (by kernel_rfl) (plain_spec (by kernel_rfl)) (by rintro ⟨a, w, h⟩; exact h) ?_
      have hS : W.drew.cell? ⟨w.heap.size, 0, none⟩ = some (.slice (some ⟨b, off, none⟩) n cap) ∧ W.drew.cell? ⟨b, off + at_ * 15 + 14, none⟩ = some (.int .i64 (kn : Int)) := ⟨hbxc, g14⟩
      refine wpAnyH_take (i := 1) (v := .nilIface) rfl (by kernel_rfl) (by kernel_rfl) (by kernel_rfl) (fun _ _ _ h => h) (Or.inl ⟨by first | rfl | go_simp, fun wx hx => by obtain ⟨hx1, hx2⟩ := hx; go_simp⟩) hS ?_
      try simp only [Act.put, List.getElem_toArray, List.getElem_cons_zero, List.getElem_cons_succ, List.setIfInBounds_toArray, List.set_cons_zero, List.set_cons_succ]
      refine wpAnyH_take (i := 2) (v := .int .i64 (at_ : Int)) rfl (by kernel_rfl) (by kernel_rfl) (by kernel_rfl) (fun _ _ _ h => h) (Or.inl ⟨by first | rfl | go_simp, fun wx hx => by obtain ⟨hx1, hx2⟩ := hx; go_simp⟩) hS ?_
      try simp only [Act.put, List.getElem_toArray, List.getElem_cons_zero, List.getElem_cons_succ, List.setIfInBounds_toArray, List.set_cons_zero, List.set_cons_succ]
      refine wpAnyH_take (i := 3) (v := .int .i64 (at_ : Int)) rfl (by kernel_rfl) (by kernel_rfl) (by kernel_rfl) (fun _ _ _ h => h) (Or.inl ⟨by first | rfl | go_simp, fun wx hx => by obtain ⟨hx1, hx2⟩ := hx; go_simp⟩) hS ?_
      try simp only [Act.put, List.getElem_toArray, List.getElem_cons_zero, List.getElem_cons_succ, List.setIfInBounds_toArray, List.set_cons_zero, List.set_cons_succ]
      refine wpAnyH_take (i := 4) (v := .int .i64 ((at_ : Int) + 1)) rfl (by kernel_rfl) (by kernel_rfl) (by kernel_rfl) (fun _ _ _ h => h) (Or.inl ⟨by first | rfl | go_simp, fun wx hx => by obtain ⟨hx1, hx2⟩ := hx; go_simp; first | (go_num; done) | (go_bits; done) | (go_bits; trivial)⟩) hS ?_
      try simp only [Act.put, List.getElem_toArray, List.getElem_cons_zero, List.getElem_cons_succ, List.setIfInBounds_toArray, List.set_cons_zero, List.set_cons_succ]
      refine wpAnyH_take (i := 5) (v := .slice (some ⟨b, off, none⟩) n cap) rfl (by kernel_rfl) (by kernel_rfl) (by kernel_rfl) (fun _ _ _ h => h) (Or.inl ⟨by first | rfl | go_simp, fun wx hx => by obtain ⟨hx1, hx2⟩ := hx; go_simp⟩) hS ?_
      try simp only [Act.put, List.getElem_toArray, List.getElem_cons_zero, List.getElem_cons_succ, List.setIfInBounds_toArray, List.set_cons_zero, List.set_cons_succ]
      refine wpAnyH_take (i := 6) (v := .int .i64 (at_ : Int)) rfl (by kernel_rfl) (by kernel_rfl) (by kernel_rfl) (fun _ _ _ h => h) (Or.inl ⟨by first | rfl | go_simp, fun wx hx => by obtain ⟨hx1, hx2⟩ := hx; go_simp⟩) hS ?_
      try simp only [Act.put, List.getElem_toArray, List.getElem_cons_zero, List.getElem_cons_succ, List.setIfInBounds_toArray, List.set_cons_zero, List.set_cons_succ]
      refine wpAnyH_take (i := 7) (v := .pointer (some ⟨b, off + at_ * 15, none⟩)) rfl (by kernel_rfl) (by kernel_rfl) (by kernel_rfl) (fun _ _ _ h => h) (Or.inl ⟨by first | rfl | go_simp, fun wx hx => by obtain ⟨hx1, hx2⟩ := hx; go_simp⟩) hS ?_
      try simp only [Act.put, List.getElem_toArray, List.getElem_cons_zero, List.getElem_cons_succ, List.setIfInBounds_toArray, List.set_cons_zero, List.set_cons_succ]
      refine wpAnyH_take (i := 8) (v := .pointer (some ⟨b, off + at_ * 15 + 14, none⟩)) rfl (by kernel_rfl) (by kernel_rfl) (by kernel_rfl) (fun _ _ _ h => h) (Or.inl ⟨by first | rfl | go_simp, fun wx hx => by obtain ⟨hx1, hx2⟩ := hx; go_simp⟩) hS ?_
      try simp only [Act.put, List.getElem_toArray, List.getElem_cons_zero, List.getElem_cons_succ, List.setIfInBounds_toArray, List.set_cons_zero, List.set_cons_succ]
      refine wpAnyH_take (i := 9) (v := .int .i64 (kn : Int)) rfl (by kernel_rfl) (by kernel_rfl) (by kernel_rfl) (fun _ _ _ h => h) (Or.inl ⟨by first | rfl | go_simp, fun wx hx => by obtain ⟨hx1, hx2⟩ := hx; go_simp⟩) hS ?_
      try simp only [Act.put, List.getElem_toArray, List.getElem_cons_zero, List.getElem_cons_succ, List.setIfInBounds_toArray, List.set_cons_zero, List.set_cons_succ]
      refine wpAnyH_take (i := 10) (v := .int .i64 ((at_ : Int) + 1 + (kn : Int))) rfl (by kernel_rfl) (by kernel_rfl) (by kernel_rfl) (fun _ _ _ h => h) (Or.inl ⟨by first | rfl | go_simp, fun wx hx => by obtain ⟨hx1, hx2⟩ := hx; go_simp; first | (go_num; done) | (go_bits; done) | (go_bits; trivial)⟩) hS ?_
      try simp only [Act.put, List.getElem_toArray, List.getElem_cons_zero, List.getElem_cons_succ, List.setIfInBounds_toArray, List.set_cons_zero, List.set_cons_succ]
      refine wpAnyH_take (i := 11) (v := .agg #[.nilIface, .int .i64 (at_ : Int), .int .i64 ((at_ : Int) + 1 + (kn : Int))]) rfl (by kernel_rfl) (by kernel_rfl) (by kernel_rfl) (fun _ _ _ h => h) (Or.inl ⟨by first | rfl | go_simp, fun wx hx => by obtain ⟨hx1, hx2⟩ := hx; go_simp⟩) hS ?_
      try simp only [Act.put, List.getElem_toArray, List.getElem_cons_zero, List.getElem_cons_succ, List.setIfInBounds_toArray, List.set_cons_zero, List.set_cons_succ]
      obtain ⟨i0, hi0, hz0, hz1, hz2⟩ := info_parts Try.info141i
      have hwW : w.heap.size < W.heap.size := HRO.out.1.lt
      have hbW : b < W.heap.size := by omega
      have S4 : (W.alloc (.cells #[.nilIface, .int .i64 (at_ : Int), .int .i64 ((at_ : Int) + 1 + (kn : Int))] 141)).drew.cell? ⟨w.heap.size, 0, none⟩ = some (.slice (some ⟨b, off, none⟩) n cap) ∧ (W.alloc (.cells #[.nilIface, .int .i64 (at_ : Int), .int .i64 ((at_ : Int) + 1 + (kn : Int))] 141)).drew.cell? ⟨b, off + at_ * 15 + 14, none⟩ = some (.int .i64 (kn : Int)) := ⟨((below1 W _).cell (p := ⟨w.heap.size, 0, none⟩) hwW).trans hS.1, ((below1 W _).cell (p := ⟨b, off + at_ * 15 + 14, none⟩) hbW).trans hS.2⟩
      have U4 : Boxed (W.alloc (.cells #[.nilIface, .int .i64 (at_ : Int), .int .i64 ((at_ : Int) + 1 + (kn : Int))] 141)).drew (w.heap.size + 1 + 1) 86 (.slice ua pre.length uc) := Boxed.alloc HRO.out.2.1 _
      have hcu4 := U4.cell
      clear U4
      refine wpAnyH_ready (rs := [0, 12]) (by kernel_rfl) (by simp) ?_
      refine AllReadyH.cons rfl (fun K hK => ?_) (AllReadyH.cons rfl (fun K hK => ?_) AllReadyH.nil)
      · rw [if_pos (by first | rfl | go_simp)]
        have hcu := hbuc
        go_simp
        refine hK.out _ _ hS (fun _ => ?_)
        try simp only [Act.put, List.getElem_toArray, List.getElem_cons_zero, List.getElem_cons_succ, List.setIfInBounds_toArray, List.set_cons_zero, List.set_cons_succ]
        clear hK K
        refine wpAnyH_ready (rs := [12]) (by kernel_rfl) (by simp) ?_
        refine AllReadyH.cons rfl (fun K hK => ?_) AllReadyH.nil
        rw [if_pos (by first | rfl | go_simp)]
        go_simp
        refine hK.out _ _ S4 (fun _ => ?_)
        try simp only [Act.put, List.getElem_toArray, List.getElem_cons_zero, List.getElem_cons_succ, List.setIfInBounds_toArray, List.set_cons_zero, List.set_cons_succ]
        clear hK K
        refine wpAnyH_ready (rs := [13]) (by kernel_rfl) (by simp) ?_
        refine AllReadyH.cons rfl (fun K hK => ?_) AllReadyH.nil
        rw [if_pos (by first | rfl | go_simp)]
        refine wp_append_at _ _ 86 rfl w.heap.size 141 i0 (.agg #[.nilIface, .int .i64 0, .int .i64 0]) 3 32 Try.underlying86 hi0 hz0 hz1 hz2 rfl (by decide) (.slice ua pre.length uc) pre.length _ rfl (show ((W.alloc (.cells #[.nilIface, .int .i64 (at_ : Int), .int .i64 ((at_ : Int) + 1 + (kn : Int))] 141)).drew).ownsRow _ _ _ _ _ _ from World.ownsRow.alloc HRO.out.2.2.1 _) ⟨W.heap.size, 0, none⟩ 1 1 [.nilIface, .int .i64 (at_ : Int), .int .i64 ((at_ : Int) + 1 + (kn : Int))] rfl rfl (fun j u hj => cell_three_new W _ _ _ _ j u hj) (by intro z hz; simp at hz; rcases hz with rfl | rfl | rfl; exact hone; rfl; rfl) (by unfold maxLen; omega) (by omega) (by simp; omega) ?_
        intro v5 w5 ho5 hg5 hnil5 hat5
        obtain ⟨g5, c5, rfl⟩ := ownsRow_succ ho5
        obtain ⟨d1, d2, d3, d4, d5, d6, d7, d8, d9⟩ := itf_done (xs := xs) (ao := some ⟨b, off, none⟩) (Bs := Bs) (b := b) (off := off) (cap := cap) HRO.out.1 HRO.out.2.1 HRO.out.2.2.1 HRO.out.2.2.2.1 HRO.out.2.2.2.2.2 HRO.out.2.2.2.2.1 (by omega) hws (fun _ => hbw) (by omega) ho5 hg5 hat5
        have hcu5 := d9.cell
        have hfu5 := d9.frozen
        have S5 : w5.cell? ⟨w.heap.size, 0, none⟩ = some (.slice (some ⟨b, off, none⟩) n cap) ∧ w5.cell? ⟨b, off + at_ * 15 + 14, none⟩ = some (.int .i64 (kn : Int)) := by
          have e1 : ∀ p : Addr, p.block ≠ w.heap.size + 1 + 1 → (w5.setCell ⟨w.heap.size + 1 + 1, 0, none⟩ (.slice (some ⟨g5, 0, none⟩) (pre.length + 1) c5)).cell? p = w5.cell? p := fun p hp => World.cell?_setCell_far _ _ _ _ (Ne.symm hp)
          refine ⟨?_, ?_⟩
          · rw [← e1 _ (by simp; omega)]
            exact d3.cell
          · rw [← e1 _ (by simp; omega)]
            exact (d8.cell (p := ⟨b, off + at_ * 15 + 14, none⟩) hbw).trans ((HRO.out.2.2.2.2.2.cell (p := ⟨b, off + at_ * 15 + 14, none⟩) hbw).symm.trans g14)
        have S6 : (w5.setCell ⟨w.heap.size + 1 + 1, 0, none⟩ (.slice (some ⟨g5, 0, none⟩) (pre.length + 1) c5)).cell? ⟨w.heap.size, 0, none⟩ = some (.slice (some ⟨b, off, none⟩) n cap) ∧ (w5.setCell ⟨w.heap.size + 1 + 1, 0, none⟩ (.slice (some ⟨g5, 0, none⟩) (pre.length + 1) c5)).cell? ⟨b, off + at_ * 15 + 14, none⟩ = some (.int .i64 (kn : Int)) := ⟨d3.cell, (d8.cell (p := ⟨b, off + at_ * 15 + 14, none⟩) hbw).trans ((HRO.out.2.2.2.2.2.cell (p := ⟨b, off + at_ * 15 + 14, none⟩) hbw).symm.trans g14)⟩
        have HD := hideP d1
        have D2 := hideP d2
        have D3 := hideP d3
        have D4 := hideP d4
        have D5 := hideP d5
        have D6 := hideP d6
        have D7 := hideP d7
        have D8 := hideP d8
        clear d1 d2 d3 d4 d5 d6 d7 d8 d9 ho5 hg5 hat5 hnil5
        refine hK.out _ _ S5 (fun _ => ?_)
        try simp only [Act.put, List.getElem_toArray, List.getElem_cons_zero, List.getElem_cons_succ, List.setIfInBounds_toArray, List.set_cons_zero, List.set_cons_succ]
        clear hK K
        refine wpAnyH_ready (rs := [14]) (by kernel_rfl) (by simp) ?_
        refine AllReadyH.cons rfl (fun K hK => ?_) AllReadyH.nil
        rw [if_pos (by first | rfl | go_simp)]
        go_simp
        refine hK.out _ _ S6 (fun _ => ?_)
        try simp only [Act.put, List.getElem_toArray, List.getElem_cons_zero, List.getElem_cons_succ, List.setIfInBounds_toArray, List.set_cons_zero, List.set_cons_succ]
        clear hK K
        refine wpAnyH_done (by kernel_rfl) ?_ _
        gi_wp2
        refine ⟨HD.out, D2.out, ⟨D3.out, _, D4.out, ?_, D6.out, D7.out⟩, D8.out⟩
        rw [List.length_append, List.length_singleton, HA.out, flatI_snoc, HIT.out.1, ← HIT.out.2]
        exact D5.out
      · rw [if_pos (by first | rfl | go_simp)]
        go_simp
        refine hK.out _ _ S4 (fun _ => ?_)
        try simp only [Act.put, List.getElem_toArray, List.getElem_cons_zero, List.getElem_cons_succ, List.setIfInBounds_toArray, List.set_cons_zero, List.set_cons_succ]
        clear hK K
        refine wpAnyH_ready (rs := [0]) (by kernel_rfl) (by simp) ?_
        refine AllReadyH.cons rfl (fun K hK => ?_) AllReadyH.nil
        rw [if_pos (by first | rfl | go_simp)]
        go_simp
        refine hK.out _ _ S4 (fun _ => ?_)
        try simp only [Act.put, List.getElem_toArray, List.getElem_cons_zero, List.getElem_cons_succ, List.setIfInBounds_toArray, List.set_cons_zero, List.set_cons_succ]
        clear hK K
        refine wpAnyH_ready (rs := [13]) (by kernel_rfl) (by simp) ?_
        refine AllReadyH.cons rfl (fun K hK => ?_) AllReadyH.nil
        rw [if_pos (by first | rfl | go_simp)]
        refine wp_append_at _ _ 86 rfl w.heap.size 141 i0 (.agg #[.nilIface, .int .i64 0, .int .i64 0]) 3 32 Try.underlying86 hi0 hz0 hz1 hz2 rfl (by decide) (.slice ua pre.length uc) pre.length _ rfl (show ((W.alloc (.cells #[.nilIface, .int .i64 (at_ : Int), .int .i64 ((at_ : Int) + 1 + (kn : Int))] 141)).drew).ownsRow _ _ _ _ _ _ from World.ownsRow.alloc HRO.out.2.2.1 _) ⟨W.heap.size, 0, none⟩ 1 1 [.nilIface, .int .i64 (at_ : Int), .int .i64 ((at_ : Int) + 1 + (kn : Int))] rfl rfl (fun j u hj => cell_three_new W _ _ _ _ j u hj) (by intro z hz; simp at hz; rcases hz with rfl | rfl | rfl; exact hone; rfl; rfl) (by unfold maxLen; omega) (by omega) (by simp; omega) ?_
        intro v5 w5 ho5 hg5 hnil5 hat5
        obtain ⟨g5, c5, rfl⟩ := ownsRow_succ ho5
        obtain ⟨d1, d2, d3, d4, d5, d6, d7, d8, d9⟩ := itf_done (xs := xs) (ao := some ⟨b, off, none⟩) (Bs := Bs) (b := b) (off := off) (cap := cap) HRO.out.1 HRO.out.2.1 HRO.out.2.2.1 HRO.out.2.2.2.1 HRO.out.2.2.2.2.2 HRO.out.2.2.2.2.1 (by omega) hws (fun _ => hbw) (by omega) ho5 hg5 hat5
        have hcu5 := d9.cell
        have hfu5 := d9.frozen
        have S5 : w5.cell? ⟨w.heap.size, 0, none⟩ = some (.slice (some ⟨b, off, none⟩) n cap) ∧ w5.cell? ⟨b, off + at_ * 15 + 14, none⟩ = some (.int .i64 (kn : Int)) := by
          have e1 : ∀ p : Addr, p.block ≠ w.heap.size + 1 + 1 → (w5.setCell ⟨w.heap.size + 1 + 1, 0, none⟩ (.slice (some ⟨g5, 0, none⟩) (pre.length + 1) c5)).cell? p = w5.cell? p := fun p hp => World.cell?_setCell_far _ _ _ _ (Ne.symm hp)
          refine ⟨?_, ?_⟩
          · rw [← e1 _ (by simp; omega)]
            exact d3.cell
          · rw [← e1 _ (by simp; omega)]
            exact (d8.cell (p := ⟨b, off + at_ * 15 + 14, none⟩) hbw).trans ((HRO.out.2.2.2.2.2.cell (p := ⟨b, off + at_ * 15 + 14, none⟩) hbw).symm.trans g14)
        have S6 : (w5.setCell ⟨w.heap.size + 1 + 1, 0, none⟩ (.slice (some ⟨g5, 0, none⟩) (pre.length + 1) c5)).cell? ⟨w.heap.size, 0, none⟩ = some (.slice (some ⟨b, off, none⟩) n cap) ∧ (w5.setCell ⟨w.heap.size + 1 + 1, 0, none⟩ (.slice (some ⟨g5, 0, none⟩) (pre.length + 1) c5)).cell? ⟨b, off + at_ * 15 + 14, none⟩ = some (.int .i64 (kn : Int)) := ⟨d3.cell, (d8.cell (p := ⟨b, off + at_ * 15 + 14, none⟩) hbw).trans ((HRO.out.2.2.2.2.2.cell (p := ⟨b, off + at_ * 15 + 14, none⟩) hbw).symm.trans g14)⟩
        have HD := hideP d1
        have D2 := hideP d2
        have D3 := hideP d3
        have D4 := hideP d4
        have D5 := hideP d5
        have D6 := hideP d6
        have D7 := hideP d7
        have D8 := hideP d8
        clear d1 d2 d3 d4 d5 d6 d7 d8 d9 ho5 hg5 hat5 hnil5
        refine hK.out _ _ S5 (fun _ => ?_)
        try simp only [Act.put, List.getElem_toArray, List.getElem_cons_zero, List.getElem_cons_succ, List.setIfInBounds_toArray, List.set_cons_zero, List.set_cons_succ]
        clear hK K
        refine wpAnyH_ready (rs := [14]) (by kernel_rfl) (by simp) ?_
        refine AllReadyH.cons rfl (fun K hK => ?_) AllReadyH.nil
        rw [if_pos (by first | rfl | go_simp)]
        go_simp
        refine hK.out _ _ S6 (fun _ => ?_)
        try simp only [Act.put, List.getElem_toArray, List.getElem_cons_zero, List.getElem_cons_succ, List.setIfInBounds_toArray, List.set_cons_zero, List.set_cons_succ]
        clear hK K
        refine wpAnyH_done (by kernel_rfl) ?_ _
        gi_wp2
        refine ⟨HD.out, D2.out, ⟨D3.out, _, D4.out, ?_, D6.out, D7.out⟩, D8.out⟩
        rw [List.length_append, List.length_singleton, HA.out, flatI_snoc, HIT.out.1, ← HIT.out.2]
        exact D5.out
    · gi_wp2_with fail
      refine region_heldR (S := fun X => X.cell? ⟨w.heap.size, 0, none⟩ = some (.slice (some ⟨b, off, none⟩) n cap) ∧ X.cell? ⟨b, off + at_ * 15 + 14, none⟩ = some (.int .i64 (kn : Int))) (by kernel_rfl) (plain_spec (by kernel_rfl)) (by rintro ⟨a, w, h⟩; exact h) ?_
      have hS : W.drew.cell? ⟨w.heap.size, 0, none⟩ = some (.slice (some ⟨b, off, none⟩) n cap) ∧ W.drew.cell? ⟨b, off + at_ * 15 + 14, none⟩ = some (.int .i64 (kn : Int)) := ⟨hbxc, g14⟩
      refine wpAnyH_take (i := 1) (v := (.iface X q)) rfl (by kernel_rfl) (by kernel_rfl) (by kernel_rfl) (fun _ _ _ h => h) (Or.inl ⟨by first | rfl | go_simp, fun wx hx => by obtain ⟨hx1, hx2⟩ := hx; go_simp⟩) hS ?_
      try simp only [Act.put, List.getElem_toArray, List.getElem_cons_zero, List.getElem_cons_succ, List.setIfInBounds_toArray, List.set_cons_zero, List.set_cons_succ]
      refine wpAnyH_take (i := 2) (v := .int .i64 (at_ : Int)) rfl (by kernel_rfl) (by kernel_rfl) (by kernel_rfl) (fun _ _ _ h => h) (Or.inl ⟨by first | rfl | go_simp, fun wx hx => by obtain ⟨hx1, hx2⟩ := hx; go_simp⟩) hS ?_
      try simp only [Act.put, List.getElem_toArray, List.getElem_cons_zero, List.getElem_cons_succ, List.setIfInBounds_toArray, List.set_cons_zero, List.set_cons_succ]
      refine wpAnyH_take (i := 3) (v := .int .i64 (at_ : Int)) rfl (by kernel_rfl) (by kernel_rfl) (by kernel_rfl) (fun _ _ _ h => h) (Or.inl ⟨by first | rfl | go_simp, fun wx hx => by obtain ⟨hx1, hx2⟩ := hx; go_simp⟩) hS ?_
      try simp only [Act.put, List.getElem_toArray, List.getElem_cons_zero, List.getElem_cons_succ, List.setIfInBounds_toArray, List.set_cons_zero, List.set_cons_succ]
      refine wpAnyH_take (i := 4) (v := .int .i64 ((at_ : Int) + 1)) rfl (by kernel_rfl) (by kernel_rfl) (by kernel_rfl) (fun _ _ _ h => h) (Or.inl ⟨by first | rfl | go_simp, fun wx hx => by obtain ⟨hx1, hx2⟩ := hx; go_simp; first | (go_num; done) | (go_bits; done) | (go_bits; trivial)⟩) hS ?_
      try simp only [Act.put, List.getElem_toArray, List.getElem_cons_zero, List.getElem_cons_succ, List.setIfInBounds_toArray, List.set_cons_zero, List.set_cons_succ]
      refine wpAnyH_take (i := 5) (v := .slice (some ⟨b, off, none⟩) n cap) rfl (by kernel_rfl) (by kernel_rfl) (by kernel_rfl) (fun _ _ _ h => h) (Or.inl ⟨by first | rfl | go_simp, fun wx hx => by obtain ⟨hx1, hx2⟩ := hx; go_simp⟩) hS ?_
      try simp only [Act.put, List.getElem_toArray, List.getElem_cons_zero, List.getElem_cons_succ, List.setIfInBounds_toArray, List.set_cons_zero, List.set_cons_succ]
      refine wpAnyH_take (i := 6) (v := .int .i64 (at_ : Int)) rfl (by kernel_rfl) (by kernel_rfl) (by kernel_rfl) (fun _ _ _ h => h) (Or.inl ⟨by first | rfl | go_simp, fun wx hx => by obtain ⟨hx1, hx2⟩ := hx; go_simp⟩) hS ?_
      try simp only [Act.put, List.getElem_toArray, List.getElem_cons_zero, List.getElem_cons_succ, List.setIfInBounds_toArray, List.set_cons_zero, List.set_cons_succ]
      refine wpAnyH_take (i := 7) (v := .pointer (some ⟨b, off + at_ * 15, none⟩)) rfl (by kernel_rfl) (by kernel_rfl) (by kernel_rfl) (fun _ _ _ h => h) (Or.inl ⟨by first | rfl | go_simp, fun wx hx => by obtain ⟨hx1, hx2⟩ := hx; go_simp⟩) hS ?_
      try simp only [Act.put, List.getElem_toArray, List.getElem_cons_zero, List.getElem_cons_succ, List.setIfInBounds_toArray, List.set_cons_zero, List.set_cons_succ]
      refine wpAnyH_take (i := 8) (v := .pointer (some ⟨b, off + at_ * 15 + 14, none⟩)) rfl (by kernel_rfl) (by kernel_rfl) (by kernel_rfl) (fun _ _ _ h => h) (Or.inl ⟨by first | rfl | go_simp, fun wx hx => by obtain ⟨hx1, hx2⟩ := hx; go_simp⟩) hS ?_
      try simp only [Act.put, List.getElem_toArray, List.getElem_cons_zero, List.getElem_cons_succ, List.setIfInBounds_toArray, List.set_cons_zero, List.set_cons_succ]
      refine wpAnyH_take (i := 9) (v := .int .i64 (kn : Int)) rfl (by kernel_rfl) (by kernel_rfl) (by kernel_rfl) (fun _ _ _ h => h) (Or.inl ⟨by first | rfl | go_simp, fun wx hx => by obtain ⟨hx1, hx2⟩ := hx; go_simp⟩) hS ?_
      try simp only [Act.put, List.getElem_toArray, List.getElem_cons_zero, List.getElem_cons_succ, List.setIfInBounds_toArray, List.set_cons_zero, List.set_cons_succ]
      refine wpAnyH_take (i := 10) (v := .int .i64 ((at_ : Int) + 1 + (kn : Int))) rfl (by kernel_rfl) (by kernel_rfl) (by kernel_rfl) (fun _ _ _ h => h) (Or.inl ⟨by first | rfl | go_simp, fun wx hx => by obtain ⟨hx1, hx2⟩ := hx; go_simp; first | (go_num; done) | (go_bits; done) | (go_bits; trivial)⟩) hS ?_
      try simp only [Act.put, List.getElem_toArray, List.getElem_cons_zero, List.getElem_cons_succ, List.setIfInBounds_toArray, List.set_cons_zero, List.set_cons_succ]
      refine wpAnyH_take (i := 11) (v := .agg #[(.iface X q), .int .i64 (at_ : Int), .int .i64 ((at_ : Int) + 1 + (kn : Int))]) rfl (by kernel_rfl) (by kernel_rfl) (by kernel_rfl) (fun _ _ _ h => h) (Or.inl ⟨by first | rfl | go_simp, fun wx hx => by obtain ⟨hx1, hx2⟩ := hx; go_simp⟩) hS ?_
      try simp only [Act.put, List.getElem_toArray, List.getElem_cons_zero, List.getElem_cons_succ, List.setIfInBounds_toArray, List.set_cons_zero, List.set_cons_succ]
      obtain ⟨i0, hi0, hz0, hz1, hz2⟩ := info_parts Try.info141i
      have hwW : w.heap.size < W.heap.size := HRO.out.1.lt
      have hbW : b < W.heap.size := by omega
      have S4 : (W.alloc (.cells #[(.iface X q), .int .i64 (at_ : Int), .int .i64 ((at_ : Int) + 1 + (kn : Int))] 141)).drew.cell? ⟨w.heap.size, 0, none⟩ = some (.slice (some ⟨b, off, none⟩) n cap) ∧ (W.alloc (.cells #[(.iface X q), .int .i64 (at_ : Int), .int .i64 ((at_ : Int) + 1 + (kn : Int))] 141)).drew.cell? ⟨b, off + at_ * 15 + 14, none⟩ = some (.int .i64 (kn : Int)) := ⟨((below1 W _).cell (p := ⟨w.heap.size, 0, none⟩) hwW).trans hS.1, ((below1 W _).cell (p := ⟨b, off + at_ * 15 + 14, none⟩) hbW).trans hS.2⟩
      have U4 : Boxed (W.alloc (.cells #[(.iface X q), .int .i64 (at_ : Int), .int .i64 ((at_ : Int) + 1 + (kn : Int))] 141)).drew (w.heap.size + 1 + 1) 86 (.slice ua pre.length uc) := Boxed.alloc HRO.out.2.1 _
      have hcu4 := U4.cell
      clear U4
      refine wpAnyH_ready (rs := [0, 12]) (by kernel_rfl) (by simp) ?_
      refine AllReadyH.cons rfl (fun K hK => ?_) (AllReadyH.cons rfl (fun K hK => ?_) AllReadyH.nil)
      · rw [if_pos (by first | rfl | go_simp)]
        have hcu := hbuc
        go_simp
        refine hK.out _ _ hS (fun _ => ?_)
        try simp only [Act.put, List.getElem_toArray, List.getElem_cons_zero, List.getElem_cons_succ, List.setIfInBounds_toArray, List.set_cons_zero, List.set_cons_succ]
        clear hK K
        refine wpAnyH_ready (rs := [12]) (by kernel_rfl) (by simp) ?_
        refine AllReadyH.cons rfl (fun K hK => ?_) AllReadyH.nil
        rw [if_pos (by first | rfl | go_simp)]
        go_simp
        refine hK.out _ _ S4 (fun _ => ?_)
        try simp only [Act.put, List.getElem_toArray, List.getElem_cons_zero, List.getElem_cons_succ, List.setIfInBounds_toArray, List.set_cons_zero, List.set_cons_succ]
        clear hK K
        refine wpAnyH_ready (rs := [13]) (by kernel_rfl) (by simp) ?_
        refine AllReadyH.cons rfl (fun K hK => ?_) AllReadyH.nil
        rw [if_pos (by first | rfl | go_simp)]
        refine wp_append_at _ _ 86 rfl w.heap.size 141 i0 (.agg #[.nilIface, .int .i64 0, .int .i64 0]) 3 32 Try.underlying86 hi0 hz0 hz1 hz2 rfl (by decide) (.slice ua pre.length uc) pre.length _ rfl (show ((W.alloc (.cells #[(.iface X q), .int .i64 (at_ : Int), .int .i64 ((at_ : Int) + 1 + (kn : Int))] 141)).drew).ownsRow _ _ _ _ _ _ from World.ownsRow.alloc HRO.out.2.2.1 _) ⟨W.heap.size, 0, none⟩ 1 1 [(.iface X q), .int .i64 (at_ : Int), .int .i64 ((at_ : Int) + 1 + (kn : Int))] rfl rfl (fun j u hj => cell_three_new W _ _ _ _ j u hj) (by intro z hz; simp at hz; rcases hz with rfl | rfl | rfl; exact hone; rfl; rfl) (by unfold maxLen; omega) (by omega) (by simp; omega) ?_
        intro v5 w5 ho5 hg5 hnil5 hat5
        obtain ⟨g5, c5, rfl⟩ := ownsRow_succ ho5
        obtain ⟨d1, d2, d3, d4, d5, d6, d7, d8, d9⟩ := itf_done (xs := xs) (ao := some ⟨b, off, none⟩) (Bs := Bs) (b := b) (off := off) (cap := cap) HRO.out.1 HRO.out.2.1 HRO.out.2.2.1 HRO.out.2.2.2.1 HRO.out.2.2.2.2.2 HRO.out.2.2.2.2.1 (by omega) hws (fun _ => hbw) (by omega) ho5 hg5 hat5
        have hcu5 := d9.cell
        have hfu5 := d9.frozen
        have S5 : w5.cell? ⟨w.heap.size, 0, none⟩ = some (.slice (some ⟨b, off, none⟩) n cap) ∧ w5.cell? ⟨b, off + at_ * 15 + 14, none⟩ = some (.int .i64 (kn : Int)) := by
          have e1 : ∀ p : Addr, p.block ≠ w.heap.size + 1 + 1 → (w5.setCell ⟨w.heap.size + 1 + 1, 0, none⟩ (.slice (some ⟨g5, 0, none⟩) (pre.length + 1) c5)).cell? p = w5.cell? p := fun p hp => World.cell?_setCell_far _ _ _ _ (Ne.symm hp)
          refine ⟨?_, ?_⟩
          · rw [← e1 _ (by simp; omega)]
            exact d3.cell
          · rw [← e1 _ (by simp; omega)]
            exact (d8.cell (p := ⟨b, off + at_ * 15 + 14, none⟩) hbw).trans ((HRO.out.2.2.2.2.2.cell (p := ⟨b, off + at_ * 15 + 14, none⟩) hbw).symm.trans g14)
        have S6 : (w5.setCell ⟨w.heap.size + 1 + 1, 0, none⟩ (.slice (some ⟨g5, 0, none⟩) (pre.length + 1) c5)).cell? ⟨w.heap.size, 0, none⟩ = some (.slice (some ⟨b, off, none⟩) n cap) ∧ (w5.setCell ⟨w.heap.size + 1 + 1, 0, none⟩ (.slice (some ⟨g5, 0, none⟩) (pre.length + 1) c5)).cell? ⟨b, off + at_ * 15 + 14, none⟩ = some (.int .i64 (kn : Int)) := ⟨d3.cell, (d8.cell (p := ⟨b, off + at_ * 15 + 14, none⟩) hbw).trans ((HRO.out.2.2.2.2.2.cell (p := ⟨b, off + at_ * 15 + 14, none⟩) hbw).symm.trans g14)⟩
        have HD := hideP d1
        have D2 := hideP d2
        have D3 := hideP d3
        have D4 := hideP d4
        have D5 := hideP d5
        have D6 := hideP d6
        have D7 := hideP d7
        have D8 := hideP d8
        clear d1 d2 d3 d4 d5 d6 d7 d8 d9 ho5 hg5 hat5 hnil5
        refine hK.out _ _ S5 (fun _ => ?_)
        try simp only [Act.put, List.getElem_toArray, List.getElem_cons_zero, List.getElem_cons_succ, List.setIfInBounds_toArray, List.set_cons_zero, List.set_cons_succ]
        clear hK K
        refine wpAnyH_ready (rs := [14]) (by kernel_rfl) (by simp) ?_
        refine AllReadyH.cons rfl (fun K hK => ?_) AllReadyH.nil
        rw [if_pos (by first | rfl | go_simp)]
        go_simp
        refine hK.out _ _ S6 (fun _ => ?_)
        try simp only [Act.put, List.getElem_toArray, List.getElem_cons_zero, List.getElem_cons_succ, List.setIfInBounds_toArray, List.set_cons_zero, List.set_cons_succ]
        clear hK K
        refine wpAnyH_done (by kernel_rfl) ?_ _
        gi_wp2
        refine ⟨HD.out, D2.out, ⟨D3.out, _, D4.out, ?_, D6.out, D7.out⟩, D8.out⟩
        rw [List.length_append, List.length_singleton, HA.out, flatI_snoc, HIT.out.1, ← HIT.out.2]
        exact D5.out
      · rw [if_pos (by first | rfl | go_simp)]
        go_simp
        refine hK.out _ _ S4 (fun _ => ?_)
        try simp only [Act.put, List.getElem_toArray, List.getElem_cons_zero, List.getElem_cons_succ, List.setIfInBounds_toArray, List.set_cons_zero, List.set_cons_succ]
        clear hK K
        refine wpAnyH_ready (rs := [0]) (by kernel_rfl) (by simp) ?_
        refine AllReadyH.cons rfl (fun K hK => ?_) AllReadyH.nil
        rw [if_pos (by first | rfl | go_simp)]
        go_simp
        refine hK.out _ _ S4 (fun _ => ?_)
        try simp only [Act.put, List.getElem_toArray, List.getElem_cons_zero, List.getElem_cons_succ, List.setIfInBounds_toArray, List.set_cons_zero, List.set_cons_succ]
        clear hK K
        refine wpAnyH_ready (rs := [13]) (by kernel_rfl) (by simp) ?_
        refine AllReadyH.cons rfl (fun K hK => ?_) AllReadyH.nil
        rw [if_pos (by first | rfl | go_simp)]
        refine wp_append_at _ _ 86 rfl w.heap.size 141 i0 (.agg #[.nilIface, .int .i64 0, .int .i64 0]) 3 32 Try.underlying86 hi0 hz0 hz1 hz2 rfl (by decide) (.slice ua pre.length uc) pre.length _ rfl (show ((W.alloc (.cells #[(.iface X q), .int .i64 (at_ : Int), .int .i64 ((at_ : Int) + 1 + (kn : Int))] 141)).drew).ownsRow _ _ _ _ _ _ from World.ownsRow.alloc HRO.out.2.2.1 _) ⟨W.heap.size, 0, none⟩ 1 1 [(.iface X q), .int .i64 (at_ : Int), .int .i64 ((at_ : Int) + 1 + (kn : Int))] rfl rfl (fun j u hj => cell_three_new W _ _ _ _ j u hj) (by intro z hz; simp at hz; rcases hz with rfl | rfl | rfl; exact hone; rfl; rfl) (by unfold maxLen; omega) (by omega) (by simp; omega) ?_
        intro v5 w5 ho5 hg5 hnil5 hat5
        obtain ⟨g5, c5, rfl⟩ := ownsRow_succ ho5
        obtain ⟨d1, d2, d3, d4, d5, d6, d7, d8, d9⟩ := itf_done (xs := xs) (ao := some ⟨b, off, none⟩) (Bs := Bs) (b := b) (off := off) (cap := cap) HRO.out.1 HRO.out.2.1 HRO.out.2.2.1 HRO.out.2.2.2.1 HRO.out.2.2.2.2.2 HRO.out.2.2.2.2.1 (by omega) hws (fun _ => hbw) (by omega) ho5 hg5 hat5
        have hcu5 := d9.cell
        have hfu5 := d9.frozen
        have S5 : w5.cell? ⟨w.heap.size, 0, none⟩ = some (.slice (some ⟨b, off, none⟩) n cap) ∧ w5.cell? ⟨b, off + at_ * 15 + 14, none⟩ = some (.int .i64 (kn : Int)) := by
          have e1 : ∀ p : Addr, p.block ≠ w.heap.size + 1 + 1 → (w5.setCell ⟨w.heap.size + 1 + 1, 0, none⟩ (.slice (some ⟨g5, 0, none⟩) (pre.length + 1) c5)).cell? p = w5.cell? p := fun p hp => World.cell?_setCell_far _ _ _ _ (Ne.symm hp)
          refine ⟨?_, ?_⟩
          · rw [← e1 _ (by simp; omega)]
            exact d3.cell
          · rw [← e1 _ (by simp; omega)]
            exact (d8.cell (p := ⟨b, off + at_ * 15 + 14, none⟩) hbw).trans ((HRO.out.2.2.2.2.2.cell (p := ⟨b, off + at_ * 15 + 14, none⟩) hbw).symm.trans g14)
        have S6 : (w5.setCell ⟨w.heap.size + 1 + 1, 0, none⟩ (.slice (some ⟨g5, 0, none⟩) (pre.length + 1) c5)).cell? ⟨w.heap.size, 0, none⟩ = some (.slice (some ⟨b, off, none⟩) n cap) ∧ (w5.setCell ⟨w.heap.size + 1 + 1, 0, none⟩ (.slice (some ⟨g5, 0, none⟩) (pre.length + 1) c5)).cell? ⟨b, off + at_ * 15 + 14, none⟩ = some (.int .i64 (kn : Int)) := ⟨d3.cell, (d8.cell (p := ⟨b, off + at_ * 15 + 14, none⟩) hbw).trans ((HRO.out.2.2.2.2.2.cell (p := ⟨b, off + at_ * 15 + 14, none⟩) hbw).symm.trans g14)⟩
        have HD := hideP d1
        have D2 := hideP d2
        have D3 := hideP d3
        have D4 := hideP d4
        have D5 := hideP d5
        have D6 := hideP d6
        have D7 := hideP d7
        have D8 := hideP d8
        clear d1 d2 d3 d4 d5 d6 d7 d8 d9 ho5 hg5 hat5 hnil5
        refine hK.out _ _ S5 (fun _ => ?_)
        try simp only [Act.put, List.getElem_toArray, List.getElem_cons_zero, List.getElem_cons_succ, List.setIfInBounds_toArray, List.set_cons_zero, List.set_cons_succ]
        clear hK K
        refine wpAnyH_ready (rs := [14]) (by kernel_rfl) (by simp) ?_
        refine AllReadyH.cons rfl (fun K hK => ?_) AllReadyH.nil
        rw [if_pos (by first | rfl | go_simp)]
        go_simp
        refine hK.out _ _ S6 (fun _ => ?_)
        try simp only [Act.put, List.getElem_toArray, List.getElem_cons_zero, List.getElem_cons_succ, List.setIfInBounds_toArray, List.set_cons_zero, List.set_cons_succ]
        clear hK K
        refine wpAnyH_done (by kernel_rfl) ?_ _
        gi_wp2
        refine ⟨HD.out, D2.out, ⟨D3.out, _, D4.out, ?_, D6.out, D7.out⟩, D8.out⟩
        rw [List.length_append, List.length_singleton, HA.out, flatI_snoc, HIT.out.1, ← HIT.out.2]
        exact D5.out
end Go.Proofs.Ytjagagbelpihbaa
