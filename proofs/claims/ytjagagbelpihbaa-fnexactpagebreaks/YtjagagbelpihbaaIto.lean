/-
  The items of a list: the program.
-/
import Derived.RangeFuncNested
import Derived.RangeFuncBound
import Derived.RangeFuncCalls
import Derived.RangeFuncLeaves
import Derived.Shelf.Abstract
import Derived.Shelf.RegionOpen
import Derived.WalkKit
import Derived.OwnWalkIn
import Derived.TacticsInMore
import Derived.LoopNIn
import Derived.LoopIn
import Derived.Maps.AppendAt
import Derived.Test.YtjagagbelpihbaaItb
import Derived.Test.YtjagagbelpihbaaLok
namespace Go.Proofs.Ytjagagbelpihbaa
open Go.RowKit Go.Shelf
set_option linter.unusedVariables false
set_option linter.unusedSimpArgs false
attribute [local go_sem] Oper.semAt_some


theorem Try.info25i : (Try.prog.info? 25).map (fun i => (i.zero, i.size, i.bytes)) = some (some (.slice none 0 0), 1, 24) := by kernel_rfl

set_option maxRecDepth 100000 in
set_option maxHeartbeats 8000000 in
theorem implItems_in {v : Value} {xs : List Nd} {w : World} (h : NRow 0 w v xs) (hs : xs.length ≤ 1048576) (hcp : ∀ a n c, v = .slice a n c → n ≤ c ∧ c ≤ 9223372036854775807) :
    CallsIn Fence.wide 5 Try.prog 14 #[v] w fun e W' => (∃ u vs, e = .returned u ∧ W'.ownsRow w.heap.size 25 1 u (itemsOf xs).length vs ∧ Lsts w.heap.size W' vs (fun i => (itemsOf xs).getD i [])) ∧ Below w.heap.size w W' := by
  have LC : Hid (∀ W, Below w.heap.size w W → Calls Try.prog 11 #[v] W fun e w' => e = .returned (.bool (listB xs)) ∧ Below W.heap.size W w') := hideP (fun W hW => implListOk_any (SRow.below ndStable h hW) hs)
  obtain ⟨ao, n, cap, rfl, hl, hr⟩ := h
  have hcap := hcp _ _ _ rfl
  obtain ⟨hcap1, hcap2⟩ := hcap
  have hnm : n ≤ 1048576 := by rw [← hl]; exact hs
  have HL := hideP hl
  obtain ⟨b, off, hbo⟩ : ∃ b off, 0 < n → ao = some ⟨b, off, none⟩ ∧ b < w.heap.size ∧ ∀ j u, (flatN xs)[j]? = some u → w.cell? ⟨b, off + j, none⟩ = some u := by
    by_cases hn0 : 0 < n
    · obtain ⟨b, off, e, _, hb, hc⟩ := hr hn0
      exact ⟨b, off, fun _ => ⟨e, hb, row_cells (fun i hi => hc i (by rw [← hl]; exact hi))⟩⟩
    · exact ⟨0, 0, fun h => absurd h hn0⟩
  have HBO := hideP hbo
  obtain ⟨ob, hob⟩ : ∃ ob, ob = listB xs := ⟨_, rfl⟩
  rw [← hob] at LC
  have HOB := hideP hob
  clear hob hr hl hcp hbo
  refine callsIn_of_wp_marks Try.func14 rfl trivial ?_ rfl
  simp only [Try.ntmps14, List.size_toArray, List.length_cons, List.length_nil, Nat.reduceAdd, Nat.reduceSub, Array.replicate_succ, Array.replicate_zero, List.push_toArray, List.append_toArray, List.nil_append, List.cons_append]
  gi_wp2_with fail
  have hBa : Below w.heap.size w (((w.alloc (.cells #[.slice ao n cap] 25)).alloc (.cells #[] 25)).alloc (.cells #[.slice (some ⟨w.heap.size + 1, 0, none⟩) 0 0] 29)) := below3 _ _ _ _
  refine ⟨trivial, CallsIn.mono (callsIn_wide.2 (LC.out _ hBa)) ?_⟩
  rintro e w1 ⟨rfl, hb1⟩
  have q0 : Boxed w1 w.heap.size 25 (.slice ao n cap) := (hb1.block _ (by simp; omega)).trans (((Boxed.new w 25 (.slice ao n cap)).alloc _).alloc _)
  have q2 : Boxed w1 (w.heap.size + 1 + 1) 29 (.slice (some ⟨w.heap.size + 1, 0, none⟩) 0 0) := (hb1.block _ (by simp)).trans (by
    have h := Boxed.new ((w.alloc (.cells #[.slice ao n cap] 25)).alloc (.cells #[] 25)) 29 (.slice (some ⟨w.heap.size + 1, 0, none⟩) 0 0)
    rw [World.size_alloc, World.size_alloc] at h
    exact h)
  have q1 : w1.heap[w.heap.size + 1]? = some (.cells #[] 25) := (hb1.block _ (by simp)).trans (by
    have h := World.alloc_heap_new (w.alloc (.cells #[.slice ao n cap] 25)) (.cells #[] 25)
    rw [World.size_alloc] at h
    exact ((below1 _ _).block _ (by simp)).trans h)
  have B1 : Hid (Below w.heap.size w w1) := hideP (below_more hBa hb1 (by simp; omega))
  have HO1 : Hid (w1.ownsRow w.heap.size 25 1 (.slice (some ⟨w.heap.size + 1, 0, none⟩) 0 0) 0 []) := hideP ⟨rfl, .inr ⟨_, _, _, rfl, by omega, q1, by omega, by unfold maxLen; omega, rfl, rfl⟩⟩
  have HQ0 := hideP q0
  have HQ2 := hideP q2
  have hc0 := q0.cell
  have hc2 := q2.cell
  clear hb1 q0 q1 q2 hBa
  cases ob with
  | false =>
    have HE : Hid (itemsOf xs = []) := hideP (by unfold itemsOf; rw [if_neg (by rw [← HOB.out]; simp)])
    gi_wp2
    refine ⟨_, results_tmp rfl _ _ _, ⟨_, [], rfl, ?_, ?_⟩, B1.out⟩
    · rw [HE.out]
      exact HO1.out
    · exact ⟨fun i u hu => by simp at hu, fun i j u t _ hu => by simp at hu⟩
  | true =>
    have AOK : Hid (AllOk xs) := hideP (allOk HOB.out.symm)
    gi_wp2_with fail
    refine ⟨trivial, CallsIn.mono (callsIn_wide.2 (eachItem_any ao n cap _)) ?_⟩
    rintro e w2 ⟨rfl, rfl⟩
    gi_wp2_with fail
    have bS : (w1.alloc (.cells #[.slice ao n cap] 25)).cell? ⟨w1.heap.size, 0, none⟩ = some (.slice ao n cap) := by simp [go_sem]
    have hB0 : Below w.heap.size w (w1.alloc (.cells #[.slice ao n cap] 25)) := B1.out.alloc B1.out.size _
    have hOW := HO1.out.alloc (.cells #[.slice ao n cap] 25)
    have hI0 := HQ0.out.alloc (.cells #[.slice ao n cap] 25)
    have hI2 := HQ2.out.alloc (.cells #[.slice ao n cap] 25)
    have hws : w.heap.size + 1 + 1 < w1.heap.size := HQ2.out.lt
    obtain ⟨Bs, hBs⟩ : ∃ B, B = w1.heap.size := ⟨_, rfl⟩
    obtain ⟨W0, hW0⟩ : ∃ W0, w1.alloc (.cells #[.slice ao n cap] 25) = W0 := ⟨_, rfl⟩
    have hsz : W0.heap.size = Bs + 1 := by rw [← hW0, hBs]; simp
    rw [hW0] at hB0 hOW hI0 hI2 bS ⊢
    rw [← hBs] at bS hws ⊢
    clear hW0 HQ0 HQ2 hc0 hc2
    have HSR : Hid (Src xs ao Bs b off cap W0) := hideP (by
      refine ⟨by rw [HL.out]; exact bS, fun h => (HBO.out (by rw [← HL.out]; exact h)).1, fun i hi => ⟨xs.getD i Nd.none, ⟨rfl, rfl⟩, fun j hj => ?_⟩⟩
      obtain ⟨_, hbw, hcell⟩ := HBO.out (by rw [← HL.out]; omega)
      have h1 := flatN_get xs i hi j hj
      rw [List.getElem?_eq_getElem (show j < (xs.getD i Nd.none).cells.length from hj)] at h1 ⊢
      have h2 := hcell _ _ h1
      rw [show off + i * 15 + j = off + (i * 15 + j) by omega]
      exact (hB0.cell (p := ⟨b, off + (i * 15 + j), none⟩) hbw).trans h2)
    have hys2 : xs.length ≤ 20000 ∧ ∀ i, i < xs.length → 0 ≤ (xs.getD i Nd.none).kids ∧ (xs.getD i Nd.none).kids ≤ 20000 := ⟨AOK.out.len, AOK.out.weak⟩
    refine wpIn_rangeFunc_ownF (F := Fence.wide) (n := 5) rfl (by omega) (gf := 55) (lb := #[.pointer (some ⟨Bs, 0, none⟩)]) rfl trivial (enters_of Try.func55 (by kernel_rfl) rfl)
      (each_stops 4 (by omega) xs ao Bs b off cap hys2.1 hys2.2 W0 HSR.out) (fun h1 h2 h => h2 (h1 h)) ?keepb (Below.refl _ _) (fun _ => rfl)
      (fun pre W => (Boxed W w.heap.size 25 (.slice ao n cap) ∧ ∃ u vs, Boxed W (w.heap.size + 1 + 1) 29 u ∧ W.ownsRow w.heap.size 25 1 u pre.length vs ∧ Lsts w.heap.size W vs (fun i => itemAt xs ((pre.map (·.1.1)).getD i 0)) ∧ (∀ g, u.ownBlock = some g → g ≠ w.heap.size ∧ g ≠ Bs) ∧ Bs < W.heap.size) ∧ Below w.heap.size w W)
      (fun _ _ _ => False) ?ownI (fun _ _ _ _ _ hs _ _ => hs) ?start ?a1z ?assign ?body ?done ?stop
    case assign =>
      intro l x W K hK
      simp only [Item.encs]
      gi_wp2
      exact hK
    case start =>
      refine ⟨⟨hI0, _, [], hI2, hOW, ⟨fun i u hu => by simp at hu, fun i j u t _ hu => by simp at hu⟩, ?_, by omega⟩, hB0⟩
      intro g hg
      simp [Value.ownBlock] at hg
      omega
    case keepb =>
      intro W l o o' hl hlo hoc _ hsrc
      exact hsrc.kept (grownBy_putObj' W l o') (fun r e => by cases e; exact ⟨o, hlo, hoc⟩)
    case ownI =>
      refine OwnFrom.and (Own.from ?_ _) (ownFrom_below (Nat.le_refl _) (by omega))
      rintro s A B row ⟨h1, u, vs, h2, h3, h4, h5, h6⟩ hg hr
      exact ⟨boxed_kept h1 hg hr, u, vs, boxed_kept h2 hg hr, own25_kept h3 hg hr, h4.kept hg hr, h5, Nat.lt_of_lt_of_le h6 hg.size⟩
    case stop =>
      rintro D c pre W _ _ h _
      exact h.elim
    case done =>
      rintro D its W hD hst ⟨⟨h1, u, vs, h2, h3, h4, h5, _⟩, hB⟩ hK
      have hc2 := h2.cell
      have HF : Hid (its.length = (itemsOf xs).length ∧ (fun i => itemAt xs ((its.map (·.1.1)).getD i 0)) = fun i => itemAt xs ((starts xs (xs.length + 1) 0).getD i 0)) := hideP ⟨by unfold itemsOf; rw [if_pos HOB.out.symm, List.length_map, ← hst, List.length_map], by rw [hst]⟩
      have H3 := hideP h3
      have H4 := hideP h4
      have HBB := hideP hB
      clear h3 h4 hB
      gi_wp2
      refine ⟨by simp, .inl ⟨_, _, rfl, run_takeDeferred hK, ?_⟩⟩
      refine ⟨_, results_tmp rfl _ _ _, ⟨u, vs, rfl, ?_, ?_⟩, HBB.out.trans (belowK_b (w := w) (Nat.le_refl _) W D _ _ (by omega) hK rfl rfl)⟩
      · rw [← HF.out.1]
        exact ownsRow_putObj H3.out (.deferred none) hK rfl
      · refine ⟨fun i x hx => ?_, H4.out.apart⟩
        have h6 := ownsRow_putObj (H4.out.own i x hx) (.deferred none) hK rfl
        have hlen : vs.length = (itemsOf xs).length := by rw [← HF.out.1]; exact own25_len H3.out
        have hi : i < (itemsOf xs).length := by rw [← hlen]; exact (List.getElem?_eq_some_iff.1 hx).1
        rw [congrFun HF.out.2 i] at h6
        have e1 : (itemsOf xs).getD i [] = itemAt xs ((starts xs (xs.length + 1) 0).getD i 0) := by
          unfold itemsOf at hi ⊢
          rw [if_pos HOB.out.symm] at hi ⊢
          rw [List.length_map] at hi
          simp [List.getD, List.getElem?_map, List.getElem?_eq_getElem hi]
        show World.ownsRow _ _ _ _ _ _ _
        rw [e1]
        exact h6
    case body =>
      rintro l pre x W ⟨⟨hbx, u, vs, hbu, how, hls, hne, hbsW⟩, hB⟩ hpl
      have hat := x.2.1
      obtain ⟨at_, ha⟩ : ∃ a, x.1.1 = a := ⟨_, rfl⟩
      obtain ⟨vt, hv⟩ : ∃ v, x.1.2 = v := ⟨_, rfl⟩
      rw [ha] at hat
      rw [ha, hv]
      have HA : Hid ((pre ++ [x]).map (·.1.1) = pre.map (·.1.1) ++ [at_]) := hideP (by rw [List.map_append, List.map_singleton, ha])
      clear ha hv
      have hatn : at_ < n := by rw [← HL.out]; exact hat
      obtain ⟨rfl, hbw, hcell⟩ := HBO.out (by omega)
      have hkk := AOK.out.kids at_ hat
      have hil := itemAt_len AOK.out hat
      have hn20 : n ≤ 20000 := by rw [← HL.out]; exact AOK.out.len
      rw [HL.out] at hkk
      obtain ⟨kids, hkd⟩ : ∃ z, z = (xs.getD at_ Nd.none).kids := ⟨_, rfl⟩
      rw [← hkd] at hkk hil
      obtain ⟨kn, rfl⟩ : ∃ kn : Nat, kids = (kn : Int) := ⟨kids.toNat, by omega⟩
      rw [Int.toNat_natCast] at hil
      have hsum : at_ + 1 + kn ≤ n := by omega
      have g14 : W.cell? ⟨b, off + at_ * 15 + 14, none⟩ = some (.int .i64 (kn : Int)) := by
        have h1 := flatN_at xs at_ hat 14 (by omega) (u := .int .i64 (xs.getD at_ Nd.none).kids) rfl
        rw [← hkd] at h1
        have h2 := hcell _ _ h1
        rw [show off + at_ * 15 + 14 = off + (at_ * 15 + 14) by omega]
        exact (hB.cell (p := ⟨b, off + (at_ * 15 + 14), none⟩) hbw).trans h2
      have CC : Hid (Calls Try.prog 38 #[.slice (some ⟨b, off + at_ * 15, none⟩) (1 + kn) (cap - at_)] W.drew fun e w' => ∃ v', e = .returned v' ∧ w'.ownsRow W.heap.size 60 15 v' (1 + kn) (flatN (itemAt xs at_)) ∧ Below W.heap.size W.drew w') := hideP (by
        have hnn : NN 0 W.drew (.slice (some ⟨b, off + at_ * 15, none⟩) (1 + kn) (cap - at_)) (itemAt xs at_) := by
          refine .inr ⟨b, off + at_ * 15, cap - at_, by rw [hil], by rw [hil]; omega, Nat.zero_le _, fun _ => Nat.lt_of_lt_of_le hbw hB.size, ?_⟩
          intro j z hz
          exact (hB.cell (p := ⟨b, off + at_ * 15 + j, none⟩) hbw).trans (itemAt_flat hcell j z hz)
        have h1 := copyNodes_any hnn (by rw [hil]; omega) (fun i hi => by
          have h2 : (itemAt xs at_).getD i Nd.none ∈ xs := by
            unfold itemAt at hi ⊢
            rw [List.length_take, List.length_drop] at hi
            simp only [List.getD, List.getElem?_take, List.getElem?_drop]
            rw [if_pos (by have := hi; simp only [List.getD] at this; omega), List.getElem?_eq_getElem (by omega)]
            exact List.getElem_mem _
          obtain ⟨q, hq, e⟩ := List.getElem_of_mem h2
          have h3 := AOK.out.text q hq
          rw [show xs.getD q Nd.none = (itemAt xs at_).getD i Nd.none by rw [← e]; simp [List.getD, List.getElem?_eq_getElem hq]] at h3
          omega)
        rw [hil] at h1
        exact h1)
      obtain ⟨ua, uc, rfl, _⟩ := own25_shape how
      have HRO : Hid (Round xs (some ⟨b, off, none⟩) Bs b off cap w.heap.size (w.heap.size + 1 + 1) pre.length w W (.slice (some ⟨b, off, none⟩) n cap) (.slice ua pre.length uc) vs (fun i => itemAt xs ((pre.map (·.1.1)).getD i 0))) := hideP ⟨hbx, hbu, how, hls, hne, hB, hbsW⟩
      have HIL := hideP hil
      have G14 : Hid (w.cell? ⟨b, off + at_ * 15 + 14, none⟩ = some (.int .i64 (kn : Int))) := hideP ((hB.cell (p := ⟨b, off + at_ * 15 + 14, none⟩) hbw).symm.trans g14)
      have hbxc := hbx.cell
      have hbuc := hbu.cell
      have hbuf := hbu.frozen
      have hpn : pre.length ≤ 20001 := by have := HL.out; omega
      clear hkk hil hkd hcell hbx hbu how hls hne hB
      gi_wp2_with fail
      refine region_heldR (S := fun X => X.cell? ⟨w.heap.size, 0, none⟩ = some (.slice (some ⟨b, off, none⟩) n cap) ∧ X.cell? ⟨b, off + at_ * 15 + 14, none⟩ = some (.int .i64 (kn : Int))) (by kernel_rfl) (plain_spec (by kernel_rfl)) (by rintro ⟨a, w, h⟩; exact h) ?_
      have hS : W.drew.cell? ⟨w.heap.size, 0, none⟩ = some (.slice (some ⟨b, off, none⟩) n cap) ∧ W.drew.cell? ⟨b, off + at_ * 15 + 14, none⟩ = some (.int .i64 (kn : Int)) := ⟨hbxc, g14⟩
      refine wpAnyH_take (i := 1) (v := .slice (some ⟨b, off, none⟩) n cap) rfl (by kernel_rfl) (by kernel_rfl) (by kernel_rfl) (fun _ _ _ h => h) (Or.inl ⟨by first | rfl | go_simp, fun wx hx => by obtain ⟨hx1, hx2⟩ := hx; go_simp⟩) hS ?_
      try simp only [Act.put, List.getElem_toArray, List.getElem_cons_zero, List.getElem_cons_succ, List.setIfInBounds_toArray, List.set_cons_zero, List.set_cons_succ]
      refine wpAnyH_take (i := 2) (v := .int .i64 (at_ : Int)) rfl (by kernel_rfl) (by kernel_rfl) (by kernel_rfl) (fun _ _ _ h => h) (Or.inl ⟨by first | rfl | go_simp, fun wx hx => by obtain ⟨hx1, hx2⟩ := hx; go_simp⟩) hS ?_
      try simp only [Act.put, List.getElem_toArray, List.getElem_cons_zero, List.getElem_cons_succ, List.setIfInBounds_toArray, List.set_cons_zero, List.set_cons_succ]
      refine wpAnyH_take (i := 3) (v := .int .i64 (at_ : Int)) rfl (by kernel_rfl) (by kernel_rfl) (by kernel_rfl) (fun _ _ _ h => h) (Or.inl ⟨by first | rfl | go_simp, fun wx hx => by obtain ⟨hx1, hx2⟩ := hx; go_simp⟩) hS ?_
      try simp only [Act.put, List.getElem_toArray, List.getElem_cons_zero, List.getElem_cons_succ, List.setIfInBounds_toArray, List.set_cons_zero, List.set_cons_succ]
      refine wpAnyH_take (i := 4) (v := .int .i64 ((at_ : Int) + 1)) rfl (by kernel_rfl) (by kernel_rfl) (by kernel_rfl) (fun _ _ _ h => h) (Or.inl ⟨by first | rfl | go_simp, fun wx hx => by obtain ⟨hx1, hx2⟩ := hx; go_simp; first | (go_num; done) | (go_bits; done) | (go_bits; trivial)⟩) hS ?_
      try simp only [Act.put, List.getElem_toArray, List.getElem_cons_zero, List.getElem_cons_succ, List.setIfInBounds_toArray, List.set_cons_zero, List.set_cons_succ]
      refine wpAnyH_take (i := 5) (v := .slice (some ⟨b, off, none⟩) n cap) rfl (by kernel_rfl) (by kernel_rfl) (by kernel_rfl) (fun _ _ _ h => h) (Or.inl ⟨by first | rfl | go_simp, fun wx hx => by obtain ⟨hx1, hx2⟩ := hx; go_simp⟩) hS ?_
      try simp only [Act.put, List.getElem_toArray, List.getElem_cons_zero, List.getElem_cons_succ, List.setIfInBounds_toArray, List.set_cons_zero, List.set_cons_succ]
      refine wpAnyH_take (i := 6) (v := .int .i64 (at_ : Int)) rfl (by kernel_rfl) (by kernel_rfl) (by kernel_rfl) (fun _ _ _ h => h) (Or.inl ⟨by first | rfl | go_simp, fun wx hx => by obtain ⟨hx1, hx2⟩ := hx; go_simp⟩) hS ?_
      try simp only [Act.put, List.getElem_toArray, List.getElem_cons_zero, List.getElem_cons_succ, List.setIfInBounds_toArray, List.set_cons_zero, List.set_cons_succ]
      refine wpAnyH_take (i := 7) (v := .pointer (some ⟨b, off + at_ * 15, none⟩)) rfl (by kernel_rfl) (by kernel_rfl) (by kernel_rfl) (fun _ _ _ h => h) (Or.inl ⟨by first | rfl | go_simp, fun wx hx => by obtain ⟨hx1, hx2⟩ := hx; go_simp⟩) hS ?_
      try simp only [Act.put, List.getElem_toArray, List.getElem_cons_zero, List.getElem_cons_succ, List.setIfInBounds_toArray, List.set_cons_zero, List.set_cons_succ]
      refine wpAnyH_take (i := 8) (v := .pointer (some ⟨b, off + at_ * 15 + 14, none⟩)) rfl (by kernel_rfl) (by kernel_rfl) (by kernel_rfl) (fun _ _ _ h => h) (Or.inl ⟨by first | rfl | go_simp, fun wx hx => by obtain ⟨hx1, hx2⟩ := hx; go_simp⟩) hS ?_
      try simp only [Act.put, List.getElem_toArray, List.getElem_cons_zero, List.getElem_cons_succ, List.setIfInBounds_toArray, List.set_cons_zero, List.set_cons_succ]
      refine wpAnyH_take (i := 9) (v := .int .i64 (kn : Int)) rfl (by kernel_rfl) (by kernel_rfl) (by kernel_rfl) (fun _ _ _ h => h) (Or.inl ⟨by first | rfl | go_simp, fun wx hx => by obtain ⟨hx1, hx2⟩ := hx; go_simp⟩) hS ?_
      try simp only [Act.put, List.getElem_toArray, List.getElem_cons_zero, List.getElem_cons_succ, List.setIfInBounds_toArray, List.set_cons_zero, List.set_cons_succ]
      refine wpAnyH_take (i := 10) (v := .int .i64 ((at_ : Int) + 1 + (kn : Int))) rfl (by kernel_rfl) (by kernel_rfl) (by kernel_rfl) (fun _ _ _ h => h) (Or.inl ⟨by first | rfl | go_simp, fun wx hx => by obtain ⟨hx1, hx2⟩ := hx; go_simp; first | (go_num; done) | (go_bits; done) | (go_bits; trivial)⟩) hS ?_
      try simp only [Act.put, List.getElem_toArray, List.getElem_cons_zero, List.getElem_cons_succ, List.setIfInBounds_toArray, List.set_cons_zero, List.set_cons_succ]
      refine wpAnyH_take (i := 11) (v := .slice (some ⟨b, off + at_ * 15, none⟩) (1 + kn) (cap - at_)) rfl (by kernel_rfl) (by kernel_rfl) (by kernel_rfl) (fun _ _ _ h => h) (Or.inl ⟨by first | rfl | go_simp, fun wx hx => by obtain ⟨hx1, hx2⟩ := hx; go_simp; rw [if_pos ⟨by omega, by omega⟩, if_pos (by omega), if_neg (by omega), show ((at_ : Int) + 1 + (kn : Int)).toNat - at_ = 1 + kn by omega]⟩) hS ?_
      try simp only [Act.put, List.getElem_toArray, List.getElem_cons_zero, List.getElem_cons_succ, List.setIfInBounds_toArray, List.set_cons_zero, List.set_cons_succ]
      obtain ⟨i0, hi0, hz0, hz1, hz2⟩ := info_parts Try.info25i
      have hwW : w.heap.size < W.heap.size := HRO.out.hbx.lt
      have hbW : b < W.heap.size := by omega
      refine wpAnyH_ready (rs := [0, 12]) (by kernel_rfl) (by simp) ?_
      refine AllReadyH.cons rfl (fun K hK => ?_) (AllReadyH.cons rfl (fun K hK => ?_) AllReadyH.nil)
      · rw [if_pos (by first | rfl | go_simp)]
        have hcu := hbuc
        go_simp
        refine hK.out _ _ hS (fun _ => ?_)
        try simp only [Act.put, List.getElem_toArray, List.getElem_cons_zero, List.getElem_cons_succ, List.setIfInBounds_toArray, List.set_cons_zero, List.set_cons_succ]
        clear hK K
        refine wpAnyH_ready (rs := [12]) (by kernel_rfl) (by simp) ?_
        refine AllReadyH.cons rfl (fun K hK => ?_) AllReadyH.nil
        rw [if_pos (by first | rfl | go_simp)]
        go_wp2_with fail
        refine CC.out.mono ?_
        rintro e w3 ⟨vc, rfl, hc3, hb3⟩
        have HC3 := hideP hc3
        have HB3 := hideP hb3
        have hw3 : W.heap.size ≤ w3.heap.size := hb3.size
        obtain ⟨va, vcap, rfl, _⟩ := own_shape hc3
        have S3 : w3.cell? ⟨w.heap.size, 0, none⟩ = some (.slice (some ⟨b, off, none⟩) n cap) ∧ w3.cell? ⟨b, off + at_ * 15 + 14, none⟩ = some (.int .i64 (kn : Int)) := ⟨(hb3.cell (p := ⟨w.heap.size, 0, none⟩) hwW).trans hS.1, (hb3.cell (p := ⟨b, off + at_ * 15 + 14, none⟩) hbW).trans hS.2⟩
        have U3 : Boxed w3 (w.heap.size + 1 + 1) 29 (.slice ua pre.length uc) := (hb3.block _ HRO.out.hbu.lt).trans HRO.out.hbu
        have O3 : w3.ownsRow w.heap.size 25 1 (.slice ua pre.length uc) pre.length vs := own25_below HRO.out.how ⟨hb3.os, hb3.tape, hb3.output, hb3.size, fun q hq => hb3.block q hq⟩
        have HU3 := hideP U3
        have HO3 := hideP O3
        have hcu3 := U3.cell
        clear hc3 hb3 U3 O3
        refine hK.out _ _ S3 (fun _ => ?_)
        try simp only [Act.put, List.getElem_toArray, List.getElem_cons_zero, List.getElem_cons_succ, List.setIfInBounds_toArray, List.set_cons_zero, List.set_cons_succ]
        clear hK K
        refine wpAnyH_ready (rs := [13]) (by kernel_rfl) (by simp) ?_
        refine AllReadyH.cons rfl (fun K hK => ?_) AllReadyH.nil
        rw [if_pos (by first | rfl | go_simp)]
        go_simp
        have S4 : (w3.alloc (.cells #[.slice va (1 + kn) vcap] 25)).cell? ⟨w.heap.size, 0, none⟩ = some (.slice (some ⟨b, off, none⟩) n cap) ∧ (w3.alloc (.cells #[.slice va (1 + kn) vcap] 25)).cell? ⟨b, off + at_ * 15 + 14, none⟩ = some (.int .i64 (kn : Int)) := ⟨((below1 w3 _).cell (p := ⟨w.heap.size, 0, none⟩) (by have := hwW; simp; omega)).trans S3.1, ((below1 w3 _).cell (p := ⟨b, off + at_ * 15 + 14, none⟩) (by have := hbW; simp; omega)).trans S3.2⟩
        have hcu4 := (HU3.out.alloc (.cells #[.slice va (1 + kn) vcap] 25)).cell
        refine hK.out _ _ S4 (fun _ => ?_)
        try simp only [Act.put, List.getElem_toArray, List.getElem_cons_zero, List.getElem_cons_succ, List.setIfInBounds_toArray, List.set_cons_zero, List.set_cons_succ]
        clear hK K
        refine wpAnyH_ready (rs := [14]) (by kernel_rfl) (by simp) ?_
        refine AllReadyH.cons rfl (fun K hK => ?_) AllReadyH.nil
        rw [if_pos (by first | rfl | go_simp)]
        refine wp_append_at _ _ 29 rfl w.heap.size 25 i0 (.slice none 0 0) 1 24 Try.underlying29 hi0 hz0 hz1 hz2 rfl (by decide) (.slice ua pre.length uc) pre.length vs rfl (HO3.out.alloc _) ⟨w3.heap.size, 0, none⟩ 1 1 [.slice va (1 + kn) vcap] rfl rfl (cell_one_new _ _ _) (by simp [Value.oneCell']) (by unfold maxLen; omega) (by omega) (by have := hwW; simp; omega) ?_
        intro v5 w5 ho5 hg5 hnil5 hat5
        obtain ⟨g5, c5, rfl⟩ := ownsRow_succ ho5
        obtain ⟨d1, d2, d3⟩ := item_done HRO.out (by omega) hws (fun _ => hbw) (by omega) HC3.out HIL.out HB3.out ho5 hg5 hat5 (f' := fun i => itemAt xs (((pre ++ [x]).map (·.1.1)).getD i 0)) (fun i hi => by rw [HA.out]; simp [List.getD, List.getElem?_append_left, hi]) (by rw [HA.out]; simp [List.getD])
        have hU5 : Boxed w5 (w.heap.size + 1 + 1) 29 (.slice ua pre.length uc) := (Boxed.appended HU3.out (by decide) HO3.out (by omega) (by omega) ho5 hg5).1
        have hcu5 := hU5.cell
        have hfu5 := hU5.frozen
        have D1 := hideP d1
        have D2 := hideP d2
        have D3 := hideP d3
        have S5 : w5.cell? ⟨w.heap.size, 0, none⟩ = some (.slice (some ⟨b, off, none⟩) n cap) ∧ w5.cell? ⟨b, off + at_ * 15 + 14, none⟩ = some (.int .i64 (kn : Int)) := by
          have e1 : ∀ p : Addr, p.block ≠ w.heap.size + 1 + 1 → (w5.setCell ⟨w.heap.size + 1 + 1, 0, none⟩ (.slice (some ⟨g5, 0, none⟩) (pre.length + 1) c5)).cell? p = w5.cell? p := fun p hp => World.cell?_setCell_far _ _ _ _ (Ne.symm hp)
          refine ⟨?_, ?_⟩
          · rw [← e1 _ (by simp; omega)]
            exact d3.hbx.cell
          · rw [← e1 _ (by simp; omega)]
            exact (d3.hB.cell (p := ⟨b, off + at_ * 15 + 14, none⟩) hbw).trans G14.out
        have S6 : (w5.setCell ⟨w.heap.size + 1 + 1, 0, none⟩ (.slice (some ⟨g5, 0, none⟩) (pre.length + 1) c5)).cell? ⟨w.heap.size, 0, none⟩ = some (.slice (some ⟨b, off, none⟩) n cap) ∧ (w5.setCell ⟨w.heap.size + 1 + 1, 0, none⟩ (.slice (some ⟨g5, 0, none⟩) (pre.length + 1) c5)).cell? ⟨b, off + at_ * 15 + 14, none⟩ = some (.int .i64 (kn : Int)) := ⟨d3.hbx.cell, (d3.hB.cell (p := ⟨b, off + at_ * 15 + 14, none⟩) hbw).trans G14.out⟩
        clear d1 d2 d3 hU5 ho5 hg5 hat5 hnil5
        refine hK.out _ _ S5 (fun _ => ?_)
        try simp only [Act.put, List.getElem_toArray, List.getElem_cons_zero, List.getElem_cons_succ, List.setIfInBounds_toArray, List.set_cons_zero, List.set_cons_succ]
        clear hK K
        refine wpAnyH_ready (rs := [15]) (by kernel_rfl) (by simp) ?_
        refine AllReadyH.cons rfl (fun K hK => ?_) AllReadyH.nil
        rw [if_pos (by first | rfl | go_simp)]
        go_simp
        refine hK.out _ _ S6 (fun _ => ?_)
        try simp only [Act.put, List.getElem_toArray, List.getElem_cons_zero, List.getElem_cons_succ, List.setIfInBounds_toArray, List.set_cons_zero, List.set_cons_succ]
        clear hK K
        refine wpAnyH_done (by kernel_rfl) ?_ _
        gi_wp2
        refine ⟨D1.out, D2.out, ⟨D3.out.hbx, _, _, D3.out.hbu, ?_, D3.out.hls, D3.out.hne, D3.out.hbs⟩, D3.out.hB⟩
        rw [List.length_append, List.length_singleton]
        exact D3.out.how
      · rw [if_pos (by first | rfl | go_simp)]
        go_wp2_with fail
        refine CC.out.mono ?_
        rintro e w3 ⟨vc, rfl, hc3, hb3⟩
        have HC3 := hideP hc3
        have HB3 := hideP hb3
        have hw3 : W.heap.size ≤ w3.heap.size := hb3.size
        obtain ⟨va, vcap, rfl, _⟩ := own_shape hc3
        have S3 : w3.cell? ⟨w.heap.size, 0, none⟩ = some (.slice (some ⟨b, off, none⟩) n cap) ∧ w3.cell? ⟨b, off + at_ * 15 + 14, none⟩ = some (.int .i64 (kn : Int)) := ⟨(hb3.cell (p := ⟨w.heap.size, 0, none⟩) hwW).trans hS.1, (hb3.cell (p := ⟨b, off + at_ * 15 + 14, none⟩) hbW).trans hS.2⟩
        have U3 : Boxed w3 (w.heap.size + 1 + 1) 29 (.slice ua pre.length uc) := (hb3.block _ HRO.out.hbu.lt).trans HRO.out.hbu
        have O3 : w3.ownsRow w.heap.size 25 1 (.slice ua pre.length uc) pre.length vs := own25_below HRO.out.how ⟨hb3.os, hb3.tape, hb3.output, hb3.size, fun q hq => hb3.block q hq⟩
        have HU3 := hideP U3
        have HO3 := hideP O3
        have hcu3 := U3.cell
        clear hc3 hb3 U3 O3
        refine hK.out _ _ S3 (fun _ => ?_)
        try simp only [Act.put, List.getElem_toArray, List.getElem_cons_zero, List.getElem_cons_succ, List.setIfInBounds_toArray, List.set_cons_zero, List.set_cons_succ]
        clear hK K
        refine wpAnyH_ready (rs := [0, 13]) (by kernel_rfl) (by simp) ?_
        refine AllReadyH.cons rfl (fun K hK => ?_) (AllReadyH.cons rfl (fun K hK => ?_) AllReadyH.nil)
        · rw [if_pos (by first | rfl | go_simp)]
          have hcu := hcu3
          go_simp
          refine hK.out _ _ S3 (fun _ => ?_)
          try simp only [Act.put, List.getElem_toArray, List.getElem_cons_zero, List.getElem_cons_succ, List.setIfInBounds_toArray, List.set_cons_zero, List.set_cons_succ]
          clear hK K
          refine wpAnyH_ready (rs := [13]) (by kernel_rfl) (by simp) ?_
          refine AllReadyH.cons rfl (fun K hK => ?_) AllReadyH.nil
          rw [if_pos (by first | rfl | go_simp)]
          go_simp
          have S4 : (w3.alloc (.cells #[.slice va (1 + kn) vcap] 25)).cell? ⟨w.heap.size, 0, none⟩ = some (.slice (some ⟨b, off, none⟩) n cap) ∧ (w3.alloc (.cells #[.slice va (1 + kn) vcap] 25)).cell? ⟨b, off + at_ * 15 + 14, none⟩ = some (.int .i64 (kn : Int)) := ⟨((below1 w3 _).cell (p := ⟨w.heap.size, 0, none⟩) (by have := hwW; simp; omega)).trans S3.1, ((below1 w3 _).cell (p := ⟨b, off + at_ * 15 + 14, none⟩) (by have := hbW; simp; omega)).trans S3.2⟩
          have hcu4 := (HU3.out.alloc (.cells #[.slice va (1 + kn) vcap] 25)).cell
          refine hK.out _ _ S4 (fun _ => ?_)
          try simp only [Act.put, List.getElem_toArray, List.getElem_cons_zero, List.getElem_cons_succ, List.setIfInBounds_toArray, List.set_cons_zero, List.set_cons_succ]
          clear hK K
          refine wpAnyH_ready (rs := [14]) (by kernel_rfl) (by simp) ?_
          refine AllReadyH.cons rfl (fun K hK => ?_) AllReadyH.nil
          rw [if_pos (by first | rfl | go_simp)]
          refine wp_append_at _ _ 29 rfl w.heap.size 25 i0 (.slice none 0 0) 1 24 Try.underlying29 hi0 hz0 hz1 hz2 rfl (by decide) (.slice ua pre.length uc) pre.length vs rfl (HO3.out.alloc _) ⟨w3.heap.size, 0, none⟩ 1 1 [.slice va (1 + kn) vcap] rfl rfl (cell_one_new _ _ _) (by simp [Value.oneCell']) (by unfold maxLen; omega) (by omega) (by have := hwW; simp; omega) ?_
          intro v5 w5 ho5 hg5 hnil5 hat5
          obtain ⟨g5, c5, rfl⟩ := ownsRow_succ ho5
          obtain ⟨d1, d2, d3⟩ := item_done HRO.out (by omega) hws (fun _ => hbw) (by omega) HC3.out HIL.out HB3.out ho5 hg5 hat5 (f' := fun i => itemAt xs (((pre ++ [x]).map (·.1.1)).getD i 0)) (fun i hi => by rw [HA.out]; simp [List.getD, List.getElem?_append_left, hi]) (by rw [HA.out]; simp [List.getD])
          have hU5 : Boxed w5 (w.heap.size + 1 + 1) 29 (.slice ua pre.length uc) := (Boxed.appended HU3.out (by decide) HO3.out (by omega) (by omega) ho5 hg5).1
          have hcu5 := hU5.cell
          have hfu5 := hU5.frozen
          have D1 := hideP d1
          have D2 := hideP d2
          have D3 := hideP d3
          have S5 : w5.cell? ⟨w.heap.size, 0, none⟩ = some (.slice (some ⟨b, off, none⟩) n cap) ∧ w5.cell? ⟨b, off + at_ * 15 + 14, none⟩ = some (.int .i64 (kn : Int)) := by
            have e1 : ∀ p : Addr, p.block ≠ w.heap.size + 1 + 1 → (w5.setCell ⟨w.heap.size + 1 + 1, 0, none⟩ (.slice (some ⟨g5, 0, none⟩) (pre.length + 1) c5)).cell? p = w5.cell? p := fun p hp => World.cell?_setCell_far _ _ _ _ (Ne.symm hp)
            refine ⟨?_, ?_⟩
            · rw [← e1 _ (by simp; omega)]
              exact d3.hbx.cell
            · rw [← e1 _ (by simp; omega)]
              exact (d3.hB.cell (p := ⟨b, off + at_ * 15 + 14, none⟩) hbw).trans G14.out
          have S6 : (w5.setCell ⟨w.heap.size + 1 + 1, 0, none⟩ (.slice (some ⟨g5, 0, none⟩) (pre.length + 1) c5)).cell? ⟨w.heap.size, 0, none⟩ = some (.slice (some ⟨b, off, none⟩) n cap) ∧ (w5.setCell ⟨w.heap.size + 1 + 1, 0, none⟩ (.slice (some ⟨g5, 0, none⟩) (pre.length + 1) c5)).cell? ⟨b, off + at_ * 15 + 14, none⟩ = some (.int .i64 (kn : Int)) := ⟨d3.hbx.cell, (d3.hB.cell (p := ⟨b, off + at_ * 15 + 14, none⟩) hbw).trans G14.out⟩
          clear d1 d2 d3 hU5 ho5 hg5 hat5 hnil5
          refine hK.out _ _ S5 (fun _ => ?_)
          try simp only [Act.put, List.getElem_toArray, List.getElem_cons_zero, List.getElem_cons_succ, List.setIfInBounds_toArray, List.set_cons_zero, List.set_cons_succ]
          clear hK K
          refine wpAnyH_ready (rs := [15]) (by kernel_rfl) (by simp) ?_
          refine AllReadyH.cons rfl (fun K hK => ?_) AllReadyH.nil
          rw [if_pos (by first | rfl | go_simp)]
          go_simp
          refine hK.out _ _ S6 (fun _ => ?_)
          try simp only [Act.put, List.getElem_toArray, List.getElem_cons_zero, List.getElem_cons_succ, List.setIfInBounds_toArray, List.set_cons_zero, List.set_cons_succ]
          clear hK K
          refine wpAnyH_done (by kernel_rfl) ?_ _
          gi_wp2
          refine ⟨D1.out, D2.out, ⟨D3.out.hbx, _, _, D3.out.hbu, ?_, D3.out.hls, D3.out.hne, D3.out.hbs⟩, D3.out.hB⟩
          rw [List.length_append, List.length_singleton]
          exact D3.out.how
        · rw [if_pos (by first | rfl | go_simp)]
          go_simp
          have S4 : (w3.alloc (.cells #[.slice va (1 + kn) vcap] 25)).cell? ⟨w.heap.size, 0, none⟩ = some (.slice (some ⟨b, off, none⟩) n cap) ∧ (w3.alloc (.cells #[.slice va (1 + kn) vcap] 25)).cell? ⟨b, off + at_ * 15 + 14, none⟩ = some (.int .i64 (kn : Int)) := ⟨((below1 w3 _).cell (p := ⟨w.heap.size, 0, none⟩) (by have := hwW; simp; omega)).trans S3.1, ((below1 w3 _).cell (p := ⟨b, off + at_ * 15 + 14, none⟩) (by have := hbW; simp; omega)).trans S3.2⟩
          have hcu4 := (HU3.out.alloc (.cells #[.slice va (1 + kn) vcap] 25)).cell
          refine hK.out _ _ S4 (fun _ => ?_)
          try simp only [Act.put, List.getElem_toArray, List.getElem_cons_zero, List.getElem_cons_succ, List.setIfInBounds_toArray, List.set_cons_zero, List.set_cons_succ]
          clear hK K
          refine wpAnyH_ready (rs := [0]) (by kernel_rfl) (by simp) ?_
          refine AllReadyH.cons rfl (fun K hK => ?_) AllReadyH.nil
          rw [if_pos (by first | rfl | go_simp)]
          have hcu := hcu4
          go_simp
          refine hK.out _ _ S4 (fun _ => ?_)
          try simp only [Act.put, List.getElem_toArray, List.getElem_cons_zero, List.getElem_cons_succ, List.setIfInBounds_toArray, List.set_cons_zero, List.set_cons_succ]
          clear hK K
          refine wpAnyH_ready (rs := [14]) (by kernel_rfl) (by simp) ?_
          refine AllReadyH.cons rfl (fun K hK => ?_) AllReadyH.nil
          rw [if_pos (by first | rfl | go_simp)]
          refine wp_append_at _ _ 29 rfl w.heap.size 25 i0 (.slice none 0 0) 1 24 Try.underlying29 hi0 hz0 hz1 hz2 rfl (by decide) (.slice ua pre.length uc) pre.length vs rfl (HO3.out.alloc _) ⟨w3.heap.size, 0, none⟩ 1 1 [.slice va (1 + kn) vcap] rfl rfl (cell_one_new _ _ _) (by simp [Value.oneCell']) (by unfold maxLen; omega) (by omega) (by have := hwW; simp; omega) ?_
          intro v5 w5 ho5 hg5 hnil5 hat5
          obtain ⟨g5, c5, rfl⟩ := ownsRow_succ ho5
          obtain ⟨d1, d2, d3⟩ := item_done HRO.out (by omega) hws (fun _ => hbw) (by omega) HC3.out HIL.out HB3.out ho5 hg5 hat5 (f' := fun i => itemAt xs (((pre ++ [x]).map (·.1.1)).getD i 0)) (fun i hi => by rw [HA.out]; simp [List.getD, List.getElem?_append_left, hi]) (by rw [HA.out]; simp [List.getD])
          have hU5 : Boxed w5 (w.heap.size + 1 + 1) 29 (.slice ua pre.length uc) := (Boxed.appended HU3.out (by decide) HO3.out (by omega) (by omega) ho5 hg5).1
          have hcu5 := hU5.cell
          have hfu5 := hU5.frozen
          have D1 := hideP d1
          have D2 := hideP d2
          have D3 := hideP d3
          have S5 : w5.cell? ⟨w.heap.size, 0, none⟩ = some (.slice (some ⟨b, off, none⟩) n cap) ∧ w5.cell? ⟨b, off + at_ * 15 + 14, none⟩ = some (.int .i64 (kn : Int)) := by
            have e1 : ∀ p : Addr, p.block ≠ w.heap.size + 1 + 1 → (w5.setCell ⟨w.heap.size + 1 + 1, 0, none⟩ (.slice (some ⟨g5, 0, none⟩) (pre.length + 1) c5)).cell? p = w5.cell? p := fun p hp => World.cell?_setCell_far _ _ _ _ (Ne.symm hp)
            refine ⟨?_, ?_⟩
            · rw [← e1 _ (by simp; omega)]
              exact d3.hbx.cell
            · rw [← e1 _ (by simp; omega)]
              exact (d3.hB.cell (p := ⟨b, off + at_ * 15 + 14, none⟩) hbw).trans G14.out
          have S6 : (w5.setCell ⟨w.heap.size + 1 + 1, 0, none⟩ (.slice (some ⟨g5, 0, none⟩) (pre.length + 1) c5)).cell? ⟨w.heap.size, 0, none⟩ = some (.slice (some ⟨b, off, none⟩) n cap) ∧ (w5.setCell ⟨w.heap.size + 1 + 1, 0, none⟩ (.slice (some ⟨g5, 0, none⟩) (pre.length + 1) c5)).cell? ⟨b, off + at_ * 15 + 14, none⟩ = some (.int .i64 (kn : Int)) := ⟨d3.hbx.cell, (d3.hB.cell (p := ⟨b, off + at_ * 15 + 14, none⟩) hbw).trans G14.out⟩
          clear d1 d2 d3 hU5 ho5 hg5 hat5 hnil5
          refine hK.out _ _ S5 (fun _ => ?_)
          try simp only [Act.put, List.getElem_toArray, List.getElem_cons_zero, List.getElem_cons_succ, List.setIfInBounds_toArray, List.set_cons_zero, List.set_cons_succ]
          clear hK K
          refine wpAnyH_ready (rs := [15]) (by kernel_rfl) (by simp) ?_
          refine AllReadyH.cons rfl (fun K hK => ?_) AllReadyH.nil
          rw [if_pos (by first | rfl | go_simp)]
          go_simp
          refine hK.out _ _ S6 (fun _ => ?_)
          try simp only [Act.put, List.getElem_toArray, List.getElem_cons_zero, List.getElem_cons_succ, List.setIfInBounds_toArray, List.set_cons_zero, List.set_cons_succ]
          clear hK K
          refine wpAnyH_done (by kernel_rfl) ?_ _
          gi_wp2
          refine ⟨D1.out, D2.out, ⟨D3.out.hbx, _, _, D3.out.hbu, ?_, D3.out.hls, D3.out.hne, D3.out.hbs⟩, D3.out.hB⟩
          rw [List.length_append, List.length_singleton]
          exact D3.out.how
end Go.Proofs.Ytjagagbelpihbaa
