/-
  The specification's pieces of a word.
-/
import Derived.Test.YtggcfgbpameppaaSpf
import Derived.Test.YtggcfgbpameppaaWsi
namespace Go.Proofs.Ytggcfgbpameppaa
open Go.RowKit Go.Maps
set_option linter.unusedVariables false
set_option linter.unusedSimpArgs false

/-- Pieces in their cells. -/
def f2 (ts : List (Int × Int)) : List Value := ts.flatMap (fun t => [.int .i64 t.1, .int .i64 t.2])
theorem f2_snoc (ts : List (Int × Int)) (a b : Int) : f2 (ts ++ [(a, b)]) = f2 ts ++ [.int .i64 a, .int .i64 b] := by simp [f2]
theorem Try.info81 : (Try.prog.info? 81).map (fun i => (i.zero, i.size, i.bytes)) = some (some (.agg #[.int .i64 0, .int .i64 0]), 2, 16) := by kernel_rfl
theorem new2 (w : World) (a b : Value) (t : TypeId) : ∀ j u, [a, b][j]? = some u → (w.alloc (.cells #[a, b] t)).cell? ((⟨w.heap.size, 0, none⟩ : Addr).add j) = some u := by
  intro j u hj
  match j, hj with
  | 0, hj => simp at hj; subst hj; simp [Addr.add, go_sem]
  | 1, hj => simp at hj; subst hj; simp [Addr.add, go_sem]
theorem one2 (a b : Int) : ∀ u ∈ [Value.int .i64 a, .int .i64 b], u.oneCell' = true := by
  intro u hu
  simp at hu
  rcases hu with rfl | rfl <;> rfl

/-- What is left to be set, with a glyph that is being set (or none, below 0). -/
def tl (gs ps : List Q4) (now : Int) (bs : List Int) : List (Int × Int) := if now < 0 then spL gs ps bs else jp ps now (bs.filter (hasB gs))
theorem tl_skip {gs ps : List Q4} {now x : Int} {bs : List Int} (h : hasB gs x = false) : tl gs ps now (x :: bs) = tl gs ps now bs := by
  unfold tl spL
  rw [List.filter_cons, h]
  simp
theorem tl_first {gs ps : List Q4} {now x : Int} {bs : List Int} (h : hasB gs x = true) (hn : now < 0) (hx : 0 ≤ x) : tl gs ps now (x :: bs) = tl gs ps x bs := by
  unfold tl spL
  rw [if_pos hn, if_neg (by omega), List.filter_cons, h]
  rfl
theorem tl_next {gs ps : List Q4} {now x : Int} {bs : List Int} (h : hasB gs x = true) (hn : 0 ≤ now) (hx : 0 ≤ x) : tl gs ps now (x :: bs) = if 0 ≤ (prO ps now x).c then tl gs ps (prO ps now x).c bs else (now, 0) :: ((if (prO ps now x).d = 0 then [] else [(-1, (prO ps now x).d)]) ++ tl gs ps x bs) := by
  unfold tl
  rw [if_neg (by omega), List.filter_cons, h]
  simp only [if_true, jp]
  by_cases hc : 0 ≤ (prO ps now x).c
  · rw [if_pos hc, if_pos hc, if_neg (by omega)]
  · have hx2 : ¬ x < 0 := by omega
    rw [if_neg hc, if_neg hc]
    simp only [hx2, if_false]
theorem tl_end {gs ps : List Q4} {now : Int} : tl gs ps now [] = if now < 0 then [] else [(now, 0)] := rfl

/-- What stands while pieces are put together. -/
structure LInv (w wr : World) (cs : Array Value) (u : Value) (acc : List (Int × Int)) : Prop where
  own : wr.ownsRow (w.heap.size + 1) 81 2 u acc.length (f2 acc)
  box : BoxF wr w.heap.size cs
  bel : Below w.heap.size w wr
theorem LInv.own' {w wr : World} {cs : Array Value} {u : Value} {acc : List (Int × Int)} {m : Nat} (h : LInv w wr cs u acc) (hm : m = acc.length) : wr.ownsRow (w.heap.size + 1) 81 2 u m (f2 acc) := by rw [hm]; exact h.own
theorem LInv.below {w wr w' : World} {cs : Array Value} {u : Value} {acc : List (Int × Int)} (h : LInv w wr cs u acc) (hb : Below wr.heap.size wr w') : LInv w w' cs u acc :=
  ⟨own_below h.own hb, h.box.below hb, below_more h.bel hb h.bel.size⟩
theorem LInv.put {w wr w' : World} {cs : Array Value} {u u' : Value} {acc : List (Int × Int)} {a b : Int} {o : Obj} (h : LInv w wr cs u acc) (ho : w'.ownsRow (w.heap.size + 1) 81 2 u' (acc.length + 1) (f2 acc ++ [.int .i64 a, .int .i64 b])) (hg : (wr.alloc o).grownBy w' u.ownBlock) : LInv w w' cs u' (acc ++ [(a, b)]) := by
  have hz := h.box.lt
  refine ⟨by rw [f2_snoc, List.length_append]; exact ho, ?_, Below.grown (h.bel.alloc h.bel.size o) hg (by simp; have := h.bel.size; omega) (fun j hj => by have := (h.own.lt j hj).1; omega)⟩
  have e : w'.heap[w.heap.size]? = (wr.alloc o).heap[w.heap.size]? := hg.block _ (by simp; omega) (fun e => by have := (h.own.lt _ e.symm).1; omega)
  exact e.trans (((below1 wr o).block _ hz).trans h.box)

set_option maxRecDepth 20000 in
set_option maxHeartbeats 8000000 in
theorem specSet_any {f : Fo} {vg vp vb : Value} {gs ps : List Q4} {bs : List Int} {w : World} (h : TwoQ w vg vp gs ps) (hb : BRow 0 w vb bs) (hg : gs.length ≤ 1048576) (hp : ps.length ≤ 1048576) (hbl : bs.length ≤ 1000) (hF : fontB f gs ps = true) :
    Calls Try.prog 41 #[foV f vg vp, vb] w fun e w' => ∃ t, e = .returned t ∧ w'.ownsRow (w.heap.size + 1) 81 2 t (spL gs ps bs).length (f2 (spL gs ps bs)) ∧ Below w.heap.size w w' := by
  have HX := hideP h
  have HBR := hideP hb
  have hAG := fontB_asc hF
  have hAP : AscP ps := by
    have h1 := hF
    simp only [fontB, Bool.and_eq_true] at h1
    have hps : psB gs ps = true := by simpa using h1.1.1.1.2
    exact (of_decide_eq_true hps).2
  obtain ⟨a1, n1, c1, rfl⟩ : ∃ a n c, vg = .slice a n c := by obtain ⟨a, c, rfl⟩ := h.g.shape; exact ⟨_, _, _, rfl⟩
  obtain ⟨a2, n2, c2, rfl⟩ : ∃ a n c, vp = .slice a n c := by obtain ⟨a, c, rfl⟩ := h.p.shape; exact ⟨_, _, _, rfl⟩
  obtain ⟨ab, cb, rfl⟩ := hb.shape
  obtain ⟨n, hn⟩ : ∃ n, n = bs.length := ⟨_, rfl⟩
  rw [← hn] at HBR
  rw [← hn]
  have HN := hideP hn
  have hnl : n ≤ 1000 := by omega
  have CG : Hid (∀ x W, Below w.heap.size w W → Calls Try.prog 32 #[foV f (.slice a1 n1 c1) (.slice a2 n2 c2), .int .i64 x] W fun e w' => e = .returned (.int .i64 (gi gs x)) ∧ Below W.heap.size W w') := hideP (fun x W hW => specGlyph_any (h.below hW) hg hAG)
  have CP : Hid (∀ x y W, Below w.heap.size w W → Calls Try.prog 57 #[foV f (.slice a1 n1 c1) (.slice a2 n2 c2), .int .i64 x, .int .i64 y] W fun e w' => e = .returned (.tuple #[q4V ((look2 ps x y).getD Q4.none), .bool (look2 ps x y).isSome]) ∧ Below W.heap.size W w') := hideP (fun x y W hW => specPair_any (h.below hW) hp hAP)
  have HGN := hideP (fun c => gi_neg hAG c)
  have HPC := hideP (fun l r => (prO_rng h.p l r).1)
  obtain ⟨T, hT⟩ : ∃ T, T = spL gs ps bs := ⟨_, rfl⟩
  rw [← hT]
  have HT := hideP hT
  clear h hb hg hp hbl hF hAG hAP hn hT
  obtain ⟨s, g0, g1, g2, g3, g4, q, r⟩ := f
  simp only [foV] at CG CP ⊢
  obtain ⟨i1, hi, hz0, hz1, hz2⟩ := info_parts Try.info81
  have J0 : Hid (LInv w ((w.alloc (.cells #[Value.string s, Value.slice a1 n1 c1, Value.slice a2 n2 c2, Value.int IntKind.i64 g0, Value.int IntKind.i64 g1, Value.int IntKind.i64 g2, Value.int IntKind.i64 g3, Value.int IntKind.i64 g4, Value.int IntKind.i64 q, Value.int IntKind.i64 r] 34)).alloc (.cells #[] 81)) #[Value.string s, Value.slice a1 n1 c1, Value.slice a2 n2 c2, Value.int IntKind.i64 g0, Value.int IntKind.i64 g1, Value.int IntKind.i64 g2, Value.int IntKind.i64 g3, Value.int IntKind.i64 g4, Value.int IntKind.i64 q, Value.int IntKind.i64 r] (.slice (some ⟨w.heap.size + 1, 0, none⟩) 0 0) []) := hideP ⟨⟨rfl, Or.inr ⟨w.heap.size + 1, 0, #[], rfl, Nat.le_refl _, by have h := heap_alloc_new (w.alloc (.cells #[Value.string s, Value.slice a1 n1 c1, Value.slice a2 n2 c2, Value.int IntKind.i64 g0, Value.int IntKind.i64 g1, Value.int IntKind.i64 g2, Value.int IntKind.i64 g3, Value.int IntKind.i64 g4, Value.int IntKind.i64 q, Value.int IntKind.i64 r] 34)) (.cells #[] 81); rw [World.size_alloc] at h; exact h, Nat.le_refl _, by unfold maxLen; omega, rfl, rfl⟩⟩, ((below1 _ _).block _ (by simp)).trans (heap_alloc_new _ _), below2 _ _ _⟩
  go_enter Try.func41, Try.ntmps41
  go_wp2
  go_loopw [5, 6, 7] (fun u nw i wr => ∃ (k : Nat) (acc : List (Int × Int)) (now : Int), k ≤ n ∧ i = .int .i64 k ∧ nw = .int .i64 now ∧ Hid (LInv w wr #[Value.string s, Value.slice a1 n1 c1, Value.slice a2 n2 c2, Value.int IntKind.i64 g0, Value.int IntKind.i64 g1, Value.int IntKind.i64 g2, Value.int IntKind.i64 g3, Value.int IntKind.i64 g4, Value.int IntKind.i64 q, Value.int IntKind.i64 r] u acc) ∧ Hid (acc ++ tl gs ps now (bs.drop k) = T) ∧ Hid ((now < 0 ∨ 0 ≤ now) ∧ acc.length ≤ 2 * k)) (fun _ _ i _ => n - (intOf i).toNat)
  case atStart => exact ⟨0, [], -1, by omega, rfl, rfl, J0, hideP (by rw [HT.out, List.drop_zero]; rfl), hideP ⟨Or.inl (by omega), by simp⟩⟩
  case round =>
    obtain ⟨k, acc, now, hk, rfl, rfl, HJ, HE, HB⟩ := hrel
    clear J0
    obtain ⟨m, hm⟩ : ∃ m, m = acc.length := ⟨_, rfl⟩
    have HM := hideP hm
    obtain ⟨au, cu, rfl⟩ := ownG_shape HJ.out.own
    have hml : m ≤ 2 * k := by rw [hm]; exact HB.out.2
    rw [← hm] at HJ ⊢
    clear hm
    obtain ⟨p0, p1, p2, p3, p4, p5, p6, p7, p8, p9⟩ := HJ.out.box.at
    have hzP := HJ.out.box.lt
    have hszw : w.heap.size ≤ wr.heap.size := HJ.out.bel.size
    by_cases hlt : k < n
    · have hki : (k : Int) < (n : Int) := by omega
      obtain ⟨b, off, rfl, hbl, e0, hx0, hx1⟩ := HBR.out.cell HJ.out.bel hlt
      obtain ⟨x, hx⟩ : ∃ x, x = bs.getD k 0 := ⟨_, rfl⟩
      rw [← hx] at e0 hx0 hx1
      have HDR : Hid (bs.drop k = x :: bs.drop (k + 1)) := hideP (by
        have hkl : k < bs.length := by rw [← HN.out]; exact hlt
        rw [List.drop_eq_getElem_cons hkl, hx, List.getD_eq_getElem?_getD, List.getElem?_eq_getElem hkl]
        rfl)
      clear hx
      obtain ⟨z, hz⟩ : ∃ z, z = gi gs x := ⟨_, rfl⟩
      have hzn := HGN.out x
      rw [← hz] at hzn
      have CGx : Hid (Calls Try.prog 32 #[.agg #[Value.string s, Value.slice a1 n1 c1, Value.slice a2 n2 c2, Value.int IntKind.i64 g0, Value.int IntKind.i64 g1, Value.int IntKind.i64 g2, Value.int IntKind.i64 g3, Value.int IntKind.i64 g4, Value.int IntKind.i64 q, Value.int IntKind.i64 r], .int .i64 x] wr fun e w' => e = .returned (.int .i64 z) ∧ Below wr.heap.size wr w') := hideP (by rw [hz]; exact CG.out x wr HJ.out.bel)
      clear hz
      obtain ⟨hb0, hhb⟩ : ∃ t, t = hasB gs x := ⟨_, rfl⟩
      rw [← hhb] at hzn
      have HHB := hideP hhb
      clear hhb
      go_wp2_with fail
      refine CGx.out.mono ?_
      rintro e w2 ⟨rfl, hb2⟩
      have J2 := hideP (HJ.out.below hb2)
      clear hb2 p0 p1 p2 p3 p4 p5 p6 p7 p8 p9 hzP hszw
      cases hb0 with
      | false =>
        have z1 : decide (z < 0) = true := hzn
        have HQ : Hid (acc ++ tl gs ps now (bs.drop (k + 1)) = T) := hideP (by rw [← HE.out, HDR.out, tl_skip HHB.out.symm])
        clear hzn
        go_wp2
        go_roundw
        case rel => exact ⟨k + 1, acc, now, by omega, by go_num, by first | rfl | trivial, J2, HQ, hideP ⟨HB.out.1, by (try simp only [List.length_append, List.length_singleton]); have := HM.out; have := HB.out.2; omega⟩⟩
        case measure => simp [intOf]; omega
      | true =>
      have z1 : decide (z < 0) = false := hzn
      clear hzn
      by_cases hnow : now < 0
      · have HQ : Hid (acc ++ tl gs ps x (bs.drop (k + 1)) = T) := hideP (by rw [← HE.out, HDR.out, tl_first HHB.out.symm hnow hx0])
        go_wp2
        go_roundw
        case rel => exact ⟨k + 1, acc, x, by omega, by go_num, by first | rfl | trivial, J2, HQ, hideP ⟨Or.inr hx0, by (try simp only [List.length_append, List.length_singleton]); have := HM.out; have := HB.out.2; omega⟩⟩
        case measure => simp [intOf]; omega
      · have hnow2 : decide (now < 0) = false := by simp; omega
        have hnow3 : 0 ≤ now := by omega
        obtain ⟨p0, p1, p2, p3, p4, p5, p6, p7, p8, p9⟩ := J2.out.box.at
        have hzP := J2.out.box.lt
        obtain ⟨ok, hok⟩ : ∃ t, t = (look2 ps now x).isSome := ⟨_, rfl⟩
        obtain ⟨⟨oa, ob, oc, od⟩, ho⟩ : ∃ t, t = (look2 ps now x).getD Q4.none := ⟨_, rfl⟩
        have CPx : Hid (Calls Try.prog 57 #[.agg #[Value.string s, Value.slice a1 n1 c1, Value.slice a2 n2 c2, Value.int IntKind.i64 g0, Value.int IntKind.i64 g1, Value.int IntKind.i64 g2, Value.int IntKind.i64 g3, Value.int IntKind.i64 g4, Value.int IntKind.i64 q, Value.int IntKind.i64 r], .int .i64 now, .int .i64 x] w2 fun e w' => e = .returned (.tuple #[.agg #[.int .i64 oa, .int .i64 ob, .int .i64 oc, .int .i64 od], .bool ok]) ∧ Below w2.heap.size w2 w') := hideP (by have k := CP.out now x w2 J2.out.bel; rw [← ho, ← hok] at k; exact k)
        have HOO : Hid ((ok = false → prO ps now x = ⟨now, x, -1, 0⟩) ∧ (ok = true → prO ps now x = ⟨oa, ob, oc, od⟩)) := hideP (by
          rw [ho, hok]
          unfold prO
          cases look2 ps now x with
          | none => exact ⟨fun _ => rfl, (fun h => by cases h)⟩
          | some y => exact ⟨(fun h => by cases h), fun _ => rfl⟩)
        have HTN := hideP (tl_next (gs := gs) (ps := ps) (bs := bs.drop (k + 1)) HHB.out.symm hnow3 hx0)
        clear hok ho
        go_wp2_with fail
        refine CPx.out.mono ?_
        rintro e w3 ⟨rfl, hb3⟩
        have J3 := hideP (J2.out.below hb3)
        clear hb3 p0 p1 p2 p3 p4 p5 p6 p7 p8 p9 hzP
        obtain ⟨W3, hW3⟩ : ∃ W, W = w3.alloc (.cells #[.int .i64 oa, .int .i64 ob, .int .i64 oc, .int .i64 od] 63) := ⟨_, rfl⟩
        have JB : Hid (LInv w W3 #[Value.string s, Value.slice a1 n1 c1, Value.slice a2 n2 c2, Value.int IntKind.i64 g0, Value.int IntKind.i64 g1, Value.int IntKind.i64 g2, Value.int IntKind.i64 g3, Value.int IntKind.i64 g4, Value.int IntKind.i64 q, Value.int IntKind.i64 r] (.slice au m cu) acc) := hideP (by rw [hW3]; exact J3.out.below (below1 _ _))
        have OB : Hid (W3.heap[w3.heap.size]? = some (.cells #[.int .i64 oa, .int .i64 ob, .int .i64 oc, .int .i64 od] 63 (0, 0))) := hideP (by rw [hW3]; exact heap_alloc_new _ _)
        have hW3s : w3.heap.size < W3.heap.size := by rw [hW3]; simp
        have hW3z : W3.heap.size = w3.heap.size + 1 := by rw [hW3]; simp
        have hszw : w.heap.size ≤ w3.heap.size := J3.out.bel.size
        have hszw2 : w.heap.size < w3.heap.size := J3.out.box.lt
        have HNO : Hid (Value.ownBlock (.slice au m cu) ≠ some w3.heap.size) := hideP (fun e => by have := (J3.out.own.lt _ e).2; omega)
        have HM1 : Hid (m + 1 = (acc ++ [(now, 0)]).length) := hideP (by simp; exact HM.out)
        cases ok with
        | false =>
          have ho := HOO.out.1 rfl
          have HQ : Hid ((acc ++ [(now, 0)]) ++ tl gs ps x (bs.drop (k + 1)) = T) := hideP (by rw [← HE.out, HDR.out, HTN.out, ho]; simp)
          clear ho
          go_wp2_with (at_builtin; refine Hid.out ?_)
          refine hideP ?_
          rw [← hW3]
          refine wpList_append_own_at _ rfl (.tmp 45) (.tmp 48) 45 rfl (w.heap.size + 1) 81 i1 (.agg #[.int .i64 0, .int .i64 0]) 2 16 Try.underlying45 hi hz0 hz1 hz2 rfl (by decide) (.slice au m cu) m (f2 acc) (by rfl) (World.ownsRow.alloc (LInv.own' JB.out HM.out) _) ⟨w3.heap.size + 1, 0, none⟩ 1 1 [.int .i64 now, .int .i64 0] (by rfl) rfl (by rw [← hW3z]; exact new2 _ _ _ _) (one2 _ _) (by unfold maxLen; omega) (by omega) (by simp; omega) ?_
          intro v6 w6 ho6 hg6 hn6 hat6
          have Jw6' := hideP (JB.out.put (by rw [← HM.out]; exact ho6) hg6)
          obtain ⟨aw6, cw6, rfl⟩ := ownG_shape ho6
          have Jw6 : Hid (LInv w w6 #[Value.string s, Value.slice a1 n1 c1, Value.slice a2 n2 c2, Value.int IntKind.i64 g0, Value.int IntKind.i64 g1, Value.int IntKind.i64 g2, Value.int IntKind.i64 g3, Value.int IntKind.i64 g4, Value.int IntKind.i64 q, Value.int IntKind.i64 r] (.slice aw6 (m + 1) cw6) (acc ++ [(now, 0)])) := Jw6'
          have ob6 : w6.heap[w3.heap.size]? = some (.cells #[.int .i64 oa, .int .i64 ob, .int .i64 oc, .int .i64 od] 63 (0, 0)) := by
            rw [hg6.block _ (by simp; omega) (fun e => HNO.out e.symm)]
            exact ((below1 W3 _).block _ hW3s).trans OB.out
          have o3 : w6.cell? ⟨w3.heap.size, 3, none⟩ = some (.int .i64 od) := by rw [cell_of_row _ _ _ _ _ _ ob6]; rfl
          have hzo : w3.heap.size < w6.heap.size := (Array.getElem?_eq_some_iff.1 ob6).1
          clear ho6 hg6 hn6 hat6 Jw6'
          go_wp2
          go_roundw
          case rel => exact ⟨k + 1, (acc ++ [(now, 0)]), x, by omega, by go_num, by first | rfl | trivial, Jw6, HQ, hideP ⟨Or.inr hx0, by (try simp only [List.length_append, List.length_singleton]); have := HM.out; have := HB.out.2; omega⟩⟩
          case measure => simp [intOf]; omega
        | true =>
        have ho := HOO.out.2 rfl
        by_cases hc : 0 ≤ oc
        · have HQ : Hid (acc ++ tl gs ps oc (bs.drop (k + 1)) = T) := hideP (by rw [← HE.out, HDR.out, HTN.out, ho]; simp only [if_pos hc])
          clear ho
          go_wp2
          go_roundw
          case rel => exact ⟨k + 1, acc, oc, by omega, by go_num, by first | rfl | trivial, (hideP (J3.out.below (below1 _ _))), HQ, hideP ⟨Or.inr hc, by (try simp only [List.length_append, List.length_singleton]); have := HM.out; have := HB.out.2; omega⟩⟩
          case measure => simp [intOf]; omega
        · have hcf : decide (0 ≤ oc) = false := by simp; omega
          by_cases hd : od = 0
          · have HQ : Hid ((acc ++ [(now, 0)]) ++ tl gs ps x (bs.drop (k + 1)) = T) := hideP (by rw [← HE.out, HDR.out, HTN.out, ho]; simp [hc, hd])
            clear ho
            subst hd
            go_wp2_with (at_builtin; refine Hid.out ?_)
            refine hideP ?_
            rw [← hW3]
            refine wpList_append_own_at _ rfl (.tmp 45) (.tmp 48) 45 rfl (w.heap.size + 1) 81 i1 (.agg #[.int .i64 0, .int .i64 0]) 2 16 Try.underlying45 hi hz0 hz1 hz2 rfl (by decide) (.slice au m cu) m (f2 acc) (by rfl) (World.ownsRow.alloc (LInv.own' JB.out HM.out) _) ⟨w3.heap.size + 1, 0, none⟩ 1 1 [.int .i64 now, .int .i64 0] (by rfl) rfl (by rw [← hW3z]; exact new2 _ _ _ _) (one2 _ _) (by unfold maxLen; omega) (by omega) (by simp; omega) ?_
            intro v6 w6 ho6 hg6 hn6 hat6
            have Jw6' := hideP (JB.out.put (by rw [← HM.out]; exact ho6) hg6)
            obtain ⟨aw6, cw6, rfl⟩ := ownG_shape ho6
            have Jw6 : Hid (LInv w w6 #[Value.string s, Value.slice a1 n1 c1, Value.slice a2 n2 c2, Value.int IntKind.i64 g0, Value.int IntKind.i64 g1, Value.int IntKind.i64 g2, Value.int IntKind.i64 g3, Value.int IntKind.i64 g4, Value.int IntKind.i64 q, Value.int IntKind.i64 r] (.slice aw6 (m + 1) cw6) (acc ++ [(now, 0)])) := Jw6'
            have ob6 : w6.heap[w3.heap.size]? = some (.cells #[.int .i64 oa, .int .i64 ob, .int .i64 oc, .int .i64 0] 63 (0, 0)) := by
              rw [hg6.block _ (by simp; omega) (fun e => HNO.out e.symm)]
              exact ((below1 W3 _).block _ hW3s).trans OB.out
            have o3 : w6.cell? ⟨w3.heap.size, 3, none⟩ = some (.int .i64 0) := by rw [cell_of_row _ _ _ _ _ _ ob6]; rfl
            have hzo : w3.heap.size < w6.heap.size := (Array.getElem?_eq_some_iff.1 ob6).1
            clear ho6 hg6 hn6 hat6 Jw6'
            go_wp2
            go_roundw
            case rel => exact ⟨k + 1, (acc ++ [(now, 0)]), x, by omega, by go_num, by first | rfl | trivial, Jw6, HQ, hideP ⟨Or.inr hx0, by (try simp only [List.length_append, List.length_singleton]); have := HM.out; have := HB.out.2; omega⟩⟩
            case measure => simp [intOf]; omega
          · have HQ : Hid ((acc ++ [(now, 0)] ++ [(-1, od)]) ++ tl gs ps x (bs.drop (k + 1)) = T) := hideP (by rw [← HE.out, HDR.out, HTN.out, ho]; simp [hc, hd])
            clear ho
            have d1 : (od != 0) = true := by simp [hd]
            have d2 : decide (od = 0) = false := by simp [hd]
            have d3 : (od == 0) = false := by simp [hd]
            go_wp2_with (at_builtin; refine Hid.out ?_)
            refine hideP ?_
            rw [← hW3]
            refine wpList_append_own_at _ rfl (.tmp 45) (.tmp 48) 45 rfl (w.heap.size + 1) 81 i1 (.agg #[.int .i64 0, .int .i64 0]) 2 16 Try.underlying45 hi hz0 hz1 hz2 rfl (by decide) (.slice au m cu) m (f2 acc) (by rfl) (World.ownsRow.alloc (LInv.own' JB.out HM.out) _) ⟨w3.heap.size + 1, 0, none⟩ 1 1 [.int .i64 now, .int .i64 0] (by rfl) rfl (by rw [← hW3z]; exact new2 _ _ _ _) (one2 _ _) (by unfold maxLen; omega) (by omega) (by simp; omega) ?_
            intro v6 w6 ho6 hg6 hn6 hat6
            have Jw6' := hideP (JB.out.put (by rw [← HM.out]; exact ho6) hg6)
            obtain ⟨aw6, cw6, rfl⟩ := ownG_shape ho6
            have Jw6 : Hid (LInv w w6 #[Value.string s, Value.slice a1 n1 c1, Value.slice a2 n2 c2, Value.int IntKind.i64 g0, Value.int IntKind.i64 g1, Value.int IntKind.i64 g2, Value.int IntKind.i64 g3, Value.int IntKind.i64 g4, Value.int IntKind.i64 q, Value.int IntKind.i64 r] (.slice aw6 (m + 1) cw6) (acc ++ [(now, 0)])) := Jw6'
            have ob6 : w6.heap[w3.heap.size]? = some (.cells #[.int .i64 oa, .int .i64 ob, .int .i64 oc, .int .i64 od] 63 (0, 0)) := by
              rw [hg6.block _ (by simp; omega) (fun e => HNO.out e.symm)]
              exact ((below1 W3 _).block _ hW3s).trans OB.out
            have o3 : w6.cell? ⟨w3.heap.size, 3, none⟩ = some (.int .i64 od) := by rw [cell_of_row _ _ _ _ _ _ ob6]; rfl
            have hzo : w3.heap.size < w6.heap.size := (Array.getElem?_eq_some_iff.1 ob6).1
            clear ho6 hg6 hn6 hat6 Jw6'
            have hszw6 : w.heap.size < w6.heap.size := Jw6.out.box.lt
            go_wp2_with (at_builtin; refine Hid.out ?_)
            refine hideP ?_
            refine wpList_append_own_at _ rfl (.tmp 56) (.tmp 60) 45 rfl (w.heap.size + 1) 81 i1 (.agg #[.int .i64 0, .int .i64 0]) 2 16 Try.underlying45 hi hz0 hz1 hz2 rfl (by decide) (.slice aw6 (m + 1) cw6) (m + 1) (f2 (acc ++ [(now, 0)])) (by rfl) (World.ownsRow.alloc (LInv.own' Jw6.out HM1.out) _) ⟨w6.heap.size, 0, none⟩ 1 1 [.int .i64 (-1), .int .i64 od] (by rfl) rfl (new2 _ _ _ _) (one2 _ _) (by unfold maxLen; omega) (by omega) (by simp; omega) ?_
            intro v7 w7 ho6 hg6 hn6 hat6
            have Jw7' := hideP (Jw6.out.put (by rw [← HM1.out]; exact ho6) hg6)
            obtain ⟨aw7, cw7, rfl⟩ := ownG_shape ho6
            have Jw7 : Hid (LInv w w7 #[Value.string s, Value.slice a1 n1 c1, Value.slice a2 n2 c2, Value.int IntKind.i64 g0, Value.int IntKind.i64 g1, Value.int IntKind.i64 g2, Value.int IntKind.i64 g3, Value.int IntKind.i64 g4, Value.int IntKind.i64 q, Value.int IntKind.i64 r] (.slice aw7 (m + 1 + 1) cw7) (acc ++ [(now, 0)] ++ [(-1, od)])) := Jw7'
            clear ho6 hg6 hn6 hat6 Jw7'
            go_wp2
            go_roundw
            case rel => exact ⟨k + 1, (acc ++ [(now, 0)] ++ [(-1, od)]), x, by omega, by go_num, by first | rfl | trivial, Jw7, HQ, hideP ⟨Or.inr hx0, by (try simp only [List.length_append, List.length_singleton]); have := HM.out; have := HB.out.2; omega⟩⟩
            case measure => simp [intOf]; omega
    · have hki : ¬ (k : Int) < (n : Int) := by omega
      have HQ : Hid (acc ++ (if now < 0 then [] else [(now, 0)]) = T) := hideP (by rw [← HE.out, List.drop_eq_nil_of_le (by rw [← HN.out]; omega), tl_end])
      by_cases hnow : now < 0
      · have hn2 : decide (0 ≤ now) = false := by simp; omega
        have HQ2 : Hid (acc = T) := hideP (by rw [← HQ.out, if_pos hnow, List.append_nil])
        go_wp2
        go_ret
        exact ⟨_, rfl, by rw [← HQ2.out]; exact HJ.out.own' HM.out |> (fun h => by rw [← HM.out]; exact h), HJ.out.bel⟩
      · have hn2 : decide (0 ≤ now) = true := by simp; omega
        have HQ2 : Hid (acc ++ [(now, 0)] = T) := hideP (by rw [← HQ.out, if_neg hnow])
        go_wp2_with (at_builtin; refine Hid.out ?_)
        refine hideP ?_
        refine wpList_append_own_at _ rfl (.tmp 65) (.tmp 68) 45 rfl (w.heap.size + 1) 81 i1 (.agg #[.int .i64 0, .int .i64 0]) 2 16 Try.underlying45 hi hz0 hz1 hz2 rfl (by decide) (.slice au m cu) m (f2 acc) (by rfl) (World.ownsRow.alloc (LInv.own' HJ.out HM.out) _) ⟨wr.heap.size, 0, none⟩ 1 1 [.int .i64 now, .int .i64 0] (by rfl) rfl (new2 _ _ _ _) (one2 _ _) (by unfold maxLen; omega) (by omega) (by simp; omega) ?_
        intro v6 w6 ho6 hg6 hn6 hat6
        have J6 := hideP (HJ.out.put (by rw [← HM.out]; exact ho6) hg6)
        obtain ⟨a6, c6, rfl⟩ := ownG_shape ho6
        clear ho6 hg6 hn6 hat6
        go_wp2
        go_ret
        exact ⟨_, rfl, by rw [← HQ2.out]; exact J6.out.own, J6.out.bel⟩
end Go.Proofs.Ytggcfgbpameppaa
