/-
  How large a word is: the specification.
-/
import Derived.Test.YtggcfgbpameppaaSsw
namespace Go.Proofs.Ytggcfgbpameppaa
open Go.RowKit Go.Maps
set_option linter.unusedVariables false
set_option linter.unusedSimpArgs false

theorem f2_len (ts : List (Int × Int)) : (f2 ts).length = ts.length * 2 := by
  induction ts with
  | nil => rfl
  | cons t r ih => simp only [f2, List.flatMap_cons, List.length_append] at ih ⊢; rw [ih]; simp only [List.length_cons, List.length_nil]; omega
theorem f2_get {ts : List (Int × Int)} : ∀ {k : Nat}, k < ts.length → (f2 ts)[k * 2]? = some (.int .i64 (ts.getD k (0, 0)).1) ∧ (f2 ts)[k * 2 + 1]? = some (.int .i64 (ts.getD k (0, 0)).2) := by
  induction ts with
  | nil => intro k hk; simp at hk
  | cons t r ih =>
    intro k hk
    cases k with
    | zero => exact ⟨rfl, rfl⟩
    | succ k =>
      have := ih (k := k) (by simpa using hk)
      have e : f2 (t :: r) = [.int .i64 t.1, .int .i64 t.2] ++ f2 r := rfl
      rw [e]
      refine ⟨?_, ?_⟩
      · rw [show (k + 1) * 2 = k * 2 + 2 by omega, List.getElem?_append_right (by simp)]
        simpa using this.1
      · rw [show (k + 1) * 2 + 1 = (k * 2 + 1) + 2 by omega, List.getElem?_append_right (by simp)]
        simpa using this.2
theorem sp_len (gs ps : List Q4) (bs : List Int) : (spL gs ps bs).length ≤ 2 * bs.length := by rw [← st_sp, List.length_map]; exact st_len gs ps bs
theorem sp_ok {f : Fo} {gs ps : List Q4} {bs : List Int} {lo lo2 : Nat} {w : World} {v vb : Value} (hF : fontB f gs ps = true) (hq : QRow lo w v ps) (hb : BRow lo2 w vb bs) : ∀ p ∈ spL gs ps bs, (p.1 = -1 ∧ I64 p.2) ∨ (0 ≤ p.1 ∧ hasB gs p.1 = true) := by
  intro p hp
  rw [← st_sp] at hp
  obtain ⟨t, ht, rfl⟩ := List.mem_map.1 hp
  rcases st_ok (font_prO hF) (fun l r => (prO_rng hq l r).2) hb.all t ht with h | h
  · exact Or.inl h
  · exact Or.inr ⟨h.1, h.2.2.1⟩

def AllB (wr x : World) : Prop := ∀ o, Below wr.heap.size wr (x.alloc o)
def SetB (wr x : World) : Prop := ∀ a b c d, Below wr.heap.size wr ((((x.setCell ⟨wr.heap.size, 0, none⟩ a).setCell ⟨wr.heap.size, 1, none⟩ b).setCell ⟨wr.heap.size, 2, none⟩ c).setCell ⟨wr.heap.size, 3, none⟩ d)

set_option maxRecDepth 20000 in
set_option maxHeartbeats 8000000 in
theorem specWordSize_any {f : Fo} {vg vp vb : Value} {gs ps : List Q4} {bs : List Int} {w : World} (h : TwoQ w vg vp gs ps) (hb : BRow 0 w vb bs) (hs : f.s.size ≤ 1048576) (hg : gs.length ≤ 1048576) (hp : ps.length ≤ 1048576) (hbl : bs.length ≤ 1048576) :
    Calls Try.prog 24 #[foV f vg vp, vb] w fun e w' => e = .returned (.agg #[.int .i64 (wsO f gs ps bs).a, .int .i64 (wsO f gs ps bs).b, .int .i64 (wsO f gs ps bs).c]) ∧ Below w.heap.size w w' := by
  have HX := hideP h
  have HC : Hid (∀ W, Below w.heap.size w W → Calls Try.prog 15 #[foV f vg vp, vb] W fun e w' => ∃ t, e = .returned t ∧ w'.ownsRow W.heap.size 81 2 t (swO f gs ps bs).length (f2 (swO f gs ps bs)) ∧ Below W.heap.size W w') := hideP (fun W hW => specSetWord_any (h.below hW) (SRow.below bStable hb hW) hs hg hp hbl)
  obtain ⟨a1, n1, c1, rfl⟩ : ∃ a n c, vg = .slice a n c := by obtain ⟨a, c, rfl⟩ := h.g.shape; exact ⟨_, _, _, rfl⟩
  obtain ⟨a2, n2, c2, rfl⟩ : ∃ a n c, vp = .slice a n c := by obtain ⟨a, c, rfl⟩ := h.p.shape; exact ⟨_, _, _, rfl⟩
  obtain ⟨ab, nb, cb, rfl⟩ : ∃ a n c, vb = .slice a n c := by obtain ⟨a, c, rfl⟩ := hb.shape; exact ⟨_, _, _, rfl⟩
  have hn1 := h.g.len
  obtain ⟨O, hO⟩ : ∃ o, o = swO f gs ps bs := ⟨_, rfl⟩
  obtain ⟨⟨oa, ob, oc⟩, ho⟩ : ∃ o, o = wsO f gs ps bs := ⟨_, rfl⟩
  have HO : Hid ((⟨oa, ob, oc⟩ : S3) = szL gs O) := hideP (by
    rw [ho, hO]
    unfold wsO swO
    cases wOk f gs ps bs <;> rfl)
  have hOl : O.length ≤ 2000 := by
    rw [hO]
    unfold swO
    cases hk : wOk f gs ps bs with
    | false => simp
    | true =>
      simp only [wOk, Bool.and_eq_true, decide_eq_true_eq] at hk
      have := sp_len gs ps bs
      simp only [if_true]
      omega
  have HEL : Hid (∀ p ∈ O, (p.1 = -1 ∧ I64 p.2) ∨ (0 ≤ p.1 ∧ hasB gs p.1 = true ∧ AscG gs)) := hideP (fun p hp2 => by
    rw [hO] at hp2
    unfold swO at hp2
    cases hk : wOk f gs ps bs with
    | false => rw [hk] at hp2; simp at hp2
    | true =>
      rw [hk] at hp2
      simp only [if_true] at hp2
      simp only [wOk, Bool.and_eq_true, decide_eq_true_eq] at hk
      rcases sp_ok hk.1 h.p hb p hp2 with h1 | h1
      · exact Or.inl h1
      · exact Or.inr ⟨h1.1, h1.2, fontB_asc hk.1⟩)
  have HG : Hid (AscG gs → ∀ c W, Below w.heap.size w W → Calls Try.prog 32 #[foV f (.slice a1 n1 c1) (.slice a2 n2 c2), .int .i64 c] W fun e w' => e = .returned (.int .i64 (gi gs c)) ∧ Below W.heap.size W w') := hideP (fun ha c W hW => specGlyph_any (h.below hW) hg ha)
  rw [← hO] at HC
  rw [← ho]
  have hnb1 : n1 ≤ 1048576 := by omega
  have HN1 := hideP hn1
  clear h hb hs hg hp hbl hO ho hn1
  obtain ⟨s, g0, g1, g2, g3, g4, q, r⟩ := f
  simp only [foV] at HC HG ⊢
  have X0 : Hid (BoxF ((w.alloc (.cells #[Value.string s, Value.slice a1 n1 c1, Value.slice a2 n2 c2, Value.int IntKind.i64 g0, Value.int IntKind.i64 g1, Value.int IntKind.i64 g2, Value.int IntKind.i64 g3, Value.int IntKind.i64 g4, Value.int IntKind.i64 q, Value.int IntKind.i64 r] 34)).alloc (.cells #[.int .i64 0, .int .i64 0, .int .i64 0] 55)) w.heap.size #[Value.string s, Value.slice a1 n1 c1, Value.slice a2 n2 c2, Value.int IntKind.i64 g0, Value.int IntKind.i64 g1, Value.int IntKind.i64 g2, Value.int IntKind.i64 g3, Value.int IntKind.i64 g4, Value.int IntKind.i64 q, Value.int IntKind.i64 r]) := hideP ((below1 _ _).block _ (by simp) |>.trans (heap_alloc_new _ _))
  go_enter Try.func24, Try.ntmps24
  go_wp2_with fail
  refine (HC.out _ (below2 _ _ _)).mono ?_
  rintro e w1 ⟨t, rfl, hot, hb⟩
  have B1 : Hid (Below w.heap.size w w1) := hideP (below_more (below2 _ _ _) hb (by simp; omega))
  have hz1 : w.heap.size + 1 < w1.heap.size := by have := hb.size; simp at this; omega
  have X1 := hideP (X0.out.below hb)
  have QR : Hid (w1.heap[w.heap.size + 1]? = some (.cells #[.int .i64 0, .int .i64 0, .int .i64 0] 55 (0, 0))) := hideP ((hb.block _ (by simp)).trans (by have h := heap_alloc_new (w.alloc (.cells #[Value.string s, Value.slice a1 n1 c1, Value.slice a2 n2 c2, Value.int IntKind.i64 g0, Value.int IntKind.i64 g1, Value.int IntKind.i64 g2, Value.int IntKind.i64 g3, Value.int IntKind.i64 g4, Value.int IntKind.i64 q, Value.int IntKind.i64 r] 34)) (.cells #[.int .i64 0, .int .i64 0, .int .i64 0] 55); rw [World.size_alloc] at h; exact h))
  clear hb X0 HC
  obtain ⟨n, hn⟩ : ∃ n, n = O.length := ⟨_, rfl⟩
  have HN := hideP hn
  rw [← hn] at hot hOl
  obtain ⟨at0, ct, rfl⟩ := ownG_shape hot
  have CL : Hid (∀ W, Below w1.heap.size w1 W → ∀ k, k < n → ∃ g, at0 = some ⟨g, 0, none⟩ ∧ g < w1.heap.size ∧ W.cell? ⟨g, k * 2, none⟩ = some (.int .i64 (O.getD k (0, 0)).1) ∧ W.cell? ⟨g, k * 2 + 1, none⟩ = some (.int .i64 (O.getD k (0, 0)).2)) := hideP (fun W hW k hk => by
    rcases hot.2 with ⟨_, h0⟩ | ⟨g, cap, cur, he, _, hg, _⟩
    · omega
    · simp only [Value.slice.injEq] at he
      obtain ⟨rfl, _, rfl⟩ := he
      have hgl := (Array.getElem?_eq_some_iff.1 hg).1
      obtain ⟨e0, e1⟩ := f2_get (ts := O) (k := k) (by omega)
      have hlen := f2_len O
      refine ⟨g, rfl, hgl, ?_, ?_⟩
      · rw [hW.cell (p := ⟨g, k * 2, none⟩) hgl, World.ownsRow.cellAt hot (k * 2) (by omega)]; exact e0
      · rw [hW.cell (p := ⟨g, k * 2 + 1, none⟩) hgl, World.ownsRow.cellAt hot (k * 2 + 1) (by omega)]; exact e1)
  clear hot hn
  go_wp2
  go_loopw [7] (fun i wr => ∃ (k : Nat) (s : S3), k ≤ n ∧ i = .int .i64 k ∧ Hid (wr.heap[w1.heap.size]? = some (.cells #[.int .i64 s.a, .int .i64 s.b, .int .i64 s.c] 55 (0, 0)) ∧ Below w1.heap.size w1 wr) ∧ Hid (s = szL gs (O.take k))) (fun i _ => n - (intOf i).toNat)
  case atStart => exact ⟨0, ⟨0, 0, 0⟩, by omega, rfl, hideP ⟨heap_alloc_new _ _, below1 _ _⟩, hideP rfl⟩
  case round =>
    obtain ⟨k, s, hk, rfl, HS, HE⟩ := hrel
    obtain ⟨sa, sb, sc⟩ := s
    dsimp only at HS
    have q0 : wr.cell? ⟨w1.heap.size, 0, none⟩ = some (.int .i64 sa) := by rw [cell_of_row _ _ _ _ _ _ HS.out.1]; rfl
    have q1 : wr.cell? ⟨w1.heap.size, 1, none⟩ = some (.int .i64 sb) := by rw [cell_of_row _ _ _ _ _ _ HS.out.1]; rfl
    have q2 : wr.cell? ⟨w1.heap.size, 2, none⟩ = some (.int .i64 sc) := by rw [cell_of_row _ _ _ _ _ _ HS.out.1]; rfl
    have fz : ∀ j, wr.frozen? ⟨w1.heap.size, j, none⟩ = false := fun j => frozen_of_row _ _ _ _ _ HS.out.1
    have hzs : w1.heap.size < wr.heap.size := (Array.getElem?_eq_some_iff.1 HS.out.1).1
    by_cases hlt : k < n
    · have hki : (k : Int) < (n : Int) := by omega
      obtain ⟨g, rfl, hgl, e0, e1⟩ := CL.out wr HS.out.2 k hlt
      obtain ⟨p, hpp⟩ : ∃ t, t = O.getD k (0, 0) := ⟨_, rfl⟩
      rw [← hpp] at e0 e1
      have hmem : p ∈ O := by rw [hpp, List.getD_eq_getElem?_getD, List.getElem?_eq_getElem (by rw [← HN.out]; exact hlt)]; exact List.getElem_mem _
      have HVT := hideP (HEL.out p hmem)
      have HTK : Hid (O.take (k + 1) = O.take k ++ [p]) := hideP (by
        rw [hpp, List.getD_eq_getElem?_getD, List.take_add_one, List.getElem?_eq_getElem (by rw [← HN.out]; exact hlt)]
        rfl)
      clear hpp hmem
      obtain ⟨pcc, pk⟩ := p
      dsimp only at e0 e1
      have hgw : g < wr.heap.size := by omega
      have hne : ¬ g = w1.heap.size := by omega
      have hne2 : ¬ w1.heap.size = g := by omega
      by_cases hneg : pcc < 0
      · have HST : Hid (stp gs ⟨sa, sb, sc⟩ (pcc, pk) = ⟨wrap64 (sa + pk), sb, sc⟩) := hideP (by unfold stp; rw [if_pos hneg])
        have S9 : Hid (∀ x : World, x.heap = wr.heap → (x.setCell ⟨w1.heap.size, 0, none⟩ (.int .i64 (wrap64 (sa + pk)))).heap[w1.heap.size]? = some (.cells #[.int .i64 (wrap64 (sa + pk)), .int .i64 sb, .int .i64 sc] 55 (0, 0))) := hideP (fun x hx => heap_setCell_same x _ 0 _ 55 _ (by rw [hx]; exact HS.out.1))
        go_wp2_with fail
        go_region
        all_goals
          go_wp2
          refine ⟨⟨k + 1, ⟨wrap64 (sa + pk), sb, sc⟩, by omega, by go_num, hideP ⟨S9.out wr rfl, (HS.out.2.setCell (Nat.le_refl _) _).drew⟩, hideP (by rw [HTK.out, szL_snoc, ← HE.out, HST.out])⟩, by simp [intOf]; omega⟩
      · have hneg2 : decide (pcc < 0) = false := by simp; omega
        obtain ⟨hhb, ha⟩ : hasB gs pcc = true ∧ AscG gs := by
          rcases HVT.out with h1 | h1
          · have h2 : pcc = -1 := h1.1
            omega
          · exact h1.2
        obtain ⟨j, hj, hja⟩ := hasB_iff.1 hhb
        have hjn : j < n1 := by rw [← HN1.out]; exact hj
        have hbw : Below w.heap.size w wr := below_more B1.out HS.out.2 B1.out.size
        have X2 := hideP (X1.out.below HS.out.2)
        obtain ⟨bg, offg, rfl, hbg, _, m0, m1, m2, m3⟩ := HX.out.g.cells hbw hjn
        obtain ⟨gg, hgg⟩ : ∃ t, t = gs.getD j Q4.none := ⟨_, rfl⟩
        rw [← hgg] at m0 m1 m2 m3
        have HST : Hid (stp gs ⟨sa, sb, sc⟩ (pcc, pk) = ⟨wrap64 (sa + gg.b), mxI sb gg.c, mxI sc gg.d⟩) := hideP (by
          unfold stp
          rw [if_neg hneg]
          simp only [look1_at ha hj hja, Option.getD_some, ← hgg])
        have CGx : Hid (∀ W, Below w.heap.size w W → Calls Try.prog 32 #[.agg #[Value.string s, Value.slice (some ⟨bg, offg, none⟩) n1 c1, Value.slice a2 n2 c2, Value.int IntKind.i64 g0, Value.int IntKind.i64 g1, Value.int IntKind.i64 g2, Value.int IntKind.i64 g3, Value.int IntKind.i64 g4, Value.int IntKind.i64 q, Value.int IntKind.i64 r], .int .i64 pcc] W fun e w' => e = .returned (.int .i64 (j : Int)) ∧ Below W.heap.size W w') := hideP (fun W hW => by have kk := HG.out ha pcc W hW; rw [gi_at ha hj hja] at kk; exact kk)
        clear hgg hja hj hhb
        obtain ⟨ga, gb, gc, gd⟩ := gg
        dsimp only at m0 m1 m2 m3 HST
        have hji : (j : Int) < (n1 : Int) := by omega
        obtain ⟨p0, p1, p2, p3, p4, p5, p6, p7, p8, p9⟩ := X2.out.at
        have hzX := X2.out.lt
        have BW := hideP hbw
        have BD : Hid (Below wr.heap.size wr wr.drew) := hideP (Below.refl _ _).drew
        have BDA : Hid (∀ o, Below wr.heap.size wr (wr.drew.alloc o)) := hideP (fun o => BD.out.alloc (Nat.le_refl _) o)
        have Q : Hid (∀ x : World, Below wr.heap.size wr x → x.cell? ⟨w.heap.size, 0, none⟩ = some (.string s) ∧ x.cell? ⟨w.heap.size, 1, none⟩ = some (.slice (some ⟨bg, offg, none⟩) n1 c1) ∧ x.cell? ⟨w.heap.size, 2, none⟩ = some (.slice a2 n2 c2) ∧ x.cell? ⟨w.heap.size, 3, none⟩ = some (.int .i64 g0) ∧ x.cell? ⟨w.heap.size, 4, none⟩ = some (.int .i64 g1) ∧ x.cell? ⟨w.heap.size, 5, none⟩ = some (.int .i64 g2) ∧ x.cell? ⟨w.heap.size, 6, none⟩ = some (.int .i64 g3) ∧ x.cell? ⟨w.heap.size, 7, none⟩ = some (.int .i64 g4) ∧ x.cell? ⟨w.heap.size, 8, none⟩ = some (.int .i64 q) ∧ x.cell? ⟨w.heap.size, 9, none⟩ = some (.int .i64 r) ∧ x.cell? ⟨g, k * 2, none⟩ = some (.int .i64 pcc) ∧ x.cell? ⟨bg, offg + j * 4, none⟩ = some (.int .i64 ga) ∧ x.cell? ⟨bg, offg + j * 4 + 1, none⟩ = some (.int .i64 gb) ∧ x.cell? ⟨bg, offg + j * 4 + 2, none⟩ = some (.int .i64 gc) ∧ x.cell? ⟨bg, offg + j * 4 + 3, none⟩ = some (.int .i64 gd)) := hideP (fun x hx => ⟨(hx.cell (p := ⟨w.heap.size, 0, none⟩) hzX).trans p0, (hx.cell (p := ⟨w.heap.size, 1, none⟩) hzX).trans p1, (hx.cell (p := ⟨w.heap.size, 2, none⟩) hzX).trans p2, (hx.cell (p := ⟨w.heap.size, 3, none⟩) hzX).trans p3, (hx.cell (p := ⟨w.heap.size, 4, none⟩) hzX).trans p4, (hx.cell (p := ⟨w.heap.size, 5, none⟩) hzX).trans p5, (hx.cell (p := ⟨w.heap.size, 6, none⟩) hzX).trans p6, (hx.cell (p := ⟨w.heap.size, 7, none⟩) hzX).trans p7, (hx.cell (p := ⟨w.heap.size, 8, none⟩) hzX).trans p8, (hx.cell (p := ⟨w.heap.size, 9, none⟩) hzX).trans p9, (hx.cell (p := ⟨g, k * 2, none⟩) hgw).trans e0, (hx.cell (p := ⟨bg, offg + j * 4, none⟩) hbg).trans m0, (hx.cell (p := ⟨bg, offg + j * 4 + 1, none⟩) hbg).trans m1, (hx.cell (p := ⟨bg, offg + j * 4 + 2, none⟩) hbg).trans m2, (hx.cell (p := ⟨bg, offg + j * 4 + 3, none⟩) hbg).trans m3⟩)
        have QP : Hid (∀ x : World, Below wr.heap.size wr x → x.heap[w1.heap.size]? = some (.cells #[.int .i64 sa, .int .i64 sb, .int .i64 sc] 55 (0, 0)) ∧ Below w1.heap.size w1 x) := hideP (fun x hx => ⟨(hx.block _ hzs).trans HS.out.1, below_more HS.out.2 hx HS.out.2.size⟩)
        clear p0 p1 p2 p3 p4 p5 p6 p7 p8 p9 m0 m1 m2 m3 hbw X2
        go_wp2_with fail
        go_region_held3 (fun x => x.cell? ⟨w.heap.size, 0, none⟩ = some (.string s) ∧ x.cell? ⟨w.heap.size, 1, none⟩ = some (.slice (some ⟨bg, offg, none⟩) n1 c1) ∧ x.cell? ⟨w.heap.size, 2, none⟩ = some (.slice a2 n2 c2) ∧ x.cell? ⟨w.heap.size, 3, none⟩ = some (.int .i64 g0) ∧ x.cell? ⟨w.heap.size, 4, none⟩ = some (.int .i64 g1) ∧ x.cell? ⟨w.heap.size, 5, none⟩ = some (.int .i64 g2) ∧ x.cell? ⟨w.heap.size, 6, none⟩ = some (.int .i64 g3) ∧ x.cell? ⟨w.heap.size, 7, none⟩ = some (.int .i64 g4) ∧ x.cell? ⟨w.heap.size, 8, none⟩ = some (.int .i64 q) ∧ x.cell? ⟨w.heap.size, 9, none⟩ = some (.int .i64 r) ∧ x.cell? ⟨g, k * 2, none⟩ = some (.int .i64 pcc) ∧ x.cell? ⟨bg, offg + j * 4, none⟩ = some (.int .i64 ga) ∧ x.cell? ⟨bg, offg + j * 4 + 1, none⟩ = some (.int .i64 gb) ∧ x.cell? ⟨bg, offg + j * 4 + 2, none⟩ = some (.int .i64 gc) ∧ x.cell? ⟨bg, offg + j * 4 + 3, none⟩ = some (.int .i64 gd)) (first | exact Q.out _ BD.out | exact Q.out _ (BDA.out _) | exact Q.out _ ‹Hid (Below wr.heap.size wr _)›.out | exact Q.out _ (‹Hid (AllB wr _)›.out _) | exact Q.out _ (‹Hid (SetB wr _)›.out _ _ _ _)) (first | (go_at_call 32; refine (CGx.out _ (by first | exact below_more BW.out BD.out BW.out.size | exact below_more BW.out (BDA.out _) BW.out.size)).mono ?_; rintro e w6 ⟨rfl, hb6⟩; have B6 : Hid (Below wr.heap.size wr w6) := hideP (by first | exact below_more BD.out hb6 BD.out.size | exact below_more (BDA.out _) hb6 (BDA.out _).size); have hz6 : wr.heap.size ≤ w6.heap.size := B6.out.size; obtain ⟨hc6, hf6⟩ := bcell hb6; have hs6 := hb6.size; (try simp only [World.size_alloc] at hc6 hf6 hs6); have B6A : Hid (AllB wr w6) := hideP (fun o => B6.out.alloc hz6 o); have B6S : Hid (SetB wr w6) := hideP (fun a b c d => (((B6.out.setCell (Nat.le_refl _) _).setCell (Nat.le_refl _) _).setCell (Nat.le_refl _) _).setCell (Nat.le_refl _) _); clear hb6))
        · obtain ⟨W7, hW7⟩ : ∃ W, W = w6.alloc (Obj.cells #[Value.int IntKind.i64 ga, Value.int IntKind.i64 gb, Value.int IntKind.i64 gc, Value.int IntKind.i64 gd] 39) := ⟨_, rfl⟩
          rw [← hW7]
          have b7 : Below wr.heap.size wr W7 := by rw [hW7]; exact B6A.out _
          have u1 : W7.cell? ⟨w6.heap.size, 1, none⟩ = some (.int .i64 gb) := by rw [hW7]; simp [go_sem]
          have u2 : W7.cell? ⟨w6.heap.size, 2, none⟩ = some (.int .i64 gc) := by rw [hW7]; simp [go_sem]
          have u3 : W7.cell? ⟨w6.heap.size, 3, none⟩ = some (.int .i64 gd) := by rw [hW7]; simp [go_sem]
          have hLn : ¬ w6.heap.size = w1.heap.size := by omega
          have hLn2 : ¬ w1.heap.size = w6.heap.size := by omega
          have HP7 := hideP (QP.out W7 b7)
          have v0 : W7.cell? ⟨w1.heap.size, 0, none⟩ = some (.int .i64 sa) := by rw [cell_of_row _ _ _ _ _ _ HP7.out.1]; rfl
          have v1 : W7.cell? ⟨w1.heap.size, 1, none⟩ = some (.int .i64 sb) := by rw [cell_of_row _ _ _ _ _ _ HP7.out.1]; rfl
          have v2 : W7.cell? ⟨w1.heap.size, 2, none⟩ = some (.int .i64 sc) := by rw [cell_of_row _ _ _ _ _ _ HP7.out.1]; rfl
          have vz : ∀ j, W7.frozen? ⟨w1.heap.size, j, none⟩ = false := fun j => frozen_of_row _ _ _ _ _ HP7.out.1
          have h7 := HP7.out.1
          have H7 := hideP (heap_setCell_same W7 _ 0 _ 55 (.int .i64 (wrap64 (sa + gb))) h7)
          clear hW7 b7 hc6 hf6 hs6 hz6 q0 q1 q2 fz B6 B6A B6S Q BD BDA h7 CGx
          have HT2 : Hid (stp gs (szL gs (O.take k)) (pcc, pk) = ⟨wrap64 (sa + gb), mxI sb gc, mxI sc gd⟩) := hideP (by rw [← HE.out]; exact HST.out)
          by_cases t1 : sb < gc
          · by_cases t2 : sc < gd
            · go_wp2
              exact ⟨⟨k + 1, ⟨wrap64 (sa + gb), gc, gd⟩, by omega, by go_num, hideP ⟨heap_setCell_same _ _ 2 _ 55 _ (heap_setCell_same _ _ 1 _ 55 _ H7.out), ((HP7.out.2.setCell (Nat.le_refl _) _).setCell (Nat.le_refl _) _).setCell (Nat.le_refl _) _⟩, hideP (by rw [HTK.out, szL_snoc, HT2.out]; simp only [mxI, S3.mk.injEq, true_and]; exact ⟨by rw [if_pos t1], by rw [if_pos t2]⟩)⟩, by simp [intOf]; omega⟩
            · go_wp2
              exact ⟨⟨k + 1, ⟨wrap64 (sa + gb), gc, sc⟩, by omega, by go_num, hideP ⟨heap_setCell_same _ _ 1 _ 55 _ H7.out, (HP7.out.2.setCell (Nat.le_refl _) _).setCell (Nat.le_refl _) _⟩, hideP (by rw [HTK.out, szL_snoc, HT2.out]; simp only [mxI, S3.mk.injEq, true_and]; exact ⟨by rw [if_pos t1], by rw [if_neg t2]⟩)⟩, by simp [intOf]; omega⟩
          · by_cases t2 : sc < gd
            · go_wp2
              exact ⟨⟨k + 1, ⟨wrap64 (sa + gb), sb, gd⟩, by omega, by go_num, hideP ⟨heap_setCell_same _ _ 2 _ 55 _ H7.out, (HP7.out.2.setCell (Nat.le_refl _) _).setCell (Nat.le_refl _) _⟩, hideP (by rw [HTK.out, szL_snoc, HT2.out]; simp only [mxI, S3.mk.injEq, true_and]; exact ⟨by rw [if_neg t1], by rw [if_pos t2]⟩)⟩, by simp [intOf]; omega⟩
            · go_wp2
              exact ⟨⟨k + 1, ⟨wrap64 (sa + gb), sb, sc⟩, by omega, by go_num, hideP ⟨H7.out, HP7.out.2.setCell (Nat.le_refl _) _⟩, hideP (by rw [HTK.out, szL_snoc, HT2.out]; simp only [mxI, S3.mk.injEq, true_and]; exact ⟨by rw [if_neg t1], by rw [if_neg t2]⟩)⟩, by simp [intOf]; omega⟩
        · obtain ⟨W7, hW7⟩ : ∃ W, W = (((w6.setCell { block := wr.heap.size, off := 0 } (Value.int IntKind.i64 ga)).setCell { block := wr.heap.size, off := 1 } (Value.int IntKind.i64 gb)).setCell { block := wr.heap.size, off := 2 } (Value.int IntKind.i64 gc)).setCell { block := wr.heap.size, off := 3 } (Value.int IntKind.i64 gd) := ⟨_, rfl⟩
          rw [← hW7]
          have b7 : Below wr.heap.size wr W7 := by rw [hW7]; exact B6S.out _ _ _ _
          have u1 : W7.cell? ⟨wr.heap.size, 1, none⟩ = some (.int .i64 gb) := by rw [hW7]; simp [go_sem, hc6, hs6]
          have u2 : W7.cell? ⟨wr.heap.size, 2, none⟩ = some (.int .i64 gc) := by rw [hW7]; simp [go_sem, hc6, hs6]
          have u3 : W7.cell? ⟨wr.heap.size, 3, none⟩ = some (.int .i64 gd) := by rw [hW7]; simp [go_sem, hc6, hs6]
          have hLn : ¬ wr.heap.size = w1.heap.size := by omega
          have hLn2 : ¬ w1.heap.size = wr.heap.size := by omega
          have HP7 := hideP (QP.out W7 b7)
          have v0 : W7.cell? ⟨w1.heap.size, 0, none⟩ = some (.int .i64 sa) := by rw [cell_of_row _ _ _ _ _ _ HP7.out.1]; rfl
          have v1 : W7.cell? ⟨w1.heap.size, 1, none⟩ = some (.int .i64 sb) := by rw [cell_of_row _ _ _ _ _ _ HP7.out.1]; rfl
          have v2 : W7.cell? ⟨w1.heap.size, 2, none⟩ = some (.int .i64 sc) := by rw [cell_of_row _ _ _ _ _ _ HP7.out.1]; rfl
          have vz : ∀ j, W7.frozen? ⟨w1.heap.size, j, none⟩ = false := fun j => frozen_of_row _ _ _ _ _ HP7.out.1
          have h7 := HP7.out.1
          have H7 := hideP (heap_setCell_same W7 _ 0 _ 55 (.int .i64 (wrap64 (sa + gb))) h7)
          clear hW7 b7 hc6 hf6 hs6 hz6 q0 q1 q2 fz B6 B6A B6S Q BD BDA h7 CGx
          have HT2 : Hid (stp gs (szL gs (O.take k)) (pcc, pk) = ⟨wrap64 (sa + gb), mxI sb gc, mxI sc gd⟩) := hideP (by rw [← HE.out]; exact HST.out)
          by_cases t1 : sb < gc
          · by_cases t2 : sc < gd
            · go_wp2
              exact ⟨⟨k + 1, ⟨wrap64 (sa + gb), gc, gd⟩, by omega, by go_num, hideP ⟨heap_setCell_same _ _ 2 _ 55 _ (heap_setCell_same _ _ 1 _ 55 _ H7.out), ((HP7.out.2.setCell (Nat.le_refl _) _).setCell (Nat.le_refl _) _).setCell (Nat.le_refl _) _⟩, hideP (by rw [HTK.out, szL_snoc, HT2.out]; simp only [mxI, S3.mk.injEq, true_and]; exact ⟨by rw [if_pos t1], by rw [if_pos t2]⟩)⟩, by simp [intOf]; omega⟩
            · go_wp2
              exact ⟨⟨k + 1, ⟨wrap64 (sa + gb), gc, sc⟩, by omega, by go_num, hideP ⟨heap_setCell_same _ _ 1 _ 55 _ H7.out, (HP7.out.2.setCell (Nat.le_refl _) _).setCell (Nat.le_refl _) _⟩, hideP (by rw [HTK.out, szL_snoc, HT2.out]; simp only [mxI, S3.mk.injEq, true_and]; exact ⟨by rw [if_pos t1], by rw [if_neg t2]⟩)⟩, by simp [intOf]; omega⟩
          · by_cases t2 : sc < gd
            · go_wp2
              exact ⟨⟨k + 1, ⟨wrap64 (sa + gb), sb, gd⟩, by omega, by go_num, hideP ⟨heap_setCell_same _ _ 2 _ 55 _ H7.out, (HP7.out.2.setCell (Nat.le_refl _) _).setCell (Nat.le_refl _) _⟩, hideP (by rw [HTK.out, szL_snoc, HT2.out]; simp only [mxI, S3.mk.injEq, true_and]; exact ⟨by rw [if_neg t1], by rw [if_pos t2]⟩)⟩, by simp [intOf]; omega⟩
            · go_wp2
              exact ⟨⟨k + 1, ⟨wrap64 (sa + gb), sb, sc⟩, by omega, by go_num, hideP ⟨H7.out, HP7.out.2.setCell (Nat.le_refl _) _⟩, hideP (by rw [HTK.out, szL_snoc, HT2.out]; simp only [mxI, S3.mk.injEq, true_and]; exact ⟨by rw [if_neg t1], by rw [if_neg t2]⟩)⟩, by simp [intOf]; omega⟩
    · have hki : ¬ (k : Int) < (n : Int) := by omega
      have HQ : Hid ((⟨sa, sb, sc⟩ : S3) = ⟨oa, ob, oc⟩) := hideP (by rw [HE.out, HO.out, List.take_of_length_le (by rw [← HN.out]; omega)])
      have he := HQ.out
      simp only [S3.mk.injEq] at he
      obtain ⟨rfl, rfl, rfl⟩ := he
      have hqr : wr.heap[w.heap.size + 1]? = some (.cells #[.int .i64 0, .int .i64 0, .int .i64 0] 55 (0, 0)) := (HS.out.2.block _ hz1).trans QR.out
      have r0 : wr.cell? ⟨w.heap.size + 1, 0, none⟩ = some (.int .i64 0) := by rw [cell_of_row _ _ _ _ _ _ hqr]; rfl
      have r1 : wr.cell? ⟨w.heap.size + 1, 1, none⟩ = some (.int .i64 0) := by rw [cell_of_row _ _ _ _ _ _ hqr]; rfl
      have r2 : wr.cell? ⟨w.heap.size + 1, 2, none⟩ = some (.int .i64 0) := by rw [cell_of_row _ _ _ _ _ _ hqr]; rfl
      have fy : ∀ j, wr.frozen? ⟨w.heap.size + 1, j, none⟩ = false := fun j => frozen_of_row _ _ _ _ _ hqr
      clear hqr
      go_wp2
      refine bodyPost_ret (v := .agg #[.int .i64 sa, .int .i64 sb, .int .i64 sc]) (by simp [results, Try.results24, go_sem, q0, q1, q2, r0, r1, r2]) rfl ⟨rfl, ?_⟩
      have B9 := below_more B1.out HS.out.2 B1.out.size
      clear q0 q1 q2 fz fy r0 r1 r2
      repeat (first | with_reducible exact B9 | (with_reducible refine Below.setCell ?_ ?_ _; rotate_left; focus (first | (simp; done) | (simp; omega))))
end Go.Proofs.Ytggcfgbpameppaa
