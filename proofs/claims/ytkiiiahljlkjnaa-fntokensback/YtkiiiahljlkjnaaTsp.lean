/-
  The specification's Tokenize.
-/
import Derived.OwnWalk
import Derived.Maps.AppendAt
import Derived.Test.YtkiiiahljlkjnaaTkp
namespace Go.Proofs.Ytkiiiahljlkjnaa
open Go.RowKit Go.Maps
set_option linter.unusedVariables false
set_option linter.unusedSimpArgs false

theorem ownG_shape {w : World} {base e size n : Nat} {v : Value} {xs : List Value} (h : w.ownsRow base e size v n xs) : ∃ a c, v = .slice a n c := by
  rcases h.2 with ⟨rfl, rfl⟩ | ⟨g, cap, cur, rfl, _⟩
  · exact ⟨_, _, rfl⟩
  · exact ⟨_, _, rfl⟩
theorem own_same {w w' : World} {base e size n : Nat} {v : Value} {xs : List Value} (h : w.ownsRow base e size v n xs) (hs : ∀ g, v.ownBlock = some g → w'.heap[g]? = w.heap[g]?) : w'.ownsRow base e size v n xs := by
  obtain ⟨hl, hr⟩ := h
  refine ⟨hl, ?_⟩
  rcases hr with h1 | ⟨g, cap, cur, rfl, h2, h3, h4⟩
  · exact Or.inl h1
  · exact Or.inr ⟨g, cap, cur, rfl, h2, (hs g rfl).trans h3, h4⟩
theorem own_below {w w' : World} {base e size n : Nat} {v : Value} {xs : List Value} (h : w.ownsRow base e size v n xs) (hb : Below w.heap.size w w') : w'.ownsRow base e size v n xs := own_same h (fun g hg => hb.block _ (h.lt g hg).2)
theorem flat_snoc (ts : List Tk) (c h : Int) (n : ByteArray) : flat (ts ++ [⟨c, h, n⟩]) = flat ts ++ [.int .i64 c, .int .i64 h, .string n] := by rw [flat_app]; rfl
theorem newT (w : World) (a b c : Value) (t : TypeId) : ∀ j u, [a, b, c][j]? = some u → (w.alloc (.cells #[a, b, c] t)).cell? ((⟨w.heap.size, 0, none⟩ : Addr).add j) = some u := by
  intro j u hj
  match j, hj with
  | 0, hj => simp at hj; subst hj; simp [Addr.add, go_sem]
  | 1, hj => simp at hj; subst hj; simp [Addr.add, go_sem]
  | 2, hj => simp at hj; subst hj; simp [Addr.add, go_sem]
theorem oneT (a b : Int) (c : ByteArray) : ∀ u ∈ [Value.int .i64 a, .int .i64 b, .string c], u.oneCell' = true := by
  intro u hu
  simp at hu
  rcases hu with rfl | rfl | rfl <;> rfl
theorem set6 {W : World} {P t : Nat} {a b c d e f : Value} (h : W.heap[P]? = some (.cells #[a, b, c, d, e, f] t (0, 0))) (a' b' c' d' e' f' : Value) : ((((((W.setCell ⟨P, 0, none⟩ a').setCell ⟨P, 1, none⟩ b').setCell ⟨P, 2, none⟩ c').setCell ⟨P, 3, none⟩ d').setCell ⟨P, 4, none⟩ e').setCell ⟨P, 5, none⟩ f').heap[P]? = some (.cells #[a', b', c', d', e', f'] t (0, 0)) :=
  heap_setCell_same _ P 5 _ t f' (heap_setCell_same _ P 4 _ t e' (heap_setCell_same _ P 3 _ t d' (heap_setCell_same _ P 2 _ t c' (heap_setCell_same _ P 1 _ t b' (heap_setCell_same W P 0 _ t a' h)))))
theorem set6_other {W : World} {P g : Nat} (hg : g ≠ P) (a b c d e f : Value) : ((((((W.setCell ⟨P, 0, none⟩ a).setCell ⟨P, 1, none⟩ b).setCell ⟨P, 2, none⟩ c).setCell ⟨P, 3, none⟩ d).setCell ⟨P, 4, none⟩ e).setCell ⟨P, 5, none⟩ f).heap[g]? = W.heap[g]? := by
  rw [Below.heap_setCell _ _ _ _ (by simpa using hg), Below.heap_setCell _ _ _ _ (by simpa using hg), Below.heap_setCell _ _ _ _ (by simpa using hg), Below.heap_setCell _ _ _ _ (by simpa using hg), Below.heap_setCell _ _ _ _ (by simpa using hg), Below.heap_setCell _ _ _ _ (by simpa using hg)]

/-- What stands between two rounds. -/
structure TInv (w wr : World) (u : Value) (acc : List Tk) (x : Sc) : Prop where
  own : wr.ownsRow w.heap.size 34 3 u acc.length (flat acc)
  blk : wr.heap[w.heap.size + 1]? = some (.cells #[.int .i64 x.k, .int .i64 x.c, .int .i64 x.h, .string x.n, .int .i64 x.a, .int .i64 x.s] 36 (0, 0))
  off : u.ownBlock ≠ some (w.heap.size + 1)
  bel : Below w.heap.size w wr
section
variable {w wr w' : World} {u u' : Value} {acc : List Tk} {x : Sc}
theorem TInv.lt (h : TInv w wr u acc x) : w.heap.size + 1 < wr.heap.size := (Array.getElem?_eq_some_iff.1 h.blk).1
theorem TInv.own' {m : Nat} (h : TInv w wr u acc x) (hm : m = acc.length) : wr.ownsRow w.heap.size 34 3 u m (flat acc) := by rw [hm]; exact h.own
theorem TInv.below (h : TInv w wr u acc x) (hb : Below wr.heap.size wr w') : TInv w w' u acc x := ⟨own_below h.own hb, (hb.block _ h.lt).trans h.blk, h.off, below_more h.bel hb h.bel.size⟩
theorem TInv.at (h : TInv w wr u acc x) : wr.cell? ⟨w.heap.size + 1, 0, none⟩ = some (.int .i64 x.k) ∧ wr.cell? ⟨w.heap.size + 1, 1, none⟩ = some (.int .i64 x.c) ∧ wr.cell? ⟨w.heap.size + 1, 2, none⟩ = some (.int .i64 x.h) ∧ wr.cell? ⟨w.heap.size + 1, 3, none⟩ = some (.string x.n) ∧ wr.cell? ⟨w.heap.size + 1, 4, none⟩ = some (.int .i64 x.a) ∧ wr.cell? ⟨w.heap.size + 1, 5, none⟩ = some (.int .i64 x.s) ∧ ∀ j, wr.frozen? ⟨w.heap.size + 1, j, none⟩ = false :=
  ⟨by rw [cell_of_row _ _ _ _ _ _ h.blk]; rfl, by rw [cell_of_row _ _ _ _ _ _ h.blk]; rfl, by rw [cell_of_row _ _ _ _ _ _ h.blk]; rfl, by rw [cell_of_row _ _ _ _ _ _ h.blk]; rfl, by rw [cell_of_row _ _ _ _ _ _ h.blk]; rfl, by rw [cell_of_row _ _ _ _ _ _ h.blk]; rfl, fun j => frozen_of_row _ _ _ _ _ h.blk⟩
theorem TInv.set (h : TInv w wr u acc x) (y : Sc) : TInv w ((((((wr.setCell ⟨w.heap.size + 1, 0, none⟩ (.int .i64 y.k)).setCell ⟨w.heap.size + 1, 1, none⟩ (.int .i64 y.c)).setCell ⟨w.heap.size + 1, 2, none⟩ (.int .i64 y.h)).setCell ⟨w.heap.size + 1, 3, none⟩ (.string y.n)).setCell ⟨w.heap.size + 1, 4, none⟩ (.int .i64 y.a)).setCell ⟨w.heap.size + 1, 5, none⟩ (.int .i64 y.s)) u acc y :=
  ⟨own_same h.own (fun g hg => set6_other (fun e => h.off (by rw [hg, e])) _ _ _ _ _ _), set6 h.blk _ _ _ _ _ _, h.off, (((((h.bel.setCell (Nat.le_succ _) _).setCell (Nat.le_succ _) _).setCell (Nat.le_succ _) _).setCell (Nat.le_succ _) _).setCell (Nat.le_succ _) _).setCell (Nat.le_succ _) _⟩
theorem TInv.put {c h' : Int} {n : ByteArray} {o : Obj} (h : TInv w wr u acc x) (ho : w'.ownsRow w.heap.size 34 3 u' (acc.length + 1) (flat acc ++ [.int .i64 c, .int .i64 h', .string n])) (hg : (wr.alloc o).grownBy w' u.ownBlock) (hat : u'.ownBlock = u.ownBlock ∨ u'.ownBlock = some (wr.alloc o).heap.size) : TInv w w' u' (acc ++ [⟨c, h', n⟩]) x := by
  have hz := h.lt
  refine ⟨by rw [flat_snoc, List.length_append]; exact ho, ?_, ?_, Below.grown (h.bel.alloc h.bel.size o) hg (by simp; have := h.bel.size; omega) (fun j hj => (h.own.lt j hj).1)⟩
  · rw [hg.block _ (by simp; omega) (fun e => h.off e.symm)]
    exact ((below1 wr o).block _ hz).trans h.blk
  · rcases hat with e | e
    · rw [e]; exact h.off
    · rw [e]
      intro e2
      simp at e2
      omega
end

set_option maxRecDepth 20000 in
set_option maxHeartbeats 8000000 in
theorem specTokenize_any {v : Value} {zs : List Int} {s : ByteArray} {w : World} (h : Row w v zs) (hs : s.size ≤ 9223372036854775807) :
    Calls Try.prog 18 #[v, .string s] w fun e w' => (∃ u, e = .returned (.tuple #[u, .int .i64 (tokS zs s).2]) ∧ w'.ownsRow w.heap.size 34 3 u (tokS zs s).1.length (flat (tokS zs s).1)) ∧ Below w.heap.size w w' := by
  obtain ⟨i1, hi, hz0, hz1, hz2⟩ := info_parts Try.info34
  have OWN0 : Hid ((w.alloc (.cells #[] 34)).ownsRow w.heap.size 34 3 (.slice (some ⟨w.heap.size, 0, none⟩) 0 0) 0 []) := hideP ⟨rfl, Or.inr ⟨w.heap.size, 0, #[], rfl, Nat.le_refl _, heap_alloc_new _ _, Nat.le_refl _, by unfold maxLen; omega, rfl, rfl⟩⟩
  have CC : Hid (∀ W, Below w.heap.size w W → Calls Try.prog 34 #[v] W fun e w' => e = .returned (.bool (catsB zs)) ∧ w' = W) := hideP (fun W hW => specCatsOk_any (h.below hW))
  have HR := hideP h
  obtain ⟨ao, n, cap, rfl, hn, _⟩ := h
  clear hn
  obtain ⟨R, hR⟩ : ∃ R, R = tokS zs s := ⟨_, rfl⟩
  rw [← hR]
  have HRE := hideP hR
  clear hR
  go_enter Try.func18, Try.ntmps18
  go_wp2_with fail
  refine (CC.out _ (below1 _ _)).mono ?_
  rintro e w1 ⟨rfl, rfl⟩
  obtain ⟨C, hC⟩ : ∃ C, C = catsB zs := ⟨_, rfl⟩
  rw [← hC]
  have HC := hideP hC
  clear hC
  cases C with
  | false =>
    have HE : Hid (R = ([], -2)) := hideP (by rw [HRE.out]; unfold tokS; rw [if_neg (by rw [← HC.out]; simp)])
    go_wp2
    refine bodyPost_ret (results_tmp2 rfl _ _ _) rfl ?_
    rw [HE.out]
    exact ⟨⟨_, rfl, OWN0.out⟩, below1 _ _⟩
  | true =>
    by_cases k1 : 65536 < (s.size : Int)
    · have k2 : decide (65536 < (s.size : Int)) = true := by simp; omega
      have HE : Hid (R = ([], -2)) := hideP (by rw [HRE.out]; unfold tokS; rw [if_neg (by omega)])
      go_wp2
      refine bodyPost_ret (results_tmp2 rfl _ _ _) rfl ?_
      rw [HE.out]
      exact ⟨⟨_, rfl, OWN0.out⟩, below1 _ _⟩
    have k2 : decide (65536 < (s.size : Int)) = false := by simp; omega
    have k3 : s.size ≤ 65536 := by omega
    have HE : Hid (R = tks zs s 0 0) := hideP (by rw [HRE.out]; unfold tokS; rw [if_pos ⟨HC.out.symm, k3⟩])
    have HZ := hideP (catsB_256 HC.out.symm)
    have CN : Hid (∀ W (a : Nat) st, Below w.heap.size w W → a ≤ s.size → Calls Try.prog 35 #[.slice ao n cap, .string s, .int .i64 (a : Int), .int .i64 st] W fun e w' => e = .returned (scV (nxt zs s a st)) ∧ Below W.heap.size W w') := hideP (fun W a st hW ha => l2Next_any (HR.out.below hW) HZ.out k3 ha)
    have J0 : Hid (TInv w ((w.alloc (.cells #[] 34)).alloc (.cells #[.int .i64 0, .int .i64 0, .int .i64 0, .string ByteArray.empty, .int .i64 0, .int .i64 0] 36)) (.slice (some ⟨w.heap.size, 0, none⟩) 0 0) [] ⟨0, 0, 0, ByteArray.empty, 0, 0⟩) := hideP ⟨OWN0.out.alloc _, by have h := heap_alloc_new (w.alloc (.cells #[] 34)) (.cells #[.int .i64 0, .int .i64 0, .int .i64 0, .string ByteArray.empty, .int .i64 0, .int .i64 0] 36); rw [World.size_alloc] at h; exact h, by simp [Value.ownBlock], below2 _ _ _⟩
    clear OWN0 HRE HR CC
    go_wp2
    go_loopw [6] (fun u wr => ∃ (acc : List Tk) (x : Sc) (a : Nat), Hid (TInv w wr u acc x) ∧ x.a = a ∧ a ≤ s.size ∧ Hid (R = (acc ++ (tks zs s a x.s).1, (tks zs s a x.s).2)) ∧ Hid (acc.length ≤ a)) (fun _ wr => s.size - (intOf ((wr.cell? ⟨w.heap.size + 1, 4, none⟩).getD undef)).toNat)
    case atStart => exact ⟨[], _, 0, J0, rfl, by omega, hideP HE.out, hideP (by simp)⟩
    case round =>
      clear J0 HE
      obtain ⟨acc, x, a, HJ, hxa, hal, HR, HL⟩ := hrel
      obtain ⟨m, hm⟩ : ∃ m, m = acc.length := ⟨_, rfl⟩
      have HM := hideP hm
      obtain ⟨au, cu, rfl⟩ := ownG_shape HJ.out.own
      obtain ⟨p0, p1, p2, p3, p4, p5, fz⟩ := HJ.out.at
      have hzP := HJ.out.lt
      have hml : m ≤ 65536 := by rw [hm]; have := HL.out; omega
      rw [← hm] at HJ ⊢
      clear hm
      rw [hxa] at p4
      have MU : Hid (s.size - (intOf ((wr.cell? ⟨w.heap.size + 1, 4, none⟩).getD undef)).toNat = s.size - a) := hideP (by rw [p4]; simp [intOf])
      have PL := nxt_place zs s (s.size - a) a x.s hal (Nat.le_refl _)
      have ST := hideP (tks_step (zs := zs) (st := x.s) hal)
      have CX := hideP (CN.out wr a x.s HJ.out.bel hal)
      obtain ⟨y, hy⟩ : ∃ y, y = nxt zs s a x.s := ⟨_, rfl⟩
      rw [← hy] at PL ST CX
      clear hy hxa
      obtain ⟨xk, xc, xh, xn, xa, xs⟩ := x
      obtain ⟨yk, yc, yh, yn, ya, ys⟩ := y
      obtain ⟨q1, b, q2, q3, q4⟩ := PL
      simp only at q1 q2 q4
      subst q2
      simp only [scV] at CX
      simp only at ST p0 p1 p2 p3 p4 p5 HR
      go_wp2_with fail
      refine CX.out.mono ?_
      rintro e w2 ⟨rfl, hb2⟩
      have J2 := hideP (HJ.out.below hb2)
      clear hb2 p0 p1 p2 p3 p4 p5 fz hzP
      obtain ⟨p0, p1, p2, p3, p4, p5, fz⟩ := J2.out.at
      simp only at p0 p1 p2 p3 p4 p5
      have hzP := J2.out.lt
      have f0 := fz 0
      have f1 := fz 1
      have f2 := fz 2
      have f3 := fz 3
      have f4 := fz 4
      have f5 := fz 5
      clear fz
      by_cases y0 : yk = 0
      · subst y0
        have RE : Hid (R = (acc, -1)) := hideP (by
          have h := HR.out
          rw [ST.out, if_pos rfl] at h
          simpa using h)
        go_wp2
        refine bodyPost_ret (results_tmp2 rfl _ _ _) rfl ?_
        rw [RE.out]
        have J3 := J2.out.set ⟨0, yc, yh, yn, b, ys⟩
        exact ⟨⟨_, rfl, TInv.own' J3 rfl⟩, J3.bel⟩
      have y0b : (yk == 0) = false := by simp [y0]
      have y0d : decide (yk = 0) = false := by simp [y0]
      have q5 := q4 y0
      by_cases y2 : yk = 2
      · subst y2
        have RE : Hid (R = (acc, (b : Int) - 1)) := hideP (by
          have h := HR.out
          rw [ST.out, if_neg (by simp), if_pos rfl] at h
          simpa using h)
        have J3 := hideP (TInv.below (J2.out.set ⟨2, yc, yh, yn, b, ys⟩) ((Below.refl _ _).drew))
        go_wp2
        go_region
        go_wp2
        refine bodyPost_ret (results_tmp2 rfl _ _ _) rfl ?_
        rw [RE.out]
        have J4 := J3.out
        exact ⟨⟨_, rfl, J4.own⟩, J4.bel⟩
      have y2b : (yk == 2) = false := by simp [y2]
      have y2d : decide (yk = 2) = false := by simp [y2]
      obtain ⟨W3, hW3⟩ : ∃ W, W = (((((w2.setCell ⟨w.heap.size + 1, 0, none⟩ (.int .i64 yk)).setCell ⟨w.heap.size + 1, 1, none⟩ (.int .i64 yc)).setCell ⟨w.heap.size + 1, 2, none⟩ (.int .i64 yh)).setCell ⟨w.heap.size + 1, 3, none⟩ (.string yn)).setCell ⟨w.heap.size + 1, 4, none⟩ (.int .i64 (b : Int))).setCell ⟨w.heap.size + 1, 5, none⟩ (.int .i64 ys) := ⟨_, rfl⟩
      have J3 : Hid (TInv w W3 (.slice au m cu) acc ⟨yk, yc, yh, yn, b, ys⟩) := hideP (by rw [hW3]; exact J2.out.set ⟨yk, yc, yh, yn, b, ys⟩)
      have hs3 : w2.heap.size = W3.heap.size := by rw [hW3]; simp
      have RE : Hid (R = ((acc ++ [⟨yc, yh, yn⟩]) ++ (tks zs s b ys).1, (tks zs s b ys).2)) := hideP (by
        have h := HR.out
        rw [ST.out, if_neg (by simpa using y0), if_neg (by simpa using y2)] at h
        simpa [tkOf] using h)
      have hz3 := J3.out.lt
      have HW3 := hideP hW3
      have HS3 := hideP hs3
      clear hW3 hs3
      go_wp2_with (at_builtin; refine Hid.out ?_)
      refine hideP ?_
      rw [← HW3.out]
      try rw [HS3.out]
      refine wpList_append_own_at _ rfl (.tmp 37) (.tmp 40) 27 rfl w.heap.size 34 i1 (.agg #[.int .i64 0, .int .i64 0, .string ByteArray.empty]) 3 32 Try.underlying27 hi hz0 hz1 hz2 rfl (by decide) (.slice au m cu) m (flat acc) (by rfl) (World.ownsRow.alloc (TInv.own' J3.out HM.out) _) ⟨W3.heap.size, 0, none⟩ 1 1 [.int .i64 yc, .int .i64 yh, .string yn] (by rfl) rfl (newT _ _ _ _ _) (oneT _ _ _) (by unfold maxLen; omega) (by omega) (by simp; omega) ?_
      intro v6 w6 ho6 hg6 hn6 hat6
      have J6' := hideP (J3.out.put (by rw [← HM.out]; exact ho6) hg6 hat6)
      obtain ⟨a6, c6, rfl⟩ := ownG_shape ho6
      have J6 : Hid (TInv w w6 (.slice a6 (m + 1) c6) (acc ++ [⟨yc, yh, yn⟩]) ⟨yk, yc, yh, yn, b, ys⟩) := J6'
      have p46 := J6.out.at.2.2.2.2.1
      have MU2 : Hid (s.size - (intOf ((w6.cell? ⟨w.heap.size + 1, 4, none⟩).getD undef)).toNat < s.size - (intOf ((wr.cell? ⟨w.heap.size + 1, 4, none⟩).getD undef)).toNat) := hideP (by
        rw [MU.out, p46]
        simp only [Option.getD_some, intOf]
        omega)
      have HM6 := HM
      clear ho6 hg6 hn6 hat6 J6' p46 HS3 HW3 p0 p1 p2 p3 p4 p5 f0 f1 f2 f3 f4 f5 J2 hzP hz3 J3
      go_wp2
      go_roundw
      case rel => exact ⟨acc ++ [⟨yc, yh, yn⟩], ⟨yk, yc, yh, yn, b, ys⟩, b, J6, rfl, q3, RE, hideP (by simp only [List.length_append, List.length_singleton]; have := HL.out; omega)⟩
      case measure => exact MU2.out
end Go.Proofs.Ytkiiiahljlkjnaa
