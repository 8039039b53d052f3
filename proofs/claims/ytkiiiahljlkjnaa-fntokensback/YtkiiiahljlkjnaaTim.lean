/-
  The program's Tokenize.
-/
import Derived.Test.YtkiiiahljlkjnaaTsp
import Derived.Test.YtkiiiahljlkjnaaNin
namespace Go.Proofs.Ytkiiiahljlkjnaa
open Go.RowKit Go.Maps
set_option linter.unusedVariables false
set_option linter.unusedSimpArgs false

theorem own_ty {W : World} {base n g ty : Nat} {v : Value} {xs : List Value} {cs : Array Value} (h : W.ownsRow base 34 3 v n xs) (hk : W.heap[g]? = some (.cells cs ty (0, 0))) (hne : ty ≠ 34) : v.ownBlock ≠ some g := by
  intro hb
  rcases h.2 with ⟨rfl, _⟩ | ⟨g1, cap1, cur1, rfl, _, k1, _⟩
  · cases hb
  · simp only [Value.ownBlock, Option.some.injEq] at hb
    subst hb
    rw [k1] at hk
    simp only [Option.some.injEq, Obj.cells.injEq] at hk
    exact hne hk.2.1.symm
/-- What stands between two rounds. -/
structure IInv (w wr : World) (u : Value) (acc : List Tk) (g t : Nat) (zs : List Int) (s : ByteArray) (a st : Int) : Prop where
  rd : Rdr wr g t w.heap.size zs s a st
  own : wr.ownsRow w.heap.size 34 3 u acc.length (flat acc)
  bel : Below w.heap.size w wr
section
variable {w wr w' : World} {u u' : Value} {acc : List Tk} {g t : Nat} {zs : List Int} {s : ByteArray} {a st : Int}
theorem IInv.own' {m : Nat} (h : IInv w wr u acc g t zs s a st) (hm : m = acc.length) : wr.ownsRow w.heap.size 34 3 u m (flat acc) := by rw [hm]; exact h.own
theorem IInv.offg (h : IInv w wr u acc g t zs s a st) : u.ownBlock ≠ some g := own_ty h.own h.rd.rd (by decide)
theorem IInv.offt (h : IInv w wr u acc g t zs s a st) : u.ownBlock ≠ some t := own_ty h.own h.rd.tb (by decide)
theorem IInv.below (h : IInv w wr u acc g t zs s a st) (hb : Below wr.heap.size wr w') : IInv w w' u acc g t zs s a st := ⟨h.rd.below hb, own_below h.own hb, below_more h.bel hb h.bel.size⟩
theorem IInv.next {a' st' : Int} (h : IInv w wr u acc g t zs s a st) (hg : Gr g wr.heap.size wr w') (hr : Rdr w' g t w.heap.size zs s a' st') : IInv w w' u acc g t zs s a' st' :=
  ⟨hr, own_same h.own (fun q hq => hg.block q (h.own.lt q hq).2 (fun e => h.offg (by rw [hq, e]))), h.bel.trans (hg.to_below h.bel.size h.rd.lg)⟩
theorem IInv.put {c h' : Int} {n : ByteArray} {o : Obj} (h : IInv w wr u acc g t zs s a st) (ho : w'.ownsRow w.heap.size 34 3 u' (acc.length + 1) (flat acc ++ [.int .i64 c, .int .i64 h', .string n])) (hg : (wr.alloc o).grownBy w' u.ownBlock) : IInv w w' u' (acc ++ [⟨c, h', n⟩]) g t zs s a st := by
  have hz := h.rd.inn
  have ht := h.rd.tb.lt
  refine ⟨h.rd.heap ?_ ?_, by rw [flat_snoc, List.length_append]; exact ho, Below.grown (h.bel.alloc h.bel.size o) hg (by simp; have := h.bel.size; omega) (fun j hj => (h.own.lt j hj).1)⟩
  · rw [hg.block _ (by simp; omega) (fun e => h.offg e.symm)]
    exact (below1 wr o).block _ hz
  · rw [hg.block _ (by simp; omega) (fun e => h.offt e.symm)]
    exact (below1 wr o).block _ ht
end

set_option maxRecDepth 20000 in
set_option maxHeartbeats 8000000 in
theorem implTokenize_any {v : Value} {zs : List Int} {s : ByteArray} {w : World} (h : Row w v zs) :
    Calls Try.prog 9 #[v, .string s] w fun e w' => (∃ u, e = .returned (.tuple #[u, .int .i64 (tokS zs s).2]) ∧ w'.ownsRow w.heap.size 34 3 u (tokS zs s).1.length (flat (tokS zs s).1)) ∧ Below w.heap.size w w' := by
  obtain ⟨i1, hi, hz0, hz1, hz2⟩ := info_parts Try.info34
  have OWN0 : Hid (∀ W : World, W.ownsRow w.heap.size 34 3 (.slice none 0 0) 0 []) := hideP (fun W => ⟨rfl, .inl ⟨rfl, rfl⟩⟩)
  obtain ⟨R, hR⟩ : ∃ R, R = tokS zs s := ⟨_, rfl⟩
  rw [← hR]
  have HRE := hideP hR
  clear hR
  by_cases hok : catsB zs = true ∧ s.size ≤ 65536
  · obtain ⟨k1, k3⟩ := hok
    have HE : Hid (R = tks zs s 0 0) := hideP (by rw [HRE.out]; unfold tokS; rw [if_pos ⟨k1, k3⟩])
    have HZ := hideP (catsB_256 k1)
    have CN : Hid (Calls Try.prog 28 #[v, .string s, .int .i64 0, .int .i64 0] w fun e w' => ∃ g t, e = .returned (.tuple #[.pointer (some ⟨g, 0, none⟩), .bool true]) ∧ Rdr w' g t w.heap.size zs s 0 0 ∧ Below w.heap.size w w') := hideP (newReader_yes h k1 k3 (by omega) (by omega) (by omega) (by omega))
    obtain ⟨ao, n, cap, rfl, hn, _⟩ := h
    clear hn HRE k1
    go_enter Try.func9, Try.ntmps9
    go_wp2_with fail
    refine CN.out.mono ?_
    rintro e w1 ⟨g, t, rfl, hr1, hb1⟩
    have J0 : Hid (IInv w w1 (.slice none 0 0) [] g t zs s ((0 : Nat) : Int) 0) := hideP ⟨hr1, OWN0.out _, hb1⟩
    clear hr1 hb1 CN OWN0
    go_wp2
    go_loopw [8] (fun u wr => ∃ (acc : List Tk) (a : Nat) (st : Int), Hid (IInv w wr u acc g t zs s (a : Int) st) ∧ a ≤ s.size ∧ Hid (R = (acc ++ (tks zs s a st).1, (tks zs s a st).2)) ∧ Hid (acc.length ≤ a)) (fun _ wr => s.size - (intOf ((wr.cell? ⟨g, 2, none⟩).getD undef)).toNat)
    case atStart => exact ⟨[], 0, 0, J0, by omega, hideP HE.out, hideP (by simp)⟩
    case round =>
      clear J0 HE
      obtain ⟨acc, a, st, HJ, hal, HR, HL⟩ := hrel
      obtain ⟨m, hm⟩ : ∃ m, m = acc.length := ⟨_, rfl⟩
      have HM := hideP hm
      obtain ⟨au, cu, rfl⟩ := ownG_shape HJ.out.own
      have hml : m ≤ 65536 := by rw [hm]; have := HL.out; omega
      rw [← hm] at HJ ⊢
      clear hm
      have MU : Hid (s.size - (intOf ((wr.cell? ⟨g, 2, none⟩).getD undef)).toNat = s.size - a) := hideP (by rw [HJ.out.rd.c2]; simp [intOf])
      have PL := nxt_place zs s (s.size - a) a st hal (Nat.le_refl _)
      have ST := hideP (tks_step (zs := zs) (st := st) hal)
      have CX := hideP (callsIn_wide.1 (next_in HJ.out.rd hal HZ.out k3))
      obtain ⟨y, hy⟩ : ∃ y, y = nxt zs s a st := ⟨_, rfl⟩
      rw [← hy] at PL ST CX
      clear hy
      obtain ⟨yk, yc, yh, yn, ya, ys⟩ := y
      obtain ⟨q1, b, q2, q3, q4⟩ := PL
      simp only at q1 q2 q4
      subst q2
      simp only [tkV] at CX
      simp only at ST
      go_wp2_with fail
      refine CX.out.mono ?_
      rintro e w2 ⟨rfl, hr2, hg2⟩
      have J2 := hideP (HJ.out.next hg2 hr2)
      have c2 := hr2.c2
      have hgi := hr2.inn
      clear hr2 hg2
      by_cases y1 : yk = 1
      · subst y1
        obtain ⟨W3, hW3⟩ : ∃ W, W = w2.alloc (.cells #[.int .i64 yc, .int .i64 yh, .string yn] 34) := ⟨_, rfl⟩
        have J3 : Hid (IInv w W3 (.slice au m cu) acc g t zs s (b : Int) ys) := hideP (by rw [hW3]; exact J2.out.below (below1 _ _))
        have hs3 : w2.heap.size + 1 = W3.heap.size := by rw [hW3]; simp
        have q5 := q4 (by simp)
        have RE : Hid (R = ((acc ++ [⟨yc, yh, yn⟩]) ++ (tks zs s b ys).1, (tks zs s b ys).2)) := hideP (by
          have h := HR.out
          rw [ST.out, if_neg (by simp), if_neg (by simp)] at h
          simpa [tkOf] using h)
        have hz3 : w.heap.size ≤ W3.heap.size := J3.out.bel.size
        have HW3 := hideP hW3
        have HS3 := hideP hs3
        clear hW3 hs3
        go_wp2_with (at_builtin; refine Hid.out ?_)
        refine hideP ?_
        rw [← HW3.out]
        try rw [HS3.out]
        refine wpList_append_own_at _ rfl (.tmp 28) (.tmp 30) 27 rfl w.heap.size 34 i1 (.agg #[.int .i64 0, .int .i64 0, .string ByteArray.empty]) 3 32 Try.underlying27 hi hz0 hz1 hz2 rfl (by decide) (.slice au m cu) m (flat acc) (by rfl) (World.ownsRow.alloc (IInv.own' J3.out HM.out) _) ⟨W3.heap.size, 0, none⟩ 1 1 [.int .i64 yc, .int .i64 yh, .string yn] (by rfl) rfl (newT _ _ _ _ _) (oneT _ _ _) (by unfold maxLen; omega) (by omega) (by simp; omega) ?_
        intro v6 w6 ho6 hg6 hn6 hat6
        have J6' := hideP (J3.out.put (by rw [← HM.out]; exact ho6) hg6)
        obtain ⟨a6, c6, rfl⟩ := ownG_shape ho6
        have J6 : Hid (IInv w w6 (.slice a6 (m + 1) c6) (acc ++ [⟨yc, yh, yn⟩]) g t zs s (b : Int) ys) := J6'
        have MU2 : Hid (s.size - (intOf ((w6.cell? ⟨g, 2, none⟩).getD undef)).toNat < s.size - (intOf ((wr.cell? ⟨g, 2, none⟩).getD undef)).toNat) := hideP (by
          rw [MU.out, J6.out.rd.c2]
          simp only [Option.getD_some, intOf]
          omega)
        clear ho6 hg6 hn6 hat6 J6' HS3 HW3 c2 J2 hz3 J3
        go_wp2
        go_roundw
        case rel => exact ⟨acc ++ [⟨yc, yh, yn⟩], b, ys, J6, q3, RE, hideP (by simp only [List.length_append, List.length_singleton]; have := HL.out; omega)⟩
        case measure => exact MU2.out
      have y1b : (yk == 1) = false := by simp [y1]
      have y1d : decide (yk = 1) = false := by simp [y1]
      by_cases y2 : yk = 2
      · subst y2
        have RE : Hid (R = (acc, (b : Int) - 1)) := hideP (by
          have h := HR.out
          rw [ST.out, if_neg (by simp), if_pos rfl] at h
          simpa using h)
        have q5 := q4 (by simp)
        have J3 := hideP ((J2.out.below (below1 w2 (.cells #[.int .i64 yc, .int .i64 yh, .string yn] 34))).below ((Below.refl _ _).drew))
        have hb16 : b ≤ 65536 := by omega
        have hg4 : ¬ g = w2.heap.size := by omega
        go_wp2
        go_region
        go_wp2
        refine bodyPost_ret (results_tmp2 rfl _ _ _) rfl ?_
        rw [RE.out]
        have J4 := J3.out
        exact ⟨⟨_, rfl, J4.own⟩, J4.bel⟩
      have y2b : (yk == 2) = false := by simp [y2]
      have y2d : decide (yk = 2) = false := by simp [y2]
      have y0 : yk = 0 := by omega
      subst y0
      have RE : Hid (R = (acc, -1)) := hideP (by
        have h := HR.out
        rw [ST.out, if_pos rfl] at h
        simpa using h)
      have J3 := hideP (J2.out.below (below1 w2 (.cells #[.int .i64 yc, .int .i64 yh, .string yn] 34)))
      go_wp2
      refine bodyPost_ret (results_tmp2 rfl _ _ _) rfl ?_
      rw [RE.out]
      have J4 := J3.out
      exact ⟨⟨_, rfl, J4.own⟩, J4.bel⟩
  · have HE : Hid (R = ([], -2)) := hideP (by rw [HRE.out]; unfold tokS; rw [if_neg hok])
    have CN : Hid (Calls Try.prog 28 #[v, .string s, .int .i64 0, .int .i64 0] w fun e w' => e = .returned (.tuple #[.pointer none, .bool false]) ∧ Below w.heap.size w w') := hideP (newReader_no h (fun hh => hok ⟨hh.1, hh.2.1⟩))
    obtain ⟨ao, n, cap, rfl, hn, _⟩ := h
    clear hn HRE hok
    go_enter Try.func9, Try.ntmps9
    go_wp2_with fail
    refine CN.out.mono ?_
    rintro e w1 ⟨rfl, hb1⟩
    have B1 := hideP hb1
    clear hb1
    go_wp2
    refine bodyPost_ret (results_tmp2 rfl _ _ _) rfl ?_
    rw [HE.out]
    exact ⟨⟨_, rfl, OWN0.out _⟩, B1.out⟩
end Go.Proofs.Ytkiiiahljlkjnaa
