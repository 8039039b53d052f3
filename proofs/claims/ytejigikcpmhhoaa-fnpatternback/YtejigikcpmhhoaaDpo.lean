/-
  The draws of patterns.
-/
import Derived.Test.YtejigikcpmhhoaaDrp
import Derived.Deep.RegionLaw
namespace Go.Proofs.Ytejigikcpmhhoaa
open Go.RowKit
set_option linter.unusedVariables false
set_option linter.unusedSimpArgs false

theorem own_mono {w : World} {base base' e n : Nat} {v : Value} {xs : List Value} (h : w.ownsRow base e 1 v n xs) (hb : base' ≤ base) : w.ownsRow base' e 1 v n xs := by
  refine ⟨h.1, ?_⟩
  rcases h.2 with h' | ⟨g, cap, cur, hv, hg0, hr⟩
  · exact .inl h'
  · exact .inr ⟨g, cap, cur, hv, by omega, hr⟩

/-- What the draw of a pattern has in memory: the answer's block, the pattern's own, its row, the cursor. -/
def DK (w x : World) (P : Nat) (L : ByteArray) (v : Value) (zs : List Int) (ao : Option Addr) (len cap : Nat) : Prop :=
  x.heap[w.heap.size]? = some (.cells #[.string ⟨#[]⟩, .slice none 0 0] 26 (0, 0)) ∧ x.heap[P]? = some (.cells #[.string L, v] 26 (0, 0)) ∧ w.heap.size + 1 < P ∧
  x.ownsRow (w.heap.size + 1 + 1) 2 1 v zs.length (zs.map (Value.int .i64)) ∧ Cur (w.alloc (.cells #[.string ⟨#[]⟩, .slice none 0 0] 26)) x ao len cap ∧ Below w.heap.size w x

theorem curW (w : World) (o : Obj) : (w.alloc o).heap.size = w.heap.size + 1 := by simp

theorem DK.other {w x y : World} {P : Nat} {L : ByteArray} {v : Value} {zs : List Int} {ao : Option Addr} {len cap : Nat} (h : DK w x P L v zs ao len cap)
    (ho : Other (w.alloc (.cells #[.string ⟨#[]⟩, .slice none 0 0] 26)) x y) (hc : Cur (w.alloc (.cells #[.string ⟨#[]⟩, .slice none 0 0] 26)) y ao len cap) : DK w y P L v zs ao len cap := by
  obtain ⟨h1, h2, h3, h4, h5, h6⟩ := h
  have hsz := ho.size (Cur.lt hc)
  refine ⟨(ho _ (by simp)).trans h1, (ho _ (by rw [curW]; omega)).trans h2, h3, ?_, hc, ?_⟩
  · refine ⟨h4.1, ?_⟩
    rcases h4.2 with h' | ⟨g, cap, cur, hv, hg0, hg, hr⟩
    · exact .inl h'
    · exact .inr ⟨g, cap, cur, hv, hg0, (ho g (by rw [curW]; omega)).trans hg, hr⟩
  · obtain ⟨_, _, _, _, _, hb⟩ := hc
    exact (below1 w _).trans (hb.mono (by simp))

theorem Cur.drew {w wr : World} {ao : Option Addr} {len cap : Nat} (h : Cur w wr ao len cap) : Cur w wr.drew ao len cap := by
  obtain ⟨i, x, h1, h2, h3, h4⟩ := h
  exact ⟨i, x, h1, h2, h3, h4.drew⟩
theorem DK.drew {w x : World} {P : Nat} {L : ByteArray} {v : Value} {zs : List Int} {ao : Option Addr} {len cap : Nat} (h : DK w x P L v zs ao len cap) : DK w x.drew P L v zs ao len cap :=
  ⟨h.1, h.2.1, h.2.2.1, h.2.2.2.1.drew, h.2.2.2.2.1.drew, h.2.2.2.2.2.drew⟩

theorem rdM_len (s : ByteArray) : (rdM s).length ≤ 21 ∧ (rdS s).size ≤ 20 := by
  cases h : readR s with
  | none => simp [rdM, rdS, h, ByteArray.size]
  | some x =>
    obtain ⟨L, M⟩ := x
    have hp : PatP L M := of_decide_eq_true (readR_pat h)
    have := hp.1
    have := hp.2.2.1
    simp [rdM, rdS, h]
    omega

theorem set_last {w x : World} {P : Nat} {L : ByteArray} {v : Value} (hP : x.heap[P]? = some (.cells #[.string L, v] 26 (0, 0))) (a : Value) : (x.setCell ⟨P, 1, none⟩ a).heap[P]? = some (.cells #[.string L, a] 26 (0, 0)) := heap_setCell_same x P 1 #[.string L, v] 26 a hP
theorem set_first {w x : World} {P : Nat} {L : ByteArray} {v : Value} (hP : x.heap[P]? = some (.cells #[.string L, v] 26 (0, 0))) (a : Value) : (x.setCell ⟨P, 0, none⟩ a).heap[P]? = some (.cells #[a, v] 26 (0, 0)) := heap_setCell_same x P 0 #[.string L, v] 26 a hP

/-- The end: the pattern goes into the answer. -/
theorem DK.cells {w x : World} {P : Nat} {L : ByteArray} {v : Value} {zs : List Int} {ao : Option Addr} {len cap : Nat} (h : DK w x P L v zs ao len cap) :
    x.cell? ⟨P, 0, none⟩ = some (.string L) ∧ x.cell? ⟨P, 1, none⟩ = some v ∧ P < x.heap.size ∧ x.cell? ⟨w.heap.size, 0, none⟩ = some (.string ⟨#[]⟩) ∧ x.cell? ⟨w.heap.size, 1, none⟩ = some (.slice none 0 0) ∧ w.heap.size < x.heap.size ∧
    (∀ o, x.frozen? ⟨w.heap.size, o, none⟩ = false) ∧ (∀ o, x.frozen? ⟨P, o, none⟩ = false) := by
  obtain ⟨a, b, c⟩ := two_at h.2.1
  obtain ⟨d, e, f⟩ := two_at h.1
  exact ⟨a, b, c, d, e, f, fun o => frozen_of_row x _ _ _ _ h.1, fun o => frozen_of_row x _ _ _ _ h.2.1⟩
theorem DK.answer {w x : World} {P : Nat} {L : ByteArray} {v : Value} {zs : List Int} {ao : Option Addr} {len cap : Nat} (h : DK w x P L v zs ao len cap) :
    ((x.setCell ⟨w.heap.size, 0, none⟩ (.string L)).setCell ⟨w.heap.size, 1, none⟩ v).cell? ⟨w.heap.size, 0, none⟩ = some (.string L) ∧ ((x.setCell ⟨w.heap.size, 0, none⟩ (.string L)).setCell ⟨w.heap.size, 1, none⟩ v).cell? ⟨w.heap.size, 1, none⟩ = some v ∧
    Row ((x.setCell ⟨w.heap.size, 0, none⟩ (.string L)).setCell ⟨w.heap.size, 1, none⟩ v) v zs ∧ Below w.heap.size w ((x.setCell ⟨w.heap.size, 0, none⟩ (.string L)).setCell ⟨w.heap.size, 1, none⟩ v) := by
  obtain ⟨a, b, _⟩ := two_at (two_set h.1 (.string L) v)
  exact ⟨a, b, row_of_own (own_put (own_put h.2.2.2.1 h.1 (by decide)) (heap_setCell_same x _ 0 _ _ _ h.1) (by decide)) rfl, (h.2.2.2.2.2.setCell (by simp) _).setCell (by simp) _⟩

theorem DK.spot {w x y : World} {P : Nat} {L : ByteArray} {v : Value} {zs : List Int} {ao : Option Addr} {len cap : Nat} {o : Obj} (h : DK w x P L v zs ao len cap) (hg : (x.alloc o).grownBy y v.ownBlock) :
    y.cell? ⟨P, 1, none⟩ = some v ∧ P < y.heap.size ∧ ∀ o, y.frozen? ⟨P, o, none⟩ = false := by
  have hP := keep_grown (h.2.2.2.1.alloc o) hg (blockA h.2.1 o) (fun c he => by injection he with _ h3; exact absurd h3 (by decide))
  exact ⟨(two_at hP).2.1, (two_at hP).2.2, fun o => frozen_of_row y _ _ _ _ hP⟩
theorem DK.appended {w x y : World} {P gv cv : Nat} {L : ByteArray} {v : Value} {zs : List Int} {z : Int} {ao : Option Addr} {len cap : Nat} {o : Obj} (h : DK w x P L v zs ao len cap) (hg : (x.alloc o).grownBy y v.ownBlock)
    (ho : y.ownsRow (w.heap.size + 1 + 1) 2 1 (.slice (some ⟨gv, 0, none⟩) (zs.length + 1) cv) (zs.length + 1) (zs.map (Value.int .i64) ++ [.int .i64 z])) :
    DK w (y.setCell ⟨P, 1, none⟩ (.slice (some ⟨gv, 0, none⟩) (zs.length + 1) cv)) P L (.slice (some ⟨gv, 0, none⟩) (zs.length + 1) cv) (zs ++ [z]) ao len cap := by
  obtain ⟨h1, h2, h3, h4, h5, h6⟩ := h
  have ha := h4.alloc o
  have hP := keep_grown ha hg (blockA h2 o) (fun c he => by injection he with _ h3; exact absurd h3 (by decide))
  have hR := keep_grown ha hg (blockA h1 o) (fun c he => by injection he with _ h3; exact absurd h3 (by decide))
  have hown : y.ownsRow (w.heap.size + 1 + 1) 2 1 (.slice (some ⟨gv, 0, none⟩) (zs.length + 1) cv) (zs ++ [z]).length ((zs ++ [z]).map (Value.int .i64)) := by simpa using ho
  refine ⟨(Below.heap_setCell y _ _ _ (by simp; omega)).trans hR, set_last (w := w) hP _, h3, own_put hown hP (by decide), ?_, ?_⟩
  · obtain ⟨i, k, g1, g2, g3, g4⟩ := h5.alloc o
    refine ⟨i, k, g1, g2, (Below.heap_setCell y _ _ _ (by simp; omega)).trans (keep_grown ha hg g3 (fun c he => by injection he with _ h3; exact absurd h3 (by decide))), (g4.grown hg g4.size (fun g hgk => ?_)).setCell (by simp; omega) _⟩
    have := (owns_lt ha hgk).1
    rw [curW]; omega
  · exact ((h6.alloc h6.size o).grown hg (by have := h6.size; simp; omega) (fun g hgk => by have := (owns_lt ha hgk).1; omega)).setCell (by simp; omega) _

theorem DK.alloc {w x : World} {P : Nat} {L : ByteArray} {v : Value} {zs : List Int} {ao : Option Addr} {len cap : Nat} (h : DK w x P L v zs ao len cap) (o : Obj) : DK w (x.alloc o) P L v zs ao len cap :=
  ⟨blockA h.1 o, blockA h.2.1 o, h.2.2.1, h.2.2.2.1.alloc o, h.2.2.2.2.1.alloc o, h.2.2.2.2.2.alloc h.2.2.2.2.2.size o⟩
theorem DK.first {w x : World} {P : Nat} {L T : ByteArray} {v : Value} {zs : List Int} {ao : Option Addr} {len cap : Nat} (h : DK w x P L v zs ao len cap) (a : Value) (ha : a = .string T) : DK w (x.setCell ⟨P, 0, none⟩ a) P T v zs ao len cap := by
  subst ha
  obtain ⟨h1, h2, h3, h4, h5, h6⟩ := h
  refine ⟨(Below.heap_setCell x _ _ _ (by simp; omega)).trans h1, set_first (w := w) h2 _, h3, own_put h4 h2 (by decide), ?_, h6.setCell (by simp; omega) _⟩
  obtain ⟨i, y, g1, g2, g3, g4⟩ := h5
  exact ⟨i, y, g1, g2, (Below.heap_setCell x _ _ _ (by simp; omega)).trans g3, g4.setCell (by simp; omega) _⟩
theorem DK.made {w x y : World} {P n g : Nat} {L : ByteArray} {v : Value} {zs ys : List Int} {ao : Option Addr} {len cap : Nat} (h : DK w x P L v zs ao len cap) (hg : x.grownBy y none)
    (ho : y.ownsRow (w.heap.size + 1 + 1) 2 1 (.slice (some ⟨g, 0, none⟩) n n) n (ys.map (Value.int .i64))) (hn : ys.length = n) :
    DK w (y.setCell ⟨P, 1, none⟩ (.slice (some ⟨g, 0, none⟩) n n)) P L (.slice (some ⟨g, 0, none⟩) n n) ys ao len cap ∧ y.cell? ⟨P, 1, none⟩ = some v ∧ P < y.heap.size ∧ y.frozen? ⟨P, 1, none⟩ = false := by
  obtain ⟨h1, h2, h3, h4, h5, h6⟩ := h
  have hk : ∀ (k : Nat) (o : Obj), x.heap[k]? = some o → y.heap[k]? = some o := fun k o hk => (hg.block k (Array.getElem?_eq_some_iff.1 hk).1 (by simp)).trans hk
  refine ⟨⟨(Below.heap_setCell y _ _ _ (by simp; omega)).trans (hk _ _ h1), set_last (w := w) (hk _ _ h2) _, h3, own_put (by rw [hn]; exact ho) (hk _ _ h2) (by decide), ?_, (h6.grown hg h6.size (fun g hgk => by cases hgk)).setCell (by simp; omega) _⟩, (two_at (hk _ _ h2)).2.1, (two_at (hk _ _ h2)).2.2, frozen_of_row y _ _ _ _ (hk _ _ h2)⟩
  obtain ⟨i, k, g1, g2, g3, g4⟩ := h5
  exact ⟨i, k, g1, g2, (Below.heap_setCell y _ _ _ (by simp; omega)).trans (hk _ _ g3), (g4.grown hg g4.size (fun g hgk => by cases hgk)).setCell (by simp; omega) _⟩

set_option maxRecDepth 100000 in
set_option maxHeartbeats 4000000 in
theorem drawPattern_any (ao : Option Addr) (len cap : Nat) (w : World) (hB : Bytes w ao len cap) :
    Calls Try.prog 28 #[.slice ao len cap] w fun e w' => ∃ (L : ByteArray) (v : Value) (zs : List Int), e = .returned (patV L v) ∧ L.size ≤ 1000 ∧ zs.length ≤ 1000 ∧ Row w' v zs ∧ Below w.heap.size w w' := by
  have HB := hideP (hB.kept (below1 w (.cells #[.string ⟨#[]⟩, .slice none 0 0] 26)))
  clear hB
  obtain ⟨i2, hi2, hy0, hy1, hy2⟩ := info_parts Try.info2
  have HI2 := hideP (And.intro hi2 (And.intro hy0 (And.intro hy1 hy2)))
  clear hi2 hy0 hy1 hy2
  go_enter Try.func28, Try.ntmps28
  go_wp2_with fail
  refine (new_any ao len cap _ HB.out).mono ?_
  rintro e w1 ⟨rfl, c1⟩
  have C1 := hideP c1
  clear c1
  go_wp2_with fail
  refine (drawText_any ao len cap _ _ HB.out C1.out).mono ?_
  rintro e w2 ⟨T, rfl, hT, c2, f2⟩
  have C2 := hideP c2
  have R2 : Hid (w2.heap[w.heap.size]? = some (.cells #[.string ⟨#[]⟩, .slice none 0 0] 26 (0, 0))) := hideP (by
    obtain ⟨_, _, _, _, h3, hb⟩ := C1.out
    have h1 : w1.heap[w.heap.size]? = some (.cells #[.string ⟨#[]⟩, .slice none 0 0] 26 (0, 0)) := (hb.block _ (by simp)).trans (heap_alloc_last w _)
    exact (f2.2 _ (Array.getElem?_eq_some_iff.1 h1).1 (by simp)).trans h1)
  clear c2 f2
  go_wp2_with fail
  refine (specRead_own T _ (by omega)).mono ?_
  rintro e w3 ⟨v3, rfl, ho3, hb3⟩
  obtain ⟨L, hL⟩ : ∃ L, L = rdS T := ⟨_, rfl⟩
  obtain ⟨M, hM⟩ : ∃ M, M = rdM T := ⟨_, rfl⟩
  obtain ⟨B, hBb⟩ : ∃ B, B = rdB T := ⟨_, rfl⟩
  have hLs : L.size ≤ 20 := by rw [hL]; exact (rdM_len T).2
  have hMs : M.length ≤ 21 := by rw [hM]; exact (rdM_len T).1
  rw [← hM] at ho3
  rw [← hL, ← hBb]
  clear hL hM hBb
  obtain ⟨a3, n3, k3, rfl⟩ : ∃ a n c, v3 = .slice a n c := by obtain ⟨a, c, rfl⟩ := (row_of_own ho3 rfl).shape; exact ⟨_, _, _, rfl⟩
  have D3 : Hid (DK w (w3.alloc (.cells #[.string L, .slice a3 n3 k3] 26)) w3.heap.size L (.slice a3 n3 k3) M ao len cap) := hideP (by
    have hcl := Cur.lt C2.out
    rw [curW] at hcl
    have hs := hb3.size
    refine ⟨blockA ((hb3.block _ (Array.getElem?_eq_some_iff.1 R2.out).1).trans R2.out) _, heap_alloc_last _ _, by omega, own_mono (ho3.alloc _) (by omega), (C2.out.below hb3).alloc _, ?_⟩
    obtain ⟨_, _, _, _, _, hb⟩ := (C2.out.below hb3).alloc (.cells #[.string L, .slice a3 n3 k3] 26)
    exact (below1 w _).trans (hb.mono (by simp)))
  clear ho3 hb3 C1 C2 R2
  go_wp2_with fail
  generalize hPP : w3.heap.size = P at D3 ⊢
  generalize (w3.alloc (.cells #[.string L, .slice a3 n3 k3] 26)) = W3 at D3 ⊢
  clear hPP
  refine (below_any 8 ao len cap _ _ HB.out D3.out.2.2.2.2.1 (by omega) (by omega)).mono ?_
  rintro e w4 ⟨x, rfl, xl, xh, cc, oo⟩
  have D4 := hideP (D3.out.other oo cc)
  clear cc oo D3
  obtain ⟨p0, p1, pz, r0, r1, rz, rf, pf⟩ := D4.out.cells
  by_cases e0 : x = 0
  · subst e0
    obtain ⟨T2, hT2⟩ : ∃ T2, T2 = L ++ (⟨#[46]⟩ : ByteArray) := ⟨_, rfl⟩
    have hs2 : T2.size ≤ 21 := by rw [hT2, ByteArray.size_append]; have : (⟨#[46]⟩ : ByteArray).size = 1 := rfl; omega
    have hu : ¬ 9223372036854775807 < L.size + 1 := by omega
    have hT2b := hT2.symm
    have D5 : Hid (DK w (w4.setCell ⟨P, 0, none⟩ (.string T2)) P T2 (.slice a3 n3 k3) M ao len cap) := hideP (by
      obtain ⟨h1, h2, h3, h4, h5, h6⟩ := D4.out
      refine ⟨(Below.heap_setCell w4 _ _ _ (by simp; omega)).trans h1, set_first (w := w) h2 _, h3, own_put h4 h2 (by decide), ?_, h6.setCell (by simp; omega) _⟩
      obtain ⟨i, y, g1, g2, g3, g4⟩ := h5
      exact ⟨i, y, g1, g2, (Below.heap_setCell w4 _ _ _ (by simp; omega)).trans g3, g4.setCell (by simp; omega) _⟩)
    obtain ⟨q0, q1, qz, y0, y1, yz, yf, qf⟩ := D5.out.cells
    clear hT2 D4
    go_wp2_with fail
    obtain ⟨t0, t1, hrow, hbel⟩ := D5.out.answer
    generalize (((w4.setCell ⟨P, 0, none⟩ (.string T2)).setCell ⟨w.heap.size, 0, none⟩ (.string T2)).setCell ⟨w.heap.size, 1, none⟩ (.slice a3 n3 k3)) = W at t0 t1 hrow hbel ⊢
    exact bodyPost_ret (v := patV T2 (.slice a3 n3 k3)) (by simp [results, Try.results28, go_sem, t0, t1]) rfl ⟨T2, (.slice a3 n3 k3), M, rfl, by omega, by omega, hrow, hbel⟩
  have n0 : (x == 0) = false := by simp [e0]
  by_cases e1 : x = 1
  · subst e1
    have D4d := hideP D4.out.drew
    go_wp2_with fail
    go_region_law (first
      | (rw [if_pos (by rfl)]; refine wp_append_own _ (.tmp 25) (.tmp 28) 24 rfl (w.heap.size + 1 + 1) 2 i2 (.int .i64 0) 1 8 Try.underlying24 HI2.out.1 HI2.out.2.1 HI2.out.2.2.1 HI2.out.2.2.2 rfl (by decide) _ _ _ rfl (D6.out.2.2.2.1.alloc _) ⟨w6.heap.size, 0, none⟩ 1 1 [.int .i64 y] rfl rfl (cell_one w6 _ _) (by intro u hu; simp at hu; subst hu; rfl) (by unfold maxLen; omega) (by omega) (by simp; have := D6.out.2.2.1; omega) ?_; intro v7 w7 hown7 hgrow7 hnil7; obtain ⟨gv, cv, rfl, hbv, hlv⟩ := own_shape hown7 (by omega); have D7 := hideP (DK.appended D6.out hgrow7 hown7); obtain ⟨s1, sz, sf⟩ := DK.spot D6.out hgrow7; clear hown7 hgrow7 hnil7 hbv hlv)
      | (rw [if_pos (by rfl)]; go_simp; go_at_call 53; refine (below_any 11 ao len cap _ _ HB.out D4d.out.2.2.2.2.1 (by omega) (by omega)).mono ?_; rintro e w6 ⟨y, rfl, yl, yh, cc, oo⟩; have D6 := hideP (D4d.out.other oo cc); obtain ⟨q0, q1, qz, -, -, -, -, qf⟩ := D6.out.cells; clear cc oo))
    all_goals
      clear s1 sz sf p0 p1 pz r0 r1 rz rf pf q0 q1 qz qf
      obtain ⟨q0, q1, qz, y0, y1, yz, yf, qf⟩ := D7.out.cells
      go_wp2_with fail
      obtain ⟨t0, t1, hrow, hbel⟩ := D7.out.answer
      generalize (((w7.setCell ⟨P, 1, none⟩ (.slice (some ⟨gv, 0, none⟩) (M.length + 1) cv)).setCell ⟨w.heap.size, 0, none⟩ (.string L)).setCell ⟨w.heap.size, 1, none⟩ (.slice (some ⟨gv, 0, none⟩) (M.length + 1) cv)) = W at t0 t1 hrow hbel ⊢
      exact bodyPost_ret (v := patV L (.slice (some ⟨gv, 0, none⟩) (M.length + 1) cv)) (by simp [results, Try.results28, go_sem, t0, t1]) rfl ⟨L, (.slice (some ⟨gv, 0, none⟩) (M.length + 1) cv), (M ++ [y]), rfl, by omega, by simp; omega, hrow, hbel⟩
  have n1 : (x == 1) = false := by simp [e1]
  by_cases e2 : x = 2
  · subst e2
    have S4 := hideP (six_more w4)
    have hz4 : w.heap.size + 1 < w4.heap.size := by have := Cur.lt D4.out.2.2.2.2.1; rw [curW] at this; exact this
    go_wp2_with fail
    refine (below_any 6 ao len cap _ _ HB.out (D4.out.2.2.2.2.1.alloc _) (by omega) (by omega)).mono ?_
    rintro e w5 ⟨y, rfl, yl, yh, cc, oo⟩
    obtain ⟨j, rfl⟩ := Int.eq_ofNat_of_zero_le yl
    obtain ⟨D, hD, hcv⟩ := S4.out j (by omega)
    have hcell := (oo.cell (n := w4.heap.size) (o := j) (by rw [curW]; omega)).trans hcv
    have D5 := hideP ((D4.out.alloc (.cells #[.string ⟨#[46, 46]⟩, .string ⟨#[46]⟩, .string ⟨#[97, 46]⟩, .string ⟨#[]⟩, .string ⟨#[46, 97, 46, 98]⟩, .string ⟨#[97, 97, 97, 97, 97, 97, 97, 97, 97, 97, 97, 97, 97, 97, 97, 97, 97, 97, 97, 97]⟩] 9)).other oo cc)
    clear cc oo hcv S4 p0 p1 pz r0 r1 rz rf pf D4
    obtain ⟨p0, p1, pz, r0, r1, rz, rf, pf⟩ := D5.out.cells
    have D6 := hideP (D5.out.first (.string D) rfl)
    obtain ⟨q0, q1, qz, y0, y1, yz, yf, qf⟩ := D6.out.cells
    have hz5 : w.heap.size + 1 + 1 ≤ w5.heap.size := by have := D5.out.2.2.1; omega
    go_wp2_with (at_make; refine wpList_make_full _ rfl _ _ 24 rfl (w.heap.size + 1 + 1) 2 i2 (.int .i64 0) 1 Try.underlying24 HI2.out.1 HI2.out.2.1 HI2.out.2.2.1 _ _ _ _ (D.size + 1) rfl rfl (by simp) (by simp) (by rw [HI2.out.2.2.2]; omega) (by unfold maxLen; omega) (by simp; omega) ?_)
    intro w7 hown hgrow
    have hown2 : w7.ownsRow (w.heap.size + 1 + 1) 2 1 (.slice (some ⟨w5.heap.size, 0, none⟩) (D.size + 1) (D.size + 1)) (D.size + 1) ((List.replicate (D.size + 1) (0 : Int)).map (Value.int .i64)) := by
      rw [← made_ints, Nat.mul_one]
      exact hown
    obtain ⟨hD7, s1, sz, sf⟩ := D6.out.made hgrow hown2 (by simp)
    have D7 := hideP hD7
    clear hD7 hown hown2 hgrow D6 D5 p0 p1 pz r0 r1 rz rf pf q0 q1 qz y0 y1 yz yf qf
    obtain ⟨q0, q1, qz, y0, y1, yz, yf, qf⟩ := D7.out.cells
    generalize hGG : w5.heap.size = G at D7 q0 q1 qz y0 y1 yz yf qf ⊢
    clear hGG
    go_wp2_with fail
    obtain ⟨t0, t1, hrow, hbel⟩ := D7.out.answer
    generalize (((w7.setCell ⟨P, 1, none⟩ (.slice (some ⟨G, 0, none⟩) (D.size + 1) (D.size + 1))).setCell ⟨w.heap.size, 0, none⟩ (.string D)).setCell ⟨w.heap.size, 1, none⟩ (.slice (some ⟨G, 0, none⟩) (D.size + 1) (D.size + 1))) = W at t0 t1 hrow hbel ⊢
    exact bodyPost_ret (v := patV D (.slice (some ⟨G, 0, none⟩) (D.size + 1) (D.size + 1))) (by simp [results, Try.results28, go_sem, t0, t1]) rfl ⟨D, (.slice (some ⟨G, 0, none⟩) (D.size + 1) (D.size + 1)), (List.replicate (D.size + 1) 0), rfl, by omega, by simp; omega, hrow, hbel⟩
  · have n2 : (x == 2) = false := by simp [e2]
    go_wp2_with fail
    obtain ⟨t0, t1, hrow, hbel⟩ := D4.out.answer
    generalize ((w4.setCell ⟨w.heap.size, 0, none⟩ (.string L)).setCell ⟨w.heap.size, 1, none⟩ (.slice a3 n3 k3)) = W at t0 t1 hrow hbel ⊢
    exact bodyPost_ret (v := patV L (.slice a3 n3 k3)) (by simp [results, Try.results28, go_sem, t0, t1]) rfl ⟨L, (.slice a3 n3 k3), M, rfl, by omega, by omega, hrow, hbel⟩

theorem row_put {w : World} {R o : Nat} {x : Value} {L : ByteArray} {a : Option Addr} {n c : Nat} {v : Value} {zs : List Int} (h : Row w v zs) (hR : w.heap[R]? = some (.cells #[.string L, .slice a n c] 26 (0, 0))) : Row (w.setCell ⟨R, o, none⟩ x) v zs := by
  obtain ⟨ao, m, cap, rfl, hn, hr⟩ := h
  refine ⟨ao, m, cap, rfl, hn, fun h0 => ?_⟩
  obtain ⟨b, off, rfl, hb, hc⟩ := hr h0
  have hne : b ≠ R := by
    intro he
    subst he
    have h1 := hc 0 h0
    rw [cell_of_row w _ _ _ _ _ hR] at h1
    match off, h1 with
    | 0, h1 => simp at h1
    | 1, h1 => simp at h1
    | k + 2, h1 => simp at h1
  refine ⟨b, off, rfl, by simpa using hb, fun i hi => ?_⟩
  rw [World.cell?_of_block (w := w) (Below.heap_setCell w ⟨R, o, none⟩ x b hne)]
  exact hc i hi

set_option maxHeartbeats 1000000 in
theorem drawShow_any (ao : Option Addr) (len cap : Nat) (w : World) (hB : Bytes w ao len cap) :
    Calls Try.prog 9 #[.slice ao len cap] w fun e w' => ∃ (L : ByteArray) (v : Value) (zs : List Int), e = .returned (patV L v) ∧ L.size ≤ 1000 ∧ zs.length ≤ 1000 ∧ Row w' v zs ∧ Below w.heap.size w w' := by
  have HB := hideP hB
  clear hB
  go_enter Try.func9, Try.ntmps9
  go_wp2_with fail
  refine (drawPattern_any ao len cap _ (HB.out.kept (below1 _ _))).mono ?_
  rintro e w1 ⟨L, v, zs, rfl, h1, h2, h3, h4⟩
  obtain ⟨a, n, c, rfl⟩ : ∃ a n c, v = .slice a n c := by obtain ⟨a, c, rfl⟩ := h3.shape; exact ⟨_, _, _, rfl⟩
  have R1 : w1.heap[w.heap.size]? = some (.cells #[.string ⟨#[]⟩, .slice none 0 0] 26 (0, 0)) := (h4.block _ (by simp)).trans (heap_alloc_last w _)
  obtain ⟨r0, r1, rz⟩ := two_at R1
  have rf : ∀ o, w1.frozen? ⟨w.heap.size, o, none⟩ = false := fun o => frozen_of_row w1 _ _ _ _ R1
  have HT := hideP (two_at (two_set R1 (.string L) (.slice a n c)))
  have hB1 : Below w.heap.size w w1 := below_more (below1 _ _) h4 (by simp)
  have HR : Hid (Row ((w1.setCell ⟨w.heap.size, 0, none⟩ (.string L)).setCell ⟨w.heap.size, 1, none⟩ (.slice a n c)) (.slice a n c) zs ∧ Below w.heap.size w ((w1.setCell ⟨w.heap.size, 0, none⟩ (.string L)).setCell ⟨w.heap.size, 1, none⟩ (.slice a n c))) := hideP
    ⟨row_put (row_put h3 R1) (heap_setCell_same w1 _ 0 _ _ (.string L) R1), (hB1.setCell (by simp) _).setCell (by simp) _⟩
  clear h3 h4 R1 hB1
  go_wp2_with fail
  obtain ⟨t0, t1, _⟩ := HT.out
  obtain ⟨hrow, hbel⟩ := HR.out
  generalize ((w1.setCell ⟨w.heap.size, 0, none⟩ (.string L)).setCell ⟨w.heap.size, 1, none⟩ (.slice a n c)) = W at t0 t1 hrow hbel ⊢
  exact bodyPost_ret (v := patV L (.slice a n c)) (by simp [results, Try.results9, go_sem, t0, t1]) rfl ⟨L, _, zs, rfl, h1, h2, hrow, hbel⟩

set_option maxHeartbeats 1000000 in
theorem drawRead_any (ao : Option Addr) (len cap : Nat) (w : World) (hB : Bytes w ao len cap) :
    Calls Try.prog 14 #[.slice ao len cap] w fun e w' => ∃ T : ByteArray, e = .returned (.string T) ∧ T.size ≤ 200 ∧ Below w.heap.size w w' := by
  have HB := hideP hB
  clear hB
  go_enter Try.func14, Try.ntmps14
  go_wp2_with fail
  refine (new_any ao len cap _ HB.out).mono ?_
  rintro e w1 ⟨rfl, c1⟩
  have C1 := hideP c1
  clear c1
  go_wp2_with fail
  refine (drawText_any ao len cap _ _ HB.out C1.out).mono ?_
  rintro e w2 ⟨T, rfl, hT, c2, f2⟩
  obtain ⟨_, _, _, _, _, hb⟩ := c2
  have HBB := hideP hb
  clear f2 hb
  go_wp2
  go_ret
  exact ⟨T, rfl, hT, HBB.out⟩
end Go.Proofs.Ytejigikcpmhhoaa
