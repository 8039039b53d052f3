/-
  The program's name: what an escape is followed by.
-/
import Derived.Deep.RegionHeld3
import Derived.Test.YtkiiiahljlkjnaaPas
import Derived.Test.YtkiiiahljlkjnaaShf
namespace Go.Proofs.Ytkiiiahljlkjnaa
open Go.RowKit Go.Shelf
set_option linter.unusedVariables false
set_option linter.unusedSimpArgs false
attribute [local go_sem] Oper.semAt_some

theorem stringsClone_any (s : ByteArray) (w : World) (hs : s.size ≤ 281474976710656) : Calls Try.prog 53 #[.string s] w fun e w' => e = .returned (.string s) ∧ Below w.heap.size w w' := by
  go_enter Try.func53, Try.ntmps53
  go_wp2_with (go_at_call 55; refine (Try.stringslite_Clone s _ hs).mono ?_; rintro e w1 ⟨rfl, hb⟩)
  go_ret
  exact ⟨rfl, ‹Below _ _ _›⟩

theorem run_end {zs : List Int} {s : ByteArray} {p0 p : Nat} (h0 : p0 ≤ p) (h40 : p - p0 ≤ 40) (hr : runL zs s (40 - (p - p0)) p = runL zs s 40 p0) (hn : ¬ (p < s.size ∧ catAt zs s p = 4 ∧ p + 1 - p0 ≤ 40)) : runL zs s 40 p0 = p := by
  rw [← hr]
  by_cases h : p - p0 = 40
  · rw [h]; rfl
  · exact runL_stop (fun hh => hn ⟨hh.1, hh.2, by omega⟩)
theorem run_go {zs : List Int} {s : ByteArray} {p0 p : Nat} (h0 : p0 ≤ p) (hp : p < s.size) (h4 : catAt zs s p = 4) (h40 : p + 1 - p0 ≤ 40) : runL zs s (40 - (p - p0)) p = runL zs s (40 - (p + 1 - p0)) (p + 1) := by
  rw [show 40 - (p - p0) = (40 - (p + 1 - p0)) + 1 by omega]
  exact runL_go hp h4
theorem nm_behind {zs : List Int} {s : ByteArray} {p0 p : Nat} (h0 : p0 < p) (hps : p ≤ s.size) (h40 : p - p0 ≤ 40) (hr : runL zs s (40 - (p - p0)) p = runL zs s 40 p0) (hn : ¬ (p < s.size ∧ catAt zs s p = 4 ∧ p + 1 - p0 ≤ 40)) : nmS zs s p0 = ⟨1, 0, 0, s.extract p0 p, p, 2⟩ := by
  have h1 := run_end (by omega) h40 hr hn
  unfold nmS
  rw [if_neg (by omega), h1, if_pos h0]
theorem nm_none {zs : List Int} {s : ByteArray} {p0 : Nat} (h : p0 = s.size) : nmS zs s p0 = ⟨1, 0, 0, s.extract p0 p0, p0, 1⟩ := by
  unfold nmS
  rw [if_pos h]
  congr 1
  ext1
  simp
theorem nm_one {zs : List Int} {s : ByteArray} {p0 : Nat} (h : p0 < s.size) (h4 : catAt zs s p0 ≠ 4) : nmS zs s p0 = ⟨1, 0, 0, s.extract p0 (p0 + 1), (p0 + 1 : Nat), if catAt zs s p0 = 3 then 2 else 1⟩ := by
  have h1 : runL zs s 40 p0 = p0 := runL_stop (fun hh => h4 hh.2)
  unfold nmS
  rw [if_neg (by omega), h1, if_neg (by omega)]
  rfl

/-- Between two rounds, in a round, where a round has broken off. -/
def NA (zs : List Int) (s : ByteArray) (g t lo p0 : Nat) (w : World) : Nat → World → Prop := fun p W => p ≤ s.size ∧ p0 ≤ p ∧ p - p0 ≤ 40 ∧ runL zs s (40 - (p - p0)) p = runL zs s 40 p0 ∧ Boxed W w.heap.size 52 (.pointer (some ⟨g, 0, none⟩)) ∧ Boxed W (w.heap.size + 1) 3 (.int .i64 (p0 : Int)) ∧ Boxed W (w.heap.size + 1 + 1) 52 (.pointer (some ⟨g, 0, none⟩)) ∧ Rdr W g t lo zs s (p : Int) (if p = p0 then 1 else 2) ∧ Gr g w.heap.size w W
def NY (zs : List Int) (s : ByteArray) (g t lo p0 : Nat) (w : World) : Nat → World → Prop := fun p W => p0 ≤ p ∧ p - p0 ≤ 40 ∧ runL zs s (40 - (p - p0)) p = runL zs s 40 p0 ∧ Boxed W w.heap.size 52 (.pointer (some ⟨g, 0, none⟩)) ∧ Boxed W (w.heap.size + 1) 3 (.int .i64 (p0 : Int)) ∧ Boxed W (w.heap.size + 1 + 1) 52 (.pointer (some ⟨g, 0, none⟩)) ∧ Rdr W g t lo zs s ((p + 1 : Nat) : Int) (if p = p0 then 1 else 2) ∧ Gr g w.heap.size w W
def NX (zs : List Int) (s : ByteArray) (g t lo p0 : Nat) (w : World) : Code → World → Prop := fun c W => c = .exit 0 ∧ ∃ (a' : Nat) (s' : Int), nmS zs s p0 = ⟨1, 0, 0, s.extract p0 a', (a' : Int), s'⟩ ∧ p0 ≤ a' ∧ a' ≤ s.size ∧ Boxed W w.heap.size 52 (.pointer (some ⟨g, 0, none⟩)) ∧ Boxed W (w.heap.size + 1) 3 (.int .i64 (p0 : Int)) ∧ Rdr W g t lo zs s (a' : Int) s' ∧ Gr g w.heap.size w W

set_option maxRecDepth 100000 in
set_option maxHeartbeats 4000000 in
theorem nameI_in {g t lo p0 : Nat} {zs : List Int} {s : ByteArray} {st : Int} {w : World} (hR : Rdr w g t lo zs s (p0 : Int) st) (hp : p0 ≤ s.size) (hz : zs.length = 256) (hs : s.size ≤ 65536) :
    CallsIn Fence.wide 5 Try.prog 43 #[.pointer (some ⟨g, 0, none⟩)] w fun e W' => e = .returned (.string (nmS zs s p0).n) ∧ Rdr W' g t lo zs s (nmS zs s p0).a (nmS zs s p0).s ∧ Gr g w.heap.size w W' := by
  have hgl := hR.inn
  have hb2 : ¬ g = w.heap.size := by omega
  have hb3 : ¬ g = w.heap.size + 1 := by omega
  have c2 := hR.c2
  have c3 := hR.c3
  have f3 := hR.free 3
  have HR := hideP hR
  clear hR
  refine callsIn_of_wp_marks Try.func43 rfl trivial ?_ rfl
  simp only [Try.ntmps43, List.size_toArray, List.length_cons, List.length_nil, Nat.reduceAdd, Nat.reduceSub, Array.replicate_succ, Array.replicate_zero, List.push_toArray, List.append_toArray, List.nil_append, List.cons_append]
  gi_wp2_with fail
  refine ⟨trivial, CallsIn.mono (callsIn_wide.2 (bytes_any g _)) ?_⟩
  rintro e w2 ⟨rfl, rfl⟩
  gi_wp2_with fail
  obtain ⟨W0, hW0⟩ : ∃ W0, (((w.setCell ⟨g, 3, none⟩ (.int .i64 1)).alloc (.cells #[.pointer (some ⟨g, 0, none⟩)] 52)).alloc (.cells #[.int .i64 (p0 : Int)] 3)).alloc (.cells #[.pointer (some ⟨g, 0, none⟩)] 52) = W0 := ⟨_, rfl⟩
  have hsz : W0.heap.size = w.heap.size + 3 := by rw [← hW0]; simp
  have br : Boxed W0 w.heap.size 52 (.pointer (some ⟨g, 0, none⟩)) := by
    have h := ((Boxed.new (w.setCell ⟨g, 3, none⟩ (.int .i64 1)) 52 (.pointer (some ⟨g, 0, none⟩))).alloc (.cells #[.int .i64 (p0 : Int)] 3)).alloc (.cells #[.pointer (some ⟨g, 0, none⟩)] 52)
    rw [hW0] at h
    simpa using h
  have bt : Boxed W0 (w.heap.size + 1) 3 (.int .i64 (p0 : Int)) := by
    have h := (Boxed.new ((w.setCell ⟨g, 3, none⟩ (.int .i64 1)).alloc (.cells #[.pointer (some ⟨g, 0, none⟩)] 52)) 3 (.int .i64 (p0 : Int))).alloc (.cells #[.pointer (some ⟨g, 0, none⟩)] 52)
    rw [hW0] at h
    simpa using h
  have bs : Boxed W0 (w.heap.size + 1 + 1) 52 (.pointer (some ⟨g, 0, none⟩)) := by
    have h := Boxed.new (((w.setCell ⟨g, 3, none⟩ (.int .i64 1)).alloc (.cells #[.pointer (some ⟨g, 0, none⟩)] 52)).alloc (.cells #[.int .i64 (p0 : Int)] 3)) 52 (.pointer (some ⟨g, 0, none⟩))
    rw [hW0] at h
    simpa using h
  have R0 : Rdr W0 g t lo zs s (p0 : Int) 1 := by
    have h := HR.out.setSt 1
    have h1 := h.below (below1 _ (.cells #[.pointer (some ⟨g, 0, none⟩)] 52))
    have h2 := h1.below (below1 _ (.cells #[.int .i64 (p0 : Int)] 3))
    have h3 := h2.below (below1 _ (.cells #[.pointer (some ⟨g, 0, none⟩)] 52))
    rw [hW0] at h3
    exact h3
  have G0 : Gr g w.heap.size w W0 := by
    have h := ((((Gr.refl g w.heap.size w).set 3 (.int .i64 1)).alloc (by simp) (.cells #[.pointer (some ⟨g, 0, none⟩)] 52)).alloc (by simp) (.cells #[.int .i64 (p0 : Int)] 3)).alloc (by simp; omega) (.cells #[.pointer (some ⟨g, 0, none⟩)] 52)
    rw [hW0] at h
    exact h
  try rw [hW0]
  clear hW0 c2 c3 f3
  have HSZ := hideP hsz
  clear hsz
  have hm : Try.prog.follows .mixedOrders = true := by kernel_rfl
  refine range_bytes (g := g) (t := t) (lo := lo) (Bs := w.heap.size + 1 + 1) (zs := zs) (s := s) (by omega) hz hs rfl rfl
    (NA zs s g t lo p0 w)
    (NY zs s g t lo p0 w)
    (NX zs s g t lo p0 w)
    ?ow1 ?ow2 ?ow3 ?hA (by have := HSZ.out; omega) ?hS p0 ⟨hp, by omega, by omega, by rw [Nat.sub_self], br, bt, bs, by rw [if_pos rfl]; exact R0, G0⟩ ?a1 ?assign ?body ?done ?stop
  case assign =>
    intro l p W K hK
    gi_wp2
    exact hK
  case ow1 =>
    rintro p A B row ⟨h1, h2, h3, h4, b1, b2, b3, h5, h6⟩ hg hr
    have hr2 := fun r e => (hr r e).2
    exact ⟨h1, h2, h3, h4, boxed_own _ _ (fun (_ : Nat) => _) p A B row b1 hg hr2, boxed_own _ _ (fun (_ : Nat) => _) p A B row b2 hg hr2, boxed_own _ _ (fun (_ : Nat) => _) p A B row b3 hg hr2, h5.kept hg hr2, h6.grown hg h6.size (fun k e => by have := (hr k e).1; have := HSZ.out; omega)⟩
  case ow2 =>
    rintro p A B row ⟨h2, h3, h4, b1, b2, b3, h5, h6⟩ hg hr
    have hr2 := fun r e => (hr r e).2
    exact ⟨h2, h3, h4, boxed_own _ _ (fun (_ : Nat) => _) p A B row b1 hg hr2, boxed_own _ _ (fun (_ : Nat) => _) p A B row b2 hg hr2, boxed_own _ _ (fun (_ : Nat) => _) p A B row b3 hg hr2, h5.kept hg hr2, h6.grown hg h6.size (fun k e => by have := (hr k e).1; have := HSZ.out; omega)⟩
  case ow3 =>
    rintro c A B row ⟨h1, a', s', h2, h3, h4, b1, b2, h5, h6⟩ hg hr
    have hr2 := fun r e => (hr r e).2
    exact ⟨h1, a', s', h2, h3, h4, boxed_own _ _ (fun (_ : Code) => _) c A B row b1 hg hr2, boxed_own _ _ (fun (_ : Code) => _) c A B row b2 hg hr2, h5.kept hg hr2, h6.grown hg h6.size (fun k e => by have := (hr k e).1; have := HSZ.out; omega)⟩
  case hA =>
    rintro p W ⟨h1, h2, h3, h4, b1, b2, b3, h5, h6⟩
    exact ⟨h1, b3.cell, _, h5⟩
  case hS =>
    rintro p W ⟨h1, h2, h3, h4, b1, b2, b3, h5, h6⟩ h7
    refine ⟨h2, h3, h4, (Below.heap_setCell _ _ _ _ (by simp; omega)).trans b1, (Below.heap_setCell _ _ _ _ (by simp; omega)).trans b2, (Below.heap_setCell _ _ _ _ (by simp; omega)).trans b3, ?_, h6.set _ _⟩
    have h8 := h5.setAt ((p : Int) + 1)
    rw [show ((p + 1 : Nat) : Int) = (p : Int) + 1 by omega]
    exact h8
  case body =>
    rintro l p W ⟨h2, h3, h4, b1, b2, b3, h5, h6⟩ h7
    have hbr := b1.cell
    have hbt := b2.cell
    have c2 := h5.c2
    have c3 := h5.c3
    have f2 := h5.free 2
    have f3 := h5.free 3
    have hp16 : p ≤ 65536 := by omega
    have H := hideP (And.intro h4 (And.intro b1 (And.intro b2 (And.intro b3 (And.intro h5 h6)))))
    clear h4 b1 b2 b3 h5 h6
    obtain ⟨c, hc⟩ : ∃ c, c = catAt zs s p := ⟨_, rfl⟩
    have HC := hideP hc
    simp only [← hc]
    clear hc
    gi_wp2
    gi_region_o
    all_goals
      by_cases k1 : c = 4 ∧ p + 1 - p0 ≤ 40
      · obtain ⟨rfl, k2⟩ := k1
        have k3 : ((p : Int) + 1 - (p0 : Int) ≤ 40) := by omega
        have k4 : decide ((p : Int) + 1 - (p0 : Int) ≤ 40) = true := by simp; omega
        gi_wp2
        obtain ⟨h4, b1, b2, b3, h5, h6⟩ := H.out
        refine ⟨((KeepsOthers.setCell W ⟨g, 3, none⟩ (.int .i64 2)).trans (KeepsOthers.drew _)).from _, by omega, by omega, by omega, ?_, ?_, ?_, ?_, ?_, ?_⟩
        · rw [← h4]
          exact (run_go h2 h7 HC.out.symm k2).symm
        · exact (Below.heap_setCell _ _ _ _ (by simp; omega)).trans b1
        · exact (Below.heap_setCell _ _ _ _ (by simp; omega)).trans b2
        · exact (Below.heap_setCell _ _ _ _ (by simp; omega)).trans b3
        · rw [if_neg (by omega)]
          exact (h5.setSt 2).drew
        · exact (h6.set 3 (.int .i64 2)).drew
      · have NG : Hid (¬ (p < s.size ∧ catAt zs s p = 4 ∧ p + 1 - p0 ≤ 40)) := hideP (by rw [← HC.out]; exact fun hh => k1 hh.2)
        have k5 : (c == 4) = false ∨ ((c == 4) = true ∧ c = 4 ∧ ¬ p + 1 - p0 ≤ 40) := by
          by_cases hc4 : c = 4
          · exact .inr ⟨by simp [hc4], hc4, fun h => k1 ⟨hc4, h⟩⟩
          · exact .inl (by simp [hc4])
        clear k1
        by_cases k6 : p = p0
        · subst k6
          have k7 : c ≠ 4 := fun h => NG.out ⟨h7, by rw [← HC.out]; exact h, by omega⟩
          have k8 : (c == 4) = false := by simp [k7]
          have k9 : decide (c = 4) = false := by simp [k7]
          have k10 : ((p : Int) + 1 - (p : Int)) = 1 := by omega
          have NM := hideP (nm_one h7 (by rw [← HC.out]; exact k7))
          clear k5
          simp only [k10]
          by_cases k11 : c = 3
          · subst k11
            gi_wp2
            obtain ⟨h4, b1, b2, b3, h5, h6⟩ := H.out
            refine ⟨((KeepsOthers.setCell W ⟨g, 3, none⟩ (.int .i64 2)).trans (KeepsOthers.drew _)).from _, rfl, p + 1, 2, ?_, by omega, by omega, ?_, ?_, (h5.setSt 2).drew, (h6.set 3 (.int .i64 2)).drew⟩
            · rw [NM.out, ← HC.out, if_pos rfl]
            · exact (Below.heap_setCell _ _ _ _ (by simp; omega)).trans b1
            · exact (Below.heap_setCell _ _ _ _ (by simp; omega)).trans b2
          · have k12 : (c == 3) = false := by simp [k11]
            have k13 : decide (c = 3) = false := by simp [k11]
            gi_wp2
            obtain ⟨h4, b1, b2, b3, h5, h6⟩ := H.out
            replace h5 : Rdr W g t lo zs s ((p + 1 : Nat) : Int) 1 := by simpa using h5
            refine ⟨(KeepsOthers.drew _).from _, rfl, p + 1, 1, ?_, by omega, by omega, b1, b2, h5.drew, h6.drew⟩
            rw [NM.out, ← HC.out, if_neg k11]
        · have k14 : (1 : Int) < (p : Int) + 1 - (p0 : Int) := by omega
          have k15 : decide ((1 : Int) < (p : Int) + 1 - (p0 : Int)) = true := by simp; omega
          have NM := hideP (nm_behind (zs := zs) (s := s) (p0 := p0) (p := p) (by omega) (by omega) h3 H.out.1 NG.out)
          have FN : Hid (∀ W', W' = (W.setCell ⟨g, 2, none⟩ (.int .i64 (p : Int))).drew → bPost W0.heap.size (NA zs s g t lo p0 w) (NX zs s g t lo p0 w) p W (.exit 0) { tmps := #[], defers := [] } W') := hideP (by
            rintro W' rfl
            obtain ⟨h4, b1, b2, b3, h5, h6⟩ := H.out
            rw [if_neg k6] at h5
            refine ⟨((KeepsOthers.setCell W ⟨g, 2, none⟩ (.int .i64 (p : Int))).trans (KeepsOthers.drew _)).from _, rfl, p, 2, NM.out, h2, by omega, ?_, ?_, (h5.setAt (p : Int)).drew, (h6.set 2 (.int .i64 (p : Int))).drew⟩
            · exact (Below.heap_setCell _ _ _ _ (by simp; omega)).trans b1
            · exact (Below.heap_setCell _ _ _ _ (by simp; omega)).trans b2)
          have k16 : (p : Int) + 1 - 1 = (p : Int) := by omega
          rcases k5 with k5 | ⟨k5, rfl, k17⟩
          · have k7 : c ≠ 4 := by simpa using k5
            have k9 : decide (c = 4) = false := by simp [k7]
            clear k7
            gi_wp2
            exact FN.out _ (by first | rfl | simp)
          · have k18 : decide ((p : Int) + 1 - (p0 : Int) ≤ 40) = false := by simp; omega
            have k19 : ¬ ((p : Int) + 1 - (p0 : Int) ≤ 40) := by omega
            clear k17
            gi_wp2
            exact FN.out _ (by first | rfl | simp)
  case done =>
    rintro D p W hD hpe ⟨h1, h2, h3, h4, b1, b2, b3, h5, h6⟩ hK
    obtain ⟨a', s', hx, ha1, ha2, h7⟩ : ∃ (a' : Nat) (s' : Int), nmS zs s p0 = ⟨1, 0, 0, s.extract p0 a', (a' : Int), s'⟩ ∧ p0 ≤ a' ∧ a' ≤ s.size ∧ Rdr W g t lo zs s (a' : Int) s' := by
      by_cases hpp : p = p0
      · subst hpp
        rw [if_pos rfl] at h5
        exact ⟨p, 1, nm_none (by omega), by omega, h1, h5⟩
      · rw [if_neg hpp] at h5
        exact ⟨p, 2, nm_behind (by omega) h1 h3 h4 (fun hh => hpe hh.1), h2, h1, h5⟩
    clear h1 h2 h3 h4 h5 b3
    have h3 := h7
    have h5 := h6
    clear h6 h7
    have hbr := b1.cell
    have hbt := b2.cell
    have c1 := h3.c1
    have c2 := h3.c2
    have j1 : (p0 : Int) ≤ (a' : Int) := by omega
    have j2 : (a' : Int) ≤ (s.size : Int) := by omega
    have hes : (s.extract p0 a').size ≤ 281474976710656 := by rw [ByteArray.size_extract]; omega
    have CL : Hid (∀ w, Calls Try.prog 53 #[.string (s.extract p0 a')] w fun e w' => e = .returned (.string (s.extract p0 a')) ∧ Below w.heap.size w w') := hideP (fun w => stringsClone_any _ w hes)
    have HF := hideP (And.intro hx (And.intro h3 (And.intro h5 hK)))
    have QS : Hid (∀ x, Below W.heap.size W x → x.cell? ⟨w.heap.size, 0, none⟩ = some (.pointer (some ⟨g, 0, none⟩)) ∧ x.cell? ⟨w.heap.size + 1, 0, none⟩ = some (.int .i64 (p0 : Int)) ∧ x.cell? ⟨g, 1, none⟩ = some (.string s) ∧ x.cell? ⟨g, 2, none⟩ = some (.int .i64 (a' : Int))) := hideP (by
      have i1 := b1.lt
      have i2 := b2.lt
      have i3 := h3.inn
      exact fun x hx => ⟨(hx.cell (p := ⟨w.heap.size, 0, none⟩) i1).trans hbr, (hx.cell (p := ⟨w.heap.size + 1, 0, none⟩) i2).trans hbt, (hx.cell (p := ⟨g, 1, none⟩) i3).trans c1, (hx.cell (p := ⟨g, 2, none⟩) i3).trans c2⟩)
    have BD : Hid (Below W.heap.size W W.drew) := hideP (Below.refl _ _).drew
    clear hx h3 h5 hK b1 b2 hes
    gi_wp2_with fail
    refine wpIn_wide.2 ?_
    go_region_held3 (fun x => x.cell? ⟨w.heap.size, 0, none⟩ = some (.pointer (some ⟨g, 0, none⟩)) ∧ x.cell? ⟨w.heap.size + 1, 0, none⟩ = some (.int .i64 (p0 : Int)) ∧ x.cell? ⟨g, 1, none⟩ = some (.string s) ∧ x.cell? ⟨g, 2, none⟩ = some (.int .i64 (a' : Int))) (first | exact QS.out _ BD.out | exact QS.out _ ‹Hid (Below W.heap.size W _)›) ((go_at_call 53; refine (CL.out _).mono ?_; rintro e w2 ⟨rfl, hb2⟩; have B2 : Hid (Below W.heap.size W w2) := hideP (BD.out.trans hb2); clear hb2))
    all_goals
      gi_wp2
      obtain ⟨hx, h3, h5, hK⟩ := HF.out
      have hb := B2.out
      have hK2 := (hb.block D (Array.getElem?_eq_some_iff.1 hK).1).trans hK
      refine ⟨by simp, .inl ⟨_, _, rfl, run_takeDeferred hK2, ?_⟩⟩
      refine ⟨_, results_tmp rfl _ _ _, ?_⟩
      have r2 := h3.below (w' := w2) ⟨hb.os, hb.tape, hb.output, hb.size, fun k hk => hb.block k hk⟩
      have g2 := h5.trans (Gr.below (hb.mono h5.size))
      have hk : ∀ q, q ≠ D → (w2.putObj D (.deferred none)).heap[q]? = w2.heap[q]? := fun q hq => World.putObj_heap_other hq
      refine ⟨?_, ?_, g2.puts g2.size (by have := HSZ.out; omega) _⟩
      · rw [hx]
        simp
      · rw [hx]
        exact r2.heap (hk g (by have := HSZ.out; omega)) (hk t (fun e => by subst e; rw [show w2.heap[t]? = _ from r2.tb] at hK2; cases hK2))
  case stop =>
    rintro D c W hD ⟨rfl, a', s', hx, ha1, ha2, b1, b2, h3, h5⟩ hK
    have hbr := b1.cell
    have hbt := b2.cell
    have c1 := h3.c1
    have c2 := h3.c2
    have j1 : (p0 : Int) ≤ (a' : Int) := by omega
    have j2 : (a' : Int) ≤ (s.size : Int) := by omega
    have hes : (s.extract p0 a').size ≤ 281474976710656 := by rw [ByteArray.size_extract]; omega
    have CL : Hid (∀ w, Calls Try.prog 53 #[.string (s.extract p0 a')] w fun e w' => e = .returned (.string (s.extract p0 a')) ∧ Below w.heap.size w w') := hideP (fun w => stringsClone_any _ w hes)
    have HF := hideP (And.intro hx (And.intro h3 (And.intro h5 hK)))
    have QS : Hid (∀ x, Below W.heap.size W x → x.cell? ⟨w.heap.size, 0, none⟩ = some (.pointer (some ⟨g, 0, none⟩)) ∧ x.cell? ⟨w.heap.size + 1, 0, none⟩ = some (.int .i64 (p0 : Int)) ∧ x.cell? ⟨g, 1, none⟩ = some (.string s) ∧ x.cell? ⟨g, 2, none⟩ = some (.int .i64 (a' : Int))) := hideP (by
      have i1 := b1.lt
      have i2 := b2.lt
      have i3 := h3.inn
      exact fun x hx => ⟨(hx.cell (p := ⟨w.heap.size, 0, none⟩) i1).trans hbr, (hx.cell (p := ⟨w.heap.size + 1, 0, none⟩) i2).trans hbt, (hx.cell (p := ⟨g, 1, none⟩) i3).trans c1, (hx.cell (p := ⟨g, 2, none⟩) i3).trans c2⟩)
    have BD : Hid (Below W.heap.size W W.drew) := hideP (Below.refl _ _).drew
    clear hx h3 h5 hK b1 b2 hes
    gi_wp2_with fail
    refine wpIn_wide.2 ?_
    go_region_held3 (fun x => x.cell? ⟨w.heap.size, 0, none⟩ = some (.pointer (some ⟨g, 0, none⟩)) ∧ x.cell? ⟨w.heap.size + 1, 0, none⟩ = some (.int .i64 (p0 : Int)) ∧ x.cell? ⟨g, 1, none⟩ = some (.string s) ∧ x.cell? ⟨g, 2, none⟩ = some (.int .i64 (a' : Int))) (first | exact QS.out _ BD.out | exact QS.out _ ‹Hid (Below W.heap.size W _)›) ((go_at_call 53; refine (CL.out _).mono ?_; rintro e w2 ⟨rfl, hb2⟩; have B2 : Hid (Below W.heap.size W w2) := hideP (BD.out.trans hb2); clear hb2))
    all_goals
      gi_wp2
      obtain ⟨hx, h3, h5, hK⟩ := HF.out
      have hb := B2.out
      have hK2 := (hb.block D (Array.getElem?_eq_some_iff.1 hK).1).trans hK
      refine ⟨by simp, .inl ⟨_, _, rfl, run_takeDeferred hK2, ?_⟩⟩
      refine ⟨_, results_tmp rfl _ _ _, ?_⟩
      have r2 := h3.below (w' := w2) ⟨hb.os, hb.tape, hb.output, hb.size, fun k hk => hb.block k hk⟩
      have g2 := h5.trans (Gr.below (hb.mono h5.size))
      have hk : ∀ q, q ≠ D → (w2.putObj D (.deferred none)).heap[q]? = w2.heap[q]? := fun q hq => World.putObj_heap_other hq
      refine ⟨?_, ?_, g2.puts g2.size (by have := HSZ.out; omega) _⟩
      · rw [hx]
        simp
      · rw [hx]
        exact r2.heap (hk g (by have := HSZ.out; omega)) (hk t (fun e => by subst e; rw [show w2.heap[t]? = _ from r2.tb] at hK2; cases hK2))
end Go.Proofs.Ytkiiiahljlkjnaa
