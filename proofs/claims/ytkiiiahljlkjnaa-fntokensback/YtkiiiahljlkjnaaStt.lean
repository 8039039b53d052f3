/-
  The state of the program's next: the reader, its box, the two results, the marks of the loops gone through.
-/
import Derived.Test.YtkiiiahljlkjnaaNam
namespace Go.Proofs.Ytkiiiahljlkjnaa
open Go.RowKit Go.Shelf
set_option linter.unusedVariables false
set_option linter.unusedSimpArgs false
attribute [local go_sem] Oper.semAt_some

/-- The marks that loops over functions have left, in a frame. -/
def marksOf (rs : List Nat) : List Deferred := rs.map mrk
/-- They are there, each empty, each its own. -/
def Marks (rs : List Nat) (w : World) : Prop := rs.Nodup ∧ ∀ r ∈ rs, w.heap[r]? = some (.deferred (some []))
/-- All but these blocks stays. -/
def Cells (rs : List Nat) (w w' : World) : Prop := w'.os = w.os ∧ w'.tape = w.tape ∧ w'.output = w.output ∧ w'.heap.size = w.heap.size ∧ ∀ q : Nat, q ∉ rs → w'.heap[q]? = w.heap[q]?
theorem leaves_marks {F : Fence} {n : Nat} {P : Program} {fn : Func} {tmps : Array Value} {R : Ending → World → Prop} : ∀ (rs : List Nat) (w : World), Marks rs w →
    (∀ w', Cells rs w w' → LeavesIn F n P fn tmps R [] .returning w') → LeavesInM F n P fn tmps R (marksOf rs) .returning w
  | [], w, _, h => h w ⟨rfl, rfl, rfl, rfl, fun _ _ => rfl⟩
  | r :: rs, w, hm, h => by
    refine ⟨by simp, .inl ⟨r, _, rfl, run_takeDeferred (hm.2 r (by simp)), ?_⟩⟩
    have hnd := List.nodup_cons.1 hm.1
    have hother : ∀ q, q ≠ r → (w.putObj r (.deferred none)).heap[q]? = w.heap[q]? := fun q hq => World.putObj_heap_other hq
    refine leaves_marks rs _ ⟨hnd.2, fun q hq => ?_⟩ (fun w' hc => h w' ?_)
    · rw [hother q (fun e => hnd.1 (e ▸ hq))]
      exact hm.2 q (by simp [hq])
    · refine ⟨hc.1, hc.2.1, hc.2.2.1, ?_, fun q hq => ?_⟩
      · rw [hc.2.2.2.1]
        exact World.putObj_size
      · have h1 : q ≠ r ∧ q ∉ rs := by simpa using hq
        rw [hc.2.2.2.2 q h1.2, hother q h1.1]

/-- A scope that begins with its one label, to which the run jumps back. -/
theorem scope_back {X : Code} {Q : Exit → Act → World → Prop} {a : Act} {w : World} {n : Nat} {P : Program} (l : Nat) (J : Act → World → Prop) (μ : Act → World → Nat) (h0 : J a w)
    (pass : ∀ a w, J a w → X.wpIn Fence.wide n P (Exit.jump l (fun a' w' => J a' w' ∧ μ a' w' < μ a w) Q) a w) :
    (Code.scope (.seq (.label l) X)).wpIn Fence.wide n P Q a w := by
  refine wpIn_wide.2 (wp_scope_jumps (rest := .seq .skip X) l J μ ?_ ?_ ?_)
  · simp [findLabel]
  · refine (wpIn_wide (n := n)).1 (wpIn_seq (wpIn_label ?_))
    refine wpIn_mono (pass a w h0) ?_
    intro e a2 w2 h2
    cases e with
    | goto l' => exact ⟨h2.1, h2.2.1⟩
    | _ => exact h2
  · intro a1 w1 h
    exact (wpIn_wide (n := n)).1 (wpIn_seq (wpIn_skip (pass a1 w1 h)))

/-- The state. -/
structure St (zs : List Int) (s : ByteArray) (g t lo : Nat) (w : World) (rs : List Nat) (W : World) (p st k c h : Int) (nm : ByteArray) : Prop where
  rd : Rdr W g t lo zs s p st
  br : Boxed W w.heap.size 52 (.pointer (some ⟨g, 0, none⟩))
  bk : W.heap[w.heap.size + 1]? = some (.cells #[.int .i64 k] 2 (0, 0))
  bt : W.heap[w.heap.size + 2]? = some (.cells #[.int .i64 c, .int .i64 h, .string nm] 34 (0, 0))
  mks : Marks rs W
  gr : Gr g w.heap.size w W
  up : ∀ r ∈ rs, w.heap.size ≤ r
  gl : g < w.heap.size
section
variable {zs : List Int} {s : ByteArray} {g t lo : Nat} {w W W' : World} {rs : List Nat} {p st k c h : Int} {nm : ByteArray}
theorem St.grow (x : St zs s g t lo w rs W p st k c h nm) (hs : Gr g W.heap.size W W') {p' st' : Int} (hr : Rdr W' g t lo zs s p' st') : St zs s g t lo w rs W' p' st' k c h nm := by
  have hb : ∀ q o, q ≠ g → W.heap[q]? = some o → W'.heap[q]? = some o := fun q o hq h => (hs.block q (Array.getElem?_eq_some_iff.1 h).1 hq).trans h
  have hgl := x.gl
  refine ⟨hr, hb _ _ (by omega) x.br, hb _ _ (by omega) x.bk, hb _ _ (by omega) x.bt, ⟨x.mks.1, fun r hr2 => hb r _ ?_ (x.mks.2 r hr2)⟩, x.gr.trans (hs.mono x.gr.size), x.up, x.gl⟩
  have := x.up r hr2
  omega
theorem St.below (x : St zs s g t lo w rs W p st k c h nm) (hb : Below W.heap.size W W') : St zs s g t lo w rs W' p st k c h nm := x.grow (Gr.below hb) (x.rd.below hb)
theorem St.setAt (x : St zs s g t lo w rs W p st k c h nm) (b : Int) : St zs s g t lo w rs (W.setCell ⟨g, 2, none⟩ (.int .i64 b)) b st k c h nm := x.grow ((Gr.refl _ _ _).set _ _) (x.rd.setAt b)
theorem St.setSt (x : St zs s g t lo w rs W p st k c h nm) (b : Int) : St zs s g t lo w rs (W.setCell ⟨g, 3, none⟩ (.int .i64 b)) p b k c h nm := x.grow ((Gr.refl _ _ _).set _ _) (x.rd.setSt b)
theorem St.drew (x : St zs s g t lo w rs W p st k c h nm) : St zs s g t lo w rs W.drew p st k c h nm := x.below (Below.refl _ _).drew
theorem St.tne (x : St zs s g t lo w rs W p st k c h nm) : t ≠ w.heap.size + 1 ∧ t ≠ w.heap.size + 2 := by
  have ht := x.rd.tb
  constructor
  · rintro rfl
    have h1 := x.bk
    rw [show W.heap[w.heap.size + 1]? = _ from ht] at h1
    have h2 := Option.some.inj h1
    injection h2 with _ h3
    cases h3
  · rintro rfl
    have h1 := x.bt
    rw [show W.heap[w.heap.size + 2]? = _ from ht] at h1
    have h2 := Option.some.inj h1
    injection h2 with _ h3
    cases h3
theorem St.mne (x : St zs s g t lo w rs W p st k c h nm) {q : Nat} {cs : Array Value} {ty : TypeId} (hq : W.heap[q]? = some (.cells cs ty (0, 0))) : q ∉ rs := by
  intro hr
  have h1 := x.mks.2 q hr
  rw [hq] at h1
  cases h1
/-- A store into one of the results. -/
theorem St.other (x : St zs s g t lo w rs W p st k c h nm) {q : Nat} (hq : w.heap.size < q) (hk : W'.heap[q]? ≠ none ∧ ∃ cs ty, W.heap[q]? = some (.cells cs ty (0, 0))) (hw : W'.os = W.os ∧ W'.tape = W.tape ∧ W'.output = W.output ∧ W'.heap.size = W.heap.size ∧ ∀ i, i ≠ q → W'.heap[i]? = W.heap[i]?) {k' c' h' : Int} {nm' : ByteArray} (hqt : t ≠ q)
    (h1 : W'.heap[w.heap.size + 1]? = some (.cells #[.int .i64 k'] 2 (0, 0))) (h2 : W'.heap[w.heap.size + 2]? = some (.cells #[.int .i64 c', .int .i64 h', .string nm'] 34 (0, 0))) : St zs s g t lo w rs W' p st k' c' h' nm' := by
  obtain ⟨_, cs, ty, hc⟩ := hk
  have hgl := x.gl
  refine ⟨x.rd.heap (hw.2.2.2.2 g (by omega)) (hw.2.2.2.2 t hqt), (hw.2.2.2.2 _ (by omega)).trans x.br, h1, h2, ⟨x.mks.1, fun r hr => (hw.2.2.2.2 r ?_).trans (x.mks.2 r hr)⟩, x.gr.trans ⟨hw.1, hw.2.1, hw.2.2.1, by omega, fun i hi _ => hw.2.2.2.2 i (by omega)⟩, x.up, x.gl⟩
  rintro rfl
  exact x.mne hc hr
theorem St.setK (x : St zs s g t lo w rs W p st k c h nm) (k' : Int) : St zs s g t lo w rs (W.setCell ⟨w.heap.size + 1, 0, none⟩ (.int .i64 k')) p st k' c h nm := by
  have h1 : (W.setCell ⟨w.heap.size + 1, 0, none⟩ (.int .i64 k')).heap[w.heap.size + 1]? = some (.cells #[.int .i64 k'] 2 (0, 0)) := by
    rw [heap_setCell_same W _ 0 _ _ _ x.bk]
    rfl
  exact x.other (q := w.heap.size + 1) (by omega) ⟨by rw [h1]; simp, _, _, x.bk⟩ ⟨by simp [World.setCell], by simp [World.setCell], by simp [World.setCell], by simp, fun i hi => Below.heap_setCell _ _ _ _ hi⟩ x.tne.1 h1 ((Below.heap_setCell _ _ _ _ (by simp)).trans x.bt)
theorem St.cT (x : St zs s g t lo w rs W p st k c h nm) : W.cell? ⟨w.heap.size + 2, 0, none⟩ = some (.int .i64 c) ∧ W.cell? ⟨w.heap.size + 2, 1, none⟩ = some (.int .i64 h) ∧ W.cell? ⟨w.heap.size + 2, 2, none⟩ = some (.string nm) := by
  refine ⟨?_, ?_, ?_⟩ <;> simp [World.cell?, x.bt]
theorem St.cK (x : St zs s g t lo w rs W p st k c h nm) : W.cell? ⟨w.heap.size + 1, 0, none⟩ = some (.int .i64 k) := by simp [World.cell?, x.bk]
theorem St.fK (x : St zs s g t lo w rs W p st k c h nm) (j : Nat) : W.frozen? ⟨w.heap.size + 1, j, none⟩ = false := frozen_of_row W _ j _ _ x.bk
theorem St.fT (x : St zs s g t lo w rs W p st k c h nm) (j : Nat) : W.frozen? ⟨w.heap.size + 2, j, none⟩ = false := frozen_of_row W _ j _ _ x.bt
theorem St.setT (x : St zs s g t lo w rs W p st k c h nm) (c' h' : Int) (nm' : ByteArray) : St zs s g t lo w rs (((W.setCell ⟨w.heap.size + 2, 0, none⟩ (.int .i64 c')).setCell ⟨w.heap.size + 2, 1, none⟩ (.int .i64 h')).setCell ⟨w.heap.size + 2, 2, none⟩ (.string nm')) p st k c' h' nm' := by
  have h1 : (W.setCell ⟨w.heap.size + 2, 0, none⟩ (.int .i64 c')).heap[w.heap.size + 2]? = some (.cells #[.int .i64 c', .int .i64 h, .string nm] 34 (0, 0)) := by
    rw [heap_setCell_same W _ 0 _ _ _ x.bt]
    rfl
  have h2 : ((W.setCell ⟨w.heap.size + 2, 0, none⟩ (.int .i64 c')).setCell ⟨w.heap.size + 2, 1, none⟩ (.int .i64 h')).heap[w.heap.size + 2]? = some (.cells #[.int .i64 c', .int .i64 h', .string nm] 34 (0, 0)) := by
    rw [heap_setCell_same _ _ 1 _ _ _ h1]
    rfl
  have h3 : (((W.setCell ⟨w.heap.size + 2, 0, none⟩ (.int .i64 c')).setCell ⟨w.heap.size + 2, 1, none⟩ (.int .i64 h')).setCell ⟨w.heap.size + 2, 2, none⟩ (.string nm')).heap[w.heap.size + 2]? = some (.cells #[.int .i64 c', .int .i64 h', .string nm'] 34 (0, 0)) := by
    rw [heap_setCell_same _ _ 2 _ _ _ h2]
    rfl
  have ho : ∀ i, i ≠ w.heap.size + 2 → (((W.setCell ⟨w.heap.size + 2, 0, none⟩ (.int .i64 c')).setCell ⟨w.heap.size + 2, 1, none⟩ (.int .i64 h')).setCell ⟨w.heap.size + 2, 2, none⟩ (.string nm')).heap[i]? = W.heap[i]? := fun i hi => by
    rw [Below.heap_setCell _ _ _ _ hi, Below.heap_setCell _ _ _ _ hi, Below.heap_setCell _ _ _ _ hi]
  exact x.other (q := w.heap.size + 2) (by omega) ⟨by rw [h3]; simp, _, _, x.bt⟩ ⟨by simp [World.setCell], by simp [World.setCell], by simp [World.setCell], by simp, ho⟩ x.tne.2 ((ho _ (by omega)).trans x.bk) h3
theorem St.kept {B : Nat} {row : Option Nat} (x : St zs s g t lo w rs W p st k c h nm) (hB : w.heap.size ≤ B) (hrB : ∀ r ∈ rs, r < B) (hg : W.grownBy W' row) (hr : ∀ r, row = some r → B ≤ r ∧ ∃ o : Obj, W.heap[r]? = some o ∧ o.isCells = false) : St zs s g t lo w rs W' p st k c h nm := by
  have hc : ∀ (q : Nat) (cs : Array Value) (ty : TypeId), W.heap[q]? = some (.cells cs ty (0, 0)) → W'.heap[q]? = some (.cells cs ty (0, 0)) := fun q cs ty hq => by
    refine (hg.block q (Array.getElem?_eq_some_iff.1 hq).1 (fun e => ?_)).trans hq
    obtain ⟨_, o, ho, hcc⟩ := hr q e.symm
    rw [hq] at ho
    cases ho
    cases hcc
  refine ⟨x.rd.kept hg (fun r e => (hr r e).2), hc _ _ _ x.br, hc _ _ _ x.bk, hc _ _ _ x.bt, ⟨x.mks.1, fun r hr2 => ?_⟩, x.gr.grown hg x.gr.size (fun q e => Nat.le_trans hB (hr q e).1), x.up, x.gl⟩
  refine (hg.block r (Array.getElem?_eq_some_iff.1 (x.mks.2 r hr2)).1 (fun e => ?_)).trans (x.mks.2 r hr2)
  have h1 := (hr r e.symm).1
  have h2 := hrB r hr2
  omega
/-- A loop has left its mark. -/
theorem St.mark (x : St zs s g t lo w rs W p st k c h nm) {D : Nat} (hD : W.heap[D]? = some (.deferred (some []))) (hw : w.heap.size ≤ D) (hn : D ∉ rs) : St zs s g t lo w (D :: rs) W p st k c h nm :=
  ⟨x.rd, x.br, x.bk, x.bt, ⟨List.nodup_cons.2 ⟨hn, x.mks.1⟩, fun r hr => by
    rcases List.mem_cons.1 hr with rfl | hr
    · exact hD
    · exact x.mks.2 r hr⟩, x.gr, fun r hr => by
    rcases List.mem_cons.1 hr with rfl | hr
    · exact hw
    · exact x.up r hr, x.gl⟩
/-- Behind the marks that are taken up. -/
theorem St.leave (x : St zs s g t lo w rs W p st k c h nm) (hc : Cells rs W W') : Rdr W' g t lo zs s p st ∧ W'.heap[w.heap.size + 1]? = some (.cells #[.int .i64 k] 2 (0, 0)) ∧ W'.heap[w.heap.size + 2]? = some (.cells #[.int .i64 c, .int .i64 h, .string nm] 34 (0, 0)) ∧ Gr g w.heap.size w W' := by
  refine ⟨x.rd.heap (hc.2.2.2.2 g (x.mne x.rd.rd)) (hc.2.2.2.2 t (x.mne x.rd.tb)), (hc.2.2.2.2 _ (x.mne x.bk)).trans x.bk, (hc.2.2.2.2 _ (x.mne x.bt)).trans x.bt, x.gr.trans ⟨hc.1, hc.2.1, hc.2.2.1, by rw [hc.2.2.2.1]; exact Nat.le_refl _, fun i hi _ => hc.2.2.2.2 i (fun hr => ?_)⟩⟩
  have := x.up i hr
  omega
end
end Go.Proofs.Ytkiiiahljlkjnaa
