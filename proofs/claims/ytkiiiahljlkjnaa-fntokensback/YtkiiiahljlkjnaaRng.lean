/-
  A loop that ranges over the bytes of a reader: the reader's place stands in a cell that both the iterator and the body write.
-/
import Derived.Test.YtkiiiahljlkjnaaByt
namespace Go.Proofs.Ytkiiiahljlkjnaa
open Go.RowKit Go.Shelf
set_option linter.unusedVariables false
set_option linter.unusedSimpArgs false
attribute [local go_sem] Oper.semAt_some

set_option maxHeartbeats 1000000 in
/-- The iterator's maker: the reader is put into a box of its own. -/
theorem bytes_any (g : Nat) (w : World) :
    Calls Try.prog 42 #[.pointer (some ⟨g, 0, none⟩)] w fun e w' => e = .returned (.func (.func 52) #[] #[.pointer (some ⟨w.heap.size, 0, none⟩)]) ∧ w' = w.alloc (.cells #[.pointer (some ⟨g, 0, none⟩)] 52) := by
  go_enter Try.func42, Try.ntmps42
  go_wp2
  go_ret
  exact ⟨rfl, rfl⟩

/-- How the body of a round may be left. -/
def bPost (B : Nat) (A : Nat → World → Prop) (Ix : Code → World → Prop) (p : Nat) (W : World) : Exit → Act → World → Prop
  | .normal, _, W' => KeepsFrom B W W' ∧ A (p + 1) W'
  | .ret, _, W' => KeepsFrom B W W' ∧ Ix .ret W'
  | .exit id, _, W' => KeepsFrom B W W' ∧ Ix (.exit id) W'
  | .goto t, _, W' => KeepsFrom B W W' ∧ Ix (.goto t) W'
  | .panic _, _, _ => False
  | .outgrown, _, _ => False

theorem own_drew {β : Type} {B : Nat} {I : β → World → Prop} (h : OwnFrom B I) {x : β} {W : World} (hi : I x W) : I x W.drew := by
  have hb : Below W.heap.size W W.drew := (Below.refl _ W).drew
  exact h x W _ none hi ⟨hb.os, hb.tape, hb.output, hb.size, fun k hk _ => hb.block k hk⟩ (fun r e => by cases e)
/-- A mark of a loop over a function. -/
def mrk (D : Nat) : Deferred := { target := .collected D, args := #[] }

set_option maxHeartbeats 2000000 in
theorem range_bytes {g0 : Operand} {ps : Array Tmp} {assign body : Code} {Q : Exit → Act → World → Prop} {a : Act} {w : World} {n g t Bs lo : Nat} {zs : List Int} {s : ByteArray} (hn : 2 ≤ n) (hz : zs.length = 256) (hs : s.size ≤ 65536)
    (hg : a.eval g0 = .func (.func 52) #[] #[.pointer (some ⟨Bs, 0, none⟩)]) (hps : ps.size = 2) (A Ay : Nat → World → Prop) (Ix : Code → World → Prop)
    (hI : OwnFrom w.heap.size A) (hIy : OwnFrom w.heap.size Ay) (hIx : OwnFrom w.heap.size Ix)
    (hA : ∀ p W, A p W → p ≤ s.size ∧ W.cell? ⟨Bs, 0, none⟩ = some (.pointer (some ⟨g, 0, none⟩)) ∧ ∃ st, Rdr W g t lo zs s (p : Int) st) (hgs : g < w.heap.size)
    (hS : ∀ p W, A p W → p < s.size → Ay p (W.setCell ⟨g, 2, none⟩ (.int .i64 ((p : Int) + 1))))
    (p0 : Nat) (h0 : A p0 w) (a₁ : Nat → Act)
    (hassign : ∀ (l p : Nat) (W : World) (K : Act → World → Prop), K (a₁ p) W →
      assign.wpIn (Fence.wide.inRound l) (n - 1 - 1) Try.prog (Exit.then K (fun _ _ _ => False)) { tmps := (ps.zip #[.int .i64 (catAt zs s p), .int .u8 (byteAt s p : Int)]).foldl (fun t (p, v) => t.setIfInBounds p v) a.tmps, defers := [] } W)
    (hbody : ∀ (l p : Nat) (W : World), Ay p W → p < s.size → body.wpIn (Fence.wide.inRound l) (n - 1 - 1) Try.prog (bPost w.heap.size A Ix p W) (a₁ p) W)
    (hdone : ∀ (D p : Nat) (W : World), w.heap.size ≤ D → ¬ p < s.size → A p W → W.heap[D]? = some (.deferred (some [])) → Q .normal { a with defers := mrk D :: a.defers } W)
    (hstop : ∀ (D : Nat) (c : Code) (W : World), w.heap.size ≤ D → Ix c W → W.heap[D]? = some (.deferred (some [])) → c.wpIn Fence.wide n Try.prog Q { a with defers := mrk D :: a.defers } W) :
    (Code.rangeFunc g0 ps assign body).wpIn Fence.wide n Try.prog Q a w := by
  refine wpIn_rangeFunc ?_
  intro fn hfn
  obtain ⟨rc, hrc⟩ : ∃ rc : LoopState → Option Code → Loop, rc = fun st pe => { state := st, pending := pe, fn, tmps := a.tmps, params := ps, assign, body, defers := w.heap.size } := ⟨_, rfl⟩
  obtain ⟨N, hN⟩ : ∃ N, N = w.heap.size := ⟨_, rfl⟩
  rw [← hN] at hI hIy hIx hgs hbody hdone hstop
  obtain ⟨W1, hW1⟩ : ∃ W1, (w.alloc (.deferred (some []))).alloc (.loop (rc .ready none)) = W1 := ⟨_, rfl⟩
  have q1 : W1.heap[N + 1]? = some (.loop (rc .ready none)) := by
    have h := World.alloc_heap_new (w.alloc (.deferred (some []))) (.loop (rc .ready none))
    rw [World.size_alloc, ← hN] at h
    rw [← hW1]
    exact h
  have q0 : W1.heap[N]? = some (.deferred (some [])) := by
    have h := World.alloc_heap_new w (.deferred (some []))
    rw [← hN] at h
    rw [← hW1]
    exact (Below.heap_alloc _ _ N (by rw [World.size_alloc]; omega)).trans h
  have qA : A p0 W1 := by rw [← hW1]; exact hI.alloc _ (hI.alloc _ h0)
  refine ⟨N + 1, [mrk N], W1, { target := .fn (.func 52) #[.pointer (some ⟨Bs, 0, none⟩)], args := #[.func (.yield (N + 1)) #[] #[]] }, W1, 52, #[.func (.yield (N + 1)) #[] #[]] ++ #[.pointer (some ⟨Bs, 0, none⟩)], W1, ?_, ?_, fun _ _ => trivial, ?_, fun h => by omega, ?_⟩
  · rw [← hW1, hrc, hN]
    exact run_enterLoop_outer _ _ _ _ _
  · simp only [resolve, hg]
    simp [go_sem]
  · simp [invoke, go_sem, enters_of Try.func52 (by kernel_rfl) rfl]
  -- what the book-keeping adds to the loop's own word
  have other : ∀ {I : Nat → World → Prop} (hi : OwnFrom N I) (p : Nat) (W : World) (l : Nat) (o o' : Obj), I p W → N ≤ l → W.heap[l]? = some o → o.isCells = false → I p (W.putObj l o') := fun hi p W l o o' h hl ho hc => hi.putObj o' h hl ho hc
  refine (bytes1_in (n - 1) (N + 1) (by omega) g t Bs lo zs s hz hs
    (fun p W => A p W ∧ W.heap[N + 1]? = some (.loop (rc .ready none)) ∧ W.heap[N]? = some (.deferred (some [])))
    (fun p W => Ay p W ∧ W.heap[N + 1]? = some (.loop (rc .ready none)) ∧ W.heap[N]? = some (.deferred (some [])))
    (fun W => ∃ c, Ix c W ∧ W.heap[N + 1]? = some (.loop (rc .done (some c))) ∧ W.heap[N]? = some (.deferred (some [])))
    (fun p W h => hA p W h.1) (fun p W h => ⟨own_drew hI h.1, h.2.1, h.2.2⟩)
    (fun p W h hp => ⟨hS p W h.1 hp, (Below.heap_setCell _ _ _ _ (by simp; omega)).trans h.2.1, (Below.heap_setCell _ _ _ _ (by simp; omega)).trans h.2.2⟩)
    ?_ p0 W1 ⟨qA, q1, q0⟩).mono ?_
  · rintro p W ⟨hi, hl, hk⟩ hp
    have hlt : N + 1 < W.heap.size := (Array.getElem?_eq_some_iff.1 hl).1
    have hy := run_yield (P := Try.prog) (args := #[.int .i64 (catAt zs s p), .int .u8 (byteAt s p : Int)]) hl (by rw [hrc]; exact hps.symm)
    rw [hrc] at hy
    refine ⟨fn, _, assign, body, hy, roundIn_of_wpIn hfn (hassign _ p W _ ⟨_, run_beginRound hl (by rw [hrc]), ?_⟩)⟩
    obtain ⟨Wb, hWb⟩ : ∃ Wb, W.putObj (N + 1) (.loop { rc .ready none with state := .busy }) = Wb := ⟨_, rfl⟩
    have b1 : Wb.heap[N + 1]? = some (.loop { rc .ready none with state := .busy }) := by rw [← hWb]; exact World.putObj_heap_same hlt
    have b0 : Wb.heap[N]? = some (.deferred (some [])) := by rw [← hWb]; exact (World.putObj_heap_other (by omega)).trans hk
    have bI : Ay p Wb := by rw [← hWb]; exact other hIy p W _ _ _ hi (by omega) hl rfl
    rw [hWb]
    refine wpIn_mono (hbody _ p Wb bI hp) ?_
    -- how a round ends
    have fin : ∀ (jump : Option Code) (W3 : World), KeepsFrom N Wb W3 → ∃ W4, W4 = W3.putObj (N + 1) (.loop (rc (if jump.isNone then .ready else .done) jump)) ∧
        (Instr.endRound (N + 1) jump).run Try.prog W3 = .ok (.bool jump.isNone) W4 ∧ (∃ r, W3.heap[N + 1]? = some (.loop r)) ∧ W4.heap[N + 1]? = some (.loop (rc (if jump.isNone then .ready else .done) jump)) ∧ W4.heap[N]? = some (.deferred (some [])) := by
      intro jump W3 hk3
      have c1 := hk3.same (N + 1) _ (by omega) b1 rfl
      have c0 := hk3.same N _ (Nat.le_refl _) b0 rfl
      refine ⟨_, rfl, ?_, ⟨_, c1⟩, World.putObj_heap_same (Array.getElem?_eq_some_iff.1 c1).1, (World.putObj_heap_other (by omega)).trans c0⟩
      have h := run_endRound (P := Try.prog) jump c1
      rw [hrc] at h ⊢
      exact h
    rintro e a3 W3 hq
    cases e with
    | normal =>
      obtain ⟨W4, e4, hr, ⟨r, hr3⟩, d1, d0⟩ := fin none W3 hq.1
      exact ⟨_, W4, hr, .inl ⟨rfl, by rw [e4]; exact other hI _ _ _ _ _ hq.2 (by omega) hr3 rfl, d1, d0⟩⟩
    | ret =>
      obtain ⟨W4, e4, hr, ⟨r, hr3⟩, d1, d0⟩ := fin (some .ret) W3 hq.1
      exact ⟨_, W4, hr, .inr ⟨rfl, .ret, by rw [e4]; exact hIx.putObj _ hq.2 (by omega) hr3 rfl, d1, d0⟩⟩
    | exit id =>
      obtain ⟨W4, e4, hr, ⟨r, hr3⟩, d1, d0⟩ := fin (some (.exit id)) W3 hq.1
      exact ⟨_, W4, hr, .inr ⟨rfl, .exit id, by rw [e4]; exact hIx.putObj _ hq.2 (by omega) hr3 rfl, d1, d0⟩⟩
    | goto j =>
      obtain ⟨W4, e4, hr, ⟨r, hr3⟩, d1, d0⟩ := fin (some (.goto j)) W3 hq.1
      exact ⟨_, W4, hr, .inr ⟨rfl, .goto j, by rw [e4]; exact hIx.putObj _ hq.2 (by omega) hr3 rfl, d1, d0⟩⟩
    | panic ch => exact hq.elim
    | outgrown => exact hq.elim
  · rintro e W2 ⟨⟨v, rfl⟩, (⟨p, hp, hi, hl, hk⟩ | ⟨c, hi, hl, hk⟩)⟩
    · have h := run_endLoop (P := Try.prog) hl (by rw [hrc]; simp)
      rw [hrc] at h
      exact ⟨none, _, h, hdone N p _ (Nat.le_refl _) hp (other hI _ _ _ _ _ hi (by omega) hl rfl) ((World.putObj_heap_other (by omega)).trans hk)⟩
    · have h := run_endLoop (P := Try.prog) hl (by rw [hrc]; simp)
      rw [hrc] at h
      exact ⟨some c, _, h, hstop N c _ (Nat.le_refl _) (hIx.putObj _ hi (by omega) hl rfl) ((World.putObj_heap_other (by omega)).trans hk)⟩
end Go.Proofs.Ytkiiiahljlkjnaa
