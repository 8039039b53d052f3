/-
  The program's state of matching: the first token, and taking one.
-/
import Derived.Test.YtbceblgnjicdcaaTakB
import Derived.Test.YtbceblgnjicdcaaCut
import Derived.WalkLawsBesides
namespace Go.Proofs.Ytbceblgnjicdcaa
open Go.RowKit
set_option linter.unusedVariables false
set_option linter.unusedSimpArgs false

/-- The cells of an expander that knows no meanings. -/
def XH (w : World) (x : Nat) (fv : Value) (len : Int) : Prop := ∃ bu inn pr, w.heap[x]? = some (.cells #[fv, .pointer none, .int .i64 len, .nilFunc, bu, inn, pr] 116)

theorem XH.cells {w : World} {x : Nat} {fv : Value} {len : Int} (h : XH w x fv len) : w.cell? ⟨x, 0, none⟩ = some fv ∧ w.cell? ⟨x, 1, none⟩ = some (.pointer none) ∧ w.cell? ⟨x, 2, none⟩ = some (.int .i64 len) ∧ w.cell? ⟨x, 3, none⟩ = some .nilFunc ∧ x < w.heap.size ∧ ∀ o, w.frozen? ⟨x, o, none⟩ = false := by
  obtain ⟨bu, inn, pr, h⟩ := h
  refine ⟨?_, ?_, ?_, ?_, (Array.getElem?_eq_some_iff.1 h).1, fun o => frozen_row h o⟩ <;> (rw [cell_of_row w x _ _ 116 _ h]; rfl)
theorem XH.front {w : World} {x : Nat} {fv : Value} {len : Int} (h : XH w x fv len) (v : Value) : XH (w.setCell ⟨x, 0, none⟩ v) x v len := by
  obtain ⟨bu, inn, pr, h⟩ := h
  refine ⟨bu, inn, pr, ?_⟩
  rw [heap_setCell_same w x 0 _ 116 _ h]
  rfl
theorem XH.leng {w : World} {x : Nat} {fv : Value} {len : Int} (h : XH w x fv len) (n : Int) : XH (w.setCell ⟨x, 2, none⟩ (.int .i64 n)) x fv n := by
  obtain ⟨bu, inn, pr, h⟩ := h
  refine ⟨bu, inn, pr, ?_⟩
  rw [heap_setCell_same w x 2 _ 116 _ h]
  rfl
theorem XH.keep {w w' : World} {x : Nat} {fv : Value} {len : Int} (h : XH w x fv len) (hk : w'.heap[x]? = w.heap[x]?) : XH w' x fv len := by
  obtain ⟨bu, inn, pr, h⟩ := h
  exact ⟨bu, inn, pr, hk.trans h⟩

/-- Tokens that stand below a block, or none that have no address. -/
def TNb (w : World) (x : Nat) (v : Value) (ts : List Tk) : Prop := (v = .slice none 0 0 ∧ ts = []) ∨ ∃ b off n cap, v = .slice (some ⟨b, off, none⟩) n cap ∧ b < x ∧ TOn 0 w v ts
theorem TNb.fr {w w' : World} {x : Nat} {v : Value} {ts : List Tk} (h : TNb w x v ts) (hf : Fr x w w') : TNb w' x v ts := by
  rcases h with h | ⟨b, off, n, cap, rfl, hb, h⟩
  · exact .inl h
  · exact .inr ⟨b, off, n, cap, rfl, hb, TOn.fr h hb hf⟩
theorem TNb.below {w w' : World} {x : Nat} {v : Value} {ts : List Tk} (h : TNb w x v ts) (hf : Below w.heap.size w w') : TNb w' x v ts := by
  rcases h with h | ⟨b, off, n, cap, rfl, hb, h⟩
  · exact .inl h
  · exact .inr ⟨b, off, n, cap, rfl, hb, h.below hf⟩

/-- The program's state: the tokens that are left. -/
def Xs (w : World) (x : Nat) (rest : List Tk) : Prop := ∃ fv, XH w x fv rest.length ∧ TNb w x fv rest
theorem Xs.lt {w : World} {x : Nat} {rest : List Tk} (h : Xs w x rest) : x < w.heap.size := by obtain ⟨fv, h, _⟩ := h; exact h.cells.2.2.2.2.1
theorem Xs.fr {w w' : World} {x : Nat} {rest : List Tk} (h : Xs w x rest) (hf : Below w.heap.size w w') : Xs w' x rest := by
  have := h.lt
  obtain ⟨fv, h, ht⟩ := h
  exact ⟨fv, h.keep (hf.block _ this), ht.below hf⟩

set_option maxRecDepth 100000 in
set_option maxHeartbeats 2000000 in
theorem refill_none {w : World} {x : Nat} (h : Xs w x []) : Calls Try.prog 153 #[ptr x] w fun e w' => e = .returned (.tuple #[Tk.none.v, .bool false]) ∧ Below w.heap.size w w' := by
  obtain ⟨fv, h, ht⟩ := h
  obtain ⟨g0, g1, g2, g3, hsz, hfz⟩ := h.cells
  clear h ht
  have hnil : ∀ w : World, (binOp BinOp.eql 112 .nilFunc .nilFunc).run Try.prog w = .ok (.bool true) w := fun _ => by kernel_rfl
  go_enter Try.func153, Try.ntmps153
  go_wp2
  exact bodyPost_ret (v := .tuple #[Tk.none.v, .bool false]) (by simp [results, Try.results153, go_sem]; exact ⟨rfl, rfl, rfl⟩) rfl ⟨rfl, below1 _ _⟩

set_option maxRecDepth 100000 in
set_option maxHeartbeats 2000000 in
theorem first_none {w : World} {x : Nat} (h : Xs w x []) : Calls Try.prog 137 #[ptr x] w fun e w' => e = .returned (.tuple #[Tk.none.v, .bool false]) ∧ Below w.heap.size w w' := by
  have H : Hid (Xs w x []) := h
  obtain ⟨fv, h, ht⟩ := h
  obtain ⟨g0, g1, g2, g3, hsz, hfz⟩ := h.cells
  obtain ⟨fa, fc, rfl⟩ : ∃ fa fc, fv = .slice fa 0 fc := by
    rcases ht with ⟨rfl, _⟩ | ⟨b, off, n, cap, rfl, hb, b2, off2, cap2, e, _⟩
    · exact ⟨_, _, rfl⟩
    · simp at e; rw [e.2.1]; exact ⟨_, _, rfl⟩
  clear h ht
  obtain ⟨W0, hW0⟩ : ∃ W, W = w.alloc (.cells #[.int .i64 0, .int .i64 0, .string ⟨#[]⟩] 31) := ⟨_, rfl⟩
  have B0 : Hid (Below w.heap.size w W0) := by rw [hW0]; exact below1 _ _
  have q0 : Hid (W0.heap[w.heap.size]? = some (.cells #[.int .i64 0, .int .i64 0, .string ⟨#[]⟩] 31)) := by rw [hW0]; exact Array.getElem?_push_size
  have HW0 : Hid (W0 = w.alloc (.cells #[.int .i64 0, .int .i64 0, .string ⟨#[]⟩] 31)) := hW0
  have hz0 : w.heap.size < W0.heap.size := by rw [hW0]; simp
  have k0 := (Below.cell B0 (p := ⟨x, 0, none⟩) hsz).trans g0
  have k1 := (Below.cell B0 (p := ⟨x, 1, none⟩) hsz).trans g1
  clear hW0 g0 g1 g2 g3 hfz
  go_enter Try.func137, Try.ntmps137
  go_wp2_with fail
  go_loopw [] (fun wr => wr = W0) (fun _ => 0)
  case atStart => exact (show W0 = _ from HW0).symm
  case round =>
    subst hrel
    have hszw : x < wr.heap.size := by omega
    go_wp2_with fail
    refine (refill_none (Xs.fr H B0)).mono ?_
    rintro e w1 ⟨rfl, hb⟩
    have q2 : w1.heap[w.heap.size]? = some (.cells #[.int .i64 0, .int .i64 0, .string ⟨#[]⟩] 31) := by rw [hb.block _ hz0]; exact q0
    have B1 : Hid (Below w.heap.size w w1) := below_more B0 hb (by omega)
    have hz1 : w.heap.size < w1.heap.size := by have := hb.size; omega
    have f2 := frozen_row q2
    have c0 : w1.cell? ⟨w.heap.size, 0, none⟩ = some (.int .i64 0) := by rw [cell_of_row w1 _ _ _ 31 _ q2]; rfl
    have c1 : w1.cell? ⟨w.heap.size, 1, none⟩ = some (.int .i64 0) := by rw [cell_of_row w1 _ _ _ 31 _ q2]; rfl
    have c2 : w1.cell? ⟨w.heap.size, 2, none⟩ = some (.string ⟨#[]⟩) := by rw [cell_of_row w1 _ _ _ 31 _ q2]; rfl
    clear hb q2
    rw [show Tk.none.v = tokV 0 0 ⟨#[]⟩ from rfl]
    go_wp2
    exact bodyPost_ret (v := .tuple #[tokV 0 0 ⟨#[]⟩, .bool false]) (by simp [results, Try.results137, go_sem, c0, c1, c2]; try rfl) rfl ⟨rfl, ((Below.setCell B1 (by simp) _).setCell (by simp) _).setCell (by simp) _⟩

set_option maxRecDepth 100000 in
set_option maxHeartbeats 2000000 in
theorem first_some {w : World} {x : Nat} {t : Tk} {r : List Tk} (h : Xs w x (t :: r)) (hl : r.length ≤ 1048576) : Calls Try.prog 137 #[ptr x] w fun e w' => e = .returned (.tuple #[t.v, .bool true]) ∧ Below w.heap.size w w' := by
  obtain ⟨fv, h, ht⟩ := h
  obtain ⟨g0, g1, g2, g3, hsz, hfz⟩ := h.cells
  rcases ht with ⟨rfl, ht⟩ | ⟨b, off, n, cap, rfl, hb, b2, off2, cap2, e, hcap, hlo, hb2, hc⟩
  · simp at ht
  · simp at e
    obtain ⟨⟨rfl, rfl⟩, rfl, rfl⟩ := e
    have f := flat_get (t :: r) 0 (by simp)
    have x0 := hc _ _ f.1
    have x1 := hc _ _ f.2.1
    have x2 := hc _ _ f.2.2
    simp at x0 x1 x2
    obtain ⟨n, hn⟩ : ∃ n, n = r.length := ⟨_, rfl⟩
    rw [← hn] at g0 hl
    clear hc f hn h
    obtain ⟨tc, th, ts⟩ := t
    dsimp only at x0 x1 x2
    have hp : ¬ ((n : Int) + 1 = 0) := by omega
    obtain ⟨W0, hW0⟩ : ∃ W, W = w.alloc (.cells #[.int .i64 0, .int .i64 0, .string ⟨#[]⟩] 31) := ⟨_, rfl⟩
    have B0 : Hid (Below w.heap.size w W0) := by rw [hW0]; exact below1 _ _
    have q0 : W0.heap[w.heap.size]? = some (.cells #[.int .i64 0, .int .i64 0, .string ⟨#[]⟩] 31) := by rw [hW0]; exact Array.getElem?_push_size
    have HW0 : Hid (W0 = w.alloc (.cells #[.int .i64 0, .int .i64 0, .string ⟨#[]⟩] 31)) := hW0
    have hz0 : w.heap.size < W0.heap.size := by rw [hW0]; simp
    have k0 := (Below.cell B0 (p := ⟨x, 0, none⟩) hsz).trans g0
    have y0 := (Below.cell B0 (p := ⟨b, off, none⟩) hb2).trans x0
    have y1 := (Below.cell B0 (p := ⟨b, off + 1, none⟩) hb2).trans x1
    have y2 := (Below.cell B0 (p := ⟨b, off + 2, none⟩) hb2).trans x2
    have f2 := frozen_row q0
    have c0 : W0.cell? ⟨w.heap.size, 0, none⟩ = some (.int .i64 0) := by rw [cell_of_row W0 _ _ _ 31 _ q0]; rfl
    have c1 : W0.cell? ⟨w.heap.size, 1, none⟩ = some (.int .i64 0) := by rw [cell_of_row W0 _ _ _ 31 _ q0]; rfl
    have c2 : W0.cell? ⟨w.heap.size, 2, none⟩ = some (.string ⟨#[]⟩) := by rw [cell_of_row W0 _ _ _ 31 _ q0]; rfl
    clear hW0 g0 g1 g2 g3 hfz x0 x1 x2 q0
    go_enter Try.func137, Try.ntmps137
    go_wp2_with fail
    go_loopw [] (fun wr => wr = W0) (fun _ => 0)
    case atStart => exact (show W0 = _ from HW0).symm
    case round =>
      subst hrel
      have hszw : x < wr.heap.size := by omega
      have hbw : b < wr.heap.size := by omega
      go_wp2
      exact bodyPost_ret (v := .tuple #[tokV tc th ts, .bool true]) (by simp [results, Try.results137, go_sem, c0, c1, c2]; try rfl) rfl ⟨rfl, ((Below.setCell B0 (by simp) _).setCell (by simp) _).setCell (by simp) _⟩
end Go.Proofs.Ytbceblgnjicdcaa
