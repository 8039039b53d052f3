/-
  The turns of a paragraph, from the last one back.
-/
import Derived.Test.YtdgfnceipginkaaTrn
import Derived.Test.YtdgfnceipginkaaOw
import Derived.Test.YtdgfnceipginkaaSps
import Derived.Test.YtdgfnceipginkaaSty
namespace Go.Proofs.Ytdgfnceipginkaa
open Go.RowKit
set_option linter.unusedVariables false
set_option linter.unusedSimpArgs false

/-- A turn: its item, cost, what is shown, and where a line from it begins. -/
abbrev Tn := Int × Int × Option Addr × Int
abbrev Tn.none : Tn := (0, 0, Option.none, 0)
def Tn.cells (t : Tn) : List Value := [.int .i64 t.1, .int .i64 t.2.1, .pointer t.2.2.1, .int .i64 t.2.2.2]
def flatT : List Tn → List Value
  | [] => []
  | t :: ts => t.cells ++ flatT ts
theorem flatT_at : ∀ (L : List Tn) (i j : Nat), i < L.length → j < 4 → (flatT L)[i * 4 + j]? = (L.getD i Tn.none).cells[j]?
  | t :: ts, 0, j, _, hj => by
    rw [flatT, Nat.zero_mul, Nat.zero_add, List.getElem?_append_left (by simp [Tn.cells]; omega)]
    rfl
  | t :: ts, i + 1, j, hi, hj => by
    rw [flatT, List.getElem?_append_right (by simp [Tn.cells]; omega)]
    have e : (i + 1) * 4 + j - t.cells.length = i * 4 + j := by simp [Tn.cells]; omega
    rw [e, flatT_at ts i j (by simpa using hi) hj]
    simp [List.getD]
theorem flatT_app : ∀ (a b : List Tn), flatT (a ++ b) = flatT a ++ flatT b
  | [], b => rfl
  | t :: a, b => by rw [List.cons_append, flatT, flatT, flatT_app a b, List.append_assoc]
theorem flatT_set : ∀ (L : List Tn) (i : Nat) (t : Tn), i < L.length → flatT (L.set i t) = ((((flatT L).set (i * 4) (.int .i64 t.1)).set (i * 4 + 1) (.int .i64 t.2.1)).set (i * 4 + 2) (.pointer t.2.2.1)).set (i * 4 + 3) (.int .i64 t.2.2.2)
  | x :: xs, 0, t, _ => by
    simp [flatT, Tn.cells]
  | x :: xs, i + 1, t, h => by
    rw [List.set_cons_succ, flatT, flatT_set xs i t (by simpa using h), flatT]
    have e0 : (i + 1) * 4 = x.cells.length + i * 4 := by simp [Tn.cells]; omega
    have e1 : (i + 1) * 4 + 1 = x.cells.length + (i * 4 + 1) := by simp [Tn.cells]; omega
    have e2 : (i + 1) * 4 + 2 = x.cells.length + (i * 4 + 2) := by simp [Tn.cells]; omega
    have e3 : (i + 1) * 4 + 3 = x.cells.length + (i * 4 + 3) := by simp [Tn.cells]; omega
    rw [e3, e2, e1, e0]
    simp only [List.set_append_right _ _ (Nat.le_add_right _ _), Nat.add_sub_cancel_left]

/-- The row with as many turned around from both ends. -/
def Rv (L M : List Tn) (k : Nat) : Prop := M.length = L.length ∧ ∀ i, i < L.length → M.getD i Tn.none = if i < k ∨ L.length - 1 - i < k then L.getD (L.length - 1 - i) Tn.none else L.getD i Tn.none
theorem Rv.start (L : List Tn) : Rv L L 0 := ⟨rfl, fun i hi => by simp⟩
theorem Rv.done {L M : List Tn} {k : Nat} (h : Rv L M k) (hk : L.length ≤ 2 * k + 1) : M = L.reverse := by
  refine List.ext_getElem (by simp [h.1]) (fun i h1 h2 => ?_)
  have hi : i < L.length := by rw [← h.1]; exact h1
  have h3 := h.2 i hi
  rw [List.getD_eq_getElem?_getD, List.getElem?_eq_getElem h1] at h3
  simp only [Option.getD_some] at h3
  rw [h3, List.getElem_reverse]
  have e : L.getD (L.length - 1 - i) Tn.none = L[L.length - 1 - i] := by rw [List.getD_eq_getElem?_getD, List.getElem?_eq_getElem (by omega)]; rfl
  split
  · exact e
  · have : i = L.length - 1 - i := by omega
    rw [← e]
    exact congrArg (L.getD · Tn.none) this
theorem getT_ne {xs : List Tn} {p q : Nat} (h : q ≠ p) (y : Tn) : (xs.set p y).getD q Tn.none = xs.getD q Tn.none := by
  rw [List.getD_eq_getElem?_getD, List.getD_eq_getElem?_getD, List.getElem?_set_ne (by omega)]
theorem getT_eq {xs : List Tn} {p : Nat} (h : p < xs.length) (y : Tn) : (xs.set p y).getD p Tn.none = y := by
  rw [List.getD_eq_getElem?_getD, List.getElem?_set_self h]
  rfl
theorem Rv.step {L M : List Tn} {k j : Nat} (h : Rv L M k) (hj : j = L.length - 1 - k) (hk : k < j) : Rv L ((M.set k (M.getD j Tn.none)).set j (M.getD k Tn.none)) (k + 1) := by
  refine ⟨by simp [h.1], fun i hi => ?_⟩
  by_cases hij : i = j
  · subst hij
    rw [getT_eq (by rw [List.length_set, h.1]; exact hi), h.2 k (by omega)]
    have e : L.length - 1 - i = k := by omega
    rw [if_neg (by omega), if_pos (by omega), e]
  · rw [getT_ne hij]
    by_cases hik : i = k
    · subst hik
      rw [getT_eq (by rw [h.1]; exact hi), h.2 j (by omega), if_neg (by omega), if_pos (by omega), ← hj]
    · rw [getT_ne hik, h.2 i hi]
      by_cases hc : i < k ∨ L.length - 1 - i < k
      · rw [if_pos hc, if_pos (by omega)]
      · rw [if_neg hc, if_neg (by omega)]

theorem ownT_set {base g n cap : Nat} {w : World} {xs : List Value} (h : w.ownsRow base 87 4 (.slice (some ⟨g, 0, none⟩) n cap) n xs) (j : Nat) (x : Value) : (w.setCell ⟨g, j, none⟩ x).ownsRow base 87 4 (.slice (some ⟨g, 0, none⟩) n cap) n (xs.set j x) := by
  simpa using (World.ownsRow.stored h j x).1

theorem ownT_drew {base n : Nat} {v : Value} {w : World} {xs : List Value} (h : w.ownsRow base 87 4 v n xs) : w.drew.ownsRow base 87 4 v n xs := h
theorem Sole.drew {g : Nat} {w a : World} (h : Sole g w a) : Sole g w a.drew := ⟨Below.drew h.below, h.other⟩

set_option maxRecDepth 20000 in
set_option maxHeartbeats 8000000 in
theorem reverse_any {base g n cap : Nat} {L : List Tn} {w : World} (h : w.ownsRow base 87 4 (.slice (some ⟨g, 0, none⟩) n cap) n (flatT L)) (hL : L.length = n) (hn : n ≤ 100000) :
    Calls Try.prog 56 #[.slice (some ⟨g, 0, none⟩) n cap] w fun e w' => (∃ v, e = .returned v) ∧ w'.ownsRow base 87 4 (.slice (some ⟨g, 0, none⟩) n cap) n (flatT L.reverse) ∧ Sole g w w' := by
  have HO := hideP h
  have HL := hideP hL
  clear h hL
  go_enter Try.func56, Try.ntmps56
  go_wp2
  go_loopw [2, 3] (fun si sj wr => ∃ (k : Nat) (M : List Tn), k ≤ n ∧ si = .int .i64 (k : Int) ∧ sj = .int .i64 ((n : Int) - 1 - (k : Int)) ∧ Hid (Rv L M k) ∧ Hid (wr.ownsRow base 87 4 (.slice (some ⟨g, 0, none⟩) n cap) n (flatT M)) ∧ Hid (Sole g w wr)) (fun si _ _ => n - (intOf si).toNat)
  case atStart => exact ⟨0, L, by omega, rfl, congrArg _ (by omega), hideP (Rv.start L), HO, hideP (Sole.refl _ _)⟩
  case round =>
    obtain ⟨k, M, hk, rfl, rfl, HR, HW, HS⟩ := hrel
    by_cases hkj : (k : Int) < (n : Int) - 1 - (k : Int)
    · obtain ⟨j, hj⟩ : ∃ j : Nat, j = n - 1 - k := ⟨_, rfl⟩
      have hji : (n : Int) - 1 - (k : Int) = (j : Int) := by omega
      rw [hji] at hkj ⊢
      have hMl : M.length = n := by rw [HR.out.1, HL.out]
      have hkn : (k : Int) < (n : Int) := by omega
      have hjn : (j : Int) < (n : Int) := by omega
      obtain ⟨x, hx⟩ : ∃ x, x = M.getD k Tn.none := ⟨_, rfl⟩
      obtain ⟨y, hy⟩ : ∃ y, y = M.getD j Tn.none := ⟨_, rfl⟩
      have hc : ∀ i c, i < n → c < 4 → wr.cell? ⟨g, i * 4 + c, none⟩ = (M.getD i Tn.none).cells[c]? := fun i c hi hc => by
        rw [World.ownsRow.cellAt HW.out (i * 4 + c) (by omega), flatT_at M i c (by omega) hc]
      have HST : Hid (Rv L ((M.set k y).set j x) (k + 1)) := hideP (by rw [hx, hy]; exact HR.out.step (by rw [HL.out]; exact hj) (by omega))
      have a0 := hc k 0 (by omega) (by omega)
      have a1 := hc k 1 (by omega) (by omega)
      have a2 := hc k 2 (by omega) (by omega)
      have a3 := hc k 3 (by omega) (by omega)
      have b0 := hc j 0 (by omega) (by omega)
      have b1 := hc j 1 (by omega) (by omega)
      have b2 := hc j 2 (by omega) (by omega)
      have b3 := hc j 3 (by omega) (by omega)
      rw [← hx] at a0 a1 a2 a3
      rw [← hy] at b0 b1 b2 b3
      obtain ⟨x0, x1, x2, x3⟩ := x
      obtain ⟨y0, y1, y2, y3⟩ := y
      simp only [Tn.cells, List.getElem?_cons_zero, List.getElem?_cons_succ, Nat.add_zero] at a0 a1 a2 a3 b0 b1 b2 b3
      have fz : ∀ t, wr.frozen? ⟨g, t, none⟩ = false := World.ownsRow.frozenAt HW.out
      have hgw : g < wr.heap.size := (World.ownsRow.lt HW.out g rfl).2
      have HML := hideP hMl
      have HJ := hideP hj
      have hkj2 : ¬ k = j := by omega
      have hd : ∀ p q : Nat, p < 4 → q < 4 → ¬ k * 4 + p = j * 4 + q := fun p q _ _ => by omega
      clear hc hx hy hMl hj hji
      go_wp2
      go_region
      obtain ⟨W8, hW8⟩ : ∃ W8, W8 = (((((((((wr.setCell ⟨g, k * 4, none⟩ (.int .i64 y0)).setCell ⟨g, k * 4 + 1, none⟩ (.int .i64 y1)).setCell ⟨g, k * 4 + 2, none⟩ (.pointer y2)).setCell ⟨g, k * 4 + 3, none⟩ (.int .i64 y3)).setCell ⟨g, j * 4, none⟩ (.int .i64 x0)).setCell ⟨g, j * 4 + 1, none⟩ (.int .i64 x1)).setCell ⟨g, j * 4 + 2, none⟩ (.pointer x2)).setCell ⟨g, j * 4 + 3, none⟩ (.int .i64 x3)).drew) := ⟨_, rfl⟩
      rw [← hW8]
      have O8 : Hid (W8.ownsRow base 87 4 (.slice (some ⟨g, 0, none⟩) n cap) n (flatT ((M.set k (y0, y1, y2, y3)).set j (x0, x1, x2, x3)))) := hideP (by
        rw [flatT_set _ j _ (by rw [List.length_set, HML.out]; omega), flatT_set _ k _ (by rw [HML.out]; omega), hW8]
        exact ownT_drew (ownT_set (ownT_set (ownT_set (ownT_set (ownT_set (ownT_set (ownT_set (ownT_set HW.out _ _) _ _) _ _) _ _) _ _) _ _) _ _) _ _))
      have S8 : Hid (Sole g w W8) := hideP (by
        rw [hW8]
        have hq := (((((((HS.out.set (o := k * 4) (.int .i64 y0)).set (o := k * 4 + 1) (.int .i64 y1)).set (o := k * 4 + 2) (.pointer y2)).set (o := k * 4 + 3) (.int .i64 y3)).set (o := j * 4) (.int .i64 x0)).set (o := j * 4 + 1) (.int .i64 x1)).set (o := j * 4 + 2) (.pointer x2)).set (o := j * 4 + 3) (.int .i64 x3)
        exact hq.drew)
      clear hW8 a0 a1 a2 a3 b0 b1 b2 b3 fz hd
      go_wp2
      go_roundw
      case rel => exact ⟨k + 1, _, by omega, by go_num, congrArg _ (by have := HJ.out; push_cast; omega), HST, O8, S8⟩
      case measure => simp [intOf]; omega
    · have hkj' : ¬ (k : Int) < (n : Int) - 1 - (k : Int) := hkj
      have HE : Hid (M = L.reverse) := hideP (HR.out.done (by rw [HL.out]; omega))
      go_wp2
      go_end0
      refine ⟨⟨_, rfl⟩, ?_, HS.out⟩
      rw [← HE.out]
      exact HW.out

def syL (x : Sy) : List Value := [.int .i64 x.wd, .int .i64 x.nw, .int .i64 x.hg, .int .i64 x.tl, .int .i64 x.ln, .int .i64 x.hy, .int .i64 x.du, .int .i64 x.ad, .int .i64 x.l0, .int .i64 x.l1, .int .i64 x.l2, .int .i64 x.l3, .int .i64 x.l4, .int .i64 x.r0, .int .i64 x.r1, .int .i64 x.r2, .int .i64 x.r3, .int .i64 x.r4, .int .i64 x.f0, .int .i64 x.f1, .int .i64 x.f2, .int .i64 x.f3, .int .i64 x.f4]
/-- What of a paragraph stays while its turns are found: its style, nodes and sums. -/
structure PZ where
  S : Sy
  nv : Value
  sv : Value
/-- A paragraph in its memory: what stays, its items and its turns. -/
structure ParA (w : World) (PB : Nat) (z5 : PZ) (items turns : Value) : Prop where
  blk : ∃ cs, w.heap[PB]? = some (.cells cs 82 (0, 0)) ∧ cs.size = 27
  c5 : w.cell? ⟨PB, 5, none⟩ = some (.int .i64 z5.S.hy)
  c24 : w.cell? ⟨PB, 24, none⟩ = some items
  c26 : w.cell? ⟨PB, 26, none⟩ = some turns
  c23 : w.cell? ⟨PB, 23, none⟩ = some z5.nv
  c25 : w.cell? ⟨PB, 25, none⟩ = some z5.sv
  sty : ∀ o, o < 23 → w.cell? ⟨PB, o, none⟩ = (syL z5.S)[o]?
theorem ParA.keep {w w' : World} {PB : Nat} {z5 : PZ} {i t : Value} (h : ParA w PB z5 i t) (hb : w'.heap[PB]? = w.heap[PB]?) : ParA w' PB z5 i t := by
  obtain ⟨⟨cs, h1, h2⟩, c5, c24, c26, c23, c25, sty⟩ := h
  exact ⟨⟨cs, hb.trans h1, h2⟩, (World.cell?_of_block (a := ⟨PB, 5, none⟩) hb).trans c5, (World.cell?_of_block (a := ⟨PB, 24, none⟩) hb).trans c24, (World.cell?_of_block (a := ⟨PB, 26, none⟩) hb).trans c26, (World.cell?_of_block (a := ⟨PB, 23, none⟩) hb).trans c23, (World.cell?_of_block (a := ⟨PB, 25, none⟩) hb).trans c25, fun o ho => (World.cell?_of_block (a := ⟨PB, o, none⟩) hb).trans (sty o ho)⟩
theorem ParA.lt {w : World} {PB : Nat} {z5 : PZ} {i t : Value} (h : ParA w PB z5 i t) : PB < w.heap.size := by
  obtain ⟨⟨cs, h1, h2⟩, _⟩ := h
  exact (Array.getElem?_eq_some_iff.1 h1).1
theorem ParA.free {w : World} {PB : Nat} {z5 : PZ} {i t : Value} (h : ParA w PB z5 i t) (o : Nat) : w.frozen? ⟨PB, o, none⟩ = false := by
  obtain ⟨⟨cs, h1, h2⟩, _⟩ := h
  rw [World.frozen?, h1]
  rfl
theorem ParA.set {w : World} {PB : Nat} {z5 : PZ} {i t t' : Value} (h : ParA w PB z5 i t) : ParA (w.setCell ⟨PB, 26, none⟩ t') PB z5 i t' := by
  obtain ⟨⟨cs, h1, h2⟩, c5, c24, c26, c23, c25, sty⟩ := h
  obtain ⟨cur, q1, q2, q3, q4⟩ := putC_block [t'] 26 w cs h1 (by simp; omega)
  have q1' : (w.setCell ⟨PB, 26, none⟩ t').heap[PB]? = some (.cells cur 82 (0, 0)) := q1
  have hc : ∀ o, o ≠ 26 → (w.setCell ⟨PB, 26, none⟩ t').cell? ⟨PB, o, none⟩ = w.cell? ⟨PB, o, none⟩ := fun o ho => by
    rw [cell_of_row _ _ _ _ _ _ q1', cell_of_row _ _ _ _ _ _ h1, q3 o (by simp; omega)]
  refine ⟨⟨cur, q1', q2.trans h2⟩, (hc 5 (by omega)).trans c5, (hc 24 (by omega)).trans c24, ?_, (hc 23 (by omega)).trans c23, (hc 25 (by omega)).trans c25, fun o ho => (hc o (by omega)).trans (sty o ho)⟩
  rw [cell_of_row _ _ _ _ _ _ q1']
  exact q4 0 (by simp)

theorem par_ne {w : World} {PB base n : Nat} {z5 : PZ} {i t v : Value} {xs : List Value} (h : ParA w PB z5 i t) (ho : w.ownsRow base 87 4 v n xs) : v.ownBlock ≠ some PB := by
  obtain ⟨⟨cs, h1, h2⟩, _⟩ := h
  obtain ⟨_, ⟨rfl, _⟩ | ⟨g, cap, cur, rfl, _, hb, _⟩⟩ := ho
  · simp [Value.ownBlock]
  · intro e
    have e2 : g = PB := by simpa [Value.ownBlock] using e
    subst e2
    rw [hb] at h1
    simp at h1
/-- The turns from an item on, the last one first. -/
def back (ys : List It) (n k : Nat) : List Int := ((((List.range n).drop k).filter (trnB ys)).reverse).map (fun a : Nat => (a : Int))
theorem back_end (ys : List It) (n : Nat) : back ys n n = [] := by
  unfold back
  rw [List.drop_of_length_le (by simp)]
  rfl
theorem back_step (ys : List It) {n k : Nat} (h : k < n) : back ys n k = if trnB ys k = true then back ys n (k + 1) ++ [(k : Int)] else back ys n (k + 1) := by
  unfold back
  have hd : (List.range n).drop k = k :: (List.range n).drop (k + 1) := by
    rw [List.drop_eq_getElem_cons (by simpa using h)]
    simp
  rw [hd, List.filter_cons]
  split <;> simp
/-- The first item from a place on that is not discardable. -/
def nxt (ys : List It) (k : Nat) : Nat := k + ((ys.drop k).takeWhile (fun y => discB y.1)).length
theorem nxt_end {ys : List It} {n : Nat} (h : ys.length = n) : nxt ys n = n := by
  unfold nxt
  rw [List.drop_of_length_le (by omega)]
  rfl
theorem nxt_step (ys : List It) {k : Nat} (h : k < ys.length) : nxt ys k = if discB (ys.getD k It.none).1 = true then nxt ys (k + 1) else k := by
  unfold nxt
  rw [List.drop_eq_getElem_cons h, List.takeWhile_cons, show ys.getD k It.none = ys[k] by simp [List.getD, List.getElem?_eq_getElem h]]
  split
  · simp
    omega
  · simp
/-- A turn as it stands: the beginning, or a break with its cost, what it shows and where the line behind it begins. -/
def TurnP (hy : Int) (ys : List It) (t : Tn) (W : World) : Prop := t = (-1, 0, none, (nxt ys 0 : Int)) ∨ ∃ (k : Nat) (q : Option Addr), t = ((k : Int), trnC hy ys k, q, (nxt ys (k + 1) : Int)) ∧ k < ys.length ∧ ShowN (ys.getD k It.none).1 q W
theorem TurnP.keep {hy : Int} {ys : List It} {t : Tn} {w w' : World} (h : TurnP hy ys t w) (hk : KeepH w w') : TurnP hy ys t w' := by
  rcases h with h | ⟨k, q, h1, h2, h3⟩
  · exact .inl h
  · exact .inr ⟨k, q, h1, h2, h3.keep hk⟩
theorem KeepH.set {w : World} {PB : Nat} {z5 : PZ} {i t : Value} (h : ParA w PB z5 i t) (o : Nat) (v : Value) : KeepH w (w.setCell ⟨PB, o, none⟩ v) := fun b cs e => by
  obtain ⟨cs2, h1, _⟩ := h.blk
  refine (Below.heap_setCell _ _ _ _ (fun e2 => ?_)).trans e
  subst e2
  rw [h1] at e
  cases e
theorem KeepH.grown {w w' : World} {base n : Nat} {v : Value} {xs : List Value} (h : w.ownsRow base 87 4 v n xs) (hg : ∀ b, b < w.heap.size → some b ≠ v.ownBlock → w'.heap[b]? = w.heap[b]?) : KeepH w w' := fun b cs e => by
  refine (hg b (Array.getElem?_eq_some_iff.1 e).1 (fun e2 => ?_)).trans e
  obtain ⟨_, ⟨rfl, _⟩ | ⟨g, cap, cur, rfl, _, hb, _⟩⟩ := h
  · simp [Value.ownBlock] at e2
  · have e3 : b = g := by simpa [Value.ownBlock] using e2
    subst e3
    rw [hb] at e
    cases e
theorem back_len (ys : List It) (n k : Nat) : (back ys n k).length ≤ n := by
  unfold back
  rw [List.length_map, List.length_reverse]
  refine Nat.le_trans (List.length_filter_le _ _) ?_
  simp

theorem flatT_one : ∀ L : List Tn, ∀ u ∈ flatT L, u.oneCell' = true
  | [], u, hu => by simp [flatT] at hu
  | t :: ts, u, hu => by
    rw [flatT] at hu
    rcases List.mem_append.1 hu with h | h
    · simp only [Tn.cells, List.mem_cons, List.not_mem_nil, or_false] at h
      rcases h with rfl | rfl | rfl | rfl <;> rfl
    · exact flatT_one ts u h
theorem Try.info92t : (Try.prog.info? 87).map (fun i => (i.zero, i.size, i.bytes)) = some (some (.agg #[.int .i64 0, .int .i64 0, .pointer none, .int .i64 0]), 4, 32) := by kernel_rfl

set_option maxRecDepth 20000 in
set_option maxHeartbeats 8000000 in
theorem addTurns_any {w : World} {PB B cap n : Nat} {ys : List It} {z5 : PZ} (hP : ParA w PB z5 (.slice (some ⟨B, 0, none⟩) n cap) (.slice none 0 0)) (h : ItR w B ys) (hl : ys.length = n) (hB : B < w.heap.size) (hn : n ≤ 5000) (hne : B ≠ PB) :
    Calls Try.prog 35 #[.pointer (some ⟨PB, 0, none⟩)] w fun e w' => (∃ v, e = .returned v) ∧ (∃ (ts : List Tn) (g m c : Nat), ts.length = m ∧ ts.map (fun t => t.1) = -1 :: (back ys n 0).reverse ∧ ParA w' PB z5 (.slice (some ⟨B, 0, none⟩) n cap) (.slice (some ⟨g, 0, none⟩) m c) ∧ w'.ownsRow w.heap.size 87 4 (.slice (some ⟨g, 0, none⟩) m c) m (flatT ts) ∧ (∀ t ∈ ts, TurnP z5.S.hy ys t w')) ∧ Fr PB w w' := by
  have c24 := hP.c24
  have hPl := hP.lt
  have HP := hideP hP
  have HI := hideP h
  have HL := hideP hl
  obtain ⟨i0, hi0, hy0, hy1, hy2⟩ := info_parts Try.info92t
  clear hP h hl
  go_enter Try.func35, Try.ntmps35
  go_wp2
  go_loopw [2, 3] (fun s2 s3 wr => ∃ (j : Nat) (nx : Int) (tv : Value) (ts : List Tn), j ≤ n ∧ s2 = .int .i64 nx ∧ s3 = .int .i64 ((j : Int) - 1) ∧ Hid (ts.map (fun t => t.1) = back ys n j) ∧ Hid (ParA wr PB z5 (.slice (some ⟨B, 0, none⟩) n cap) tv) ∧ Hid (wr.ownsRow w.heap.size 87 4 tv ts.length (flatT ts)) ∧ Hid (Fr PB w wr) ∧ Hid (nx = (nxt ys j : Int)) ∧ Hid (∀ t ∈ ts, TurnP z5.S.hy ys t wr)) (fun _ s _ => (intOf s + 1).toNat)
  case atStart => exact ⟨n, _, _, [], Nat.le_refl _, rfl, rfl, hideP (by rw [back_end]; rfl), HP, hideP ⟨rfl, .inl ⟨rfl, rfl⟩⟩, hideP (Fr.refl _ _), hideP (by rw [nxt_end HL.out]), hideP (fun t h => absurd h (by simp))⟩
  case round =>
    obtain ⟨j, nx, tv, ts, hj, rfl, rfl, HT, HPr, HO, HF, HNX, HTS⟩ := hrel
    by_cases hj0 : 0 < j
    · obtain ⟨k, rfl⟩ : ∃ k, j = k + 1 := ⟨j - 1, by omega⟩
      have hki : ((k + 1 : Nat) : Int) - 1 = (k : Int) := by omega
      rw [hki]
      have hk0 : (0 : Int) ≤ (k : Int) := by omega
      have hBr : wr.heap[B]? = w.heap[B]? := HF.out.2.2.2.2 B hB hne
      have hBl : B < wr.heap.size := Nat.lt_of_lt_of_le hB HF.out.2.2.2.1
      have TC : Hid (∀ W, Below wr.heap.size wr W → Calls Try.prog 54 #[.pointer (some ⟨PB, 0, none⟩), .int .i64 (k : Int)] W fun e w' => (∃ (q : Option Addr), e = .returned (.tuple #[.agg #[.int .i64 (k : Int), .int .i64 (trnC z5.S.hy ys k), .pointer q, .int .i64 0], .bool (trnB ys k)]) ∧ ShowN (ys.getD k It.none).1 q w') ∧ Below W.heap.size W w') := hideP (fun W hW => turnAt_any k (HPr.out.keep (hW.block PB HPr.out.lt)).c24 (HPr.out.keep (hW.block PB HPr.out.lt)).c5 (HI.out.block ((hW.block B hBl).trans hBr)) HL.out (Nat.lt_of_lt_of_le hBl hW.size) (by omega) (by omega) (by omega))
      obtain ⟨c, hc⟩ : ∃ c, c = trnC z5.S.hy ys k := ⟨_, rfl⟩
      rw [← hc] at TC
      have HCC := hideP hc
      clear hc
      obtain ⟨bt, hbt⟩ : ∃ b, b = trnB ys k := ⟨_, rfl⟩
      rw [← hbt] at TC
      have HBT := hideP hbt
      clear c24 hbt
      obtain ⟨ut, ct, rfl⟩ := ownG_shape HO.out
      have hTP : (Value.slice ut ts.length ct).ownBlock ≠ some PB := par_ne HPr.out HO.out
      have HTP := hideP hTP
      obtain ⟨y, hy⟩ : ∃ y, y = ys.getD k It.none := ⟨_, rfl⟩
      have HIT : Hid (∀ W, Fr PB w W → W.cell? ⟨B, k * 3, none⟩ = some (thV y.1) ∧ W.cell? ⟨B, k * 3 + 1, none⟩ = some (.int .i64 y.2.1) ∧ W.cell? ⟨B, k * 3 + 2, none⟩ = some (.int .i64 y.2.2)) := hideP (fun W hW => by
        have hI := HI.out.block (hW.2.2.2.2 B hB hne)
        have hk : k < ys.length := by rw [HL.out]; omega
        rw [hy]
        exact ⟨hI.c0 k hk, hI.c1 k hk, hI.c2 k hk⟩)
      have DC : Hid (∀ W, Calls Try.prog 55 #[.agg #[thV y.1, .int .i64 y.2.1, .int .i64 y.2.2]] W fun e w' => e = .returned (.bool (discB y.1)) ∧ Below W.heap.size W w') := hideP (fun W => disc_any y.1 y.2.1 y.2.2 W)
      obtain ⟨db, hdb⟩ : ∃ b, b = discB y.1 := ⟨_, rfl⟩
      rw [← hdb] at DC
      have HNS : Hid (nxt ys k = if db = true then nxt ys (k + 1) else k) := hideP (by rw [hdb, hy]; exact nxt_step ys (by rw [HL.out]; omega))
      have HBS := hideP (back_step ys (n := n) (k := k) (by omega))
      obtain ⟨y0, y1, y2⟩ := y
      simp only at HIT DC
      clear hdb
      clear hTP hy
      go_wp2_with fail
      refine (TC.out _ (Below.refl _ _)).mono ?_
      rintro e w5 ⟨⟨q, rfl, hsh5⟩, hb5⟩
      have HSH := hideP hsh5
      have K5 := hideP (KeepH.below hb5)
      have HTS5 : Hid (∀ t ∈ ts, TurnP z5.S.hy ys t w5) := hideP (fun t h => (HTS.out t h).keep K5.out)
      clear hsh5
      have B5 := hideP hb5
      have P5 : Hid (ParA w5 PB z5 (.slice (some ⟨B, 0, none⟩) n cap) (.slice ut ts.length ct)) := hideP (HPr.out.keep (hb5.block PB HPr.out.lt))
      have O5 : Hid (w5.ownsRow w.heap.size 87 4 (.slice ut ts.length ct) ts.length (flatT ts)) := hideP (ownG_below HO.out hb5)
      have F5 : Hid (Fr PB w w5) := hideP (HF.out.below hb5)
      have hP5l : PB < w5.heap.size := P5.out.lt
      have hB5l : B < w5.heap.size := Nat.lt_of_lt_of_le hBl hb5.size
      clear hb5
      cases bt with
      | false =>
        have c24 := P5.out.c24
        have HT7 : Hid (ts.map (fun t => t.1) = back ys n k) := hideP (by rw [HBS.out, ← HBT.out, if_neg (by simp)]; exact HT.out)
        obtain ⟨W7, hW7⟩ : ∃ W7, W7 = w5.alloc (.cells #[.int .i64 (k : Int), .int .i64 c, .pointer q, .int .i64 0] 87) := ⟨_, rfl⟩
        have P7 : Hid (ParA W7 PB z5 (.slice (some ⟨B, 0, none⟩) n cap) (.slice ut ts.length ct)) := hideP (by rw [hW7]; exact P5.out.keep ((below1 w5 _).block PB hP5l))
        have O7 : Hid (W7.ownsRow w.heap.size 87 4 (.slice ut ts.length ct) ts.length (flatT ts)) := hideP (by rw [hW7]; exact ownG_below O5.out (below1 _ _))
        have F7 : Hid (Fr PB w W7) := hideP (by rw [hW7]; exact F5.out.alloc _)
        have K7 : Hid (KeepH w5 W7) := hideP (by rw [hW7]; exact KeepH.below (below1 _ _))
        have hpre : True := trivial
        have k024 := HIT.out w5 F5.out
        obtain ⟨e0, e1, e2⟩ := k024
        go_wp2_with fail
        rw [← hW7]
        clear hW7 e0 e1 e2 c24
        refine (DC.out _).mono ?_
        rintro e w8 ⟨rfl, hb8⟩
        have P8 := hideP (P7.out.keep (hb8.block PB P7.out.lt))
        have O8 := hideP (ownG_below O7.out hb8)
        have F8 := hideP (F7.out.below hb8)
        have TS8 : Hid (∀ t ∈ ts, TurnP z5.S.hy ys t w8) := hideP (fun t h => ((HTS5.out t h).keep K7.out).keep (KeepH.below hb8))
        clear hb8
        cases db with
        | false =>
          go_wp2
          go_roundw
          case rel => exact ⟨k, _, _, ts, by omega, rfl, rfl, HT7, P8, O8, F8, hideP (by rw [HNS.out]; simp), TS8⟩
          case measure => simp [intOf]
        | true =>
          go_wp2
          go_roundw
          case rel => exact ⟨k, _, _, ts, by omega, rfl, rfl, HT7, P8, O8, F8, hideP (by rw [HNS.out]; simpa using HNX.out), TS8⟩
          case measure => simp [intOf]
      | true =>
        have c26 := P5.out.c26
        have fz := P5.out.free
        go_wp2
        obtain ⟨WA, hWA⟩ : ∃ WA, WA = w5.alloc (.cells #[.int .i64 (k : Int), .int .i64 c, .pointer q, .int .i64 nx] 87) := ⟨_, rfl⟩
        rw [← hWA]
        have hsA : WA.heap.size = w5.heap.size + 1 := by rw [hWA]; simp
        have BA : Hid (Below w5.heap.size w5 WA) := hideP (by rw [hWA]; exact below1 _ _)
        have hq := heap_alloc_new w5 (.cells #[.int .i64 (k : Int), .int .i64 c, .pointer q, .int .i64 nx] 87)
        rw [← hWA] at hq
        have PA : Hid (ParA WA PB z5 (.slice (some ⟨B, 0, none⟩) n cap) (.slice ut ts.length ct)) := hideP (P5.out.keep (BA.out.block PB hP5l))
        have OA : Hid (WA.ownsRow w.heap.size 87 4 (.slice ut ts.length ct) ts.length (flatT ts)) := hideP (ownG_below O5.out BA.out)
        have FA : Hid (Fr PB w WA) := hideP (F5.out.below BA.out)
        have t0 : WA.cell? ⟨w5.heap.size, 0, none⟩ = some (.int .i64 (k : Int)) := by rw [cell_of_row WA _ _ _ _ _ hq]; rfl
        have t1 : WA.cell? ⟨w5.heap.size, 1, none⟩ = some (.int .i64 c) := by rw [cell_of_row WA _ _ _ _ _ hq]; rfl
        have t2 : WA.cell? ⟨w5.heap.size, 2, none⟩ = some (.pointer q) := by rw [cell_of_row WA _ _ _ _ _ hq]; rfl
        have t3 : WA.cell? ⟨w5.heap.size, 3, none⟩ = some (.int .i64 nx) := by rw [cell_of_row WA _ _ _ _ _ hq]; rfl
        have c26A := PA.out.c26
        have fzA := PA.out.free
        have hPAl : PB < WA.heap.size := PA.out.lt
        have hwA : w.heap.size ≤ WA.heap.size := FA.out.2.2.2.1
        have hlen : ts.length ≤ n := by
          have h1 := congrArg List.length HT.out
          rw [List.length_map] at h1
          have h2 := back_len ys n (k + 1)
          omega
        have HSA := hideP hsA
        clear hWA hq c26 fz hsA
        have HTB : Hid (∀ X : World, X.heap[w5.heap.size]? = WA.heap[w5.heap.size]? → X.cell? ⟨w5.heap.size, 0, none⟩ = some (.int .i64 (k : Int)) ∧ X.cell? ⟨w5.heap.size, 1, none⟩ = some (.int .i64 c) ∧ X.cell? ⟨w5.heap.size, 2, none⟩ = some (.pointer q) ∧ X.cell? ⟨w5.heap.size, 3, none⟩ = some (.int .i64 nx)) := hideP (fun X hX => ⟨(World.cell?_of_block (a := ⟨w5.heap.size, 0, none⟩) hX).trans t0, (World.cell?_of_block (a := ⟨w5.heap.size, 1, none⟩) hX).trans t1, (World.cell?_of_block (a := ⟨w5.heap.size, 2, none⟩) hX).trans t2, (World.cell?_of_block (a := ⟨w5.heap.size, 3, none⟩) hX).trans t3⟩)
        have hlt5 : w5.heap.size < WA.heap.size := by have := HSA.out; omega
        have TB : Hid ((WA.alloc (.cells #[.int .i64 (k : Int), .int .i64 c, .pointer q, .int .i64 nx] 87)).drew.cell? ⟨w5.heap.size, 0, none⟩ = some (.int .i64 (k : Int)) ∧ (WA.alloc (.cells #[.int .i64 (k : Int), .int .i64 c, .pointer q, .int .i64 nx] 87)).drew.cell? ⟨w5.heap.size, 1, none⟩ = some (.int .i64 c) ∧ (WA.alloc (.cells #[.int .i64 (k : Int), .int .i64 c, .pointer q, .int .i64 nx] 87)).drew.cell? ⟨w5.heap.size, 2, none⟩ = some (.pointer q) ∧ (WA.alloc (.cells #[.int .i64 (k : Int), .int .i64 c, .pointer q, .int .i64 nx] 87)).drew.cell? ⟨w5.heap.size, 3, none⟩ = some (.int .i64 nx)) := hideP (HTB.out _ ((below1 WA _).block _ hlt5))
        have HNE : Hid ((Value.slice ut ts.length ct).ownBlock ≠ some w5.heap.size) := hideP (fun e => by have := (World.ownsRow.lt O5.out _ e).2; omega)
        have OB : Hid ((WA.alloc (.cells #[.int .i64 (k : Int), .int .i64 c, .pointer q, .int .i64 nx] 87)).drew.ownsRow w.heap.size 87 4 (.slice ut ts.length ct) ts.length (flatT ts)) := hideP (ownT_drew (ownG_below OA.out (below1 _ _)))
        have NB : Hid (∀ j z, (flatT [((k : Int), c, q, nx)])[j]? = some z → (WA.alloc (.cells #[.int .i64 (k : Int), .int .i64 c, .pointer q, .int .i64 nx] 87)).drew.cell? ((⟨WA.heap.size, 0, none⟩ : Addr).add j) = some z) := hideP (fun j z hz => by
          have he : ((⟨WA.heap.size, 0, none⟩ : Addr).add j) = ⟨WA.heap.size, j, none⟩ := by simp only [Addr.add]; split <;> simp_all
          have hh2 : (WA.alloc (.cells #[.int .i64 (k : Int), .int .i64 c, .pointer q, .int .i64 nx] 87)).drew.heap[WA.heap.size]? = some (.cells #[.int .i64 (k : Int), .int .i64 c, .pointer q, .int .i64 nx] 87 (0, 0)) := heap_alloc_new WA (.cells #[.int .i64 (k : Int), .int .i64 c, .pointer q, .int .i64 nx] 87)
          rw [he, cell_of_row _ _ _ _ _ _ hh2, ← hz]
          simp [flatT, Tn.cells])
        have hwB : w.heap.size ≤ (WA.alloc (.cells #[.int .i64 (k : Int), .int .i64 c, .pointer q, .int .i64 nx] 87)).drew.heap.size := show w.heap.size ≤ (WA.alloc (.cells #[.int .i64 (k : Int), .int .i64 c, .pointer q, .int .i64 nx] 87)).heap.size by simp; exact Nat.le_succ_of_le hwA
        have FB : Hid (Fr PB w (WA.alloc (.cells #[.int .i64 (k : Int), .int .i64 c, .pointer q, .int .i64 nx] 87)).drew) := hideP ((FA.out.alloc _).drew)
        have PBk : Hid (ParA (WA.alloc (.cells #[.int .i64 (k : Int), .int .i64 c, .pointer q, .int .i64 nx] 87)).drew PB z5 (.slice (some ⟨B, 0, none⟩) n cap) (.slice ut ts.length ct)) := hideP (PA.out.keep ((below1 WA _).block PB hPAl))
        obtain ⟨WB, hWB⟩ : ∃ WB, WB = (WA.alloc (.cells #[.int .i64 (k : Int), .int .i64 c, .pointer q, .int .i64 nx] 87)).drew := ⟨_, rfl⟩
        have KWB : Hid (KeepH w5 WB) := hideP (by rw [hWB]; exact (KeepH.below BA.out).trans (KeepH.below (Below.drew (below1 WA _))))
        have HLB : Hid (w5.heap.size < WB.heap.size ∧ PB < WB.heap.size ∧ WB.heap[w5.heap.size]? = WA.heap[w5.heap.size]?) := hideP (by
          rw [hWB]
          exact ⟨Nat.lt_of_lt_of_le hlt5 (below1 WA (.cells #[.int .i64 (k : Int), .int .i64 c, .pointer q, .int .i64 nx] 87)).size, Nat.lt_of_lt_of_le hPAl (below1 WA (.cells #[.int .i64 (k : Int), .int .i64 c, .pointer q, .int .i64 nx] 87)).size, (below1 WA (.cells #[.int .i64 (k : Int), .int .i64 c, .pointer q, .int .i64 nx] 87)).block _ hlt5⟩)
        rw [← hWB] at OB NB hwB FB PBk
        refine wp_region_held_drew (S := (fun x => x.cell? ⟨w5.heap.size, 0, none⟩ = some (.int .i64 (k : Int)) ∧ x.cell? ⟨w5.heap.size, 1, none⟩ = some (.int .i64 c) ∧ x.cell? ⟨w5.heap.size, 2, none⟩ = some (.pointer q) ∧ x.cell? ⟨w5.heap.size, 3, none⟩ = some (.int .i64 nx))) (by kernel_rfl) ⟨t0, t1, t2, t3⟩ (fun hS => ?_)
        refine wpAnyH_take (i := 0) (v := .pointer (some ⟨PB, 0, none⟩)) rfl (by kernel_rfl) (by kernel_rfl) (by kernel_rfl) (fun _ _ _ h => h) (Or.inl ⟨by first | rfl | go_simp, fun wx hx => by obtain ⟨hx0, hx1, hx2, hx3⟩ := hx; go_simp⟩) hS ?_
        try simp only [Act.put, List.getElem_toArray, List.getElem_cons_zero, List.getElem_cons_succ, List.setIfInBounds_toArray, List.set_cons_zero, List.set_cons_succ]
        refine wpAnyH_take (i := 1) (v := .pointer (some ⟨PB, 0, none⟩)) rfl (by kernel_rfl) (by kernel_rfl) (by kernel_rfl) (fun _ _ _ h => h) (Or.inl ⟨by first | rfl | go_simp, fun wx hx => by obtain ⟨hx0, hx1, hx2, hx3⟩ := hx; go_simp⟩) hS ?_
        try simp only [Act.put, List.getElem_toArray, List.getElem_cons_zero, List.getElem_cons_succ, List.setIfInBounds_toArray, List.set_cons_zero, List.set_cons_succ]
        refine wpAnyH_take (i := 2) (v := .pointer (some ⟨PB, 0, none⟩)) rfl (by kernel_rfl) (by kernel_rfl) (by kernel_rfl) (fun _ _ _ h => h) (Or.inl ⟨by first | rfl | go_simp, fun wx hx => by obtain ⟨hx0, hx1, hx2, hx3⟩ := hx; go_simp⟩) hS ?_
        try simp only [Act.put, List.getElem_toArray, List.getElem_cons_zero, List.getElem_cons_succ, List.setIfInBounds_toArray, List.set_cons_zero, List.set_cons_succ]
        refine wpAnyH_take (i := 3) (v := .pointer (some ⟨PB, 26, none⟩)) rfl (by kernel_rfl) (by kernel_rfl) (by kernel_rfl) (fun _ _ _ h => h) (Or.inl ⟨by first | rfl | go_simp, fun wx hx => by obtain ⟨hx0, hx1, hx2, hx3⟩ := hx; go_simp⟩) hS ?_
        try simp only [Act.put, List.getElem_toArray, List.getElem_cons_zero, List.getElem_cons_succ, List.setIfInBounds_toArray, List.set_cons_zero, List.set_cons_succ]
        refine wpAnyH_take (i := 5) (v := .agg #[.int .i64 (k : Int), .int .i64 c, .pointer q, .int .i64 nx]) rfl (by kernel_rfl) (by kernel_rfl) (by kernel_rfl) (fun _ _ _ h => h) (Or.inl ⟨by first | rfl | go_simp, fun wx hx => by obtain ⟨hx0, hx1, hx2, hx3⟩ := hx; go_simp⟩) hS ?_
        try simp only [Act.put, List.getElem_toArray, List.getElem_cons_zero, List.getElem_cons_succ, List.setIfInBounds_toArray, List.set_cons_zero, List.set_cons_succ]
        refine wpAnyH_ready (rs := [4, 6]) (by kernel_rfl) (by simp) ?_
        refine AllReadyH.cons rfl (fun K hK => ?_) (AllReadyH.cons rfl (fun K hK => ?_) AllReadyH.nil)
        · rw [if_pos (by first | rfl | go_simp)]
          go_simp
          refine hK.out _ _ (⟨t0, t1, t2, t3⟩) (fun hS2 => ?_)
          try simp only [Act.put, List.getElem_toArray, List.getElem_cons_zero, List.getElem_cons_succ, List.setIfInBounds_toArray, List.set_cons_zero, List.set_cons_succ]
          clear hK K
          refine wpAnyH_ready (rs := [6]) (by kernel_rfl) (by simp) ?_
          refine AllReadyH.cons rfl (fun K hK => ?_) AllReadyH.nil
          rw [if_pos (by first | rfl | go_simp)]
          go_simp
          refine hK.out _ _ (TB.out) (fun hS3 => ?_)
          try simp only [Act.put, List.getElem_toArray, List.getElem_cons_zero, List.getElem_cons_succ, List.setIfInBounds_toArray, List.set_cons_zero, List.set_cons_succ]
          clear hK K
          refine wpAnyH_ready (rs := [7]) (by kernel_rfl) (by simp) ?_
          refine AllReadyH.cons rfl (fun K hK => ?_) AllReadyH.nil
          rw [if_pos (by first | rfl | go_simp)]
          rw [← hWB]
          refine wp_append_at _ _ 80 rfl w.heap.size 87 i0 (.agg #[.int .i64 0, .int .i64 0, .pointer none, .int .i64 0]) 4 32 Try.underlying80 hi0 hy0 hy1 hy2 rfl (by decide) (.slice ut ts.length ct) ts.length (flatT ts) rfl OB.out ⟨WA.heap.size, 0, none⟩ 1 1 (flatT [((k : Int), c, q, nx)]) rfl rfl NB.out (flatT_one _) (by unfold maxLen; omega) (by omega) hwB ?_
          intro v6 w6 ho6 hg6 hn6 hat6
          obtain ⟨u6, d6, rfl⟩ := ownG_shape ho6
          have hb6 : w6.heap[w5.heap.size]? = WA.heap[w5.heap.size]? := (hg6.block _ HLB.out.1 (fun e => HNE.out e.symm)).trans HLB.out.2.2
          have T6 := hideP (HTB.out w6 hb6)
          have P6 : Hid (ParA w6 PB z5 (.slice (some ⟨B, 0, none⟩) n cap) (.slice ut ts.length ct)) := hideP (PBk.out.keep (hg6.block PB HLB.out.2.1 (fun e => HTP.out e.symm)))
          have c26B := P6.out.c26
          have fz6 := P6.out.free
          have O6 : Hid (w6.ownsRow w.heap.size 87 4 (.slice u6 (ts.length + 1) d6) (ts.length + 1) (flatT ts ++ flatT [((k : Int), c, q, nx)])) := hideP ho6
          have T7 := hideP (HTB.out (w6.setCell ⟨PB, 26, none⟩ (.slice u6 (ts.length + 1) d6)) ((Below.heap_setCell _ _ _ _ (by simp; omega)).trans hb6))
          have hP6l : PB < w6.heap.size := P6.out.lt
          have G6 := hideP hg6
          have K6 : Hid (KeepH w5 w6) := hideP (KWB.out.trans (KeepH.grown OB.out (fun b h1 h2 => hg6.block b h1 h2)))
          have A6 := hideP hat6
          clear ho6 hg6 hn6 hat6 hb6
          refine hK.out _ _ T6.out (fun hS6 => ?_)
          try simp only [Act.put, List.getElem_toArray, List.getElem_cons_zero, List.getElem_cons_succ, List.setIfInBounds_toArray, List.set_cons_zero, List.set_cons_succ]
          clear hK K
          refine wpAnyH_take (i := 8) (v := .pointer (some ⟨PB, 0, none⟩)) rfl (by kernel_rfl) (by kernel_rfl) (by kernel_rfl) (fun _ _ _ h => h) (Or.inl ⟨by first | rfl | go_simp, fun wx hx => by obtain ⟨hx0, hx1, hx2, hx3⟩ := hx; go_simp⟩) hS6 ?_
          try simp only [Act.put, List.getElem_toArray, List.getElem_cons_zero, List.getElem_cons_succ, List.setIfInBounds_toArray, List.set_cons_zero, List.set_cons_succ]
          refine wpAnyH_take (i := 9) (v := .pointer (some ⟨PB, 26, none⟩)) rfl (by kernel_rfl) (by kernel_rfl) (by kernel_rfl) (fun _ _ _ h => h) (Or.inl ⟨by first | rfl | go_simp, fun wx hx => by obtain ⟨hx0, hx1, hx2, hx3⟩ := hx; go_simp⟩) hS6 ?_
          try simp only [Act.put, List.getElem_toArray, List.getElem_cons_zero, List.getElem_cons_succ, List.setIfInBounds_toArray, List.set_cons_zero, List.set_cons_succ]
          refine wpAnyH_ready (rs := [10]) (by kernel_rfl) (by simp) ?_
          refine AllReadyH.cons rfl (fun K hK => ?_) AllReadyH.nil
          rw [if_pos (by first | rfl | go_simp)]
          go_simp
          refine hK.out _ _ (T7.out) (fun _ => ?_)
          try simp only [Act.put, List.getElem_toArray, List.getElem_cons_zero, List.getElem_cons_succ, List.setIfInBounds_toArray, List.set_cons_zero, List.set_cons_succ]
          clear hK K
          refine wpAnyH_done (by kernel_rfl) ?_ _
          obtain ⟨W7, hW7⟩ : ∃ W7, W7 = w6.setCell ⟨PB, 26, none⟩ (.slice u6 (ts.length + 1) d6) := ⟨_, rfl⟩
          rw [← hW7]
          have HT7 : Hid ((ts ++ [((k : Int), c, q, nx)]).map (fun t => t.1) = back ys n k) := hideP (by rw [HBS.out, ← HBT.out, if_pos rfl, List.map_append, HT.out]; rfl)
          have P7 : Hid (ParA W7 PB z5 (.slice (some ⟨B, 0, none⟩) n cap) (.slice u6 (ts.length + 1) d6)) := hideP (by rw [hW7]; exact P6.out.set)
          have O7 : Hid (W7.ownsRow w.heap.size 87 4 (.slice u6 (ts.length + 1) d6) (ts ++ [((k : Int), c, q, nx)]).length (flatT (ts ++ [((k : Int), c, q, nx)]))) := hideP (by
            rw [hW7, flatT_app, List.length_append]
            exact ownG_other O6.out (par_ne P6.out O6.out) 26 _)
          have F7 : Hid (Fr PB w W7) := hideP (by
            rw [hW7]
            refine Fr.set ?_ _ _
            refine ⟨G6.out.os.trans FB.out.1, G6.out.tape.trans FB.out.2.1, G6.out.output.trans FB.out.2.2.1, Nat.le_trans FB.out.2.2.2.1 G6.out.size, fun b hb hn => ?_⟩
            exact (G6.out.block b (Nat.lt_of_lt_of_le hb FB.out.2.2.2.1) (fun e => by have := (World.ownsRow.lt OB.out b e.symm).1; omega)).trans (FB.out.2.2.2.2 b hb hn))
          have K7 : Hid (KeepH w5 W7) := hideP (by rw [hW7]; exact K6.out.trans (KeepH.set P6.out 26 _))
          have TS7 : Hid (∀ t ∈ ts ++ [((k : Int), c, q, nx)], TurnP z5.S.hy ys t W7) := hideP (fun t h => by
            rcases List.mem_append.1 h with h | h
            · exact (HTS5.out t h).keep K7.out
            · rw [List.mem_singleton.1 h]
              exact .inr ⟨k, q, by rw [HCC.out, HNX.out], by rw [HL.out]; omega, HSH.out.keep K7.out⟩)
          clear hW7 c26B fz6 hS hS2 hS3 hS6 t0 t1 t2 t3 c26A fzA
          have c24 := P7.out.c24
          obtain ⟨k0, k1, k2⟩ := HIT.out W7 F7.out
          have hP7l : PB < W7.heap.size := P7.out.lt
          have hB7l : B < W7.heap.size := Nat.lt_of_lt_of_le hB F7.out.2.2.2.1
          go_wp2_with fail
          refine (DC.out _).mono ?_
          rintro e w8 ⟨rfl, hb8⟩
          have P8 := hideP (P7.out.keep (hb8.block PB hP7l))
          have O8 := hideP (ownG_below O7.out hb8)
          have F8 := hideP (F7.out.below hb8)
          have TS8 : Hid (∀ t ∈ ts ++ [((k : Int), c, q, nx)], TurnP z5.S.hy ys t w8) := hideP (fun t h => (TS7.out t h).keep (KeepH.below hb8))
          clear hb8 c24 k0 k1 k2
          cases db with
          | false =>
            go_wp2
            go_roundw
            case rel => exact ⟨k, _, _, (ts ++ [((k : Int), c, q, nx)]), by omega, rfl, rfl, HT7, P8, O8, F8, hideP (by rw [HNS.out]; simp), TS8⟩
            case measure => simp [intOf]
          | true =>
            go_wp2
            go_roundw
            case rel => exact ⟨k, _, _, (ts ++ [((k : Int), c, q, nx)]), by omega, rfl, rfl, HT7, P8, O8, F8, hideP (by rw [HNS.out]; simpa using HNX.out), TS8⟩
            case measure => simp [intOf]
        · rw [if_pos (by first | rfl | go_simp)]
          go_simp
          refine hK.out _ _ (TB.out) (fun hS2 => ?_)
          try simp only [Act.put, List.getElem_toArray, List.getElem_cons_zero, List.getElem_cons_succ, List.setIfInBounds_toArray, List.set_cons_zero, List.set_cons_succ]
          clear hK K
          have c26W : (WA.alloc (.cells #[.int .i64 (k : Int), .int .i64 c, .pointer q, .int .i64 nx] 87)).drew.cell? ⟨PB, 26, none⟩ = some (.slice ut ts.length ct) := by rw [← hWB]; exact PBk.out.c26
          refine wpAnyH_ready (rs := [4]) (by kernel_rfl) (by simp) ?_
          refine AllReadyH.cons rfl (fun K hK => ?_) AllReadyH.nil
          rw [if_pos (by first | rfl | go_simp)]
          go_simp
          refine hK.out _ _ (TB.out) (fun hS3 => ?_)
          try simp only [Act.put, List.getElem_toArray, List.getElem_cons_zero, List.getElem_cons_succ, List.setIfInBounds_toArray, List.set_cons_zero, List.set_cons_succ]
          clear hK K
          refine wpAnyH_ready (rs := [7]) (by kernel_rfl) (by simp) ?_
          refine AllReadyH.cons rfl (fun K hK => ?_) AllReadyH.nil
          rw [if_pos (by first | rfl | go_simp)]
          rw [← hWB]
          refine wp_append_at _ _ 80 rfl w.heap.size 87 i0 (.agg #[.int .i64 0, .int .i64 0, .pointer none, .int .i64 0]) 4 32 Try.underlying80 hi0 hy0 hy1 hy2 rfl (by decide) (.slice ut ts.length ct) ts.length (flatT ts) rfl OB.out ⟨WA.heap.size, 0, none⟩ 1 1 (flatT [((k : Int), c, q, nx)]) rfl rfl NB.out (flatT_one _) (by unfold maxLen; omega) (by omega) hwB ?_
          intro v6 w6 ho6 hg6 hn6 hat6
          obtain ⟨u6, d6, rfl⟩ := ownG_shape ho6
          have hb6 : w6.heap[w5.heap.size]? = WA.heap[w5.heap.size]? := (hg6.block _ HLB.out.1 (fun e => HNE.out e.symm)).trans HLB.out.2.2
          have T6 := hideP (HTB.out w6 hb6)
          have P6 : Hid (ParA w6 PB z5 (.slice (some ⟨B, 0, none⟩) n cap) (.slice ut ts.length ct)) := hideP (PBk.out.keep (hg6.block PB HLB.out.2.1 (fun e => HTP.out e.symm)))
          have c26B := P6.out.c26
          have fz6 := P6.out.free
          have O6 : Hid (w6.ownsRow w.heap.size 87 4 (.slice u6 (ts.length + 1) d6) (ts.length + 1) (flatT ts ++ flatT [((k : Int), c, q, nx)])) := hideP ho6
          have T7 := hideP (HTB.out (w6.setCell ⟨PB, 26, none⟩ (.slice u6 (ts.length + 1) d6)) ((Below.heap_setCell _ _ _ _ (by simp; omega)).trans hb6))
          have hP6l : PB < w6.heap.size := P6.out.lt
          have G6 := hideP hg6
          have K6 : Hid (KeepH w5 w6) := hideP (KWB.out.trans (KeepH.grown OB.out (fun b h1 h2 => hg6.block b h1 h2)))
          have A6 := hideP hat6
          clear ho6 hg6 hn6 hat6 hb6
          refine hK.out _ _ T6.out (fun hS6 => ?_)
          try simp only [Act.put, List.getElem_toArray, List.getElem_cons_zero, List.getElem_cons_succ, List.setIfInBounds_toArray, List.set_cons_zero, List.set_cons_succ]
          clear hK K
          refine wpAnyH_take (i := 8) (v := .pointer (some ⟨PB, 0, none⟩)) rfl (by kernel_rfl) (by kernel_rfl) (by kernel_rfl) (fun _ _ _ h => h) (Or.inl ⟨by first | rfl | go_simp, fun wx hx => by obtain ⟨hx0, hx1, hx2, hx3⟩ := hx; go_simp⟩) hS6 ?_
          try simp only [Act.put, List.getElem_toArray, List.getElem_cons_zero, List.getElem_cons_succ, List.setIfInBounds_toArray, List.set_cons_zero, List.set_cons_succ]
          refine wpAnyH_take (i := 9) (v := .pointer (some ⟨PB, 26, none⟩)) rfl (by kernel_rfl) (by kernel_rfl) (by kernel_rfl) (fun _ _ _ h => h) (Or.inl ⟨by first | rfl | go_simp, fun wx hx => by obtain ⟨hx0, hx1, hx2, hx3⟩ := hx; go_simp⟩) hS6 ?_
          try simp only [Act.put, List.getElem_toArray, List.getElem_cons_zero, List.getElem_cons_succ, List.setIfInBounds_toArray, List.set_cons_zero, List.set_cons_succ]
          refine wpAnyH_ready (rs := [10]) (by kernel_rfl) (by simp) ?_
          refine AllReadyH.cons rfl (fun K hK => ?_) AllReadyH.nil
          rw [if_pos (by first | rfl | go_simp)]
          go_simp
          refine hK.out _ _ (T7.out) (fun _ => ?_)
          try simp only [Act.put, List.getElem_toArray, List.getElem_cons_zero, List.getElem_cons_succ, List.setIfInBounds_toArray, List.set_cons_zero, List.set_cons_succ]
          clear hK K
          refine wpAnyH_done (by kernel_rfl) ?_ _
          obtain ⟨W7, hW7⟩ : ∃ W7, W7 = w6.setCell ⟨PB, 26, none⟩ (.slice u6 (ts.length + 1) d6) := ⟨_, rfl⟩
          rw [← hW7]
          have HT7 : Hid ((ts ++ [((k : Int), c, q, nx)]).map (fun t => t.1) = back ys n k) := hideP (by rw [HBS.out, ← HBT.out, if_pos rfl, List.map_append, HT.out]; rfl)
          have P7 : Hid (ParA W7 PB z5 (.slice (some ⟨B, 0, none⟩) n cap) (.slice u6 (ts.length + 1) d6)) := hideP (by rw [hW7]; exact P6.out.set)
          have O7 : Hid (W7.ownsRow w.heap.size 87 4 (.slice u6 (ts.length + 1) d6) (ts ++ [((k : Int), c, q, nx)]).length (flatT (ts ++ [((k : Int), c, q, nx)]))) := hideP (by
            rw [hW7, flatT_app, List.length_append]
            exact ownG_other O6.out (par_ne P6.out O6.out) 26 _)
          have F7 : Hid (Fr PB w W7) := hideP (by
            rw [hW7]
            refine Fr.set ?_ _ _
            refine ⟨G6.out.os.trans FB.out.1, G6.out.tape.trans FB.out.2.1, G6.out.output.trans FB.out.2.2.1, Nat.le_trans FB.out.2.2.2.1 G6.out.size, fun b hb hn => ?_⟩
            exact (G6.out.block b (Nat.lt_of_lt_of_le hb FB.out.2.2.2.1) (fun e => by have := (World.ownsRow.lt OB.out b e.symm).1; omega)).trans (FB.out.2.2.2.2 b hb hn))
          have K7 : Hid (KeepH w5 W7) := hideP (by rw [hW7]; exact K6.out.trans (KeepH.set P6.out 26 _))
          have TS7 : Hid (∀ t ∈ ts ++ [((k : Int), c, q, nx)], TurnP z5.S.hy ys t W7) := hideP (fun t h => by
            rcases List.mem_append.1 h with h | h
            · exact (HTS5.out t h).keep K7.out
            · rw [List.mem_singleton.1 h]
              exact .inr ⟨k, q, by rw [HCC.out, HNX.out], by rw [HL.out]; omega, HSH.out.keep K7.out⟩)
          clear hW7 c26B fz6 hS hS2 hS3 hS6 t0 t1 t2 t3 c26A fzA
          have c24 := P7.out.c24
          obtain ⟨k0, k1, k2⟩ := HIT.out W7 F7.out
          have hP7l : PB < W7.heap.size := P7.out.lt
          have hB7l : B < W7.heap.size := Nat.lt_of_lt_of_le hB F7.out.2.2.2.1
          go_wp2_with fail
          refine (DC.out _).mono ?_
          rintro e w8 ⟨rfl, hb8⟩
          have P8 := hideP (P7.out.keep (hb8.block PB hP7l))
          have O8 := hideP (ownG_below O7.out hb8)
          have F8 := hideP (F7.out.below hb8)
          have TS8 : Hid (∀ t ∈ ts ++ [((k : Int), c, q, nx)], TurnP z5.S.hy ys t w8) := hideP (fun t h => (TS7.out t h).keep (KeepH.below hb8))
          clear hb8 c24 k0 k1 k2
          cases db with
          | false =>
            go_wp2
            go_roundw
            case rel => exact ⟨k, _, _, (ts ++ [((k : Int), c, q, nx)]), by omega, rfl, rfl, HT7, P8, O8, F8, hideP (by rw [HNS.out]; simp), TS8⟩
            case measure => simp [intOf]
          | true =>
            go_wp2
            go_roundw
            case rel => exact ⟨k, _, _, (ts ++ [((k : Int), c, q, nx)]), by omega, rfl, rfl, HT7, P8, O8, F8, hideP (by rw [HNS.out]; simpa using HNX.out), TS8⟩
            case measure => simp [intOf]
    · obtain rfl : j = 0 := by omega
      have hjn : ¬ (0 : Int) ≤ ((0 : Nat) : Int) - 1 := by omega
      obtain ⟨ut, ct, rfl⟩ := ownG_shape HO.out
      have HTP := hideP (par_ne HPr.out HO.out)
      have c26 := HPr.out.c26
      have fz := HPr.out.free
      have hPr : PB < wr.heap.size := HPr.out.lt
      have hwr : w.heap.size ≤ wr.heap.size := HF.out.2.2.2.1
      have hlen : ts.length ≤ n := by
        have h1 := congrArg List.length HT.out
        rw [List.length_map] at h1
        have h2 := back_len ys n 0
        omega
      go_wp2_with (at_builtin; refine Hid.out ?_)
      refine hideP ?_
      obtain ⟨WB, hWB⟩ : ∃ WB, WB = wr.alloc (.cells #[.int .i64 (-1), .int .i64 0, .pointer none, .int .i64 nx] 87) := ⟨_, rfl⟩
      rw [← hWB]
      have OB : Hid (WB.ownsRow w.heap.size 87 4 (.slice ut ts.length ct) ts.length (flatT ts)) := hideP (by rw [hWB]; exact ownG_below HO.out (below1 _ _))
      have NB : Hid (∀ j z, (flatT [((-1 : Int), (0 : Int), (none : Option Addr), nx)])[j]? = some z → WB.cell? ((⟨wr.heap.size, 0, none⟩ : Addr).add j) = some z) := hideP (fun j z hz => by
        have he : ((⟨wr.heap.size, 0, none⟩ : Addr).add j) = ⟨wr.heap.size, j, none⟩ := by simp only [Addr.add]; split <;> simp_all
        have hh2 : WB.heap[wr.heap.size]? = some (.cells #[.int .i64 (-1), .int .i64 0, .pointer none, .int .i64 nx] 87 (0, 0)) := by rw [hWB]; exact heap_alloc_new wr (.cells #[.int .i64 (-1), .int .i64 0, .pointer none, .int .i64 nx] 87)
        rw [he, cell_of_row _ _ _ _ _ _ hh2, ← hz]
        simp [flatT, Tn.cells])
      have hwB : w.heap.size ≤ WB.heap.size := by rw [hWB]; exact Nat.le_trans hwr (below1 wr (.cells #[.int .i64 (-1), .int .i64 0, .pointer none, .int .i64 nx] 87)).size
      have FB : Hid (Fr PB w WB) := hideP (by rw [hWB]; exact HF.out.alloc _)
      have PBk : Hid (ParA WB PB z5 (.slice (some ⟨B, 0, none⟩) n cap) (.slice ut ts.length ct)) := hideP (by rw [hWB]; exact HPr.out.keep ((below1 wr _).block PB hPr))
      have KWB : Hid (KeepH wr WB) := hideP (by rw [hWB]; exact KeepH.below (below1 _ _))
      clear hWB
      refine wpList_append_at rfl (.tmp 54) (.tmp 57) 80 rfl w.heap.size 87 i0 (.agg #[.int .i64 0, .int .i64 0, .pointer none, .int .i64 0]) 4 32 Try.underlying80 hi0 hy0 hy1 hy2 rfl (by decide) (.slice ut ts.length ct) ts.length (flatT ts) rfl OB.out ⟨wr.heap.size, 0, none⟩ 1 1 (flatT [((-1 : Int), (0 : Int), (none : Option Addr), nx)]) rfl rfl NB.out (flatT_one _) (by unfold maxLen; omega) (by omega) hwB ?_
      intro v6 w6 ho6 hg6 hat6
      obtain ⟨g6, d6, rfl⟩ : ∃ g d, v6 = .slice (some ⟨g, 0, none⟩) (ts.length + 1) d := by
        rcases ho6.2 with ⟨_, h0⟩ | ⟨g', cap', cur, hv, _⟩
        · omega
        · exact ⟨g', cap', hv⟩
      have P6 : Hid (ParA w6 PB z5 (.slice (some ⟨B, 0, none⟩) n cap) (.slice ut ts.length ct)) := hideP (PBk.out.keep (hg6.block PB PBk.out.lt (fun e => HTP.out e.symm)))
      have c26B := P6.out.c26
      have fz6 := P6.out.free
      have hP6l : PB < w6.heap.size := P6.out.lt
      have O6 : Hid (w6.ownsRow w.heap.size 87 4 (.slice (some ⟨g6, 0, none⟩) (ts.length + 1) d6) (ts.length + 1) (flatT (ts ++ [((-1 : Int), (0 : Int), (none : Option Addr), nx)]))) := hideP (by rw [flatT_app]; exact ho6)
      have F6 : Hid (Fr PB w w6) := hideP ⟨hg6.os.trans FB.out.1, hg6.tape.trans FB.out.2.1, hg6.output.trans FB.out.2.2.1, Nat.le_trans FB.out.2.2.2.1 hg6.size, fun b hb hn => (hg6.block b (Nat.lt_of_lt_of_le hb FB.out.2.2.2.1) (fun e => by have := (World.ownsRow.lt OB.out b e.symm).1; omega)).trans (FB.out.2.2.2.2 b hb hn)⟩
      have HGP := hideP (par_ne P6.out O6.out)
      have K6 : Hid (KeepH wr w6) := hideP (KWB.out.trans (KeepH.grown OB.out (fun b h1 h2 => hg6.block b h1 h2)))
      clear ho6 hg6 hat6 c26 fz
      obtain ⟨W7, hW7⟩ : ∃ W7, W7 = w6.setCell ⟨PB, 26, none⟩ (.slice (some ⟨g6, 0, none⟩) (ts.length + 1) d6) := ⟨_, rfl⟩
      have P7 : Hid (ParA W7 PB z5 (.slice (some ⟨B, 0, none⟩) n cap) (.slice (some ⟨g6, 0, none⟩) (ts.length + 1) d6)) := hideP (by rw [hW7]; exact P6.out.set)
      have O7 : Hid (W7.ownsRow w.heap.size 87 4 (.slice (some ⟨g6, 0, none⟩) (ts.length + 1) d6) (ts.length + 1) (flatT (ts ++ [((-1 : Int), (0 : Int), (none : Option Addr), nx)]))) := hideP (by rw [hW7]; exact ownG_other O6.out HGP.out 26 _)
      have F7 : Hid (Fr PB w W7) := hideP (by rw [hW7]; exact F6.out.set _ _)
      go_wp2_with fail
      rw [← hW7]
      refine (reverse_any O7.out (by simp) (by omega)).mono ?_
      rintro e w8 ⟨⟨vr, rfl⟩, ho8, hs8⟩
      have hg8 : w.heap.size ≤ g6 := (World.ownsRow.lt O7.out g6 rfl).1
      have P8 := hideP (P7.out.keep (hs8.other PB P7.out.lt (fun e => HGP.out (by rw [e]; rfl))))
      have O8 := hideP ho8
      have F8 : Hid (Fr PB w w8) := hideP ⟨hs8.below.os.trans F7.out.1, hs8.below.tape.trans F7.out.2.1, hs8.below.output.trans F7.out.2.2.1, Nat.le_trans F7.out.2.2.2.1 hs8.below.size, fun b hb hn => (hs8.below.block b (by omega)).trans (F7.out.2.2.2.2 b hb hn)⟩
      have K8 : Hid (KeepH wr w8) := hideP ((K6.out.trans (by rw [hW7]; exact KeepH.set P6.out 26 _ : KeepH w6 W7)).trans (KeepH.grown O7.out (fun b h1 h2 => hs8.other b h1 (fun e => h2 (by rw [e]; rfl)))))
      clear ho8 hs8 hW7 c26B fz6
      go_wp2
      go_end0
      refine ⟨⟨_, rfl⟩, ⟨(ts ++ [((-1 : Int), (0 : Int), (none : Option Addr), nx)]).reverse, g6, ts.length + 1, d6, by simp, ?_, P8.out, O8.out, ?_⟩, F8.out⟩
      · rw [List.map_reverse, List.map_append, HT.out, List.reverse_append]
        rfl
      · intro t h
        rcases List.mem_append.1 (List.mem_reverse.1 h) with h | h
        · exact (HTS.out t h).keep K8.out
        · rw [List.mem_singleton.1 h, HNX.out]
          exact .inl rfl
end Go.Proofs.Ytdgfnceipginkaa
