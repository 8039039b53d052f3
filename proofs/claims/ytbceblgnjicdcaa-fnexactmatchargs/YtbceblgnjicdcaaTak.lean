/-
  The specification's state of matching: taking a token, and a code.
-/
import Derived.Test.YtbceblgnjicdcaaFls
namespace Go.Proofs.Ytbceblgnjicdcaa
open Go.RowKit
set_option linter.unusedVariables false
set_option linter.unusedSimpArgs false

/-- The cells of a state. -/
def stC (iv : Value) (code : Int) : Array Value := #[.slice none 0 0, iv, .int .i64 0, .int .i64 code, .string ByteArray.empty, .int .i64 0, .int .i64 0, .slice none 0 0]
/-- All but block s stands. -/
def Fr (s : Nat) (w w' : World) : Prop := Below s w w' ∧ Abv (s + 1) w w'
theorem Fr.refl (s : Nat) (w : World) : Fr s w w := ⟨Below.refl _ _, Abv.refl _ _⟩
theorem Fr.trans {s : Nat} {a b c : World} (h : Fr s a b) (k : Fr s b c) : Fr s a c := ⟨h.1.trans k.1, h.2.trans k.2⟩
theorem Fr.below {s : Nat} {w w' : World} (h : Below w.heap.size w w') (hs : s ≤ w.heap.size) : Fr s w w' := ⟨h.mono hs, Abv.below h⟩
theorem Fr.set {s o : Nat} (w : World) (x : Value) : Fr s w (w.setCell ⟨s, o, none⟩ x) := ⟨(Below.refl s w).setCell (p := ⟨s, o, none⟩) (Nat.le_refl _) _, Abv.set (Nat.lt_succ_self _) _⟩
theorem Fr.size {s : Nat} {w w' : World} (h : Fr s w w') : w.heap.size ≤ w'.heap.size := h.2.size

abbrev ptr (s : Nat) : Value := .pointer (some ⟨s, 0, none⟩)

def StH (w : World) (s : Nat) (iv : Value) (code : Int) : Prop := w.heap[s]? = some (.cells (stC iv code) 105)

theorem StH.cells {w : World} {s : Nat} {iv : Value} {code : Int} (h : StH w s iv code) : w.cell? ⟨s, 1, none⟩ = some iv ∧ w.cell? ⟨s, 3, none⟩ = some (.int .i64 code) ∧ w.cell? ⟨s, 4, none⟩ = some (.string ByteArray.empty) ∧ w.cell? ⟨s, 5, none⟩ = some (.int .i64 0) ∧ w.cell? ⟨s, 6, none⟩ = some (.int .i64 0) ∧ s < w.heap.size := by
  refine ⟨?_, ?_, ?_, ?_, ?_, (Array.getElem?_eq_some_iff.1 h).1⟩ <;> (rw [cell_of_row w s _ _ 105 _ h]; rfl)
theorem StH.code {w : World} {s : Nat} {iv : Value} {code : Int} (h : StH w s iv code) (c : Int) : StH (w.setCell ⟨s, 3, none⟩ (.int .i64 c)) s iv c := by
  unfold StH
  rw [heap_setCell_same w s 3 _ 105 _ h]
  rfl
theorem StH.inn {w : World} {s : Nat} {iv : Value} {code : Int} (h : StH w s iv code) (v : Value) : StH (w.setCell ⟨s, 1, none⟩ v) s v code := by
  unfold StH
  rw [heap_setCell_same w s 1 _ 105 _ h]
  rfl
theorem StH.frozen {w : World} {s : Nat} {iv : Value} {code : Int} (h : StH w s iv code) (o : Nat) : w.frozen? ⟨s, o, none⟩ = false := by
  unfold StH at h
  simp [World.frozen?, h]

set_option maxRecDepth 100000 in
set_option maxHeartbeats 2000000 in
theorem l4Err_any {w : World} {s : Nat} {iv : Value} {code : Int} (h : StH w s iv code) (c : Int) :
    Calls Try.prog 105 #[ptr s, .int .i64 c] w fun e w' => e = .returned (.tuple #[]) ∧ StH w' s iv (if code = 0 then c else code) ∧ Fr s w w' := by
  have H : Hid (StH w s iv code) := h
  obtain ⟨g1, g3, g4, g5, g6, hsz⟩ := StH.cells h
  have hfz := StH.frozen h
  clear h
  go_enter Try.func105, Try.ntmps105
  by_cases h0 : code = 0
  · subst h0
    go_wp2
    go_end0
    exact ⟨rfl, StH.code H c, Fr.set _ _⟩
  · go_wp2
    go_end0
    exact ⟨rfl, H, Fr.refl _ _⟩

/-- The state with the tokens that are left, and a code. -/
def St (w : World) (s : Nat) (rest : List Tk) (code : Int) : Prop := ∃ ib cap, ib < s ∧ StH w s (.slice (some ⟨ib, 0, none⟩) rest.length cap) code ∧ TOn 0 w (.slice (some ⟨ib, 0, none⟩) rest.length cap) rest.reverse

theorem St.fr {w w' : World} {s : Nat} {rest : List Tk} {code : Int} (h : St w s rest code) (hf : Below w.heap.size w w') : St w' s rest code := by
  obtain ⟨ib, cap, hib, hh, ht⟩ := h
  refine ⟨ib, cap, hib, ?_, ht.below hf⟩
  have := (Array.getElem?_eq_some_iff.1 hh).1
  unfold StH
  rw [hf.block _ this]
  exact hh
theorem TOn.fr {w w' : World} {s b off n cap : Nat} {ts : List Tk} (h : TOn 0 w (.slice (some ⟨b, off, none⟩) n cap) ts) (hb : b < s) (hf : Fr s w w') : TOn 0 w' (.slice (some ⟨b, off, none⟩) n cap) ts := by
  obtain ⟨b2, off2, cap2, e, hcap, hlo, hb2, hc⟩ := h
  simp at e
  obtain ⟨⟨rfl, rfl⟩, rfl, rfl⟩ := e
  exact ⟨b, off, cap, rfl, hcap, hlo, Nat.lt_of_lt_of_le hb2 hf.size, fun j u hj => (hf.1.cell (p := ⟨b, off + j, none⟩) hb).trans (hc j u hj)⟩

/-- What is taken, and what is left. -/
def tkT (rest : List Tk) (code : Int) : Tk := if code = 0 then rest.headD Tk.none else Tk.none
def tkR (rest : List Tk) (code : Int) : List Tk := if code = 0 then rest.tail else rest
def tkC (rest : List Tk) (code : Int) : Int := if code = 0 then (if rest = [] then 1 else 0) else code

set_option maxRecDepth 100000 in
set_option maxHeartbeats 2000000 in
theorem l4Has_any {w : World} {s : Nat} {rest : List Tk} {code : Int} (h : St w s rest code) (hl : rest.length ≤ 1048576) :
    Calls Try.prog 131 #[ptr s] w fun e w' => e = .returned (.bool (decide (0 < rest.length))) ∧ Below w.heap.size w w' := by
  obtain ⟨ib, cap, hib, hh, ht⟩ := h
  obtain ⟨n, hn⟩ : ∃ n, n = rest.length := ⟨_, rfl⟩
  rw [← hn] at hh hl
  rw [← hn]
  obtain ⟨g1, g3, g4, g5, g6, hsz⟩ := StH.cells hh
  clear hh ht hn
  have he : ByteArray.empty.size = 0 := rfl
  go_enter Try.func131, Try.ntmps131
  go_wp2
  go_loopw [] (fun wr => wr = w) (fun _ => 0)
  case atStart => rfl
  case round =>
    subst hrel
    by_cases h0 : n = 0
    · subst h0
      go_wp2
      go_region
      all_goals
        go_wp2
        go_ret
        exact ⟨rfl, Below.drew (Below.refl _ _)⟩
    · have h1 : ¬ (n : Int) = 0 := by omega
      have h2 : (0 : Int) < (n : Int) := by omega
      have h3 : decide (0 < n) = true := by simp; omega
      have h4 : ((n : Int) == 0) = false := beq_eq_false_iff_ne.2 h1
      go_wp2
      go_region
      all_goals
        go_wp2
        go_ret
        exact ⟨by rw [h3]; rfl, Below.drew (Below.refl _ _)⟩

end Go.Proofs.Ytbceblgnjicdcaa
