/-
  For the lists of the slots of a pattern: is it a slot, and lists of lists of one's own.
-/
import Derived.Test.YtbceblgnjicdcaaTrn
namespace Go.Proofs.Ytbceblgnjicdcaa
open Go.RowKit
set_option linter.unusedVariables false
set_option linter.unusedSimpArgs false

set_option maxRecDepth 100000 in
set_option maxHeartbeats 4000000 in
theorem l4Slot_any {vp vb : Value} {p : List Tk} {sl : Int} {i : Nat} {w : World} (hp : TRow w vp p) (lp : p.length ≤ 1048576) (li : i ≤ 1048576) :
    Calls Try.prog 103 #[macV vp sl vb, .int .i64 (i : Int)] w fun e w' => e = .returned (.bool (decide (i < p.length ∧ (p.getD i Tk.none).c = 16))) ∧ Below w.heap.size w w' := by
  obtain ⟨ao, n, cap, rfl, hn, hr⟩ := hp
  rw [hn] at lp
  rw [hn]
  by_cases hin : i < n
  · have hii : (i : Int) < (n : Int) := by omega
    obtain ⟨b, off, rfl, hb, hc⟩ := hr (by omega)
    obtain ⟨g0, _, _⟩ := hc i hin
    obtain ⟨t, ht⟩ : ∃ t, t = p.getD i Tk.none := ⟨_, rfl⟩
    rw [← ht] at g0
    rw [← ht]
    clear hr hc ht
    obtain ⟨c, h, s⟩ := t
    dsimp only at g0
    by_cases hc : c = 16
    · have e : decide (i < n ∧ c = 16) = true := decide_eq_true ⟨hin, hc⟩
      dsimp only
      rw [e]
      subst hc
      clear e
      go_enter Try.func103, Try.ntmps103
      go_wp2
      go_ret
      exact ⟨rfl, below1 _ _⟩
    · have e : decide (i < n ∧ c = 16) = false := decide_eq_false (fun h => hc h.2)
      dsimp only
      rw [e]
      have hcb : (c == 16) = false := beq_eq_false_iff_ne.2 hc
      clear e
      go_enter Try.func103, Try.ntmps103
      go_wp2
      go_ret
      exact ⟨rfl, below1 _ _⟩
  · have hii : ¬ (i : Int) < (n : Int) := by omega
    have e : decide (i < n ∧ (p.getD i Tk.none).c = 16) = false := decide_eq_false (fun h => hin h.1)
    rw [e]
    clear e hr
    go_enter Try.func103, Try.ntmps103
    go_wp2
    go_ret
    exact ⟨rfl, below1 _ _⟩

/-- Values one by one are rows of tokens of one's own. -/
def AOf (base : Nat) (w : World) : List Value → List (List Tk) → Prop
  | [], [] => True
  | v :: vs, r :: rs => (w.ownsRow base 31 3 v r.length (flat r) ∧ v ≠ .slice none 0 0) ∧ AOf base w vs rs
  | [], _ :: _ => False
  | _ :: _, [] => False
theorem AOf.keep {base : Nat} {w w' : World} (hk : ∀ (g : Nat) (cur : Array Value), base ≤ g → w.heap[g]? = some (.cells cur 31) → w'.heap[g]? = w.heap[g]?) : ∀ (vs : List Value) (rs : List (List Tk)), AOf base w vs rs → AOf base w' vs rs
  | [], [], _ => trivial
  | v :: vs, r :: rs, h => by
    refine ⟨⟨?_, h.1.2⟩, AOf.keep hk vs rs h.2⟩
    obtain ⟨hl, h' | ⟨g, cap, cur, rfl, hg, hb, hr⟩⟩ := h.1.1
    · exact ⟨hl, .inl h'⟩
    · exact ⟨hl, .inr ⟨g, cap, cur, rfl, hg, (hk g cur hg hb).trans hb, hr⟩⟩
  | [], _ :: _, h => h
  | _ :: _, [], h => h
theorem AOf.snoc {base : Nat} {w : World} {x : Value} {y : List Tk} (hx : w.ownsRow base 31 3 x y.length (flat y) ∧ x ≠ .slice none 0 0) : ∀ (vs : List Value) (rs : List (List Tk)), AOf base w vs rs → AOf base w (vs ++ [x]) (rs ++ [y])
  | [], [], _ => ⟨hx, trivial⟩
  | v :: vs, r :: rs, h => ⟨h.1, AOf.snoc hx vs rs h.2⟩
  | [], _ :: _, h => h.elim
  | _ :: _, [], h => h.elim
theorem AOf.fr {base s : Nat} {w w' : World} (hf : Fr s w w') (hs : s < base) {vs : List Value} {rs : List (List Tk)} (h : AOf base w vs rs) : AOf base w' vs rs :=
  AOf.keep (fun g cur hg hb => hf.2.block g (by omega) (Array.getElem?_eq_some_iff.1 hb).1) vs rs h
theorem AOf.below {base : Nat} {w w' : World} (hf : Below w.heap.size w w') {vs : List Value} {rs : List (List Tk)} (h : AOf base w vs rs) : AOf base w' vs rs :=
  AOf.keep (fun g cur hg hb => hf.block g (Array.getElem?_eq_some_iff.1 hb).1) vs rs h
theorem AOf.rows {base : Nat} {w : World} : ∀ (vs : List Value) (rs : List (List Tk)), AOf base w vs rs → ∀ i, i < rs.length → ∃ v, vs[i]? = some v ∧ TOn base w v (rs.getD i [])
  | [], [], _, i, h => by simp at h
  | v :: vs, r :: rs, h, 0, _ => ⟨v, rfl, own_on h.1.1 h.1.2⟩
  | v :: vs, r :: rs, h, i + 1, hi => by
    obtain ⟨u, h1, h2⟩ := AOf.rows vs rs h.2 i (by simpa using hi)
    exact ⟨u, by simpa using h1, by simpa using h2⟩
  | [], _ :: _, h, i, _ => h.elim
  | _ :: _, [], h, i, _ => h.elim

/-- The tokens ahead of the next slot. -/
def noSlot (t : Tk) : Bool := decide (t.c ≠ 16)
/-- The lists for the slots of a pattern, taken: a code, the lists, what is left. -/
def mat : Nat → List Tk → List Tk → List (List Tk) → Int × List (List Tk) × List Tk
  | 0, _, rest, acc => (0, acc, rest)
  | _ + 1, [], rest, acc => (0, acc, rest)
  | f + 1, t :: p, rest, acc =>
    if t.c = 16 then
      (if (p.takeWhile noSlot).length = 0 then
        (if (plain rest).1 = 0 then mat f p (plain rest).2.2 (acc ++ [(plain rest).2.1]) else ((plain rest).1, acc, (plain rest).2.2))
      else
        (if (unt (p.takeWhile noSlot) 0 [] rest).1 = 0 then mat f (p.drop (p.takeWhile noSlot).length) (unt (p.takeWhile noSlot) 0 [] rest).2.2 (acc ++ [(unt (p.takeWhile noSlot) 0 [] rest).2.1]) else ((unt (p.takeWhile noSlot) 0 [] rest).1, acc, (unt (p.takeWhile noSlot) 0 [] rest).2.2)))
    else
      (match rest with
      | [] => (1, acc, [])
      | u :: r => if tkEq u t = true then mat f p r acc else (2, acc, r))
end Go.Proofs.Ytbceblgnjicdcaa
