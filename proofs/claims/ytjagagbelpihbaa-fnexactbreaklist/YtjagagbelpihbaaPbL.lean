/-
  Where pages may end: the law's own walk.
-/
import Derived.Test.YtjagagbelpihbaaIts
import Derived.Test.YtjagagbelpihbaaIto
import Derived.Test.YtjagagbelpihbaaInts
namespace Go.Proofs.Ytjagagbelpihbaa
open Go.RowKit Go.Shelf
set_option linter.unusedVariables false
set_option linter.unusedSimpArgs false

/-- A row of whole numbers in its memory. -/
def IG (base : Nat) (W : World) (V : Value) (L : List Int) : Prop := W.ownsRow base 2 1 V L.length (L.map (Value.int .i64))
theorem IG.below {base : Nat} {W W' : World} {V : Value} {L : List Int} (h : IG base W V L) (hb : Below W.heap.size W W') : IG base W' V L := ownG_below h hb
theorem IG.row {base : Nat} {W : World} {V : Value} {L : List Int} (h : IG base W V L) : Row W V L := by
  have h' := h
  obtain ⟨h0, ⟨rfl, hz⟩ | ⟨g, cap, cur, rfl, hg, hb, hr⟩⟩ := h
  · have : L = [] := List.eq_nil_of_length_eq_zero hz
    subst this
    exact ⟨none, 0, 0, rfl, rfl, fun h => by omega⟩
  · exact Row.own h' rfl (Array.getElem?_eq_some_iff.1 hb).1
theorem IG.keep {base : Nat} {W W' : World} {V : Value} {L : List Int} (h : IG base W V L) (hk : ∀ b, V.ownBlock = some b → W'.heap[b]? = W.heap[b]?) : IG base W' V L := by
  obtain ⟨h0, ho | ⟨g, cap, cur, e, hg, hb, hr⟩⟩ := h
  · exact ⟨h0, .inl ho⟩
  · exact ⟨h0, .inr ⟨g, cap, cur, e, hg, (hk g (by rw [e]; rfl)).trans hb, hr⟩⟩
theorem markNone_any {ao : Option Addr} {cap : Nat} (w : World) (k : Int) : Calls Try.prog 23 #[.slice ao 0 cap, .int .i64 k] w fun e w' => e = .returned (.int .i64 k) ∧ w' = w := by
  go_enter Try.func23, Try.ntmps23
  go_wp2
  refine wp_loop_rounds 1 ?_
  rw [rounds_succ]
  go_wp2
  go_ret
  exact ⟨rfl, rfl⟩
theorem markI_any {base : Nat} {W : World} {V : Value} {L : List Int} (h : IG base W V L) (hn : L.length ≤ 1048576) :
    Calls Try.prog 23 #[V, .int .i64 1] W fun e w' => e = .returned (.int .i64 (1 + (L.length : Int))) ∧ IG base w' V (ups 1 L.length) ∧ Below base W w' := by
  have h' := h
  obtain ⟨h0, ⟨rfl, hz⟩ | ⟨g, cap, cur, rfl, hg, hb, hr⟩⟩ := h
  · refine (markNone_any W 1).mono ?_
    rintro e w' ⟨rfl, rfl⟩
    have : L = [] := List.eq_nil_of_length_eq_zero hz
    subst this
    exact ⟨by simp, ⟨rfl, .inl ⟨rfl, rfl⟩⟩, Below.refl _ _⟩
  · refine (markInts_any h' hn (by omega) (by omega)).mono ?_
    rintro e w' ⟨rfl, h1, h2, _⟩
    refine ⟨rfl, ?_, h2.mono hg⟩
    unfold IG
    rw [ups_length]
    exact h1
end Go.Proofs.Ytjagagbelpihbaa
