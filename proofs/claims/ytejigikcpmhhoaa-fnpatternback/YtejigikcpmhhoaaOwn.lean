/-
  Rows that a call owns, beside one another.
-/
import Derived.Test.YtejigikcpmhhoaaRdf
import Derived.ArgAppend
import Derived.Laws.IdiomStrings
namespace Go.Proofs.Ytejigikcpmhhoaa
open Go.RowKit
set_option linter.unusedVariables false
set_option linter.unusedSimpArgs false

theorem own_shape {w : World} {base e n : Nat} {v : Value} {xs : List Value} (h : w.ownsRow base e 1 v n xs) (hn : 0 < n) : ∃ g cap, v = .slice (some ⟨g, 0, none⟩) n cap ∧ base ≤ g ∧ g < w.heap.size := by
  rcases h.2 with ⟨_, h0⟩ | ⟨g, cap, cur, rfl, hb, hg, _⟩
  · omega
  · exact ⟨g, cap, rfl, hb, (Array.getElem?_eq_some_iff.1 hg).1⟩

theorem row_of_own {w : World} {base n : Nat} {v : Value} {zs : List Int} (h : w.ownsRow base 2 1 v n (zs.map (Value.int .i64))) (hn : zs.length = n) : Row w v zs := by
  rcases h.2 with ⟨rfl, rfl⟩ | ⟨g, cap, cur, rfl, _, hg, _⟩
  · exact ⟨none, 0, 0, rfl, hn, fun h => by omega⟩
  · exact Row.own h hn (Array.getElem?_eq_some_iff.1 hg).1

theorem keep_grown {wr w1 : World} {base e n k : Nat} {v : Value} {xs : List Value} {o : Obj} (h : wr.ownsRow base e 1 v n xs) (hg : wr.grownBy w1 v.ownBlock) (hk : wr.heap[k]? = some o) (ho : ∀ c, o ≠ .cells c e (0, 0)) : w1.heap[k]? = some o := by
  refine grown_block hg hk fun g hgk he => ?_
  subst he
  rcases h.2 with ⟨rfl, _⟩ | ⟨g', cap, cur, rfl, _, hg', _⟩
  · cases hgk
  · simp [Value.ownBlock] at hgk
    subst hgk
    rw [hg'] at hk
    exact ho cur (Option.some.inj hk).symm

theorem own_at {w w' : World} {base e n : Nat} {v : Value} {xs : List Value} (h : w.ownsRow base e 1 v n xs) (hb : ∀ (g : Nat) (cur : Array Value), w.heap[g]? = some (Obj.cells cur e (0, 0)) → w'.heap[g]? = some (Obj.cells cur e (0, 0))) : w'.ownsRow base e 1 v n xs := by
  refine ⟨h.1, ?_⟩
  rcases h.2 with h' | ⟨g, cap, cur, hv, hg0, hg, hr⟩
  · exact .inl h'
  · exact .inr ⟨g, cap, cur, hv, hg0, hb g cur hg, hr⟩

theorem own_grown {wr w1 : World} {base e n base2 e2 n2 : Nat} {v v2 : Value} {xs xs2 : List Value} (h : wr.ownsRow base e 1 v n xs) (hg : wr.grownBy w1 v.ownBlock) (h2 : wr.ownsRow base2 e2 1 v2 n2 xs2) (hne : e2 ≠ e) : w1.ownsRow base2 e2 1 v2 n2 xs2 :=
  own_at h2 fun g cur hk => keep_grown h hg hk (fun c he => hne (by injection he))

/-- A store into one row leaves blocks of another kind as they are. -/
theorem keep_set {wr : World} {base e n k o g cap : Nat} {xs : List Value} {x : Value} {ob : Obj} (h : wr.ownsRow base e 1 (.slice (some ⟨g, 0, none⟩) n cap) n xs) (hk : wr.heap[k]? = some ob) (ho : ∀ c, ob ≠ .cells c e (0, 0)) : (wr.setCell ⟨g, o, none⟩ x).heap[k]? = some ob := by
  by_cases he : k = g
  · subst he
    rcases h.2 with ⟨h', _⟩ | ⟨g', cap', cur, h', _, hg, _⟩
    · cases h'
    · simp only [Value.slice.injEq, Option.some.injEq, Addr.mk.injEq, and_true, true_and] at h'
      obtain ⟨rfl, rfl⟩ := h'
      rw [hg] at hk
      exact absurd (Option.some.inj hk).symm (ho cur)
  · exact (Below.heap_setCell wr ⟨g, o, none⟩ x k he).trans hk
theorem own_set {wr : World} {base e n o g cap base2 e2 n2 : Nat} {xs xs2 : List Value} {x v2 : Value} (h : wr.ownsRow base e 1 (.slice (some ⟨g, 0, none⟩) n cap) n xs) (h2 : wr.ownsRow base2 e2 1 v2 n2 xs2) (hne : e2 ≠ e) : (wr.setCell ⟨g, o, none⟩ x).ownsRow base2 e2 1 v2 n2 xs2 :=
  own_at h2 fun g' cur hk => keep_set h hk (fun c he => hne (by injection he))

/-- The bytes of a text in a block of their own. -/
def BytesAt (w : World) (G : Nat) (s : ByteArray) : Prop := ∃ C : Array Value, w.heap[G]? = some (.cells C 5 (C.size, C.size + 1)) ∧ ∀ j, j < s.size → C[j]? = some (.int .u8 (byteAt s j))
theorem BytesAt.cell {w : World} {G : Nat} {s : ByteArray} (h : BytesAt w G s) {j : Nat} (hj : j < s.size) : w.cell? ⟨G, j, none⟩ = some (.int .u8 (byteAt s j)) := by
  obtain ⟨C, hC, hc⟩ := h
  simp [World.cell?, hC, hc j hj]
theorem BytesAt.grown {wr w1 : World} {base e n G : Nat} {v : Value} {xs : List Value} {s : ByteArray} (h : BytesAt wr G s) (ho : wr.ownsRow base e 1 v n xs) (hg : wr.grownBy w1 v.ownBlock) : BytesAt w1 G s := by
  obtain ⟨C, hC, hc⟩ := h
  exact ⟨C, keep_grown ho hg hC (fun c he => by injection he with _ _ h3; simp at h3), hc⟩
theorem BytesAt.set {wr : World} {base e n o g cap G : Nat} {xs : List Value} {x : Value} {s : ByteArray} (h : BytesAt wr G s) (ho : wr.ownsRow base e 1 (.slice (some ⟨g, 0, none⟩) n cap) n xs) : BytesAt (wr.setCell ⟨g, o, none⟩ x) G s := by
  obtain ⟨C, hC, hc⟩ := h
  exact ⟨C, keep_set ho hC (fun c he => by injection he with _ _ h3; simp at h3), hc⟩
theorem BytesAt.alloc {w : World} {G : Nat} {s : ByteArray} (h : BytesAt w G s) (o : Obj) : BytesAt (w.alloc o) G s := by
  obtain ⟨C, hC, hc⟩ := h
  exact ⟨C, blockA hC o, hc⟩
theorem BytesAt.new (w : World) (s : ByteArray) (cb : Nat) : BytesAt (w.alloc (.cells (bytesRow s cb) 5 ((bytesRow s cb).size, (bytesRow s cb).size + 1))) w.heap.size s := by
  refine ⟨_, heap_alloc_last w _, fun j hj => ?_⟩
  have h2 : j < s.data.size := hj
  simp [bytesRow, Array.getElem?_append, h2, hj, byteAt, List.getD]
theorem heap_last2 (w : World) (a b : Obj) : ((w.alloc a).alloc b).heap[w.heap.size + 1]? = some b := by
  have := heap_alloc_last (w.alloc a) b
  rwa [World.size_alloc] at this
theorem heap_last3 (w : World) (a b c : Obj) : (((w.alloc a).alloc b).alloc c).heap[w.heap.size + 1 + 1]? = some c := by
  have := heap_alloc_last ((w.alloc a).alloc b) c
  rwa [World.size_alloc, World.size_alloc] at this
theorem two_set {w : World} {R t : Nat} {x y : Value} (h : w.heap[R]? = some (.cells #[x, y] t (0, 0))) (a b : Value) : ((w.setCell ⟨R, 0, none⟩ a).setCell ⟨R, 1, none⟩ b).heap[R]? = some (.cells #[a, b] t (0, 0)) := by
  have h1 := heap_setCell_same w R 0 #[x, y] t a h
  have h2 := heap_setCell_same _ R 1 _ t b h1
  exact h2
theorem two_at {w : World} {R t : Nat} {x y : Value} (h : w.heap[R]? = some (.cells #[x, y] t (0, 0))) : w.cell? ⟨R, 0, none⟩ = some x ∧ w.cell? ⟨R, 1, none⟩ = some y ∧ R < w.heap.size := by
  refine ⟨by rw [cell_of_row w _ _ _ _ _ h]; rfl, by rw [cell_of_row w _ _ _ _ _ h]; rfl, (Array.getElem?_eq_some_iff.1 h).1⟩
/-- A store into a block that is no row of e's leaves the rows. -/
theorem own_put {w : World} {base e n R o t : Nat} {c : Array Value} {v x : Value} {xs : List Value} (h : w.ownsRow base e 1 v n xs) (hR : w.heap[R]? = some (.cells c t (0, 0))) (hne : t ≠ e) : (w.setCell ⟨R, o, none⟩ x).ownsRow base e 1 v n xs :=
  own_at h fun g cur hg => by
    have hgR : g ≠ R := fun he => by
      subst he
      rw [hg] at hR
      injection hR with hR
      injection hR with _ h2
      exact hne h2.symm
    exact (Below.heap_setCell w ⟨R, o, none⟩ x g hgR).trans hg
end Go.Proofs.Ytejigikcpmhhoaa
