import Derived.Test.YtbbehmcekbnkiaaGreatItk
namespace Go.Proofs.YtbbehmcekbnkiaaGreat
open Go.RowKit Go.Shelf
set_option linter.unusedVariables false
set_option linter.unusedSimpArgs false
theorem itemsN {w : World} {v : Value} {ys : List Nd} (h : NRow 0 w v ys) (hs : ys.length ≤ 1048576) (hcp : ∀ a n c, v = .slice a n c → n ≤ c ∧ c ≤ 9223372036854775807) :
 Calls Tryz.prog 12 #[v] w fun e W' => (∃ a c, e = .returned (.slice a (itemsOf ys).length c) ∧ ItQ W' a (itemsOf ys).length (fun i => (itemsOf ys).getD i [])) ∧ Below w.heap.size w W' := by
 refine (callsIn_wide.1 (implItems_in h hs hcp)).mono ?_
 rintro e w' ⟨⟨u, vs, rfl, h1, h2⟩, hb⟩
 obtain ⟨a, c, rfl, _⟩ := own25_shape h1
 exact ⟨⟨a, c, rfl, ItQ.of h1 h2⟩, hb⟩
theorem ItQ.head {S X : World} {a : Option Addr} {ys : List Nd} (hq : ItQ S a (itemsOf ys).length (fun i => (itemsOf ys).getD i [])) (hL : listB ys = true) {i : Nat} (hi : i < (begins ys).length) (hX : Below S.heap.size S X) :
 ∃ g gu L c, a = some ⟨g, 0, none⟩ ∧ g < X.heap.size ∧ gu < X.heap.size ∧ X.cell? ⟨g, i, none⟩ = some (.slice (some ⟨gu, 0, none⟩) (L + 1) c) ∧ ∀ j, j < 15 → X.cell? ⟨gu, j, none⟩ = (hdN ys i).cells[j]? := by
 obtain ⟨g, u, base, h1, h2, h3⟩ := hq i (by rw [items_len hL]; exact hi)
 obtain ⟨t, ht⟩ := item_head hL hi
 obtain ⟨hc, ho⟩ := h3 X hX
 have ho' : X.ownsRow base 36 15 u (t.length + 1) (flatN (hdN ys i :: t)) := by
  have : (itemsOf ys).getD i [] = hdN ys i :: t := ht
  simp only [this] at ho
  exact ho
 obtain ⟨gu, c, rfl⟩ := own_some ho' (by omega)
 exact ⟨g, gu, t.length, c, h1, Nat.lt_of_lt_of_le h2 hX.size, (own_lt ho' rfl).2.1, hc, (own_cells0 ho').1⟩
end Go.Proofs.YtbbehmcekbnkiaaGreat
