/-
  A row cut behind some of its items, with what comes behind it.
-/
import Derived.Test.YtjagagbelpihbaaPap
import Derived.Test.YtjagagbelpihbaaJpu
import Derived.Test.YtjagagbelpihbaaAit
import Derived.Test.YtjagagbelpihbaaItx
namespace Go.Proofs.Ytjagagbelpihbaa
open Go.RowKit
set_option linter.unusedVariables false
set_option linter.unusedSimpArgs false

theorem end_in {xs : List Nd} (h : listB xs = true) : ∀ K, K ≤ (starts xs (xs.length + 1) 0).length → endK xs 0 K ≤ xs.length ∧ ∀ i, i < endK xs 0 K → (i : Int) + 1 + (xs.getD i Nd.none).kids ≤ (endK xs 0 K : Nat)
  | 0, _ => ⟨Nat.zero_le _, fun i hi => by simp [endK] at hi⟩
  | K + 1, hK => by
    obtain ⟨ih1, ih2⟩ := end_in h K (by omega)
    have hk : K < (starts xs (xs.length + 1) 0).length := hK
    have hso := (starts_ok (xs := xs) (xs.length + 1) 0 (Nat.zero_le _) (by simpa using (listB_iff.1 h).2) (by omega)).2 _ (List.getElem_mem hk)
    rw [starts_endK] at hso
    obtain ⟨p, hp⟩ : ∃ p, p = endK xs 0 K := ⟨_, rfl⟩
    rw [← hp] at hso ih1 ih2
    obtain ⟨hpl, hok, hkl⟩ := hso
    have he : endK xs 0 (K + 1) = p + 1 + (xs.getD p Nd.none).kids.toNat := by rw [endK_succ, ← hp]
    have hil : (itemAt xs p).length = 1 + (xs.getD p Nd.none).kids.toNat := by
      have h1 : 0 < (itemAt xs p).length := by rw [itemAt_drop hpl]; simp
      omega
    have hge : ∀ j, j < (itemAt xs p).length → (itemAt xs p).getD j Nd.none = xs.getD (p + j) Nd.none := fun j hj => by
      unfold itemAt at hj ⊢
      rw [List.length_take] at hj
      have hj2 := (Nat.lt_min.1 hj).1
      simp only [List.getD] at hj2 ⊢
      rw [List.getElem?_take_of_lt hj2, List.getElem?_drop]
    have hle : p + (itemAt xs p).length ≤ xs.length := by
      have : (itemAt xs p).length ≤ (xs.drop p).length := by unfold itemAt; rw [List.length_take]; exact Nat.min_le_right _ _
      rw [List.length_drop] at this
      omega
    rw [he]
    refine ⟨by omega, fun i hi => ?_⟩
    by_cases hip : i < p
    · have := ih2 i hip
      omega
    · have h1 := ok_end (itemAt xs p) 0 [] (by omega) (by simp) hok (i - p) (by omega)
      rw [hge (i - p) (by omega), show p + (i - p) = i by omega] at h1
      omega
theorem allOk3_cut {xs : List Nd} (h : listB xs = true) {K : Nat} (hK : K ≤ (its xs).length) {a b c : Nd} (ha : a.kids = 0 ∧ a.tx.size ≤ 1000) (hb : b.kids = 0 ∧ b.tx.size ≤ 1000) (hc : c.kids = 0 ∧ c.tx.size ≤ 1000) : AllOk3 (xs.take (endK xs 0 K) ++ [a, b, c]) := by
  obtain ⟨h1, h2⟩ := end_in h K (by simpa [its] using hK)
  have hA := allOk h
  obtain ⟨e, he⟩ : ∃ e, e = endK xs 0 K := ⟨_, rfl⟩
  rw [← he] at h1 h2 ⊢
  have hlt : (xs.take e).length = e := by rw [List.length_take]; omega
  have hL : (xs.take e ++ [a, b, c]).length = e + 3 := by simp [hlt]
  have hlow : ∀ i, i < e → (xs.take e ++ [a, b, c]).getD i Nd.none = xs.getD i Nd.none := fun i hi => by
    simp only [List.getD]
    rw [List.getElem?_append_left (by omega), List.getElem?_take_of_lt hi]
  have hhi : ∀ i, ¬ i < e → i < e + 3 → (xs.take e ++ [a, b, c]).getD i Nd.none = a ∨ (xs.take e ++ [a, b, c]).getD i Nd.none = b ∨ (xs.take e ++ [a, b, c]).getD i Nd.none = c := fun i hi hi3 => by
    simp only [List.getD]
    rw [List.getElem?_append_right (by omega), hlt]
    rcases (show i - e = 0 ∨ i - e = 1 ∨ i - e = 2 by omega) with q | q | q <;> rw [q]
    · exact .inl rfl
    · exact .inr (.inl rfl)
    · exact .inr (.inr rfl)
  refine ⟨by rw [hL]; have := hA.len; omega, fun i hi => ?_, fun i hi => ?_⟩
  · rw [hL] at hi ⊢
    by_cases hie : i < e
    · rw [hlow i hie]
      have q1 := h2 i hie
      have q2 := (hA.kids i (by omega)).1
      push_cast
      omega
    · have : ((xs.take e ++ [a, b, c]).getD i Nd.none).kids = 0 := by
        rcases hhi i hie hi with q | q | q <;> rw [q]
        · exact ha.1
        · exact hb.1
        · exact hc.1
      push_cast
      omega
  · rw [hL] at hi
    by_cases hie : i < e
    · rw [hlow i hie]
      exact hA.text i (by omega)
    · rcases hhi i hie hi with q | q | q <;> rw [q]
      · exact ha.2
      · exact hb.2
      · exact hc.2
theorem ord_cut {xs : List Nd} (h : listB xs = true) {e : Nat} (he : e ≤ xs.length) {a b c : Nd} (ha : Ord a) (hb : Ord b) (hc : Ord c) : ∀ i, i < (xs.take e ++ [a, b, c]).length → Ord ((xs.take e ++ [a, b, c]).getD i Nd.none) := fun i hi => by
  have hlt : (xs.take e).length = e := by rw [List.length_take]; omega
  rw [List.length_append, hlt] at hi
  simp only [List.length_cons, List.length_nil] at hi
  simp only [List.getD]
  by_cases hie : i < e
  · rw [List.getElem?_append_left (by omega), List.getElem?_take_of_lt hie]
    exact list_ord h i (by omega)
  · rw [List.getElem?_append_right (by omega), hlt]
    rcases (show i - e = 0 ∨ i - e = 1 ∨ i - e = 2 by omega) with q | q | q <;> rw [q]
    · exact ha
    · exact hb
    · exact hc
end Go.Proofs.Ytjagagbelpihbaa
