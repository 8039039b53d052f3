/-
  A pattern that can be is read from what it is shown as.
-/
import Derived.Test.YtejigikcpmhhoaaRdf
namespace Go.Proofs.Ytejigikcpmhhoaa
open Go.RowKit
set_option linter.unusedVariables false
set_option linter.unusedSimpArgs false

def place (s : ByteArray) (zs : List Int) (k : Nat) : List UInt8 := digB (zs.getD k 0) ++ letB s k
theorem shw_flat (s : ByteArray) (zs : List Int) (k : Nat) : shw s zs k = (List.range k).flatMap (place s zs) := by
  induction k with
  | zero => rfl
  | succ k ih => simp only [shw, List.range_succ, List.flatMap_append, List.flatMap_cons, List.flatMap_nil, List.append_nil, ih, place]

/-- What is shown from place k on. -/
def rest (s : ByteArray) (zs : List Int) (k : Nat) : List UInt8 := ((List.range (s.size + 1)).drop k).flatMap (place s zs)
theorem rest_step (s : ByteArray) (zs : List Int) {k : Nat} (h : k ≤ s.size) : rest s zs k = place s zs k ++ rest s zs (k + 1) := by
  unfold rest
  rw [List.drop_eq_getElem_cons (by simp; omega)]
  simp
theorem rest_end (s : ByteArray) (zs : List Int) : rest s zs (s.size + 1) = [] := by
  unfold rest
  rw [List.drop_eq_nil_of_le (by simp)]
  rfl

theorem digit_is {z : Int} (h0 : 0 < z) (h9 : z ≤ 9) : isDig (UInt8.ofNat (48 + z.toNat)) ∧ ((UInt8.ofNat (48 + z.toNat)).toNat : Int) - 48 = z := by
  have h1 : (UInt8.ofNat (48 + z.toNat)).toNat = 48 + z.toNat := by rw [UInt8.toNat_ofNat']; omega
  unfold isDig
  rw [h1]
  omega

theorem take_next {α : Type} {l : List α} {k : Nat} (d : α) (h : k < l.length) : l.take k ++ [l.getD k d] = l.take (k + 1) := by
  rw [List.take_add_one, List.getElem?_eq_getElem h]
  simp [List.getD, List.getElem?_eq_getElem h]

theorem read_rest {s : ByteArray} {zs : List Int} (hp : PatP s zs) : ∀ (m k : Nat), k + m = s.size → rd (s.data.toList.take k) (zs.take k) (-1) (rest s zs k) = some (s.data.toList, zs) := by
  obtain ⟨h20, ⟨hl, hx⟩, hn, hm⟩ := hp
  have hN : s.data.toList.length = s.size := rfl
  intro m
  induction m with
  | zero =>
    intro k hk
    obtain rfl : k = s.size := by omega
    rw [rest_step s zs (Nat.le_refl _), rest_end, List.append_nil]
    have hz := hm s.size (by omega)
    have ht : s.data.toList.take s.size = s.data.toList := List.take_of_length_le (Nat.le_refl _)
    have hlast : zs.take s.size ++ [zs.getD s.size 0] = zs := by rw [take_next 0 (by omega)]; exact List.take_of_length_le (by omega)
    unfold place
    rw [let_none (Nat.lt_irrefl _), List.append_nil]
    by_cases h0 : 0 < zs.getD s.size 0
    · obtain ⟨h1, h2⟩ := digit_is h0 hz.2
      rw [digB, if_pos h0, rd_digit h1 (by omega), h2, rd, ht]
      rw [show zmk (zs.getD s.size 0) = zs.getD s.size 0 by unfold zmk; rw [if_neg (by omega)], hlast]
    · rw [dig_none h0, rd, ht]
      have e : zmk (-1) = zs.getD s.size 0 := by unfold zmk; rw [if_pos (by omega)]; omega
      rw [e, hlast]
  | succ m ih =>
    intro k hk
    have hks : k < s.size := by omega
    rw [rest_step s zs (by omega)]
    have hz := hm k (by omega)
    have hnd : ¬ isDig (s.data.toList.getD k 0) := by
      rw [dig_of]
      rcases hl k hks with h | ⟨h, _⟩
      · have := h.1; omega
      · omega
    have hl1 : s.data.toList.take k ++ [s.data.toList.getD k 0] = s.data.toList.take (k + 1) := take_next 0 (by omega)
    have hz1 : zs.take k ++ [zs.getD k 0] = zs.take (k + 1) := take_next 0 (by omega)
    have hlb : letB s k = [s.data.toList.getD k 0] := by simp only [letB, hks, if_true]
    unfold place
    rw [hlb]
    by_cases h0 : 0 < zs.getD k 0
    · obtain ⟨h1, h2⟩ := digit_is h0 hz.2
      rw [digB, if_pos h0]
      simp only [List.cons_append, List.nil_append]
      rw [rd_digit h1 (by omega), h2, rd_letter hnd, hl1]
      rw [show zmk (zs.getD k 0) = zs.getD k 0 by unfold zmk; rw [if_neg (by omega)], hz1]
      exact ih (k + 1) (by omega)
    · rw [dig_none h0]
      simp only [List.cons_append, List.nil_append]
      have e : zmk (-1) = zs.getD k 0 := by unfold zmk; rw [if_pos (by omega)]; omega
      rw [rd_letter hnd, hl1, e, hz1]
      exact ih (k + 1) (by omega)

/-- What is shown is read again. -/
theorem read_show {s : ByteArray} {zs : List Int} (h : patB s zs = true) : readR (showT s zs) = some (s, zs) := by
  have hp : PatP s zs := of_decide_eq_true h
  rw [showT_yes h]
  have h1 := read_rest hp s.size 0 (by omega)
  have e : (⟨(shw s zs (s.size + 1)).toArray⟩ : ByteArray).data.toList = rest s zs 0 := by
    show shw s zs (s.size + 1) = _
    rw [shw_flat]
    rfl
  have es : (⟨s.data.toList.toArray⟩ : ByteArray) = s := rfl
  rw [readR_yes (L := s.data.toList) (M := zs) (by rw [e]; exact h1) (by rw [es]; exact h), es]

/-- It is not empty. -/
theorem show_long {s : ByteArray} {zs : List Int} (h : patB s zs = true) : 0 < (showT s zs).size := by
  cases h0 : (showT s zs).size with
  | succ n => omega
  | zero =>
    exfalso
    have h1 := read_show h
    have h2 : (showT s zs).data.toList = [] := List.eq_nil_of_length_eq_zero h0
    have h3 : readR (showT s zs) = none := by
      refine readR_no (L := []) (M := [zmk (-1)]) (by rw [h2]; rfl) ?_
      exact decide_eq_false fun hp => by
        obtain ⟨i, hi, _⟩ := hp.2.1.2
        exact absurd hi (Nat.not_lt_zero _)
    rw [h3] at h1
    cases h1

theorem show_size {s : ByteArray} {zs : List Int} : (showT s zs).size ≤ 42 := by
  unfold showT
  split
  · rename_i h
    have hp : PatP s zs := of_decide_eq_true h
    have := shw_len s zs (s.size + 1)
    have := hp.1
    show (shw s zs (s.size + 1)).length ≤ 42
    omega
  · exact Nat.zero_le _
end Go.Proofs.Ytejigikcpmhhoaa
