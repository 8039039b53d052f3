/-
  Sums of glues, as data; the walks of the functions that tell whether glues can be.
-/
import Derived.Test.YtgfphgbemfmkfaaGlues
namespace Go.Proofs.Ytgfphgbemfmkfaa
open Go.RowKit
set_option linter.unusedVariables false
set_option linter.unusedSimpArgs false

abbrev Gl.ok (g : Gl) : Bool := okB g.s g.p g.po g.m g.mo
def glsOk (gs : List Gl) : Bool := decide (gs.length ≤ 10000) && gs.all (fun g => g.ok)

theorem glsOk_long {gs : List Gl} (h : 10000 < gs.length) : glsOk gs = false := by simp [glsOk]; omega
theorem glsOk_no {gs : List Gl} {k : Nat} (hk : k < gs.length) (h : (gs.getD k Gl.none).ok = false) : glsOk gs = false := by
  cases hq : glsOk gs with
  | false => rfl
  | true =>
    simp only [glsOk, Bool.and_eq_true, List.all_eq_true, decide_eq_true_eq] at hq
    have hm := hq.2 _ (List.getElem_mem (l := gs) (n := k) hk)
    simp only [List.getD, List.getElem?_eq_getElem hk, Option.getD_some] at h
    rw [h] at hm
    cases hm
theorem glsOk_yes {gs : List Gl} (hl : gs.length ≤ 10000) (h : ∀ k, k < gs.length → (gs.getD k Gl.none).ok = true) : glsOk gs = true := by
  simp only [glsOk, Bool.and_eq_true, List.all_eq_true, decide_eq_true_eq]
  refine ⟨hl, fun t hm => ?_⟩
  obtain ⟨i, hi, rfl⟩ := List.getElem_of_mem hm
  have := h i hi
  simpa [List.getD, List.getElem?_eq_getElem hi] using this
theorem glsOk_each {gs : List Gl} (h : glsOk gs = true) : gs.length ≤ 10000 ∧ ∀ k, k < gs.length → (gs.getD k Gl.none).ok = true := by
  simp only [glsOk, Bool.and_eq_true, List.all_eq_true, decide_eq_true_eq] at h
  refine ⟨h.1, fun k hk => ?_⟩
  have := h.2 _ (List.getElem_mem (l := gs) (n := k) hk)
  simpa [List.getD, List.getElem?_eq_getElem hk] using this
theorem ok_bounds {g : Gl} (h : g.ok = true) : (-1073741823 ≤ g.s ∧ g.s ≤ 1073741823) ∧ (-1073741823 ≤ g.p ∧ g.p ≤ 1073741823) ∧ (-1073741823 ≤ g.m ∧ g.m ≤ 1073741823) ∧ (0 ≤ g.po ∧ g.po ≤ 3) ∧ (0 ≤ g.mo ∧ g.mo ≤ 3) := by
  simp only [okB, fitsB, orderB, Bool.and_eq_true, decide_eq_true_eq] at h
  obtain ⟨⟨⟨⟨h1, h2⟩, h3⟩, h4⟩, h5⟩ := h
  exact ⟨h1, h2, h3, h4, h5⟩

/-- The sums of f by order o. -/
def tot (f o : Gl → Int) (gs : List Gl) : List Int := gs.foldl (fun ys g => ys.set (o g).toNat (ys.getD (o g).toNat 0 + f g)) [0, 0, 0, 0]
theorem tot_snoc (f o : Gl → Int) (gs : List Gl) (g : Gl) : tot f o (gs ++ [g]) = (tot f o gs).set (o g).toNat ((tot f o gs).getD (o g).toNat 0 + f g) := by simp [tot, List.foldl_append]
theorem take_snoc {gs : List Gl} {k : Nat} (h : k < gs.length) : gs.take (k + 1) = gs.take k ++ [gs.getD k Gl.none] := by
  rw [List.take_succ_eq_append_getElem h]
  simp [List.getD, List.getElem?_eq_getElem h]
theorem tot_length_aux (f o : Gl → Int) : ∀ (gs : List Gl) (ys : List Int), (gs.foldl (fun ys g => ys.set (o g).toNat (ys.getD (o g).toNat 0 + f g)) ys).length = ys.length
  | [], ys => rfl
  | g :: gs, ys => by rw [List.foldl_cons, tot_length_aux f o gs]; simp
theorem tot_length (f o : Gl → Int) (gs : List Gl) : (tot f o gs).length = 4 := tot_length_aux f o gs _
theorem tot_bound (f o : Gl → Int) (gs : List Gl) (h : ∀ k, k < gs.length → -1073741823 ≤ f (gs.getD k Gl.none) ∧ f (gs.getD k Gl.none) ≤ 1073741823) :
    ∀ k, k ≤ gs.length → ∀ j, -(1073741823 * (k : Int)) ≤ (tot f o (gs.take k)).getD j 0 ∧ (tot f o (gs.take k)).getD j 0 ≤ 1073741823 * (k : Int)
  | 0, _, j => by
    rw [List.take_zero]
    show -(1073741823 * ((0 : Nat) : Int)) ≤ ([0, 0, 0, 0] : List Int).getD j 0 ∧ ([0, 0, 0, 0] : List Int).getD j 0 ≤ 1073741823 * ((0 : Nat) : Int)
    have : ([0, 0, 0, 0] : List Int).getD j 0 = 0 := by
      match j with
      | 0 => rfl
      | 1 => rfl
      | 2 => rfl
      | 3 => rfl
      | j + 4 => rfl
    rw [this]
    simp
  | k + 1, hk, j => by
    have ih := tot_bound f o gs h k (by omega)
    have hb := h k (by omega)
    rw [take_snoc (by omega), tot_snoc]
    generalize gs.getD k Gl.none = g at hb
    generalize tot f o (gs.take k) = ys at ih
    by_cases hj : j = (o g).toNat
    · subst hj
      by_cases hl : (o g).toNat < ys.length
      · have e : (ys.set (o g).toNat (ys.getD (o g).toNat 0 + f g)).getD (o g).toNat 0 = ys.getD (o g).toNat 0 + f g := by simp [List.getD, hl]
        rw [e]
        have := ih (o g).toNat
        push_cast
        omega
      · have e : (ys.set (o g).toNat (ys.getD (o g).toNat 0 + f g)).getD (o g).toNat 0 = 0 := by simp [List.getD, List.getElem?_set, hl]
        rw [e]
        push_cast
        omega
    · have e : (ys.set (o g).toNat (ys.getD (o g).toNat 0 + f g)).getD j 0 = ys.getD j 0 := by simp [List.getD, List.getElem?_set, Ne.symm hj]
      rw [e]
      have := ih j
      push_cast
      omega

def siz (gs : List Gl) : Int := (gs.map (fun g => g.s)).sum
theorem siz_snoc (gs : List Gl) (g : Gl) : siz (gs ++ [g]) = siz gs + g.s := by simp [siz]
theorem siz_bound (gs : List Gl) (h : ∀ k, k < gs.length → -1073741823 ≤ (gs.getD k Gl.none).s ∧ (gs.getD k Gl.none).s ≤ 1073741823) :
    ∀ k, k ≤ gs.length → -(1073741823 * (k : Int)) ≤ siz (gs.take k) ∧ siz (gs.take k) ≤ 1073741823 * (k : Int)
  | 0, _ => by simp [siz]
  | k + 1, hk => by
    have ih := siz_bound gs h k (by omega)
    have hb := h k (by omega)
    rw [take_snoc (by omega), siz_snoc]
    push_cast
    omega
end Go.Proofs.Ytgfphgbemfmkfaa
