/-
  A pattern as it is read: the functions, and what they have to do with one another.
-/
import Derived.Test.YtejigikcpmhhoaaShw
namespace Go.Proofs.Ytejigikcpmhhoaa
open Go.RowKit
set_option linter.unusedVariables false
set_option linter.unusedSimpArgs false

def zmk (mk : Int) : Int := if mk < 0 then 0 else mk
abbrev isDig (c : UInt8) : Prop := 48 ≤ c.toNat ∧ c.toNat ≤ 57

/-- Letters ls and marks ms are read, and mk is the mark that waits (-1: none). -/
def rd (ls : List UInt8) (ms : List Int) (mk : Int) : List UInt8 → Option (List UInt8 × List Int)
  | [] => some (ls, ms ++ [zmk mk])
  | c :: cs => if isDig c then (if 0 ≤ mk then none else rd ls ms ((c.toNat : Int) - 48) cs) else rd (ls ++ [c]) (ms ++ [zmk mk]) (-1) cs

theorem rd_digit {ls : List UInt8} {ms : List Int} {mk : Int} {c : UInt8} {cs : List UInt8} (h : isDig c) (hm : mk < 0) : rd ls ms mk (c :: cs) = rd ls ms ((c.toNat : Int) - 48) cs := by
  rw [rd, if_pos h, if_neg (by omega)]
theorem rd_two {ls : List UInt8} {ms : List Int} {mk : Int} {c : UInt8} {cs : List UInt8} (h : isDig c) (hm : 0 ≤ mk) : rd ls ms mk (c :: cs) = none := by
  rw [rd, if_pos h, if_pos hm]
theorem rd_letter {ls : List UInt8} {ms : List Int} {mk : Int} {c : UInt8} {cs : List UInt8} (h : ¬ isDig c) : rd ls ms mk (c :: cs) = rd (ls ++ [c]) (ms ++ [zmk mk]) (-1) cs := by
  rw [rd, if_neg h]

theorem rd_len (cs : List UInt8) : ∀ (ls : List UInt8) (ms : List Int) (mk : Int) (L : List UInt8) (M : List Int), rd ls ms mk cs = some (L, M) → ms.length = ls.length →
    M.length = L.length + 1 ∧ cs.length + (if 0 ≤ mk then 1 else 0) + 2 * ls.length ≤ 2 * L.length + 1 := by
  induction cs with
  | nil =>
    intro ls ms mk L M h hl
    simp only [rd, Option.some.injEq, Prod.mk.injEq] at h
    obtain ⟨rfl, rfl⟩ := h
    refine ⟨by simp [hl], ?_⟩
    split <;> simp <;> omega
  | cons c cs ih =>
    intro ls ms mk L M h hl
    by_cases hd : isDig c
    · by_cases hm : 0 ≤ mk
      · rw [rd_two hd hm] at h; cases h
      · rw [rd_digit hd (by omega)] at h
        obtain ⟨h1, h2⟩ := ih _ _ _ _ _ h hl
        have := hd.1
        rw [if_pos (by omega)] at h2
        refine ⟨h1, ?_⟩
        rw [if_neg hm]
        simp only [List.length_cons]
        omega
    · rw [rd_letter hd] at h
      obtain ⟨h1, h2⟩ := ih _ _ _ _ _ h (by simp [hl])
      refine ⟨h1, ?_⟩
      simp only [List.length_append, List.length_cons, List.length_nil] at h2 ⊢
      split <;> omega

/-- What is read of a text, if it is a pattern. -/
def readR (s : ByteArray) : Option (ByteArray × List Int) :=
  match rd [] [] (-1) s.data.toList with
  | some (L, M) => if patB ⟨L.toArray⟩ M = true then some (⟨L.toArray⟩, M) else none
  | none => none
def rdS (s : ByteArray) : ByteArray := match readR s with | some x => x.1 | none => ⟨#[]⟩
def rdM (s : ByteArray) : List Int := match readR s with | some x => x.2 | none => []
def rdB (s : ByteArray) : Bool := (readR s).isSome

theorem read_none {s : ByteArray} (h : readR s = none) : rdS s = ⟨#[]⟩ ∧ rdM s = [] ∧ rdB s = false := by simp [rdS, rdM, rdB, h]
theorem read_some {s L : ByteArray} {M : List Int} (h : readR s = some (L, M)) : rdS s = L ∧ rdM s = M ∧ rdB s = true := by simp [rdS, rdM, rdB, h]
theorem readR_none {s : ByteArray} (h : rd [] [] (-1) s.data.toList = none) : readR s = none := by simp [readR, h]
theorem readR_no {s : ByteArray} {L : List UInt8} {M : List Int} (h : rd [] [] (-1) s.data.toList = some (L, M)) (hp : patB ⟨L.toArray⟩ M = false) : readR s = none := by simp [readR, h, hp]
theorem readR_yes {s : ByteArray} {L : List UInt8} {M : List Int} (h : rd [] [] (-1) s.data.toList = some (L, M)) (hp : patB ⟨L.toArray⟩ M = true) : readR s = some (⟨L.toArray⟩, M) := by simp [readR, h, hp]

theorem readR_pat {s L : ByteArray} {M : List Int} (h : readR s = some (L, M)) : patB L M = true := by
  unfold readR at h
  split at h
  · split at h
    · simp only [Option.some.injEq, Prod.mk.injEq] at h
      obtain ⟨rfl, rfl⟩ := h
      assumption
    · cases h
  · cases h

theorem readR_long {s : ByteArray} (h : 41 < s.size) : readR s = none := by
  cases hr : rd [] [] (-1) s.data.toList with
  | none => exact readR_none hr
  | some x =>
    obtain ⟨L, M⟩ := x
    obtain ⟨h1, h2⟩ := rd_len _ _ _ _ _ _ hr rfl
    cases hp : patB ⟨L.toArray⟩ M with
    | false => exact readR_no hr hp
    | true =>
      exfalso
      have h3 := (show PatP ⟨L.toArray⟩ M from of_decide_eq_true hp).1
      have h4 : (⟨L.toArray⟩ : ByteArray).size = L.length := rfl
      have h5 : s.data.toList.length = s.size := rfl
      have h6 : ¬ ((0 : Int) ≤ -1) := by omega
      rw [if_neg h6] at h2
      omega

theorem drop_at (s : ByteArray) {k : Nat} (h : k < s.size) : s.data.toList.drop k = s.data.toList.getD k 0 :: s.data.toList.drop (k + 1) := by
  have h2 : k < s.data.toList.length := by simpa using h
  rw [List.drop_eq_getElem_cons h2]
  simp [List.getD, List.getElem?_eq_getElem h2]
theorem dig_of {s : ByteArray} {k : Nat} : isDig (s.data.toList.getD k 0) ↔ (48 ≤ byteAt s k ∧ byteAt s k ≤ 57) := Iff.rfl
theorem drop_end (s : ByteArray) : s.data.toList.drop s.size = [] := List.drop_eq_nil_of_le (Nat.le_refl _)
end Go.Proofs.Ytejigikcpmhhoaa
