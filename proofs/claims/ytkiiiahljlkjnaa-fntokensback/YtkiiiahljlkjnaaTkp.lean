/-
  What Tokenize answers, and that each token takes the text further.
-/
import Derived.Test.YtkiiiahljlkjnaaTks
namespace Go.Proofs.Ytkiiiahljlkjnaa
open Go.RowKit
set_option linter.unusedVariables false
set_option linter.unusedSimpArgs false

theorem runL_ge (zs : List Int) (s : ByteArray) : ∀ f i, i ≤ runL zs s f i
  | 0, i => Nat.le_refl _
  | f + 1, i => by
    unfold runL
    split
    · exact Nat.le_trans (Nat.le_succ _) (runL_ge zs s f (i + 1))
    · exact Nat.le_refl _
theorem runL_le (zs : List Int) (s : ByteArray) : ∀ f i, i ≤ s.size → runL zs s f i ≤ s.size
  | 0, i, h => h
  | f + 1, i, h => by
    unfold runL
    split
    · next hc => exact runL_le zs s f (i + 1) (by omega)
    · exact h
theorem nmS_place (zs : List Int) (s : ByteArray) {p : Nat} (h : p ≤ s.size) : (nmS zs s p).k = 1 ∧ ∃ n : Nat, (nmS zs s p).a = n ∧ p ≤ n ∧ n ≤ s.size := by
  unfold nmS
  split
  · exact ⟨rfl, p, rfl, Nat.le_refl _, h⟩
  · split
    · exact ⟨rfl, _, rfl, runL_ge _ _ _ _, runL_le _ _ _ _ h⟩
    · exact ⟨rfl, p + 1, by simp, by omega, by omega⟩
/-- Where a scan stands. -/
def Plc (s : ByteArray) (a : Nat) (x : Sc) : Prop := (x.k = 0 ∨ x.k = 1 ∨ x.k = 2) ∧ ∃ n : Nat, x.a = n ∧ n ≤ s.size ∧ (x.k ≠ 0 → a < n)
theorem Plc.more {s : ByteArray} {a b : Nat} {x : Sc} (h : Plc s b x) (hab : a ≤ b) : Plc s a x := by
  obtain ⟨h1, n, h2, h3, h4⟩ := h
  exact ⟨h1, n, h2, h3, fun hk => by have := h4 hk; omega⟩
theorem nxt_place (zs : List Int) (s : ByteArray) : ∀ (f a : Nat) (st : Int), a ≤ s.size → s.size - a ≤ f → Plc s a (nxt zs s a st)
  | 0, a, st, h, hf => by
    rw [nxt_end (by omega)]
    exact ⟨.inl rfl, a, rfl, h, fun hk => absurd rfl hk⟩
  | f + 1, a, st, h, hf => by
    by_cases ha : a < s.size
    · rw [nxt_step ha]
      split
      · obtain ⟨h1, n, h2, h3, h4⟩ := nmS_place zs s (p := a + 1) (by omega)
        exact ⟨.inr (.inl h1), n, h2, h4, fun _ => by omega⟩
      split
      · split
        · exact ⟨.inr (.inl rfl), a + 1, by simp, by omega, fun _ => by omega⟩
        split
        · exact ⟨.inr (.inl rfl), a + 1, by simp, by omega, fun _ => by omega⟩
        · exact (nxt_place zs s f (a + 1) 0 (by omega) (by omega)).more (by omega)
      split
      · split
        · exact ⟨.inr (.inl rfl), a + 1, by simp, by omega, fun _ => by omega⟩
        · exact (nxt_place zs s f (a + 1) st (by omega) (by omega)).more (by omega)
      split
      · have k1 := skN_ge zs s (a + 1)
        have k2 : skN zs s (a + 1) ≤ s.size := by
          by_cases hk : skN zs s (a + 1) ≤ s.size
          · exact hk
          · exfalso
            have k3 : endN zs s (s.size - (a + 1)) (a + 1) ≤ s.size := by
              have : ∀ f i, i ≤ s.size → endN zs s f i ≤ s.size := by
                intro f
                induction f with
                | zero => exact fun i hi => hi
                | succ f ih =>
                  intro i hi
                  unfold endN
                  split
                  · next hc => exact ih (i + 1) (by omega)
                  · exact hi
              exact this _ _ (by omega)
            unfold skN at hk
            split at hk <;> omega
        exact (nxt_place zs s f (skN zs s (a + 1)) 0 k2 (by omega)).more (by omega)
      split
      · exact (nxt_place zs s f (a + 1) st (by omega) (by omega)).more (by omega)
      split
      · exact ⟨.inr (.inr rfl), a + 1, by simp, by omega, fun _ => by omega⟩
      · exact ⟨.inr (.inl rfl), a + 1, by simp, by omega, fun _ => by omega⟩
    · rw [nxt_end ha]
      exact ⟨.inl rfl, a, rfl, h, fun hk => absurd rfl hk⟩

def tkOf (x : Sc) : Tk := ⟨x.c, x.h, x.n⟩
/-- The tokens from a place on, and how they end. -/
def tkz (zs : List Int) (s : ByteArray) : Nat → Nat → Int → List Tk × Int
  | 0, _, _ => ([], -1)
  | f + 1, a, st => if (nxt zs s a st).k = 0 then ([], -1) else if (nxt zs s a st).k = 2 then ([], (nxt zs s a st).a - 1) else
      (tkOf (nxt zs s a st) :: (tkz zs s f (nxt zs s a st).a.toNat (nxt zs s a st).s).1, (tkz zs s f (nxt zs s a st).a.toNat (nxt zs s a st).s).2)
theorem tkz_more {zs : List Int} {s : ByteArray} : ∀ (f g a : Nat) (st : Int), a ≤ s.size → s.size - a < f → s.size - a < g → tkz zs s f a st = tkz zs s g a st
  | 0, _, _, _, _, h, _ => by omega
  | f + 1, 0, _, _, _, _, h => by omega
  | f + 1, g + 1, a, st, ha, h1, h2 => by
    obtain ⟨k1, n, k2, k3, k4⟩ := nxt_place zs s (s.size - a) a st ha (Nat.le_refl _)
    unfold tkz
    by_cases hk : (nxt zs s a st).k = 0
    · rw [if_pos hk, if_pos hk]
    · have k5 := k4 hk
      rw [if_neg hk, if_neg hk, k2, Int.toNat_natCast, tkz_more f g n _ k3 (by omega) (by omega)]
def tks (zs : List Int) (s : ByteArray) (a : Nat) (st : Int) : List Tk × Int := tkz zs s (s.size + 1 - a) a st
theorem tks_step {zs : List Int} {s : ByteArray} {a : Nat} {st : Int} (ha : a ≤ s.size) : tks zs s a st = if (nxt zs s a st).k = 0 then ([], -1) else if (nxt zs s a st).k = 2 then ([], (nxt zs s a st).a - 1) else
      (tkOf (nxt zs s a st) :: (tks zs s (nxt zs s a st).a.toNat (nxt zs s a st).s).1, (tks zs s (nxt zs s a st).a.toNat (nxt zs s a st).s).2) := by
  obtain ⟨k1, n, k2, k3, k4⟩ := nxt_place zs s (s.size - a) a st ha (Nat.le_refl _)
  obtain ⟨f, hf⟩ : ∃ f, s.size + 1 - a = f + 1 := ⟨s.size - a, by omega⟩
  have e : tks zs s a st = tkz zs s (f + 1) a st := by unfold tks; rw [hf]
  rw [e, tkz]
  by_cases hk : (nxt zs s a st).k = 0
  · rw [if_pos hk, if_pos hk]
  · have k5 := k4 hk
    rw [if_neg hk, if_neg hk, k2, Int.toNat_natCast]
    unfold tks
    rw [tkz_more f (s.size + 1 - n) n _ k3 (by omega) (by omega)]
theorem tks_len {zs : List Int} {s : ByteArray} : ∀ (f a : Nat) (st : Int), a ≤ s.size → s.size - a ≤ f → (tks zs s a st).1.length ≤ s.size - a
  | f, a, st, ha, hf => by
    obtain ⟨k1, n, k2, k3, k4⟩ := nxt_place zs s (s.size - a) a st ha (Nat.le_refl _)
    rw [tks_step ha]
    by_cases hk : (nxt zs s a st).k = 0
    · rw [if_pos hk]; simp
    · have k5 := k4 hk
      rw [if_neg hk]
      by_cases h2 : (nxt zs s a st).k = 2
      · rw [if_pos h2]; simp
      · rw [if_neg h2, k2, Int.toNat_natCast]
        cases f with
        | zero => omega
        | succ f =>
          have := tks_len (zs := zs) f n (nxt zs s a st).s k3 (by omega)
          simp only [List.length_cons]
          omega
/-- What Tokenize answers. -/
def tokS (zs : List Int) (s : ByteArray) : List Tk × Int := if catsB zs = true ∧ s.size ≤ 65536 then tks zs s 0 0 else ([], -2)
theorem tokS_len (zs : List Int) (s : ByteArray) : (tokS zs s).1.length ≤ 65536 := by
  unfold tokS
  split
  · next h =>
    have := tks_len (zs := zs) (s := s) s.size 0 0 (by omega) (by omega)
    omega
  · simp
end Go.Proofs.Ytkiiiahljlkjnaa
