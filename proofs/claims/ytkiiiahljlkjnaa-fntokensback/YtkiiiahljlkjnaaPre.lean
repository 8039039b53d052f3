/-
  The tokens of a beginning of a text are the first ones of its tokens.
-/
import Derived.Test.YtkiiiahljlkjnaaTkp
namespace Go.Proofs.Ytkiiiahljlkjnaa
open Go.RowKit
set_option linter.unusedVariables false
set_option linter.unusedSimpArgs false

/-- The beginning of a text. -/
def beg (s : ByteArray) (c : Nat) : ByteArray := s.extract 0 c
theorem beg_size {s : ByteArray} {c : Nat} (h : c ≤ s.size) : (beg s c).size = c := by
  unfold beg
  rw [ByteArray.size_extract]
  omega
theorem beg_byte {s : ByteArray} {c i : Nat} (h : c ≤ s.size) (hi : i < c) : byteAt (beg s c) i = byteAt s i := by
  unfold byteAt beg
  rw [ByteArray.data_extract]
  simp [List.getD, hi]
theorem beg_cat {zs : List Int} {s : ByteArray} {c i : Nat} (h : c ≤ s.size) (hi : i < c) : catAt zs (beg s c) i = catAt zs s i := by
  unfold catAt
  rw [beg_byte h hi]
theorem beg_extract {s : ByteArray} {c i j : Nat} (h : c ≤ s.size) (hj : j ≤ c) : (beg s c).extract i j = s.extract i j := by
  unfold beg
  rw [ByteArray.extract_extract]
  congr 1 <;> omega
theorem runL_beg {zs : List Int} {s : ByteArray} {c : Nat} (h : c ≤ s.size) : ∀ f i, runL zs s f i ≤ c → runL zs (beg s c) f i = runL zs s f i
  | 0, i, _ => rfl
  | f + 1, i, hr => by
    by_cases hc : i < s.size ∧ catAt zs s i = 4
    · have h1 : runL zs s (f + 1) i = runL zs s f (i + 1) := runL_go hc.1 hc.2
      rw [h1] at hr ⊢
      have h2 := runL_ge zs s f (i + 1)
      rw [runL_go (by rw [beg_size h]; omega) (by rw [beg_cat h (by omega)]; exact hc.2)]
      exact runL_beg h f (i + 1) hr
    · rw [runL_stop hc, runL_stop]
      rw [beg_size h]
      intro hh
      rw [beg_cat h hh.1] at hh
      exact hc ⟨by omega, hh.2⟩
theorem nmS_beg {zs : List Int} {s : ByteArray} {c p : Nat} (h : c < s.size) (hp : p ≤ c) (hn : (nmS zs s p).a ≤ (c : Int)) : nmS zs (beg s c) p = nmS zs s p := by
  have hle : c ≤ s.size := by omega
  have e1 : nmS zs s p = if p < runL zs s 40 p then ⟨1, 0, 0, s.extract p (runL zs s 40 p), runL zs s 40 p, 2⟩ else ⟨1, 0, 0, s.extract p (p + 1), p + 1, if catAt zs s p = 3 then 2 else 1⟩ := by
    conv => lhs; unfold nmS
    rw [if_neg (by omega)]
  by_cases hr : p < runL zs s 40 p
  · rw [e1, if_pos hr] at hn ⊢
    simp only at hn
    have hrc : runL zs s 40 p ≤ c := by omega
    have h2 := runL_beg (zs := zs) hle 40 p hrc
    unfold nmS
    rw [if_neg (by rw [beg_size hle]; omega), h2, if_pos hr, beg_extract hle hrc]
  · rw [e1, if_neg hr] at hn ⊢
    simp only at hn
    have hpc : p + 1 ≤ c := by omega
    have hge := runL_ge zs s 40 p
    have h2 := runL_beg (zs := zs) hle 40 p (by omega)
    unfold nmS
    rw [if_neg (by rw [beg_size hle]; omega), h2, if_neg hr, beg_extract hle hpc, beg_cat hle (by omega)]
theorem skN_beg {zs : List Int} {s : ByteArray} {c : Nat} (h : c ≤ s.size) : ∀ f i, s.size - i ≤ f → skN zs s i < c → skN zs (beg s c) i = skN zs s i
  | f, i, hf, hk => by
    have hge := skN_ge zs s i
    have hi : i < s.size := by omega
    by_cases h6 : catAt zs s i = 6
    · have h1 : skN zs s i = i + 1 := by
        unfold skN
        rw [endN_stop (fun hh => hh.2 h6), if_pos hi]
      have h2 : skN zs (beg s c) i = i + 1 := by
        unfold skN
        have h6' : catAt zs (beg s c) i = 6 := by rw [beg_cat h (by omega)]; exact h6
        rw [endN_stop (fun hh => hh.2 h6'), if_pos (by rw [beg_size h]; omega)]
      rw [h1, h2]
    · have h1 : skN zs s i = skN zs s (i + 1) := by
        unfold skN
        rw [endN_go hi h6]
      have h2 : skN zs (beg s c) i = skN zs (beg s c) (i + 1) := by
        unfold skN
        rw [endN_go (by rw [beg_size h]; omega) (by rw [beg_cat h (by omega)]; exact h6)]
      cases f with
      | zero => omega
      | succ f =>
        rw [h1] at hk
        rw [h1, h2]
        exact skN_beg h f (i + 1) (by omega) hk
theorem skN_le' (zs : List Int) (s : ByteArray) {p : Nat} (hp : p ≤ s.size) : skN zs s p ≤ s.size := by
  have : ∀ f i, i ≤ s.size → endN zs s f i ≤ s.size := by
    intro f
    induction f with
    | zero => exact fun i hi => hi
    | succ f ih =>
      intro i hi
      unfold endN
      split
      · next hc => exact ih (i + 1) (by omega)
      · exact hi
  have h1 := this (s.size - p) p hp
  unfold skN
  split <;> omega
/-- One token of the beginning. -/
theorem nxt_beg {zs : List Int} {s : ByteArray} {c : Nat} (h : c < s.size) : ∀ f a st, s.size - a ≤ f → a ≤ s.size → (nxt zs s a st).k = 1 → (nxt zs s a st).a ≤ (c : Int) → nxt zs (beg s c) a st = nxt zs s a st
  | f, a, st, hf, has, hk, hc => by
    have hle : c ≤ s.size := by omega
    obtain ⟨_, n, q2, q3, q4⟩ := nxt_place zs s (s.size - a) a st has (Nat.le_refl _)
    have q5 := q4 (by rw [hk]; decide)
    have hac : a < c := by omega
    have ha : a < s.size := by omega
    cases f with
    | zero => omega
    | succ f =>
      rw [nxt_step ha] at hk hc ⊢
      rw [nxt_step (s := beg s c) (by rw [beg_size hle]; exact hac), beg_cat hle hac, beg_byte hle hac]
      by_cases c0 : catAt zs s a = 0
      · rw [if_pos c0] at hk hc ⊢
        rw [if_pos c0]
        exact nmS_beg h (by omega) hc
      rw [if_neg c0] at hk hc ⊢
      rw [if_neg c0]
      by_cases c6 : catAt zs s a = 6
      · rw [if_pos c6] at hk hc ⊢
        rw [if_pos c6]
        by_cases s0 : st = 0
        · rw [if_pos s0, if_pos s0]
        rw [if_neg s0] at hk hc ⊢
        rw [if_neg s0]
        by_cases s1 : st = 1
        · rw [if_pos s1, if_pos s1]
        rw [if_neg s1] at hk hc ⊢
        rw [if_neg s1]
        exact nxt_beg h f (a + 1) 0 (by omega) (by omega) hk hc
      rw [if_neg c6] at hk hc ⊢
      rw [if_neg c6]
      by_cases c3 : catAt zs s a = 3
      · rw [if_pos c3] at hk hc ⊢
        rw [if_pos c3]
        by_cases s1 : st = 1
        · rw [if_pos s1, if_pos s1]
        rw [if_neg s1] at hk hc ⊢
        rw [if_neg s1]
        exact nxt_beg h f (a + 1) st (by omega) (by omega) hk hc
      rw [if_neg c3] at hk hc ⊢
      rw [if_neg c3]
      by_cases c8 : catAt zs s a = 8
      · rw [if_pos c8] at hk hc ⊢
        rw [if_pos c8]
        have k1 := skN_ge zs s (a + 1)
        have k2 := skN_le' zs s (p := a + 1) (by omega)
        obtain ⟨_, m, r2, r3, r4⟩ := nxt_place zs s (s.size - skN zs s (a + 1)) (skN zs s (a + 1)) 0 k2 (Nat.le_refl _)
        have r5 := r4 (by rw [hk]; decide)
        rw [skN_beg hle (s.size - (a + 1)) (a + 1) (Nat.le_refl _) (by omega)]
        exact nxt_beg h f (skN zs s (a + 1)) 0 (by omega) k2 hk hc
      rw [if_neg c8] at hk hc ⊢
      rw [if_neg c8]
      by_cases c9 : catAt zs s a = 9
      · rw [if_pos c9] at hk hc ⊢
        rw [if_pos c9]
        exact nxt_beg h f (a + 1) st (by omega) (by omega) hk hc
      rw [if_neg c9] at hk hc ⊢
      rw [if_neg c9]
/-- The state is one. -/
theorem nmS_st (zs : List Int) (s : ByteArray) (p : Nat) : 0 ≤ (nmS zs s p).s ∧ (nmS zs s p).s ≤ 2 := by
  unfold nmS
  split
  · exact ⟨by simp, by simp⟩
  · split
    · exact ⟨by simp, by simp⟩
    · simp only
      split <;> exact ⟨by simp, by simp⟩
theorem nxt_st (zs : List Int) (s : ByteArray) : ∀ f a st, s.size - a ≤ f → 0 ≤ st → st ≤ 2 → 0 ≤ (nxt zs s a st).s ∧ (nxt zs s a st).s ≤ 2
  | f, a, st, hf, h0, h2 => by
    by_cases ha : a < s.size
    · cases f with
      | zero => omega
      | succ f =>
        have hk := skN_ge zs s (a + 1)
        rw [nxt_step ha]
        split
        · exact nmS_st zs s (a + 1)
        split
        · split
          · exact ⟨by simp, by simp⟩
          split
          · exact ⟨by simp, by simp⟩
          · exact nxt_st zs s f (a + 1) 0 (by omega) (by omega) (by omega)
        split
        · split
          · exact ⟨by simp, by simp⟩
          · exact nxt_st zs s f (a + 1) st (by omega) h0 h2
        split
        · exact nxt_st zs s f (skN zs s (a + 1)) 0 (by omega) (by omega) (by omega)
        split
        · exact nxt_st zs s f (a + 1) st (by omega) h0 h2
        split
        · exact ⟨h0, h2⟩
        · exact ⟨by simp, by simp⟩
    · rw [nxt_end ha]
      exact ⟨h0, h2⟩

/-- Where the scan stands behind so many tokens. -/
def wlk (zs : List Int) (s : ByteArray) : Nat → Nat × Int
  | 0 => (0, 0)
  | i + 1 => ((nxt zs s (wlk zs s i).1 (wlk zs s i).2).a.toNat, (nxt zs s (wlk zs s i).1 (wlk zs s i).2).s)
theorem wlk_at (zs : List Int) (s : ByteArray) : ∀ i, i ≤ (tks zs s 0 0).1.length → (wlk zs s i).1 ≤ s.size ∧ 0 ≤ (wlk zs s i).2 ∧ (wlk zs s i).2 ≤ 2 ∧ tks zs s (wlk zs s i).1 (wlk zs s i).2 = ((tks zs s 0 0).1.drop i, (tks zs s 0 0).2)
  | 0, _ => ⟨Nat.zero_le _, by simp [wlk], by simp [wlk], by simp [wlk]⟩
  | i + 1, hi => by
    obtain ⟨h1, h2, h3, h4⟩ := wlk_at zs s i (by omega)
    obtain ⟨q1, n, q2, q3, q4⟩ := nxt_place zs s (s.size - (wlk zs s i).1) (wlk zs s i).1 (wlk zs s i).2 h1 (Nat.le_refl _)
    have q5 := nxt_st zs s (s.size - (wlk zs s i).1) (wlk zs s i).1 (wlk zs s i).2 (Nat.le_refl _) h2 h3
    have e := tks_step (zs := zs) (st := (wlk zs s i).2) h1
    rw [h4] at e
    have hne : (tks zs s 0 0).1.drop i ≠ [] := by
      intro h
      have := congrArg List.length h
      simp at this
      omega
    by_cases k0 : (nxt zs s (wlk zs s i).1 (wlk zs s i).2).k = 0
    · rw [if_pos k0] at e
      exact absurd (congrArg Prod.fst e) hne
    rw [if_neg k0] at e
    by_cases k2 : (nxt zs s (wlk zs s i).1 (wlk zs s i).2).k = 2
    · rw [if_pos k2] at e
      exact absurd (congrArg Prod.fst e) hne
    rw [if_neg k2] at e
    refine ⟨by show (nxt zs s _ _).a.toNat ≤ _; rw [q2]; simpa using q3, q5.1, q5.2, ?_⟩
    show tks zs s (nxt zs s _ _).a.toNat (nxt zs s _ _).s = _
    have e1 := congrArg Prod.fst e
    have e2 := congrArg Prod.snd e
    simp only at e1 e2
    refine Prod.ext ?_ e2.symm
    have := congrArg List.tail e1
    simp only [List.tail_cons, List.tail_drop] at this
    exact this.symm
/-- One token more. -/
theorem wlk_more {zs : List Int} {s : ByteArray} {i : Nat} (hi : i < (tks zs s 0 0).1.length) : (nxt zs s (wlk zs s i).1 (wlk zs s i).2).k = 1 ∧ tkOf (nxt zs s (wlk zs s i).1 (wlk zs s i).2) = (tks zs s 0 0).1.getD i Tk.none ∧ (nxt zs s (wlk zs s i).1 (wlk zs s i).2).a = ((wlk zs s (i + 1)).1 : Int) ∧ (wlk zs s i).1 < (wlk zs s (i + 1)).1 := by
  obtain ⟨h1, h2, h3, h4⟩ := wlk_at zs s i (by omega)
  obtain ⟨q1, n, q2, q3, q4⟩ := nxt_place zs s (s.size - (wlk zs s i).1) (wlk zs s i).1 (wlk zs s i).2 h1 (Nat.le_refl _)
  have e := tks_step (zs := zs) (st := (wlk zs s i).2) h1
  rw [h4] at e
  have hne : (tks zs s 0 0).1.drop i ≠ [] := by
    intro h
    have := congrArg List.length h
    simp at this
    omega
  by_cases k0 : (nxt zs s (wlk zs s i).1 (wlk zs s i).2).k = 0
  · rw [if_pos k0] at e
    exact absurd (congrArg Prod.fst e) hne
  rw [if_neg k0] at e
  by_cases k2 : (nxt zs s (wlk zs s i).1 (wlk zs s i).2).k = 2
  · rw [if_pos k2] at e
    exact absurd (congrArg Prod.fst e) hne
  rw [if_neg k2] at e
  have q5 := q4 k0
  have hw : (wlk zs s (i + 1)).1 = n := by show (nxt zs s _ _).a.toNat = n; rw [q2]; simp
  refine ⟨by omega, ?_, by rw [q2, hw], by rw [hw]; exact q5⟩
  have e1 := congrArg (fun l => List.head? (Prod.fst l)) e
  simp only [List.head?_drop, List.head?_cons] at e1
  rw [List.getD_eq_getElem?_getD, e1]
  rfl
/-- Where the tokens end. -/
theorem wlk_last {zs : List Int} {s : ByteArray} {x : Sc} (hx : x = nxt zs s (wlk zs s (tks zs s 0 0).1.length).1 (wlk zs s (tks zs s 0 0).1.length).2) : (x.k = 0 ∧ (tks zs s 0 0).2 = -1) ∨ (x.k = 2 ∧ (tks zs s 0 0).2 = x.a - 1 ∧ 1 ≤ x.a) := by
  obtain ⟨h1, h2, h3, h4⟩ := wlk_at zs s (tks zs s 0 0).1.length (Nat.le_refl _)
  obtain ⟨q1, n, q2, q3, q4⟩ := nxt_place zs s (s.size - (wlk zs s (tks zs s 0 0).1.length).1) (wlk zs s (tks zs s 0 0).1.length).1 (wlk zs s (tks zs s 0 0).1.length).2 h1 (Nat.le_refl _)
  have e := tks_step (zs := zs) (st := (wlk zs s (tks zs s 0 0).1.length).2) h1
  rw [h4] at e
  rw [← hx] at q1 q2 q4 e
  rw [List.drop_length] at e
  by_cases k0 : x.k = 0
  · rw [if_pos k0] at e
    exact .inl ⟨k0, congrArg Prod.snd e⟩
  rw [if_neg k0] at e
  have q5 := q4 k0
  by_cases k2 : x.k = 2
  · rw [if_pos k2] at e
    exact .inr ⟨k2, congrArg Prod.snd e, by omega⟩
  rw [if_neg k2] at e
  have := congrArg Prod.fst e
  simp at this
theorem wlk_mono {zs : List Int} {s : ByteArray} : ∀ (d i : Nat), i + d ≤ (tks zs s 0 0).1.length → (wlk zs s i).1 ≤ (wlk zs s (i + d)).1
  | 0, i, _ => Nat.le_refl _
  | d + 1, i, h => by
    have h1 := wlk_mono (zs := zs) (s := s) d i (by omega)
    have h2 := (wlk_more (zs := zs) (s := s) (i := i + d) (by omega)).2.2.2
    rw [← Nat.add_assoc]
    omega
/-- The tokens of a beginning. -/
theorem tks_beg {zs : List Int} {s : ByteArray} {k : Nat} (hk : k ≤ (tks zs s 0 0).1.length) : ∀ d i, i + d = k → tks zs (beg s (wlk zs s k).1) (wlk zs s i).1 (wlk zs s i).2 = (((tks zs s 0 0).1.drop i).take d, -1)
  | 0, i, h => by
    obtain ⟨h1, _⟩ := wlk_at zs s k hk
    obtain rfl : i = k := by omega
    rw [tks_step (by rw [beg_size h1]; exact Nat.le_refl _), nxt_end (by rw [beg_size h1]; omega)]
    simp
  | d + 1, i, h => by
    obtain ⟨h1, _⟩ := wlk_at zs s k hk
    obtain ⟨m1, m2, m3, m4⟩ := wlk_more (zs := zs) (s := s) (i := i) (by omega)
    have m5 := wlk_mono (zs := zs) (s := s) d (i + 1) (by omega)
    rw [show i + 1 + d = k by omega] at m5
    obtain ⟨hi1, _⟩ := wlk_at zs s i (by omega)
    have ih := tks_beg hk d (i + 1) (by omega)
    have e : nxt zs (beg s (wlk zs s k).1) (wlk zs s i).1 (wlk zs s i).2 = nxt zs s (wlk zs s i).1 (wlk zs s i).2 := by
      by_cases hlt : (wlk zs s k).1 < s.size
      · exact nxt_beg hlt (s.size - (wlk zs s i).1) (wlk zs s i).1 (wlk zs s i).2 (Nat.le_refl _) hi1 m1 (by rw [m3]; omega)
      · have : beg s (wlk zs s k).1 = s := by
          unfold beg
          rw [show (wlk zs s k).1 = s.size by omega]
          simp
        rw [this]
    rw [tks_step (by rw [beg_size h1]; omega), e, if_neg (by rw [m1]; decide), if_neg (by rw [m1]; decide), m3, Int.toNat_natCast]
    have e2 : (nxt zs s (wlk zs s i).1 (wlk zs s i).2).s = (wlk zs s (i + 1)).2 := rfl
    rw [e2, ih, m2]
    have hil : i < (tks zs s 0 0).1.length := by omega
    rw [List.drop_eq_getElem_cons hil, List.take_succ_cons, List.getD_eq_getElem?_getD, List.getElem?_eq_getElem hil]
    rfl
end Go.Proofs.Ytkiiiahljlkjnaa
