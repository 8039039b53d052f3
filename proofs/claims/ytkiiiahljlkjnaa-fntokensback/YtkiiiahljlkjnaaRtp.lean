/-
  Tokens of a text by the plain table, shown and scanned again, are the same.
-/
import Derived.Test.YtkiiiahljlkjnaaSho
import Derived.Test.YtkiiiahljlkjnaaPlb
import Derived.Test.YtkiiiahljlkjnaaPre
namespace Go.Proofs.Ytkiiiahljlkjnaa
open Go.RowKit
set_option linter.unusedVariables false
set_option linter.unusedSimpArgs false

/-- Bytes as a text. -/
def tx (l : List UInt8) : ByteArray := ⟨l.toArray⟩
theorem tx_size (l : List UInt8) : (tx l).size = l.length := by simp [tx, ByteArray.size]
theorem tx_byte (l : List UInt8) (i : Nat) : byteAt (tx l) i = (l.getD i 0).toNat := by simp [byteAt, tx]
theorem tx_at (p r : List UInt8) (j : Nat) : byteAt (tx (p ++ r)) (p.length + j) = (r.getD j 0).toNat := by
  rw [tx_byte]
  congr 1
  simp [List.getD, List.getElem?_append_right]
theorem tx_list (s : ByteArray) : tx s.data.toList = s := by
  cases s
  simp [tx]
theorem tx_extract (p l r : List UInt8) : (tx (p ++ l ++ r)).extract p.length (p.length + l.length) = tx l := by
  have h : ((tx (p ++ l ++ r)).extract p.length (p.length + l.length)).data.toList = l := by
    rw [ByteArray.data_extract]
    simp [tx, List.drop_append, List.take_append]
  rw [← tx_list ((tx (p ++ l ++ r)).extract p.length (p.length + l.length)), h]
theorem catP (s : ByteArray) (i : Nat) : catAt PL s i = catOf (byteAt s i : Int) := by
  unfold catAt
  exact PL_at (by have := byteAt_le s i; omega)
theorem let_cat {c : Int} (h : letB c = true) : catOf c = 4 := by
  have h2 : (97 ≤ c ∧ c ≤ 122) ∨ (65 ≤ c ∧ c ≤ 90) := of_decide_eq_true h
  unfold catOf
  rw [if_neg (by omega), if_neg (by omega), if_neg (by omega), if_neg (by omega), if_neg (by omega), if_neg (by omega), if_neg (by omega), if_neg (by omega), if_neg (by omega), if_neg (by omega), if_neg (by omega), if_neg (by omega), if_neg (by omega), if_neg (by omega), if_pos h]
theorem cat_let {c : Int} (h : catOf c = 4) : letB c = true := by
  cases hl : letB c with
  | true => rfl
  | false =>
    exfalso
    unfold catOf at h
    rw [hl] at h
    simp only [Bool.false_eq_true, if_false] at h
    repeat' (first | omega | split at h)
theorem cat_range (c : Int) : 0 ≤ catOf c ∧ catOf c ≤ 15 := by
  unfold catOf
  constructor
  · repeat' (first | omega | split)
  · repeat' (first | omega | split)

/-- What a token that comes next is made of. -/
def Shape (s : ByteArray) (st : Int) (x : Sc) : Prop :=
  (∃ q, q ≤ s.size ∧ x = nmS PL s q) ∨ (x.c = 0 ∧ x.h = 0 ∧ x.n = parS ∧ x.s = 0) ∨ (st = 1 ∧ x.c = 3 ∧ x.h = 32 ∧ x.n = ByteArray.empty ∧ x.s ≠ 1) ∨
  (∃ b : Nat, b ≤ 255 ∧ x.c = catOf b ∧ x.h = b ∧ x.n = ByteArray.empty ∧ x.s = 1 ∧ catOf b ≠ 0 ∧ catOf b ≠ 6 ∧ catOf b ≠ 3 ∧ catOf b ≠ 8 ∧ catOf b ≠ 9 ∧ catOf b ≠ 15)
theorem Shape.zero {s : ByteArray} {st : Int} {x : Sc} (h : Shape s 0 x) : Shape s st x := by
  rcases h with h | h | ⟨h, _⟩ | h
  · exact .inl h
  · exact .inr (.inl h)
  · cases h
  · exact .inr (.inr (.inr h))
theorem nxt_shape (s : ByteArray) : ∀ f a st, s.size - a ≤ f → a ≤ s.size → (nxt PL s a st).k = 1 → Shape s st (nxt PL s a st)
  | f, a, st, hf, has, hk => by
    by_cases ha : a < s.size
    · cases f with
      | zero => omega
      | succ f =>
        have k1 := skN_ge PL s (a + 1)
        have k2 := skN_le' PL s (p := a + 1) (by omega)
        rw [nxt_step ha] at hk ⊢
        by_cases c0 : catAt PL s a = 0
        · rw [if_pos c0]
          exact .inl ⟨a + 1, by omega, rfl⟩
        rw [if_neg c0] at hk ⊢
        by_cases c6 : catAt PL s a = 6
        · rw [if_pos c6] at hk ⊢
          by_cases s0 : st = 0
          · rw [if_pos s0]
            exact .inr (.inl ⟨rfl, rfl, rfl, rfl⟩)
          rw [if_neg s0] at hk ⊢
          by_cases s1 : st = 1
          · rw [if_pos s1]
            exact .inr (.inr (.inl ⟨s1, rfl, rfl, rfl, by simp⟩))
          rw [if_neg s1] at hk ⊢
          exact (nxt_shape s f (a + 1) 0 (by omega) (by omega) hk).zero
        rw [if_neg c6] at hk ⊢
        by_cases c3 : catAt PL s a = 3
        · rw [if_pos c3] at hk ⊢
          by_cases s1 : st = 1
          · rw [if_pos s1]
            exact .inr (.inr (.inl ⟨s1, rfl, rfl, rfl, by simp⟩))
          rw [if_neg s1] at hk ⊢
          exact nxt_shape s f (a + 1) st (by omega) (by omega) hk
        rw [if_neg c3] at hk ⊢
        by_cases c8 : catAt PL s a = 8
        · rw [if_pos c8] at hk ⊢
          exact (nxt_shape s f (skN PL s (a + 1)) 0 (by omega) k2 hk).zero
        rw [if_neg c8] at hk ⊢
        by_cases c9 : catAt PL s a = 9
        · rw [if_pos c9] at hk ⊢
          exact nxt_shape s f (a + 1) st (by omega) (by omega) hk
        rw [if_neg c9] at hk ⊢
        by_cases c15 : catAt PL s a = 15
        · rw [if_pos c15] at hk
          cases hk
        rw [if_neg c15]
        rw [catP] at c0 c6 c3 c8 c9 c15 ⊢
        exact .inr (.inr (.inr ⟨byteAt s a, byteAt_le s a, rfl, rfl, rfl, rfl, c0, c6, c3, c8, c9, c15⟩))
    · rw [nxt_end ha] at hk
      cases hk
/-- What a name is made of. -/
theorem runL_all (zs : List Int) (s : ByteArray) : ∀ f i j, i ≤ j → j < runL zs s f i → catAt zs s j = 4
  | 0, i, j, h1, h2 => by unfold runL at h2; omega
  | f + 1, i, j, h1, h2 => by
    by_cases hc : i < s.size ∧ catAt zs s i = 4
    · rw [runL_go hc.1 hc.2] at h2
      by_cases hij : i = j
      · rw [← hij]; exact hc.2
      · exact runL_all zs s f (i + 1) j (by omega) h2
    · rw [runL_stop hc] at h2
      omega
theorem runL_most (zs : List Int) (s : ByteArray) : ∀ f i, runL zs s f i ≤ i + f
  | 0, i => Nat.le_refl _
  | f + 1, i => by
    unfold runL
    split
    · have := runL_most zs s f (i + 1)
      omega
    · omega
theorem ext_tx (s : ByteArray) (i j : Nat) (hj : j ≤ s.size) : ∃ l : List UInt8, s.extract i j = tx l ∧ l.length = j - i ∧ ∀ k, k < j - i → (l.getD k 0).toNat = byteAt s (i + k) := by
  refine ⟨(s.extract i j).data.toList, (tx_list _).symm, ?_, fun k hk => ?_⟩
  · rw [ByteArray.data_extract]
    have : s.data.size = s.size := rfl
    simp
    omega
  · rw [ByteArray.data_extract]
    unfold byteAt
    congr 1
    have : s.data.size = s.size := rfl
    simp [List.getD, List.getElem?_take, List.getElem?_drop]
    rw [if_pos (by omega)]
def NameQ (s : ByteArray) (x : Sc) : Prop :=
  x.c = 0 ∧ x.h = 0 ∧ ((x.n = tx [] ∧ x.s = 1 ∧ x.a = s.size) ∨ (∃ l : List UInt8, x.n = tx l ∧ 1 ≤ l.length ∧ l.length ≤ 40 ∧ (∀ k, k < l.length → catOf ((l.getD k 0).toNat : Int) = 4) ∧ x.s = 2) ∨
    (∃ b : UInt8, x.n = tx [b] ∧ catOf (b.toNat : Int) ≠ 4 ∧ x.s = if catOf (b.toNat : Int) = 3 then 2 else 1))
theorem nmS_name (s : ByteArray) {q : Nat} (hq : q ≤ s.size) : NameQ s (nmS PL s q) := by
  unfold nmS
  split
  · next h => exact ⟨rfl, rfl, .inl ⟨rfl, rfl, by simp [h]⟩⟩
  · next h =>
    split
    · next hr =>
      have h1 := runL_le PL s 40 q hq
      have h2 := runL_most PL s 40 q
      obtain ⟨l, e1, e2, e3⟩ := ext_tx s q (runL PL s 40 q) h1
      refine ⟨rfl, rfl, .inr (.inl ⟨l, e1, by omega, by omega, fun k hk => ?_, rfl⟩)⟩
      rw [e3 k (by omega), ← catP]
      exact runL_all PL s 40 q (q + k) (by omega) (by omega)
    · next hr =>
      obtain ⟨l, e1, e2, e3⟩ := ext_tx s q (q + 1) (by omega)
      have hn4 : catAt PL s q ≠ 4 := by
        intro h4
        have : runL PL s 40 q = runL PL s 39 (q + 1) := runL_go (zs := PL) (s := s) (f := 39) (i := q) (by omega) h4
        have h5 := runL_ge PL s 39 (q + 1)
        omega
      match l, e2, e3 with
      | [b], _, e3 =>
        have hb : b.toNat = byteAt s q := by simpa using e3 0 (by omega)
        rw [catP, ← hb] at hn4
        refine ⟨rfl, rfl, .inr (.inr ⟨b, e1, hn4, ?_⟩)⟩
        simp only
        rw [catP, ← hb]
      | [], e2, _ => simp at e2
      | _ :: _ :: _, e2, _ => simp at e2

/-- Letters that stand in a text are read as such. -/
theorem runL_exact : ∀ (l : List UInt8) (p r : List UInt8) (f : Nat), l.length ≤ f → (∀ k, k < l.length → catOf ((l.getD k 0).toNat : Int) = 4) → (r = [] ∨ catOf ((r.getD 0 0).toNat : Int) ≠ 4 ∨ l.length = f) → runL PL (tx (p ++ l ++ r)) f p.length = p.length + l.length
  | [], p, r, f, _, _, hr => by
    cases f with
    | zero => rfl
    | succ f =>
      refine runL_stop (fun hh => ?_)
      have h2 := hh.2
      rw [List.append_nil] at hh h2
      rcases hr with rfl | hr | hr
      · rw [tx_size] at hh
        simp at hh
      · rw [catP, show p.length = p.length + 0 from rfl, tx_at] at h2
        exact hr h2
      · simp at hr
  | b :: l, p, r, f, hf, hl, hr => by
    cases f with
    | zero => simp at hf
    | succ f =>
      have e : p ++ (b :: l) ++ r = (p ++ [b]) ++ l ++ r := by simp
      have h0 := hl 0 (by simp)
      have hc : catAt PL (tx (p ++ (b :: l) ++ r)) p.length = 4 := by
        rw [catP, show p.length = p.length + 0 from rfl, List.append_assoc, tx_at]
        simpa using h0
      rw [runL_go (by rw [tx_size]; simp) hc, e]
      have ih := runL_exact l (p ++ [b]) r f (by simp at hf; omega) (fun k hk => by have := hl (k + 1) (by simp; omega); simpa using this) (by
        rcases hr with hr | hr | hr
        · exact .inl hr
        · exact .inr (.inl hr)
        · exact .inr (.inr (by simpa using hr)))
      rw [show (p ++ [b]).length = p.length + 1 by simp] at ih
      rw [ih]
      simp
      omega
/-- A blank behind a name is passed over. -/
theorem tks_blank {s : ByteArray} {p : Nat} {st : Int} (hp : p < s.size) (h32 : byteAt s p = 32) (hst : st ≠ 1) : tks PL s p st = tks PL s (p + 1) st := by
  have e : nxt PL s p st = nxt PL s (p + 1) st := by
    rw [nxt_step hp, catP, h32]
    have h3 : catOf ((32 : Nat) : Int) = 3 := by decide
    rw [h3, if_neg (by decide), if_neg (by decide), if_pos rfl, if_neg hst]
  rw [tks_step (a := p) (by omega), tks_step (a := p + 1) (by omega), e]
/-- One token of the shown text. -/
theorem tks_take {s : ByteArray} {p : Nat} {st : Int} {y : Sc} {T : List Tk} {q : Nat} {k : Tk} (hp : p ≤ s.size) (hy : nxt PL s p st = y) (hk : y.k = 1) (ht : tkOf y = k) (ha : y.a = (q : Int)) (hr : tks PL s q y.s = (T, -1)) : tks PL s p st = (k :: T, -1) := by
  rw [tks_step hp, hy, if_neg (by rw [hk]; decide), if_neg (by rw [hk]; decide), ha, Int.toNat_natCast, hr, ht]

theorem showT_name {c h : Int} {l : List UInt8} (hc : c = 0) : showT ⟨c, h, tx l⟩ = [92] ++ l ++ (if lastB (tx l) then [32] else []) := by
  unfold showT
  rw [if_pos hc]
  simp [tx]
theorem last_tx (l : List UInt8) (h : 1 ≤ l.length) : lastB (tx l) = letB ((l.getD (l.length - 1) 0).toNat : Int) := by
  unfold lastB
  have e : (tx l).data.toList = l := by simp [tx]
  rw [e, List.getLast?_eq_getElem?, List.getElem?_eq_getElem (show l.length - 1 < l.length by omega), List.getD_eq_getElem?_getD, List.getElem?_eq_getElem (show l.length - 1 < l.length by omega)]
  rfl
theorem nxt_esc {s : ByteArray} {p : Nat} {st : Int} (hp : p < s.size) (h : byteAt s p = 92) : nxt PL s p st = nmS PL s (p + 1) := by
  rw [nxt_step hp, catP, h]
  have h0 : catOf ((92 : Nat) : Int) = 0 := by decide
  rw [h0, if_pos rfl]
/-- A name of letters, shown, with a blank behind it. -/
theorem nxt_letters {p l r : List UInt8} {st : Int} (h1 : 1 ≤ l.length) (h40 : l.length ≤ 40) (hl : ∀ k, k < l.length → catOf ((l.getD k 0).toNat : Int) = 4) : nxt PL (tx (p ++ ([92] ++ l ++ [32]) ++ r)) p.length st = ⟨1, 0, 0, tx l, ((p.length + 1 + l.length : Nat) : Int), 2⟩ := by
  have hb : byteAt (tx (p ++ ([92] ++ l ++ [32]) ++ r)) p.length = 92 := by
    rw [show p.length = p.length + 0 from rfl, List.append_assoc, tx_at]
    simp
  have hz : p.length + 1 + l.length < (tx (p ++ ([92] ++ l ++ [32]) ++ r)).size := by rw [tx_size]; simp; omega
  rw [nxt_esc (by omega) hb]
  have e : p ++ ([92] ++ l ++ [32]) ++ r = (p ++ [92]) ++ l ++ ([32] ++ r) := by simp
  have hr := runL_exact l (p ++ [92]) ([32] ++ r) 40 h40 hl (.inr (.inl (by
    have : ((([32] : List UInt8) ++ r).getD 0 0) = 32 := rfl
    rw [this]
    decide)))
  rw [← e, show (p ++ ([92] : List UInt8)).length = p.length + 1 by simp] at hr
  unfold nmS
  rw [if_neg (by omega), hr, if_pos (by omega)]
  have hx := tx_extract (p ++ [92]) l ([32] ++ r)
  rw [← e, show (p ++ ([92] : List UInt8)).length = p.length + 1 by simp] at hx
  rw [hx]

/-- The tokens from a place on, shown behind whatever and scanned again, in a state that is the middle of a line where the old one was. -/
theorem back (s : ByteArray) : ∀ f a st, s.size - a ≤ f → a ≤ s.size → (tks PL s a st).2 = -1 → ∀ (pre : List UInt8) (st' : Int), (st = 1 → st' = 1) → tks PL (tx (pre ++ (tks PL s a st).1.flatMap showT)) pre.length st' = ((tks PL s a st).1, -1)
  | f, a, st, hf, has, hbad, pre, st', hst => by
    obtain ⟨q1, n, q2, q3, q4⟩ := nxt_place PL s (s.size - a) a st has (Nat.le_refl _)
    have sh := nxt_shape s (s.size - a) a st (Nat.le_refl _) has
    rw [tks_step has] at hbad ⊢
    obtain ⟨x, hx⟩ : ∃ x, x = nxt PL s a st := ⟨_, rfl⟩
    rw [← hx] at hbad q1 q2 q4 sh ⊢
    by_cases k0 : x.k = 0
    · rw [if_pos k0]
      simp only [List.flatMap_nil, List.append_nil]
      rw [tks_step (by rw [tx_size]; exact Nat.le_refl _), nxt_end (by rw [tx_size]; omega)]
      rfl
    have q5 := q4 k0
    rw [if_neg k0] at hbad ⊢
    by_cases k2 : x.k = 2
    · rw [if_pos k2] at hbad
      simp only at hbad
      omega
    rw [if_neg k2] at hbad ⊢
    have k1 : x.k = 1 := by omega
    have sp := sh k1
    rw [q2, Int.toNat_natCast] at hbad ⊢
    cases f with
    | zero => omega
    | succ f =>
      have ih := back s f n x.s (by omega) q3 hbad
      obtain ⟨T, hT⟩ : ∃ T, T = (tks PL s n x.s).1 := ⟨_, rfl⟩
      rw [← hT] at ih
      have hT2 := hT
      simp only at hbad ⊢
      rw [← hT]
      simp only [List.flatMap_cons]
      rw [← List.append_assoc]
      have word : ∀ l : List UInt8, x.c = 0 → x.h = 0 → x.n = tx l → x.s ≠ 1 → 1 ≤ l.length → l.length ≤ 40 → (∀ k, k < l.length → catOf ((l.getD k 0).toNat : Int) = 4) → tks PL (tx (pre ++ showT (tkOf x) ++ T.flatMap showT)) pre.length st' = (tkOf x :: T, -1) := by
        intro l e1 e2 e3 e4 e5 e6 e7
        have es : showT (tkOf x) = [92] ++ l ++ [32] := by
          unfold tkOf
          rw [e3, showT_name e1, last_tx l e5, cat_let (e7 _ (by omega)), if_pos rfl]
        rw [es]
        have hz : (tx (pre ++ ([92] ++ l ++ [32]) ++ T.flatMap showT)).size = pre.length + 1 + l.length + 1 + (T.flatMap showT).length := by rw [tx_size]; simp; omega
        refine tks_take (q := pre.length + 1 + l.length) (by omega) (nxt_letters e5 e6 e7) rfl (by unfold tkOf; rw [e1, e2, e3]) rfl ?_
        have hb : byteAt (tx (pre ++ ([92] ++ l ++ [32]) ++ T.flatMap showT)) (pre.length + 1 + l.length) = 32 := by
          have e : pre ++ ([92] ++ l ++ [32]) ++ T.flatMap showT = (pre ++ [92] ++ l) ++ ([32] ++ T.flatMap showT) := by simp
          rw [e, show pre.length + 1 + l.length = (pre ++ [92] ++ l).length + 0 by simp; omega, tx_at]
          simp
        rw [tks_blank (by omega) hb (by simp)]
        have := ih (pre ++ ([92] ++ l ++ [32])) 2 (fun h => absurd h e4)
        rw [show (pre ++ (([92] : List UInt8) ++ l ++ ([32] : List UInt8))).length = pre.length + 1 + l.length + 1 from (by simp; omega)] at this
        exact this
      rcases sp with ⟨q, hq, e⟩ | ⟨e1, e2, e3, e4⟩ | ⟨e0, e1, e2, e3, e4⟩ | ⟨b, hb, e1, e2, e3, e4, n0, n6, n3, n8, n9, n15⟩
      · obtain ⟨e1, e2, hn⟩ := nmS_name s hq
        rw [← e] at e1 e2 hn
        rcases hn with ⟨e3, e4, e5⟩ | ⟨l, e3, e4, e5, e6, e7⟩ | ⟨b, e3, e4, e5⟩
        · have hT0 : T = [] := by
            rw [hT, show n = s.size by omega, tks_step (Nat.le_refl _), nxt_end (by omega)]
            rfl
          have es : showT (tkOf x) = [92] := by
            unfold tkOf
            rw [e3, showT_name e1]
            simp [lastB, tx]
          rw [es, hT0]
          simp only [List.flatMap_nil, List.append_nil]
          have hb : byteAt (tx (pre ++ [92])) pre.length = 92 := by
            rw [show pre.length = pre.length + 0 from rfl, tx_at]
            simp
          have hz : (tx (pre ++ [92])).size = pre.length + 1 := by rw [tx_size]; simp
          refine tks_take (y := ⟨1, 0, 0, ByteArray.empty, ((pre.length + 1 : Nat) : Int), 1⟩) (q := pre.length + 1) (by omega) ?_ rfl (by unfold tkOf; rw [e1, e2, e3]; rfl) rfl ?_
          · rw [nxt_esc (by omega) hb]
            unfold nmS
            rw [if_pos hz.symm]
          · rw [tks_step (by omega), nxt_end (by omega)]
            rfl
        · exact word l e1 e2 e3 (by rw [e7]; decide) e4 e5 e6
        · have es : showT (tkOf x) = [92, b] := by
            unfold tkOf
            rw [e3, showT_name e1, last_tx [b] (by simp)]
            have : letB ((([b] : List UInt8).getD ([b].length - 1) 0).toNat : Int) = false := by
              cases hl : letB ((([b] : List UInt8).getD ([b].length - 1) 0).toNat : Int) with
              | false => rfl
              | true => exact absurd (let_cat hl) (by simpa using e4)
            rw [this]
            simp
          rw [es]
          have e : pre ++ [92, b] ++ T.flatMap showT = (pre ++ [92]) ++ [b] ++ T.flatMap showT := by simp
          have hz : (tx (pre ++ [92, b] ++ T.flatMap showT)).size = pre.length + 2 + (T.flatMap showT).length := by rw [tx_size]; simp; omega
          have hb0 : byteAt (tx (pre ++ [92, b] ++ T.flatMap showT)) pre.length = 92 := by
            rw [show pre.length = pre.length + 0 from rfl, List.append_assoc, tx_at]
            simp
          have hb1 : byteAt (tx (pre ++ [92, b] ++ T.flatMap showT)) (pre.length + 1) = b.toNat := by
            rw [List.append_assoc, tx_at]
            simp
          have hx := tx_extract (pre ++ [92]) [b] (T.flatMap showT)
          rw [← e, show (pre ++ ([92] : List UInt8)).length = pre.length + 1 by simp, show pre.length + 1 + [b].length = pre.length + 1 + 1 by simp] at hx
          refine tks_take (y := ⟨1, 0, 0, tx [b], ((pre.length + 2 : Nat) : Int), x.s⟩) (q := pre.length + 2) (by omega) ?_ rfl (by unfold tkOf; rw [e1, e2, e3]) rfl ?_
          · rw [nxt_esc (by omega) hb0]
            have hstop : runL PL (tx (pre ++ [92, b] ++ T.flatMap showT)) 40 (pre.length + 1) = pre.length + 1 := runL_stop (fun hh => by
              have h2 := hh.2
              rw [catP, hb1] at h2
              exact e4 h2)
            unfold nmS
            rw [if_neg (by omega), hstop, if_neg (by omega), hx, catP, hb1, e5]
            simp
            omega
          · have := ih (pre ++ [92, b]) x.s (fun h => h)
            rw [show (pre ++ ([92, b] : List UInt8)).length = pre.length + 2 by simp] at this
            exact this
      · refine word [112, 97, 114] e1 e2 e3 (by rw [e4]; decide) (by decide) (by decide) (fun k hk => ?_)
        match k, hk with
        | 0, _ => decide
        | 1, _ => decide
        | 2, _ => decide
      · have h1 := hst e0
        subst h1
        have es : showT (tkOf x) = [32] := by
          unfold tkOf showT
          rw [if_neg (by simp [e1]), if_neg (by simp [e1])]
          simp [e2]
        rw [es]
        have hz : (tx (pre ++ [32] ++ T.flatMap showT)).size = pre.length + 1 + (T.flatMap showT).length := by rw [tx_size]; simp; omega
        have hb0 : byteAt (tx (pre ++ [32] ++ T.flatMap showT)) pre.length = 32 := by
          rw [show pre.length = pre.length + 0 from rfl, List.append_assoc, tx_at]
          simp
        refine tks_take (y := ⟨1, 3, 32, ByteArray.empty, ((pre.length + 1 : Nat) : Int), 2⟩) (q := pre.length + 1) (by omega) ?_ rfl (by unfold tkOf; rw [e1, e2, e3]) rfl ?_
        · rw [nxt_step (by omega), catP, hb0]
          have h3 : catOf ((32 : Nat) : Int) = 3 := by decide
          rw [h3, if_neg (by decide), if_neg (by decide), if_pos rfl, if_pos rfl]
          simp
        · have := ih (pre ++ [32]) 2 (fun h => absurd h e4)
          rw [show (pre ++ ([32] : List UInt8)).length = pre.length + 1 by simp] at this
          exact this
      · have hbu : (UInt8.ofNat b).toNat = b := by simp; omega
        have es : showT (tkOf x) = [UInt8.ofNat b] := by
          unfold tkOf showT
          have hr := cat_range (b : Int)
          rw [if_neg (by simp only; rw [e1]; exact n0), if_neg (by simp only; rw [e1]; omega)]
          simp [e2]
        rw [es]
        have hz : (tx (pre ++ [UInt8.ofNat b] ++ T.flatMap showT)).size = pre.length + 1 + (T.flatMap showT).length := by rw [tx_size]; simp; omega
        have hb0 : byteAt (tx (pre ++ [UInt8.ofNat b] ++ T.flatMap showT)) pre.length = b := by
          rw [show pre.length = pre.length + 0 from rfl, List.append_assoc, tx_at]
          simpa using hbu
        refine tks_take (y := ⟨1, catOf b, b, ByteArray.empty, ((pre.length + 1 : Nat) : Int), 1⟩) (q := pre.length + 1) (by omega) ?_ rfl (by unfold tkOf; rw [e1, e2, e3]) rfl ?_
        · rw [nxt_step (by omega), catP, hb0, if_neg n0, if_neg n6, if_neg n3, if_neg n8, if_neg n9, if_neg n15]
          simp
        · have := ih (pre ++ [UInt8.ofNat b]) 1 (fun _ => rfl)
          rw [show (pre ++ [UInt8.ofNat b]).length = pre.length + 1 by simp] at this
          exact this
end Go.Proofs.Ytkiiiahljlkjnaa
