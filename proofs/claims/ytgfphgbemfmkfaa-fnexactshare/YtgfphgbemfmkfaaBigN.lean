/-
  Plain arithmetic: whole numbers as lists of digits to the base 16777216, the lowest first. No Go text is spoken of here.
-/
namespace Go.Proofs.Ytgfphgbemfmkfaa.BigN

def val : List Nat → Nat
  | [] => 0
  | d :: ds => d + 16777216 * val ds

def Digits (xs : List Nat) : Prop := ∀ d ∈ xs, d < 16777216

/-- No zero on top. -/
def Trim (xs : List Nat) : Prop := xs ≠ [] → xs.getD (xs.length - 1) 0 ≠ 0

theorem getD_lt' (xs : List Nat) (n : Nat) (h : n < xs.length) : xs.getD n 0 = xs[n] := by simp [List.getD, h]
theorem getD_ge' (xs : List Nat) (n : Nat) (h : xs.length ≤ n) : xs.getD n 0 = 0 := by simp [List.getD, h]

theorem pow_pos' (n : Nat) : 0 < 16777216 ^ n := Nat.pow_pos (by decide)

theorem val_append (xs ys : List Nat) : val (xs ++ ys) = val xs + 16777216 ^ xs.length * val ys := by
  induction xs with
  | nil => simp [val]
  | cons d ds ih =>
    simp only [List.cons_append, val, ih, List.length_cons, Nat.pow_succ, Nat.mul_add]
    rw [Nat.mul_comm (16777216 ^ ds.length) 16777216, Nat.mul_assoc]
    omega

theorem val_snoc (xs : List Nat) (d : Nat) : val (xs ++ [d]) = val xs + 16777216 ^ xs.length * d := by
  rw [val_append]; simp [val]

theorem val_lt (xs : List Nat) (h : Digits xs) : val xs < 16777216 ^ xs.length := by
  induction xs with
  | nil => simp [val]
  | cons d ds ih =>
    have h1 := ih (fun x hx => h x (List.mem_cons_of_mem _ hx))
    have h2 := h d (List.mem_cons_self)
    simp only [val, List.length_cons, Nat.pow_succ]
    omega

theorem Digits.take {xs : List Nat} (h : Digits xs) (n : Nat) : Digits (xs.take n) := fun d hd => h d (List.mem_of_mem_take hd)
theorem Digits.drop {xs : List Nat} (h : Digits xs) (n : Nat) : Digits (xs.drop n) := fun d hd => h d (List.mem_of_mem_drop hd)
theorem Digits.getD {xs : List Nat} (h : Digits xs) (n : Nat) : xs.getD n 0 < 16777216 := by
  by_cases hn : n < xs.length
  · rw [getD_lt' _ _ hn]; exact h _ (List.getElem_mem hn)
  · rw [getD_ge' _ _ (by omega)]; decide
theorem Digits.snoc {xs : List Nat} (h : Digits xs) {d : Nat} (hd : d < 16777216) : Digits (xs ++ [d]) := by
  intro x hx
  rcases List.mem_append.1 hx with hx | hx
  · exact h x hx
  · rw [List.mem_singleton.1 hx]; exact hd
theorem Digits.set {xs : List Nat} (h : Digits xs) (j : Nat) {d : Nat} (hd : d < 16777216) : Digits (xs.set j d) := by
  intro x hx
  rcases List.mem_or_eq_of_mem_set hx with hx | hx
  · exact h x hx
  · rw [hx]; exact hd
theorem Digits.nil : Digits [] := fun _ h => by cases h
theorem Digits.zeros (n : Nat) : Digits (List.replicate n 0) := fun d hd => by rw [List.eq_of_mem_replicate hd]; decide

theorem val_zeros (n : Nat) : val (List.replicate n 0) = 0 := by
  induction n with
  | zero => rfl
  | succ n ih => simp [List.replicate_succ, val, ih]

theorem take_succ_getD (xs : List Nat) (k : Nat) (h : k < xs.length) : xs.take (k + 1) = xs.take k ++ [xs.getD k 0] := by
  rw [List.take_succ_eq_append_getElem h, getD_lt' _ _ h]

theorem val_take_succ (xs : List Nat) (k : Nat) (h : k < xs.length) : val (xs.take (k + 1)) = val (xs.take k) + 16777216 ^ k * xs.getD k 0 := by
  rw [take_succ_getD xs k h, val_snoc, List.length_take, Nat.min_eq_left (Nat.le_of_lt h)]

theorem val_set (xs : List Nat) (j d : Nat) (h : j < xs.length) : val (xs.set j d) + 16777216 ^ j * xs.getD j 0 = val xs + 16777216 ^ j * d := by
  induction xs generalizing j with
  | nil => simp at h
  | cons x xs ih =>
    cases j with
    | zero => simp [val]; omega
    | succ j =>
      have := ih j (by simpa using h)
      simp only [List.set_cons_succ, val, List.getD_cons_succ, Nat.pow_succ]
      rw [Nat.mul_comm (16777216 ^ j) 16777216, Nat.mul_assoc, Nat.mul_assoc]
      omega

/-- The top digit of a trimmed list makes the number great. -/
theorem val_ge (xs : List Nat) (ht : Trim xs) (hne : xs ≠ []) : 16777216 ^ (xs.length - 1) ≤ val xs := by
  have hl : 0 < xs.length := by cases xs with | nil => exact absurd rfl hne | cons a b => simp
  have h1 := val_take_succ xs (xs.length - 1) (by omega)
  rw [show xs.length - 1 + 1 = xs.length by omega, List.take_length] at h1
  have h2 := ht hne
  have h3 : 16777216 ^ (xs.length - 1) * 1 ≤ 16777216 ^ (xs.length - 1) * xs.getD (xs.length - 1) 0 := Nat.mul_le_mul_left _ (by omega)
  omega

theorem len_le_of_val (xs : List Nat) (ht : Trim xs) (n : Nat) (h : val xs < 16777216 ^ n) : xs.length ≤ n := by
  by_cases hne : xs = []
  · simp [hne]
  · have h1 := val_ge xs ht hne
    have h2 : 16777216 ^ (xs.length - 1) < 16777216 ^ n := Nat.lt_of_le_of_lt h1 h
    have h3 := (Nat.pow_lt_pow_iff_right (by decide : 1 < 16777216)).1 h2
    omega

theorem val_lt_of_len (xs ys : List Nat) (hx : Digits xs) (ty : Trim ys) (h : xs.length < ys.length) : val xs < val ys := by
  have hne : ys ≠ [] := by intro e; simp [e] at h
  have h1 := val_lt xs hx
  have h2 := val_ge ys ty hne
  have h3 : 16777216 ^ xs.length ≤ 16777216 ^ (ys.length - 1) := Nat.pow_le_pow_right (by decide) (by omega)
  omega

/-- Above the place k the two lists are one: then the place k decides. -/
theorem val_split (xs : List Nat) (k : Nat) (h : k < xs.length) : val xs = val (xs.take k) + 16777216 ^ k * (xs.getD k 0 + 16777216 * val (xs.drop (k + 1))) := by
  have e : xs = xs.take (k + 1) ++ xs.drop (k + 1) := (List.take_append_drop _ _).symm
  have h1 : val xs = val (xs.take (k + 1)) + 16777216 ^ (k + 1) * val (xs.drop (k + 1)) := by
    have := val_append (xs.take (k + 1)) (xs.drop (k + 1))
    rw [List.take_append_drop, List.length_take, Nat.min_eq_left (by omega)] at this
    exact this
  rw [h1, val_take_succ xs k h, Nat.mul_add, Nat.pow_succ, Nat.mul_assoc]
  omega

theorem val_decides (xs ys : List Nat) (k : Nat) (hx : Digits xs) (hk : k < xs.length) (hl : xs.length = ys.length)
    (hd : xs.drop (k + 1) = ys.drop (k + 1)) (h : xs.getD k 0 < ys.getD k 0) : val xs < val ys := by
  rw [val_split xs k hk, val_split ys k (by omega), ← hd]
  have h1 : val (xs.take k) < 16777216 ^ k := by
    have := val_lt _ (hx.take k)
    rwa [List.length_take, Nat.min_eq_left (by omega)] at this
  have h2 : 16777216 ^ k * (xs.getD k 0 + 16777216 * val (xs.drop (k + 1)) + 1) ≤ 16777216 ^ k * (ys.getD k 0 + 16777216 * val (xs.drop (k + 1))) :=
    Nat.mul_le_mul_left _ (by omega)
  rw [Nat.mul_add, Nat.mul_one] at h2
  omega

/-! ### One step of a long multiplication -/
/-- 'out' with the carry c at the place i + k stands for the product of the first rows and k digits of this one. -/
theorem times_step (out : List Nat) (j c add : Nat) (hj : j < out.length) :
    val (out.set j ((c + out.getD j 0 + add) % 16777216)) + 16777216 ^ (j + 1) * ((c + out.getD j 0 + add) / 16777216) = val out + 16777216 ^ j * c + 16777216 ^ j * add := by
  have h1 := val_set out j ((c + out.getD j 0 + add) % 16777216) hj
  have h2 : 16777216 ^ j * (c + out.getD j 0 + add) = 16777216 ^ j * ((c + out.getD j 0 + add) % 16777216) + 16777216 ^ (j + 1) * ((c + out.getD j 0 + add) / 16777216) := by
    rw [Nat.pow_succ, Nat.mul_assoc, ← Nat.mul_add, Nat.mod_add_div]
  rw [Nat.mul_add, Nat.mul_add] at h2
  omega

/-- A carry that is left has room. -/
theorem carry_room (xs ys : List Nat) (hx : Digits xs) (hy : Digits ys) (i k c v : Nat) (hi : i < xs.length) (hc : 0 < c)
    (h : v + 16777216 ^ (i + k) * c ≤ val (xs.take (i + 1)) * val ys) : k < ys.length + 1 := by
  have h1 : val (xs.take (i + 1)) < 16777216 ^ (i + 1) := by
    have := val_lt _ (hx.take (i + 1))
    rwa [List.length_take, Nat.min_eq_left (by omega)] at this
  have h2 := val_lt ys hy
  have h3 : val (xs.take (i + 1)) * val ys < 16777216 ^ (i + 1 + ys.length) := by
    rw [Nat.pow_add]
    exact Nat.mul_lt_mul_of_lt_of_le h1 (Nat.le_of_lt h2) (pow_pos' _)
  have h4 : 16777216 ^ (i + k) * 1 ≤ 16777216 ^ (i + k) * c := Nat.mul_le_mul_left _ hc
  have h5 : 16777216 ^ (i + k) < 16777216 ^ (i + 1 + ys.length) := by omega
  have := (Nat.pow_lt_pow_iff_right (by decide : 1 < 16777216)).1 h5
  omega

theorem val_take_le (xs : List Nat) (k : Nat) : val (xs.take k) ≤ val xs := by
  have := val_append (xs.take k) (xs.drop k)
  rw [List.take_append_drop] at this
  omega

theorem take_all (xs : List Nat) (k : Nat) (h : xs.length ≤ k) : xs.take k = xs := List.take_of_length_le h

theorem val_take_succ' (xs : List Nat) (k : Nat) : val (xs.take (k + 1)) = val (xs.take k) + 16777216 ^ k * xs.getD k 0 := by
  by_cases h : k < xs.length
  · exact val_take_succ xs k h
  · rw [take_all xs _ (by omega), take_all xs _ (by omega), getD_ge' xs k (by omega)]; omega

theorem trim_of_val (xs : List Nat) (hx : Digits xs) (h : xs ≠ [] → 16777216 ^ (xs.length - 1) ≤ val xs) : Trim xs := by
  intro hne h0
  have hl : 0 < xs.length := by cases xs with | nil => exact absurd rfl hne | cons a b => simp
  have h1 := val_take_succ xs (xs.length - 1) (by omega)
  rw [show xs.length - 1 + 1 = xs.length by omega, List.take_length, h0] at h1
  have h2 := val_lt _ (hx.take (xs.length - 1))
  rw [List.length_take, Nat.min_eq_left (by omega)] at h2
  have := h hne
  omega

theorem sum_step (out : List Nat) (c a b va vb : Nat) (h : val out + 16777216 ^ out.length * c = va + vb) :
    val (out ++ [(c + a + b) % 16777216]) + 16777216 ^ (out.length + 1) * ((c + a + b) / 16777216) = (va + 16777216 ^ out.length * a) + (vb + 16777216 ^ out.length * b) := by
  rw [val_snoc]
  have h2 : 16777216 ^ out.length * (c + a + b) = 16777216 ^ out.length * ((c + a + b) % 16777216) + 16777216 ^ (out.length + 1) * ((c + a + b) / 16777216) := by
    rw [Nat.pow_succ, Nat.mul_assoc, ← Nat.mul_add, Nat.mod_add_div]
  rw [Nat.mul_add, Nat.mul_add] at h2
  omega

/-! ### The greatest part, the nearest quotient -/
def part (n d most : Nat) : Nat := if d = 0 then most else min most (n / d)

theorem part_le (n d most : Nat) : part n d most ≤ most := by unfold part; split <;> omega

theorem part_iff (n d most mid : Nat) (h : mid ≤ most) : mid * d ≤ n ↔ mid ≤ part n d most := by
  unfold part
  by_cases hd : d = 0
  · simp [hd, h]
  · rw [if_neg hd, ← Nat.le_div_iff_mul_le (by omega)]; omega

/-- a * b / c to the nearest, of two the greater, at most most. -/
def near (a b c most : Nat) : Nat := part (a * b * 2 + c) (c * 2) most

theorem near_eq (a b c most : Nat) (hc : 0 < c) : near a b c most = min most (a * b / c + if c ≤ 2 * (a * b % c) then 1 else 0) := by
  unfold near part
  rw [if_neg (by omega)]
  congr 1
  have h1 := Nat.div_add_mod (a * b) c
  have h2 := Nat.mod_lt (a * b) hc
  generalize a * b / c = q at *
  generalize a * b % c = r at *
  have e : a * b * 2 + c = (2 * r + c) + c * 2 * q := by
    rw [← h1]
    have : c * q * 2 = c * 2 * q := by rw [Nat.mul_assoc, Nat.mul_comm q 2, Nat.mul_assoc]
    omega
  rw [e, Nat.add_mul_div_left _ _ (by omega), Nat.add_comm]
  congr 1
  split
  · exact Nat.div_eq_of_lt_le (by omega) (by omega)
  · exact Nat.div_eq_of_lt (by omega)

end Go.Proofs.Ytgfphgbemfmkfaa.BigN
