/-
  ShowLen: the text that it answers.
-/
import Derived.Test.YtminpoenfjnmiaaDoorShe
import Derived.Deep.RegionWith
import Derived.Deep.RegionHeld3
namespace Go.Proofs.YtminpoenfjnmiaaDoor
open Go.RowKit
set_option linter.unusedVariables false
set_option linter.unusedSimpArgs false

theorem below_grow (w : World) (k : Nat) (os : Array Obj) : Below w.heap.size w (Sort.grow (w.drewN k) os) := by
  refine ⟨rfl, rfl, rfl, ?_, fun j hj => ?_⟩
  · show w.heap.size ≤ (w.heap ++ os).size
    rw [Array.size_append]; omega
  · show (w.heap ++ os)[j]? = w.heap[j]?
    rw [Array.getElem?_append_left hj]

theorem itoa_nat (u : Nat) : Lib.itoa (u : Int) = Lib.decDigits u := by
  unfold Lib.itoa
  rw [if_neg (by omega)]
  rfl

theorem format_any (u : Nat) (hu : u ≤ 1000000000000) : ∀ w, Pows w → Calls Tryd.prog 25 #[.int .i64 (u : Int), .int .i64 10] w fun e w' => e = .returned (.string ⟨(Lib.decDigits u).toArray⟩) ∧ Below w.heap.size w w' := by
  intro w hP
  refine (Tryd.strconv_FormatInt_10 (u : Int) (by omega) (by omega) w hP.2).mono ?_
  rintro e w' ⟨rfl, k, os, rfl⟩
  exact ⟨by rw [itoa_nat], below_grow w k os⟩

/-- The sign, and a number with it. -/
def eOf (neg : Bool) : Nat := if neg then 1 else 0
def sgn (neg : Bool) (n : Nat) : Int := if neg then -(n : Int) else (n : Int)

theorem eOf_le (neg : Bool) : eOf neg ≤ 1 := by cases neg <;> decide

theorem shown_ex (e a : Nat) (he : e ≤ 1) : ∃ p, Shown e a p := by
  by_cases h1 : rd (numOf e a (10 ^ 1)) (10 ^ 1) = a
  · exact ⟨1, by omega, by omega, h1, fun q hq hq' => by omega⟩
  by_cases h2 : rd (numOf e a (10 ^ 2)) (10 ^ 2) = a
  · exact ⟨2, by omega, by omega, h2, fun q hq hq' => by
      obtain rfl : q = 1 := by omega
      exact h1⟩
  by_cases h3 : rd (numOf e a (10 ^ 3)) (10 ^ 3) = a
  · exact ⟨3, by omega, by omega, h3, fun q hq hq' => by
      obtain rfl | rfl : q = 1 ∨ q = 2 := by omega
      · exact h1
      · exact h2⟩
  by_cases h4 : rd (numOf e a (10 ^ 4)) (10 ^ 4) = a
  · exact ⟨4, by omega, by omega, h4, fun q hq hq' => by
      obtain rfl | rfl | rfl : q = 1 ∨ q = 2 ∨ q = 3 := by omega
      · exact h1
      · exact h2
      · exact h3⟩
  · exact ⟨5, by omega, by omega, five e a he, fun q hq hq' => by
      obtain rfl | rfl | rfl | rfl : q = 1 ∨ q = 2 ∨ q = 3 ∨ q = 4 := by omega
      · exact h1
      · exact h2
      · exact h3
      · exact h4⟩

theorem ten_le {p : Nat} (h1 : 1 ≤ p) (h2 : p ≤ 5) : 10 ≤ 10 ^ p ∧ 10 ^ p ≤ 100000 := by
  obtain rfl | rfl | rfl | rfl | rfl : p = 1 ∨ p = 2 ∨ p = 3 ∨ p = 4 ∨ p = 5 := by omega
  all_goals decide

theorem mul_ten {a p : Nat} (ha : a ≤ 1073741823) (h1 : 1 ≤ p) (h2 : p ≤ 5) : a * 10 ^ p ≤ 1000000000000000 :=
  Nat.le_trans (Nat.mul_le_mul ha (ten_le h1 h2).2) (by decide)

theorem lower_any (neg : Bool) (a p : Nat) (ha : a ≤ 1073741823) (h1 : 1 ≤ p) (h2 : p ≤ 5) (w : World) :
    Calls Tryd.prog 23 #[.int .i64 (sgn neg a * ((10 ^ p : Nat) : Int)), .int .i64 65536] w fun e w' => e = .returned (.int .i64 (sgn neg (numOf (eOf neg) a (10 ^ p)))) ∧ w' = w := by
  have hb := mul_ten ha h1 h2
  cases neg
  · have := lower_pos (a * 10 ^ p) w hb
    rw [Int.natCast_mul] at this
    exact this
  · have := lower_neg (a * 10 ^ p) w hb
    rw [Int.natCast_mul, ← Int.neg_mul] at this
    exact this

theorem near_any64 (neg : Bool) (n p : Nat) (hn : n ≤ 10000000000) (h1 : 1 ≤ p) (h2 : p ≤ 5) (w : World) :
    Calls Tryd.prog 24 #[.int .i64 (sgn neg n * 65536), .int .i64 ((10 ^ p : Nat) : Int)] w fun e w' => e = .returned (.int .i64 (sgn neg (rd n (10 ^ p)))) ∧ Below w.heap.size w w' := by
  have ht := ten_le h1 h2
  cases neg
  · exact near_pos (n * 65536) (10 ^ p) w (by omega) (by omega) (by omega)
  · have := near_neg (n * 65536) (10 ^ p) w (by omega) (by omega) (by omega)
    rw [Int.natCast_mul, ← Int.neg_mul] at this
    exact this

/-- A text of a sign, digits, a dot and digits. -/
def Txt (neg : Bool) (A B : List UInt8) : List UInt8 := (if neg then [45] else []) ++ (A ++ (46 :: B))

theorem append_list (a b : ByteArray) : (a ++ b).data.toList = a.data.toList ++ b.data.toList := by
  simp

theorem sgn_inj {neg : Bool} {a b : Nat} (h : sgn neg a = sgn neg b) : a = b := by
  unfold sgn at h
  cases neg
  · simp only [Bool.false_eq_true, if_false] at h; omega
  · simp only [if_true] at h; omega

theorem mod_pos (N S : Nat) : ((N : Int)).tmod (S : Int) = ((N % S : Nat) : Int) := by rw [Int.tmod_eq_emod_of_nonneg (by omega)]; rfl
theorem div_pos' (N S : Nat) : ((N : Int)).tdiv (S : Int) = ((N / S : Nat) : Int) := by rw [Int.tdiv_eq_ediv_of_nonneg (by omega)]; rfl
theorem mod_neg (N S : Nat) : -((-(N : Int)).tmod (S : Int)) = ((N % S : Nat) : Int) := by rw [Int.neg_tmod, Int.neg_neg]; exact mod_pos N S
theorem div_neg' (N S : Nat) : -((-(N : Int)).tdiv (S : Int)) = ((N / S : Nat) : Int) := by rw [Int.neg_tdiv, Int.neg_neg]; exact div_pos' N S

theorem repeat_any (p k : Nat) (hp : p ≤ 5) (hk : k ≤ p) : ∀ w, Calls Tryd.prog 26 #[.string ⟨#[48]⟩, .int .i64 ((p : Int) - (k : Int))] w fun e w' => e = .returned (.string ⟨(Lib.repeatL [48] (p - k)).toArray⟩) ∧ Below w.heap.size w w' := by
  intro w
  rw [show (p : Int) - (k : Int) = ((p - k : Nat) : Int) by omega]
  exact Tryd.strings_Repeat ⟨#[48]⟩ (p - k) w (by omega) (by show 1 * (p - k) ≤ 140737488355328; omega)

theorem list_size (l : List UInt8) : (⟨l.toArray⟩ : ByteArray).size = l.length := rfl

theorem decPos1 (a N : Nat) (ha : a ≤ 1073741823) (hN : N = numOf 0 a (10 ^ 1)) (hp : Shown 0 a 1) (w : World) (hP : Pows w) :
    Calls Tryd.prog 21 #[.int .i64 (sgn false a)] w fun e w' => e = .returned (.string (⟨#[]⟩ ++ ⟨(Lib.decDigits (N / 10 ^ 1)).toArray⟩ ++ ⟨#[46]⟩ ++ ⟨(Lib.repeatL [48] (1 - (Lib.decDigits (N % 10 ^ 1)).length)).toArray⟩ ++ ⟨(Lib.decDigits (N % 10 ^ 1)).toArray⟩)) ∧ Below w.heap.size w w' := by
  have hnb := num_bound (e := 0) (a := a) (p := 1) (by decide) ha (by decide) (by decide)
  rw [← hN] at hnb
  have hl : (Lib.decDigits (N % 10 ^ 1)).length ≤ 1 := dec_len 0 _ (Nat.mod_lt _ (by decide))
  have hA : (Lib.decDigits (N / 10 ^ 1)).length ≤ 5 := dec_len 4 _ hnb.2
  have hx : -1073741823 ≤ sgn false a ∧ sgn false a ≤ 1073741823 := by
    show -1073741823 ≤ (a : Int) ∧ (a : Int) ≤ 1073741823
    omega
  refine showPos1 (sgn false a) w (fun q => sgn false (numOf 0 a (10 ^ q))) (fun q => sgn false (rd (numOf 0 a (10 ^ q)) (10 ^ q))) (N / 10 ^ 1) (N % 10 ^ 1) (Lib.decDigits (N % 10 ^ 1)).length _ _ _ hx hP (fun q h1 h2 => ?_) (fun q h1 h2 w => lower_any false a q ha h1 h2 w) (fun q h1 h2 w => near_any64 false _ q ?_ h1 h2 w)
    (by show sgn false _ = _; rw [hp.2.2.1]) (fun q h1 h2 h3 => hp.2.2.2 q h1 h2 (sgn_inj h3)) ?_ ?_ ?_ (Nat.mod_lt _ (by decide)) hnb.2 hl (list_size _) (by rw [list_size]; exact hA) ?_ (format_any _ (Nat.le_trans (Nat.le_of_lt (Nat.mod_lt _ (by decide))) (by decide))) (format_any _ (by omega)) (repeat_any 1 _ (by decide) hl)
  · have := num_bound (e := 0) (a := a) (p := q) (by decide) ha h1 h2
    show -10000000000 ≤ ((numOf 0 a (10 ^ q) : Nat) : Int) ∧ ((numOf 0 a (10 ^ q) : Nat) : Int) ≤ 10000000000
    omega
  · have := num_bound (e := 0) (a := a) (p := q) (by decide) ha h1 h2
    omega
  · show 0 ≤ ((numOf 0 a (10 ^ 1) : Nat) : Int)
    omega
  · show (((numOf 0 a (10 ^ 1) : Nat) : Int)).tmod 10 = _
    rw [← hN]
    exact mod_pos N 10
  · show (((numOf 0 a (10 ^ 1) : Nat) : Int)).tdiv 10 = _
    rw [← hN]
    exact div_pos' N 10
  · rw [list_size, Lib.repeatL_length]
    simp only [List.length_cons, List.length_nil]
    omega

theorem decPos2 (a N : Nat) (ha : a ≤ 1073741823) (hN : N = numOf 0 a (10 ^ 2)) (hp : Shown 0 a 2) (w : World) (hP : Pows w) :
    Calls Tryd.prog 21 #[.int .i64 (sgn false a)] w fun e w' => e = .returned (.string (⟨#[]⟩ ++ ⟨(Lib.decDigits (N / 10 ^ 2)).toArray⟩ ++ ⟨#[46]⟩ ++ ⟨(Lib.repeatL [48] (2 - (Lib.decDigits (N % 10 ^ 2)).length)).toArray⟩ ++ ⟨(Lib.decDigits (N % 10 ^ 2)).toArray⟩)) ∧ Below w.heap.size w w' := by
  have hnb := num_bound (e := 0) (a := a) (p := 2) (by decide) ha (by decide) (by decide)
  rw [← hN] at hnb
  have hl : (Lib.decDigits (N % 10 ^ 2)).length ≤ 2 := dec_len 1 _ (Nat.mod_lt _ (by decide))
  have hA : (Lib.decDigits (N / 10 ^ 2)).length ≤ 5 := dec_len 4 _ hnb.2
  have hx : -1073741823 ≤ sgn false a ∧ sgn false a ≤ 1073741823 := by
    show -1073741823 ≤ (a : Int) ∧ (a : Int) ≤ 1073741823
    omega
  refine showPos2 (sgn false a) w (fun q => sgn false (numOf 0 a (10 ^ q))) (fun q => sgn false (rd (numOf 0 a (10 ^ q)) (10 ^ q))) (N / 10 ^ 2) (N % 10 ^ 2) (Lib.decDigits (N % 10 ^ 2)).length _ _ _ hx hP (fun q h1 h2 => ?_) (fun q h1 h2 w => lower_any false a q ha h1 h2 w) (fun q h1 h2 w => near_any64 false _ q ?_ h1 h2 w)
    (by show sgn false _ = _; rw [hp.2.2.1]) (fun q h1 h2 h3 => hp.2.2.2 q h1 h2 (sgn_inj h3)) ?_ ?_ ?_ (Nat.mod_lt _ (by decide)) hnb.2 hl (list_size _) (by rw [list_size]; exact hA) ?_ (format_any _ (Nat.le_trans (Nat.le_of_lt (Nat.mod_lt _ (by decide))) (by decide))) (format_any _ (by omega)) (repeat_any 2 _ (by decide) hl)
  · have := num_bound (e := 0) (a := a) (p := q) (by decide) ha h1 h2
    show -10000000000 ≤ ((numOf 0 a (10 ^ q) : Nat) : Int) ∧ ((numOf 0 a (10 ^ q) : Nat) : Int) ≤ 10000000000
    omega
  · have := num_bound (e := 0) (a := a) (p := q) (by decide) ha h1 h2
    omega
  · show 0 ≤ ((numOf 0 a (10 ^ 2) : Nat) : Int)
    omega
  · show (((numOf 0 a (10 ^ 2) : Nat) : Int)).tmod 100 = _
    rw [← hN]
    exact mod_pos N 100
  · show (((numOf 0 a (10 ^ 2) : Nat) : Int)).tdiv 100 = _
    rw [← hN]
    exact div_pos' N 100
  · rw [list_size, Lib.repeatL_length]
    simp only [List.length_cons, List.length_nil]
    omega

theorem decPos3 (a N : Nat) (ha : a ≤ 1073741823) (hN : N = numOf 0 a (10 ^ 3)) (hp : Shown 0 a 3) (w : World) (hP : Pows w) :
    Calls Tryd.prog 21 #[.int .i64 (sgn false a)] w fun e w' => e = .returned (.string (⟨#[]⟩ ++ ⟨(Lib.decDigits (N / 10 ^ 3)).toArray⟩ ++ ⟨#[46]⟩ ++ ⟨(Lib.repeatL [48] (3 - (Lib.decDigits (N % 10 ^ 3)).length)).toArray⟩ ++ ⟨(Lib.decDigits (N % 10 ^ 3)).toArray⟩)) ∧ Below w.heap.size w w' := by
  have hnb := num_bound (e := 0) (a := a) (p := 3) (by decide) ha (by decide) (by decide)
  rw [← hN] at hnb
  have hl : (Lib.decDigits (N % 10 ^ 3)).length ≤ 3 := dec_len 2 _ (Nat.mod_lt _ (by decide))
  have hA : (Lib.decDigits (N / 10 ^ 3)).length ≤ 5 := dec_len 4 _ hnb.2
  have hx : -1073741823 ≤ sgn false a ∧ sgn false a ≤ 1073741823 := by
    show -1073741823 ≤ (a : Int) ∧ (a : Int) ≤ 1073741823
    omega
  refine showPos3 (sgn false a) w (fun q => sgn false (numOf 0 a (10 ^ q))) (fun q => sgn false (rd (numOf 0 a (10 ^ q)) (10 ^ q))) (N / 10 ^ 3) (N % 10 ^ 3) (Lib.decDigits (N % 10 ^ 3)).length _ _ _ hx hP (fun q h1 h2 => ?_) (fun q h1 h2 w => lower_any false a q ha h1 h2 w) (fun q h1 h2 w => near_any64 false _ q ?_ h1 h2 w)
    (by show sgn false _ = _; rw [hp.2.2.1]) (fun q h1 h2 h3 => hp.2.2.2 q h1 h2 (sgn_inj h3)) ?_ ?_ ?_ (Nat.mod_lt _ (by decide)) hnb.2 hl (list_size _) (by rw [list_size]; exact hA) ?_ (format_any _ (Nat.le_trans (Nat.le_of_lt (Nat.mod_lt _ (by decide))) (by decide))) (format_any _ (by omega)) (repeat_any 3 _ (by decide) hl)
  · have := num_bound (e := 0) (a := a) (p := q) (by decide) ha h1 h2
    show -10000000000 ≤ ((numOf 0 a (10 ^ q) : Nat) : Int) ∧ ((numOf 0 a (10 ^ q) : Nat) : Int) ≤ 10000000000
    omega
  · have := num_bound (e := 0) (a := a) (p := q) (by decide) ha h1 h2
    omega
  · show 0 ≤ ((numOf 0 a (10 ^ 3) : Nat) : Int)
    omega
  · show (((numOf 0 a (10 ^ 3) : Nat) : Int)).tmod 1000 = _
    rw [← hN]
    exact mod_pos N 1000
  · show (((numOf 0 a (10 ^ 3) : Nat) : Int)).tdiv 1000 = _
    rw [← hN]
    exact div_pos' N 1000
  · rw [list_size, Lib.repeatL_length]
    simp only [List.length_cons, List.length_nil]
    omega

theorem decPos4 (a N : Nat) (ha : a ≤ 1073741823) (hN : N = numOf 0 a (10 ^ 4)) (hp : Shown 0 a 4) (w : World) (hP : Pows w) :
    Calls Tryd.prog 21 #[.int .i64 (sgn false a)] w fun e w' => e = .returned (.string (⟨#[]⟩ ++ ⟨(Lib.decDigits (N / 10 ^ 4)).toArray⟩ ++ ⟨#[46]⟩ ++ ⟨(Lib.repeatL [48] (4 - (Lib.decDigits (N % 10 ^ 4)).length)).toArray⟩ ++ ⟨(Lib.decDigits (N % 10 ^ 4)).toArray⟩)) ∧ Below w.heap.size w w' := by
  have hnb := num_bound (e := 0) (a := a) (p := 4) (by decide) ha (by decide) (by decide)
  rw [← hN] at hnb
  have hl : (Lib.decDigits (N % 10 ^ 4)).length ≤ 4 := dec_len 3 _ (Nat.mod_lt _ (by decide))
  have hA : (Lib.decDigits (N / 10 ^ 4)).length ≤ 5 := dec_len 4 _ hnb.2
  have hx : -1073741823 ≤ sgn false a ∧ sgn false a ≤ 1073741823 := by
    show -1073741823 ≤ (a : Int) ∧ (a : Int) ≤ 1073741823
    omega
  refine showPos4 (sgn false a) w (fun q => sgn false (numOf 0 a (10 ^ q))) (fun q => sgn false (rd (numOf 0 a (10 ^ q)) (10 ^ q))) (N / 10 ^ 4) (N % 10 ^ 4) (Lib.decDigits (N % 10 ^ 4)).length _ _ _ hx hP (fun q h1 h2 => ?_) (fun q h1 h2 w => lower_any false a q ha h1 h2 w) (fun q h1 h2 w => near_any64 false _ q ?_ h1 h2 w)
    (by show sgn false _ = _; rw [hp.2.2.1]) (fun q h1 h2 h3 => hp.2.2.2 q h1 h2 (sgn_inj h3)) ?_ ?_ ?_ (Nat.mod_lt _ (by decide)) hnb.2 hl (list_size _) (by rw [list_size]; exact hA) ?_ (format_any _ (Nat.le_trans (Nat.le_of_lt (Nat.mod_lt _ (by decide))) (by decide))) (format_any _ (by omega)) (repeat_any 4 _ (by decide) hl)
  · have := num_bound (e := 0) (a := a) (p := q) (by decide) ha h1 h2
    show -10000000000 ≤ ((numOf 0 a (10 ^ q) : Nat) : Int) ∧ ((numOf 0 a (10 ^ q) : Nat) : Int) ≤ 10000000000
    omega
  · have := num_bound (e := 0) (a := a) (p := q) (by decide) ha h1 h2
    omega
  · show 0 ≤ ((numOf 0 a (10 ^ 4) : Nat) : Int)
    omega
  · show (((numOf 0 a (10 ^ 4) : Nat) : Int)).tmod 10000 = _
    rw [← hN]
    exact mod_pos N 10000
  · show (((numOf 0 a (10 ^ 4) : Nat) : Int)).tdiv 10000 = _
    rw [← hN]
    exact div_pos' N 10000
  · rw [list_size, Lib.repeatL_length]
    simp only [List.length_cons, List.length_nil]
    omega

theorem decPos5 (a N : Nat) (ha : a ≤ 1073741823) (hN : N = numOf 0 a (10 ^ 5)) (hp : Shown 0 a 5) (w : World) (hP : Pows w) :
    Calls Tryd.prog 21 #[.int .i64 (sgn false a)] w fun e w' => e = .returned (.string (⟨#[]⟩ ++ ⟨(Lib.decDigits (N / 10 ^ 5)).toArray⟩ ++ ⟨#[46]⟩ ++ ⟨(Lib.repeatL [48] (5 - (Lib.decDigits (N % 10 ^ 5)).length)).toArray⟩ ++ ⟨(Lib.decDigits (N % 10 ^ 5)).toArray⟩)) ∧ Below w.heap.size w w' := by
  have hnb := num_bound (e := 0) (a := a) (p := 5) (by decide) ha (by decide) (by decide)
  rw [← hN] at hnb
  have hl : (Lib.decDigits (N % 10 ^ 5)).length ≤ 5 := dec_len 4 _ (Nat.mod_lt _ (by decide))
  have hA : (Lib.decDigits (N / 10 ^ 5)).length ≤ 5 := dec_len 4 _ hnb.2
  have hx : -1073741823 ≤ sgn false a ∧ sgn false a ≤ 1073741823 := by
    show -1073741823 ≤ (a : Int) ∧ (a : Int) ≤ 1073741823
    omega
  refine showPos5 (sgn false a) w (fun q => sgn false (numOf 0 a (10 ^ q))) (fun q => sgn false (rd (numOf 0 a (10 ^ q)) (10 ^ q))) (N / 10 ^ 5) (N % 10 ^ 5) (Lib.decDigits (N % 10 ^ 5)).length _ _ _ hx hP (fun q h1 h2 => ?_) (fun q h1 h2 w => lower_any false a q ha h1 h2 w) (fun q h1 h2 w => near_any64 false _ q ?_ h1 h2 w)
    (by show sgn false _ = _; rw [hp.2.2.1]) (fun q h1 h2 h3 => hp.2.2.2 q h1 h2 (sgn_inj h3)) ?_ ?_ ?_ (Nat.mod_lt _ (by decide)) hnb.2 hl (list_size _) (by rw [list_size]; exact hA) ?_ (format_any _ (Nat.le_trans (Nat.le_of_lt (Nat.mod_lt _ (by decide))) (by decide))) (format_any _ (by omega)) (repeat_any 5 _ (by decide) hl)
  · have := num_bound (e := 0) (a := a) (p := q) (by decide) ha h1 h2
    show -10000000000 ≤ ((numOf 0 a (10 ^ q) : Nat) : Int) ∧ ((numOf 0 a (10 ^ q) : Nat) : Int) ≤ 10000000000
    omega
  · have := num_bound (e := 0) (a := a) (p := q) (by decide) ha h1 h2
    omega
  · show 0 ≤ ((numOf 0 a (10 ^ 5) : Nat) : Int)
    omega
  · show (((numOf 0 a (10 ^ 5) : Nat) : Int)).tmod 100000 = _
    rw [← hN]
    exact mod_pos N 100000
  · show (((numOf 0 a (10 ^ 5) : Nat) : Int)).tdiv 100000 = _
    rw [← hN]
    exact div_pos' N 100000
  · rw [list_size, Lib.repeatL_length]
    simp only [List.length_cons, List.length_nil]
    omega

theorem decNeg1 (a N : Nat) (ha : a ≤ 1073741823) (hn : 0 < a) (hN : N = numOf 1 a (10 ^ 1)) (hp : Shown 1 a 1) (w : World) (hP : Pows w) :
    Calls Tryd.prog 21 #[.int .i64 (sgn true a)] w fun e w' => e = .returned (.string (⟨#[45]⟩ ++ ⟨(Lib.decDigits (N / 10 ^ 1)).toArray⟩ ++ ⟨#[46]⟩ ++ ⟨(Lib.repeatL [48] (1 - (Lib.decDigits (N % 10 ^ 1)).length)).toArray⟩ ++ ⟨(Lib.decDigits (N % 10 ^ 1)).toArray⟩)) ∧ Below w.heap.size w w' := by
  have hnb := num_bound (e := 1) (a := a) (p := 1) (by decide) ha (by decide) (by decide)
  rw [← hN] at hnb
  have hl : (Lib.decDigits (N % 10 ^ 1)).length ≤ 1 := dec_len 0 _ (Nat.mod_lt _ (by decide))
  have hA : (Lib.decDigits (N / 10 ^ 1)).length ≤ 5 := dec_len 4 _ hnb.2
  have hx : -1073741823 ≤ sgn true a ∧ sgn true a ≤ 1073741823 := by
    show -1073741823 ≤ -(a : Int) ∧ -(a : Int) ≤ 1073741823
    omega
  refine showNeg1 (sgn true a) w (fun q => sgn true (numOf 1 a (10 ^ q))) (fun q => sgn true (rd (numOf 1 a (10 ^ q)) (10 ^ q))) (N / 10 ^ 1) (N % 10 ^ 1) (Lib.decDigits (N % 10 ^ 1)).length _ _ _ hx hP (fun q h1 h2 => ?_) (fun q h1 h2 w => lower_any true a q ha h1 h2 w) (fun q h1 h2 w => near_any64 true _ q ?_ h1 h2 w)
    (by show sgn true _ = _; rw [hp.2.2.1]) (fun q h1 h2 h3 => hp.2.2.2 q h1 h2 (sgn_inj h3)) ?_ ?_ ?_ (Nat.mod_lt _ (by decide)) hnb.2 hl (list_size _) (by rw [list_size]; exact hA) ?_ (format_any _ (Nat.le_trans (Nat.le_of_lt (Nat.mod_lt _ (by decide))) (by decide))) (format_any _ (by omega)) (repeat_any 1 _ (by decide) hl)
  · have := num_bound (e := 1) (a := a) (p := q) (by decide) ha h1 h2
    show -10000000000 ≤ -((numOf 1 a (10 ^ q) : Nat) : Int) ∧ -((numOf 1 a (10 ^ q) : Nat) : Int) ≤ 10000000000
    omega
  · have := num_bound (e := 1) (a := a) (p := q) (by decide) ha h1 h2
    omega
  · have := rd_pos hp.2.2.1 hn
    show -((numOf 1 a (10 ^ 1) : Nat) : Int) < 0
    omega
  · show -((-((numOf 1 a (10 ^ 1) : Nat) : Int)).tmod 10) = _
    rw [← hN]
    exact mod_neg N 10
  · show -((-((numOf 1 a (10 ^ 1) : Nat) : Int)).tdiv 10) = _
    rw [← hN]
    exact div_neg' N 10
  · rw [list_size, Lib.repeatL_length]
    simp only [List.length_cons, List.length_nil]
    omega

theorem decNeg2 (a N : Nat) (ha : a ≤ 1073741823) (hn : 0 < a) (hN : N = numOf 1 a (10 ^ 2)) (hp : Shown 1 a 2) (w : World) (hP : Pows w) :
    Calls Tryd.prog 21 #[.int .i64 (sgn true a)] w fun e w' => e = .returned (.string (⟨#[45]⟩ ++ ⟨(Lib.decDigits (N / 10 ^ 2)).toArray⟩ ++ ⟨#[46]⟩ ++ ⟨(Lib.repeatL [48] (2 - (Lib.decDigits (N % 10 ^ 2)).length)).toArray⟩ ++ ⟨(Lib.decDigits (N % 10 ^ 2)).toArray⟩)) ∧ Below w.heap.size w w' := by
  have hnb := num_bound (e := 1) (a := a) (p := 2) (by decide) ha (by decide) (by decide)
  rw [← hN] at hnb
  have hl : (Lib.decDigits (N % 10 ^ 2)).length ≤ 2 := dec_len 1 _ (Nat.mod_lt _ (by decide))
  have hA : (Lib.decDigits (N / 10 ^ 2)).length ≤ 5 := dec_len 4 _ hnb.2
  have hx : -1073741823 ≤ sgn true a ∧ sgn true a ≤ 1073741823 := by
    show -1073741823 ≤ -(a : Int) ∧ -(a : Int) ≤ 1073741823
    omega
  refine showNeg2 (sgn true a) w (fun q => sgn true (numOf 1 a (10 ^ q))) (fun q => sgn true (rd (numOf 1 a (10 ^ q)) (10 ^ q))) (N / 10 ^ 2) (N % 10 ^ 2) (Lib.decDigits (N % 10 ^ 2)).length _ _ _ hx hP (fun q h1 h2 => ?_) (fun q h1 h2 w => lower_any true a q ha h1 h2 w) (fun q h1 h2 w => near_any64 true _ q ?_ h1 h2 w)
    (by show sgn true _ = _; rw [hp.2.2.1]) (fun q h1 h2 h3 => hp.2.2.2 q h1 h2 (sgn_inj h3)) ?_ ?_ ?_ (Nat.mod_lt _ (by decide)) hnb.2 hl (list_size _) (by rw [list_size]; exact hA) ?_ (format_any _ (Nat.le_trans (Nat.le_of_lt (Nat.mod_lt _ (by decide))) (by decide))) (format_any _ (by omega)) (repeat_any 2 _ (by decide) hl)
  · have := num_bound (e := 1) (a := a) (p := q) (by decide) ha h1 h2
    show -10000000000 ≤ -((numOf 1 a (10 ^ q) : Nat) : Int) ∧ -((numOf 1 a (10 ^ q) : Nat) : Int) ≤ 10000000000
    omega
  · have := num_bound (e := 1) (a := a) (p := q) (by decide) ha h1 h2
    omega
  · have := rd_pos hp.2.2.1 hn
    show -((numOf 1 a (10 ^ 2) : Nat) : Int) < 0
    omega
  · show -((-((numOf 1 a (10 ^ 2) : Nat) : Int)).tmod 100) = _
    rw [← hN]
    exact mod_neg N 100
  · show -((-((numOf 1 a (10 ^ 2) : Nat) : Int)).tdiv 100) = _
    rw [← hN]
    exact div_neg' N 100
  · rw [list_size, Lib.repeatL_length]
    simp only [List.length_cons, List.length_nil]
    omega

theorem decNeg3 (a N : Nat) (ha : a ≤ 1073741823) (hn : 0 < a) (hN : N = numOf 1 a (10 ^ 3)) (hp : Shown 1 a 3) (w : World) (hP : Pows w) :
    Calls Tryd.prog 21 #[.int .i64 (sgn true a)] w fun e w' => e = .returned (.string (⟨#[45]⟩ ++ ⟨(Lib.decDigits (N / 10 ^ 3)).toArray⟩ ++ ⟨#[46]⟩ ++ ⟨(Lib.repeatL [48] (3 - (Lib.decDigits (N % 10 ^ 3)).length)).toArray⟩ ++ ⟨(Lib.decDigits (N % 10 ^ 3)).toArray⟩)) ∧ Below w.heap.size w w' := by
  have hnb := num_bound (e := 1) (a := a) (p := 3) (by decide) ha (by decide) (by decide)
  rw [← hN] at hnb
  have hl : (Lib.decDigits (N % 10 ^ 3)).length ≤ 3 := dec_len 2 _ (Nat.mod_lt _ (by decide))
  have hA : (Lib.decDigits (N / 10 ^ 3)).length ≤ 5 := dec_len 4 _ hnb.2
  have hx : -1073741823 ≤ sgn true a ∧ sgn true a ≤ 1073741823 := by
    show -1073741823 ≤ -(a : Int) ∧ -(a : Int) ≤ 1073741823
    omega
  refine showNeg3 (sgn true a) w (fun q => sgn true (numOf 1 a (10 ^ q))) (fun q => sgn true (rd (numOf 1 a (10 ^ q)) (10 ^ q))) (N / 10 ^ 3) (N % 10 ^ 3) (Lib.decDigits (N % 10 ^ 3)).length _ _ _ hx hP (fun q h1 h2 => ?_) (fun q h1 h2 w => lower_any true a q ha h1 h2 w) (fun q h1 h2 w => near_any64 true _ q ?_ h1 h2 w)
    (by show sgn true _ = _; rw [hp.2.2.1]) (fun q h1 h2 h3 => hp.2.2.2 q h1 h2 (sgn_inj h3)) ?_ ?_ ?_ (Nat.mod_lt _ (by decide)) hnb.2 hl (list_size _) (by rw [list_size]; exact hA) ?_ (format_any _ (Nat.le_trans (Nat.le_of_lt (Nat.mod_lt _ (by decide))) (by decide))) (format_any _ (by omega)) (repeat_any 3 _ (by decide) hl)
  · have := num_bound (e := 1) (a := a) (p := q) (by decide) ha h1 h2
    show -10000000000 ≤ -((numOf 1 a (10 ^ q) : Nat) : Int) ∧ -((numOf 1 a (10 ^ q) : Nat) : Int) ≤ 10000000000
    omega
  · have := num_bound (e := 1) (a := a) (p := q) (by decide) ha h1 h2
    omega
  · have := rd_pos hp.2.2.1 hn
    show -((numOf 1 a (10 ^ 3) : Nat) : Int) < 0
    omega
  · show -((-((numOf 1 a (10 ^ 3) : Nat) : Int)).tmod 1000) = _
    rw [← hN]
    exact mod_neg N 1000
  · show -((-((numOf 1 a (10 ^ 3) : Nat) : Int)).tdiv 1000) = _
    rw [← hN]
    exact div_neg' N 1000
  · rw [list_size, Lib.repeatL_length]
    simp only [List.length_cons, List.length_nil]
    omega

theorem decNeg4 (a N : Nat) (ha : a ≤ 1073741823) (hn : 0 < a) (hN : N = numOf 1 a (10 ^ 4)) (hp : Shown 1 a 4) (w : World) (hP : Pows w) :
    Calls Tryd.prog 21 #[.int .i64 (sgn true a)] w fun e w' => e = .returned (.string (⟨#[45]⟩ ++ ⟨(Lib.decDigits (N / 10 ^ 4)).toArray⟩ ++ ⟨#[46]⟩ ++ ⟨(Lib.repeatL [48] (4 - (Lib.decDigits (N % 10 ^ 4)).length)).toArray⟩ ++ ⟨(Lib.decDigits (N % 10 ^ 4)).toArray⟩)) ∧ Below w.heap.size w w' := by
  have hnb := num_bound (e := 1) (a := a) (p := 4) (by decide) ha (by decide) (by decide)
  rw [← hN] at hnb
  have hl : (Lib.decDigits (N % 10 ^ 4)).length ≤ 4 := dec_len 3 _ (Nat.mod_lt _ (by decide))
  have hA : (Lib.decDigits (N / 10 ^ 4)).length ≤ 5 := dec_len 4 _ hnb.2
  have hx : -1073741823 ≤ sgn true a ∧ sgn true a ≤ 1073741823 := by
    show -1073741823 ≤ -(a : Int) ∧ -(a : Int) ≤ 1073741823
    omega
  refine showNeg4 (sgn true a) w (fun q => sgn true (numOf 1 a (10 ^ q))) (fun q => sgn true (rd (numOf 1 a (10 ^ q)) (10 ^ q))) (N / 10 ^ 4) (N % 10 ^ 4) (Lib.decDigits (N % 10 ^ 4)).length _ _ _ hx hP (fun q h1 h2 => ?_) (fun q h1 h2 w => lower_any true a q ha h1 h2 w) (fun q h1 h2 w => near_any64 true _ q ?_ h1 h2 w)
    (by show sgn true _ = _; rw [hp.2.2.1]) (fun q h1 h2 h3 => hp.2.2.2 q h1 h2 (sgn_inj h3)) ?_ ?_ ?_ (Nat.mod_lt _ (by decide)) hnb.2 hl (list_size _) (by rw [list_size]; exact hA) ?_ (format_any _ (Nat.le_trans (Nat.le_of_lt (Nat.mod_lt _ (by decide))) (by decide))) (format_any _ (by omega)) (repeat_any 4 _ (by decide) hl)
  · have := num_bound (e := 1) (a := a) (p := q) (by decide) ha h1 h2
    show -10000000000 ≤ -((numOf 1 a (10 ^ q) : Nat) : Int) ∧ -((numOf 1 a (10 ^ q) : Nat) : Int) ≤ 10000000000
    omega
  · have := num_bound (e := 1) (a := a) (p := q) (by decide) ha h1 h2
    omega
  · have := rd_pos hp.2.2.1 hn
    show -((numOf 1 a (10 ^ 4) : Nat) : Int) < 0
    omega
  · show -((-((numOf 1 a (10 ^ 4) : Nat) : Int)).tmod 10000) = _
    rw [← hN]
    exact mod_neg N 10000
  · show -((-((numOf 1 a (10 ^ 4) : Nat) : Int)).tdiv 10000) = _
    rw [← hN]
    exact div_neg' N 10000
  · rw [list_size, Lib.repeatL_length]
    simp only [List.length_cons, List.length_nil]
    omega

theorem decNeg5 (a N : Nat) (ha : a ≤ 1073741823) (hn : 0 < a) (hN : N = numOf 1 a (10 ^ 5)) (hp : Shown 1 a 5) (w : World) (hP : Pows w) :
    Calls Tryd.prog 21 #[.int .i64 (sgn true a)] w fun e w' => e = .returned (.string (⟨#[45]⟩ ++ ⟨(Lib.decDigits (N / 10 ^ 5)).toArray⟩ ++ ⟨#[46]⟩ ++ ⟨(Lib.repeatL [48] (5 - (Lib.decDigits (N % 10 ^ 5)).length)).toArray⟩ ++ ⟨(Lib.decDigits (N % 10 ^ 5)).toArray⟩)) ∧ Below w.heap.size w w' := by
  have hnb := num_bound (e := 1) (a := a) (p := 5) (by decide) ha (by decide) (by decide)
  rw [← hN] at hnb
  have hl : (Lib.decDigits (N % 10 ^ 5)).length ≤ 5 := dec_len 4 _ (Nat.mod_lt _ (by decide))
  have hA : (Lib.decDigits (N / 10 ^ 5)).length ≤ 5 := dec_len 4 _ hnb.2
  have hx : -1073741823 ≤ sgn true a ∧ sgn true a ≤ 1073741823 := by
    show -1073741823 ≤ -(a : Int) ∧ -(a : Int) ≤ 1073741823
    omega
  refine showNeg5 (sgn true a) w (fun q => sgn true (numOf 1 a (10 ^ q))) (fun q => sgn true (rd (numOf 1 a (10 ^ q)) (10 ^ q))) (N / 10 ^ 5) (N % 10 ^ 5) (Lib.decDigits (N % 10 ^ 5)).length _ _ _ hx hP (fun q h1 h2 => ?_) (fun q h1 h2 w => lower_any true a q ha h1 h2 w) (fun q h1 h2 w => near_any64 true _ q ?_ h1 h2 w)
    (by show sgn true _ = _; rw [hp.2.2.1]) (fun q h1 h2 h3 => hp.2.2.2 q h1 h2 (sgn_inj h3)) ?_ ?_ ?_ (Nat.mod_lt _ (by decide)) hnb.2 hl (list_size _) (by rw [list_size]; exact hA) ?_ (format_any _ (Nat.le_trans (Nat.le_of_lt (Nat.mod_lt _ (by decide))) (by decide))) (format_any _ (by omega)) (repeat_any 5 _ (by decide) hl)
  · have := num_bound (e := 1) (a := a) (p := q) (by decide) ha h1 h2
    show -10000000000 ≤ -((numOf 1 a (10 ^ q) : Nat) : Int) ∧ -((numOf 1 a (10 ^ q) : Nat) : Int) ≤ 10000000000
    omega
  · have := num_bound (e := 1) (a := a) (p := q) (by decide) ha h1 h2
    omega
  · have := rd_pos hp.2.2.1 hn
    show -((numOf 1 a (10 ^ 5) : Nat) : Int) < 0
    omega
  · show -((-((numOf 1 a (10 ^ 5) : Nat) : Int)).tmod 100000) = _
    rw [← hN]
    exact mod_neg N 100000
  · show -((-((numOf 1 a (10 ^ 5) : Nat) : Int)).tdiv 100000) = _
    rw [← hN]
    exact div_neg' N 100000
  · rw [list_size, Lib.repeatL_length]
    simp only [List.length_cons, List.length_nil]
    omega

theorem showDecimal_any (neg : Bool) (a p : Nat) (ha : a ≤ 1073741823) (hn : neg = true → 0 < a) (hp : Shown (eOf neg) a p) : ∃ (s : ByteArray) (A B : List UInt8), s.data.toList = Txt neg A B ∧ DigL A ∧ DigL B ∧ 0 < A.length ∧ A.length ≤ 5 ∧ B.length = p ∧ valL 0 (A ++ B) = numOf (eOf neg) a (10 ^ p) ∧
    ∀ w, Pows w → Calls Tryd.prog 21 #[.int .i64 (sgn neg a)] w fun e w' => e = .returned (.string s) ∧ Below w.heap.size w w' := by
  obtain ⟨N, hN⟩ : ∃ N, N = numOf (eOf neg) a (10 ^ p) := ⟨_, rfl⟩
  have hnb := num_bound (eOf_le neg) ha hp.1 hp.2.1
  rw [← hN] at hnb
  obtain ⟨f1, f2, f3, f4, f5, f6⟩ := parts_facts N p hp.1 hnb.2
  refine ⟨(if neg then ⟨#[45]⟩ else ⟨#[]⟩) ++ ⟨(Lib.decDigits (N / 10 ^ p)).toArray⟩ ++ ⟨#[46]⟩ ++ ⟨(Lib.repeatL [48] (p - (Lib.decDigits (N % 10 ^ p)).length)).toArray⟩ ++ ⟨(Lib.decDigits (N % 10 ^ p)).toArray⟩, _, _, ?_, f1, f2, f3, f4, f5, by rw [f6, hN], ?_⟩
  · unfold Txt
    rw [append_list, append_list, append_list, append_list]
    cases neg <;> simp
  · intro w hP
    have h1 := hp.1
    have h2 := hp.2.1
    obtain rfl | rfl | rfl | rfl | rfl : p = 1 ∨ p = 2 ∨ p = 3 ∨ p = 4 ∨ p = 5 := by omega
    all_goals cases neg
    · exact decPos1 a N ha hN hp w hP
    · exact decNeg1 a N ha (hn rfl) hN hp w hP
    · exact decPos2 a N ha hN hp w hP
    · exact decNeg2 a N ha (hn rfl) hN hp w hP
    · exact decPos3 a N ha hN hp w hP
    · exact decNeg3 a N ha (hn rfl) hN hp w hP
    · exact decPos4 a N ha hN hp w hP
    · exact decNeg4 a N ha (hn rfl) hN hp w hP
    · exact decPos5 a N ha hN hp w hP
    · exact decNeg5 a N ha (hn rfl) hN hp w hP
end Go.Proofs.YtminpoenfjnmiaaDoor
