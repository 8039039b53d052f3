/-
  Formulas as lists of atoms: which can be, and the atoms that are in no other's part.
-/
import Derived.Test.YtfcfihlkckdmbaaAtm
namespace Go.Proofs.Ytfcfihlkckdmbaa
open Go.RowKit
set_option linter.unusedVariables false
set_option linter.unusedSimpArgs false

def At.kids (a : At) : Int := a.b + a.u + a.d
def cntB (x : Int) : Bool := decide (0 ≤ x ∧ x ≤ 2000)
def atomB (a : At) : Bool := decide (0 ≤ a.c ∧ a.c ≤ 7) && cntB a.b && cntB a.u && cntB a.d && (if a.k = 1 then decide (33 ≤ a.ch ∧ a.ch ≤ 126 ∧ a.b = 0) else decide (2 ≤ a.k ∧ a.k ≤ 4 ∧ a.ch = 0))

theorem atomB_cnt {a : At} (h : atomB a = true) : 0 ≤ a.b ∧ 0 ≤ a.u ∧ 0 ≤ a.d ∧ a.b ≤ 2000 ∧ a.u ≤ 2000 ∧ a.d ≤ 2000 := by
  simp only [atomB, cntB, Bool.and_eq_true, decide_eq_true_eq] at h
  omega

/-- The atoms that are in no other's part; the number bounds how many. -/
def topsF : Nat → List At → List At
  | 0, _ => []
  | _ + 1, [] => []
  | n + 1, a :: r => a :: topsF n (r.drop a.kids.toNat)
theorem topsF_same : ∀ (n m : Nat) (ys : List At), ys.length ≤ n → ys.length ≤ m → topsF n ys = topsF m ys := by
  intro n
  induction n with
  | zero =>
    intro m ys h1 h2
    obtain rfl : ys = [] := List.eq_nil_of_length_eq_zero (by omega)
    cases m <;> rfl
  | succ n ih =>
    intro m ys h1 h2
    cases ys with
    | nil => cases m <;> rfl
    | cons a r =>
      cases m with
      | zero => simp at h2
      | succ m =>
        simp only [List.length_cons] at h1 h2
        simp only [topsF]
        rw [ih m _ (by rw [List.length_drop]; omega) (by rw [List.length_drop]; omega)]
/-- The atoms that are in no other's part. -/
def tops (ys : List At) : List At := topsF ys.length ys

def partB (x : At) : Bool := decide (x.k = 2) && decide (x.u + x.d ≤ 0)
def twoB (ys : List At) : Bool := match tops ys with
  | [x, y] => partB x && partB y
  | _ => false

/-- Whether a list of atoms is a formula that is in deep others' parts; the number bounds its length. -/
def okF : Nat → List At → Nat → Bool
  | 0, _, _ => true
  | _ + 1, [], _ => true
  | n + 1, a :: r, deep => decide (deep ≤ 40) && atomB a && decide (a.kids ≤ r.length) && okF n (r.take a.b.toNat) (deep + 1) && okF n ((r.drop a.b.toNat).take a.u.toNat) (deep + 1) && okF n ((r.drop (a.b + a.u).toNat).take a.d.toNat) (deep + 1) && (!decide (a.k = 3) || twoB (r.take a.b.toNat)) && okF n (r.drop a.kids.toNat) deep
theorem okF_same : ∀ (n m : Nat) (ys : List At) (deep : Nat), ys.length ≤ n → ys.length ≤ m → okF n ys deep = okF m ys deep := by
  intro n
  induction n with
  | zero =>
    intro m ys deep h1 h2
    obtain rfl : ys = [] := List.eq_nil_of_length_eq_zero (by omega)
    cases m <;> rfl
  | succ n ih =>
    intro m ys deep h1 h2
    cases ys with
    | nil => cases m <;> rfl
    | cons a r =>
      cases m with
      | zero => simp at h2
      | succ m =>
        simp only [List.length_cons] at h1 h2
        simp only [okF]
        rw [ih m (r.take a.b.toNat) _ (by rw [List.length_take]; omega) (by rw [List.length_take]; omega), ih m ((r.drop a.b.toNat).take a.u.toNat) _ (by rw [List.length_take, List.length_drop]; omega) (by rw [List.length_take, List.length_drop]; omega), ih m ((r.drop (a.b + a.u).toNat).take a.d.toNat) _ (by rw [List.length_take, List.length_drop]; omega) (by rw [List.length_take, List.length_drop]; omega), ih m (r.drop a.kids.toNat) _ (by rw [List.length_drop]; omega) (by rw [List.length_drop]; omega)]
/-- Whether a list of atoms is a formula that is in deep others' parts. -/
def ok (ys : List At) (deep : Nat) : Bool := okF ys.length ys deep

theorem tops_nil : tops [] = [] := rfl
theorem tops_cons (a : At) (r : List At) : tops (a :: r) = a :: tops (r.drop a.kids.toNat) := by
  show a :: topsF r.length (r.drop a.kids.toNat) = a :: topsF _ _
  rw [topsF_same r.length (r.drop a.kids.toNat).length _ (by rw [List.length_drop]; omega) (Nat.le_refl _)]
theorem ok_nil (deep : Nat) : ok [] deep = true := rfl
theorem ok_cons (a : At) (r : List At) (deep : Nat) : ok (a :: r) deep = (decide (deep ≤ 40) && atomB a && decide (a.kids ≤ r.length) && ok (r.take a.b.toNat) (deep + 1) && ok ((r.drop a.b.toNat).take a.u.toNat) (deep + 1) && ok ((r.drop (a.b + a.u).toNat).take a.d.toNat) (deep + 1) && (!decide (a.k = 3) || twoB (r.take a.b.toNat)) && ok (r.drop a.kids.toNat) deep) := by
  show okF (r.length + 1) (a :: r) deep = _
  simp only [okF, ok]
  rw [okF_same r.length _ (r.take a.b.toNat) _ (by rw [List.length_take]; omega) (Nat.le_refl _), okF_same r.length _ ((r.drop a.b.toNat).take a.u.toNat) _ (by rw [List.length_take, List.length_drop]; omega) (Nat.le_refl _), okF_same r.length _ ((r.drop (a.b + a.u).toNat).take a.d.toNat) _ (by rw [List.length_take, List.length_drop]; omega) (Nat.le_refl _), okF_same r.length _ (r.drop a.kids.toNat) _ (by rw [List.length_drop]; omega) (Nat.le_refl _)]
theorem tops_empty {ys : List At} : tops ys = [] ↔ ys = [] := by
  cases ys with
  | nil => simp [tops_nil]
  | cons a r => simp [tops_cons]
theorem tops_len (ys : List At) : (tops ys).length = 0 ↔ ys.length = 0 := by
  rw [List.length_eq_zero_iff, List.length_eq_zero_iff, tops_empty]

/-- An element of a row, and what is behind it. -/
theorem drop_at {ys : List At} {k : Nat} (h : k < ys.length) : ys.drop k = ys.getD k At.none :: ys.drop (k + 1) := by
  rw [List.drop_eq_getElem_cons h, List.getD_eq_getElem?_getD, List.getElem?_eq_getElem h]
  rfl

/-- A part of a row in cells is a row. -/
theorem ARow.part {lo : Nat} {w : World} {b off n cap : Nat} {xs : List At} (h : ARow lo w (.slice (some ⟨b, off, none⟩) n cap) xs) (k m cap' : Nat) (hk : k + m ≤ n) : ARow lo w (.slice (some ⟨b, off + k * 6, none⟩) m cap') ((xs.drop k).take m) := by
  obtain ⟨ao, n', c', he, hn, hr⟩ := h
  simp only [Value.slice.injEq] at he
  obtain ⟨rfl, rfl, rfl⟩ := he
  refine ⟨_, m, cap', rfl, by simp; omega, fun hp => ?_⟩
  obtain ⟨b', off', he, hlo, hlt, hc⟩ := hr (by omega)
  simp only [Option.some.injEq, Addr.mk.injEq, and_true] at he
  obtain ⟨rfl, rfl⟩ := he
  refine ⟨b, off + k * 6, rfl, hlo, hlt, fun i hi => ?_⟩
  obtain ⟨cs, hl, hR, hj⟩ := hc (k + i) (by omega)
  refine ⟨cs, hl, ?_, fun j hj2 => ?_⟩
  · have : ((xs.drop k).take m).getD i At.none = xs.getD (k + i) At.none := by
      simp only [List.getD_eq_getElem?_getD, List.getElem?_take, List.getElem?_drop, if_pos hi]
    rw [this]
    exact hR
  · rw [← hj j hj2]
    congr 2
    rw [Nat.add_mul]
    omega
theorem ARow.cells {lo : Nat} {w : World} {v : Value} {xs : List At} (h : ARow lo w v xs) {k : Nat} (hk : k < xs.length) : ∃ b off cap, v = .slice (some ⟨b, off, none⟩) xs.length cap ∧ b < w.heap.size ∧ w.cell? ⟨b, off + k * 6, none⟩ = some (.int .i64 (xs.getD k At.none).k) ∧ w.cell? ⟨b, off + k * 6 + 1, none⟩ = some (.int .i64 (xs.getD k At.none).c) ∧ w.cell? ⟨b, off + k * 6 + 2, none⟩ = some (.int .i64 (xs.getD k At.none).ch) ∧ w.cell? ⟨b, off + k * 6 + 3, none⟩ = some (.int .i64 (xs.getD k At.none).b) ∧ w.cell? ⟨b, off + k * 6 + 4, none⟩ = some (.int .i64 (xs.getD k At.none).u) ∧ w.cell? ⟨b, off + k * 6 + 5, none⟩ = some (.int .i64 (xs.getD k At.none).d) := by
  obtain ⟨ao, n, c, rfl, rfl, hr⟩ := h
  obtain ⟨b, off, rfl, hlo, hlt, hc⟩ := hr (by omega)
  obtain ⟨cs, hl, hR, hj⟩ := hc k hk
  have hR' : cs = (xs.getD k At.none).cells := hR
  subst hR'
  exact ⟨b, off, c, rfl, hlt, hj 0 (by omega), hj 1 (by omega), hj 2 (by omega), hj 3 (by omega), hj 4 (by omega), hj 5 (by omega)⟩
end Go.Proofs.Ytfcfihlkckdmbaa
