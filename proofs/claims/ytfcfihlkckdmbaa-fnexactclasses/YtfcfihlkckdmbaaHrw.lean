/-
  Rows of atoms as the program keeps them, and what their heads say.
-/
import Derived.Test.YtfcfihlkckdmbaaHd
import Derived.Test.YtfcfihlkckdmbaaTwo
import Derived.Maps.AppendAt
import Derived.OwnWalk
namespace Go.Proofs.Ytfcfihlkckdmbaa
open Go.RowKit
set_option linter.unusedVariables false
set_option linter.unusedSimpArgs false

def hd (a : At) (r : List At) : Hd := ⟨a.k, a.c, a.ch, (tops (r.take a.b.toNat)).length, (tops ((r.drop a.b.toNat).take a.u.toNat)).length, (tops ((r.drop (a.b + a.u).toNat).take a.d.toNat)).length⟩
def hdsF : Nat → List At → List Hd
  | 0, _ => []
  | _ + 1, [] => []
  | n + 1, a :: r => hd a r :: hdsF n (r.drop a.kids.toNat)
theorem hdsF_same : ∀ (n m : Nat) (ys : List At), ys.length ≤ n → ys.length ≤ m → hdsF n ys = hdsF m ys := by
  intro n
  induction n with
  | zero =>
    intro m ys h1 h2
    obtain rfl : ys = [] := List.eq_nil_of_length_eq_zero (by omega)
    cases m <;> rfl
  | succ n ih =>
    intro m ys h1 h2
    cases ys with
    | nil => cases m <;> rfl
    | cons a r =>
      cases m with
      | zero => simp at h2
      | succ m =>
        simp only [List.length_cons] at h1 h2
        simp only [hdsF]
        rw [ih m _ (by rw [List.length_drop]; omega) (by rw [List.length_drop]; omega)]
def hds (ys : List At) : List Hd := hdsF ys.length ys
theorem hds_nil : hds [] = [] := rfl
theorem hds_cons (a : At) (r : List At) : hds (a :: r) = hd a r :: hds (r.drop a.kids.toNat) := by
  show hd a r :: hdsF r.length (r.drop a.kids.toNat) = hd a r :: hdsF _ _
  rw [hdsF_same r.length (r.drop a.kids.toNat).length _ (by rw [List.length_drop]; omega) (Nat.le_refl _)]
theorem hds_len : ∀ (m : Nat) (ys : List At), ys.length ≤ m → (hds ys).length = (tops ys).length := by
  intro m
  induction m with
  | zero =>
    intro ys h
    obtain rfl : ys = [] := List.eq_nil_of_length_eq_zero (by omega)
    rw [hds_nil, tops_nil]
    rfl
  | succ m ih =>
    intro ys h
    cases ys with
    | nil => rw [hds_nil, tops_nil]; rfl
    | cons a r =>
      rw [hds_cons, tops_cons, List.length_cons, List.length_cons, ih _ (by simp at h ⊢; omega)]
theorem tops_le : ∀ (m : Nat) (ys : List At), ys.length ≤ m → (tops ys).length ≤ ys.length := by
  intro m
  induction m with
  | zero =>
    intro ys h
    obtain rfl : ys = [] := List.eq_nil_of_length_eq_zero (by omega)
    rw [tops_nil]
    exact Nat.le_refl _
  | succ m ih =>
    intro ys h
    cases ys with
    | nil => rw [tops_nil]; exact Nat.le_refl _
    | cons a r =>
      have := ih (r.drop a.kids.toNat) (by simp at h ⊢; omega)
      rw [tops_cons, List.length_cons, List.length_cons]
      simp only [List.length_drop] at this
      omega
theorem cut_len {ys : List At} {s q : Nat} (h : s + q ≤ ys.length) : ((tops ((ys.drop s).take q)).length = 0 ↔ q = 0) := by
  rw [tops_len, List.length_take, List.length_drop]
  omega
theorem prt_hd {a : At} {r : List At} (ha : atomB a = true) (hk : a.kids ≤ r.length) : prtB (hd a r) = partB a := by
  have hc := atomB_cnt ha
  have e1 := cut_len (ys := r) (s := a.b.toNat) (q := a.u.toNat) (by unfold At.kids at hk; omega)
  have e2 := cut_len (ys := r) (s := (a.b + a.u).toNat) (q := a.d.toNat) (by unfold At.kids at hk; omega)
  unfold prtB scrB partB hd
  dsimp only
  rw [Bool.eq_iff_iff]
  simp only [Bool.and_eq_true, decide_eq_true_eq, Bool.not_eq_true', Bool.or_eq_false_iff, decide_eq_false_iff_not]
  omega
theorem prt_hds {deep : Nat} : ∀ (m : Nat) (ys : List At), ys.length ≤ m → ok ys deep = true → (hds ys).map prtB = (tops ys).map partB := by
  intro m
  induction m with
  | zero =>
    intro ys h _
    obtain rfl : ys = [] := List.eq_nil_of_length_eq_zero (by omega)
    rw [hds_nil, tops_nil]
    rfl
  | succ m ih =>
    intro ys h ho
    cases ys with
    | nil => rw [hds_nil, tops_nil]; rfl
    | cons a r =>
      obtain ⟨h1, h2, h3⟩ := ok_head ho
      rw [hds_cons, tops_cons, List.map_cons, List.map_cons, ih _ (by simp at h ⊢; omega) h3, prt_hd h1 h2]
theorem two_hds {ys : List At} {deep : Nat} (ho : ok ys deep = true) : (∀ b0 b1, hds ys = [b0, b1] → twoB ys = (prtB b0 && prtB b1)) ∧ ((hds ys).length ≠ 2 → twoB ys = false) := by
  have hm := prt_hds ys.length ys (Nat.le_refl _) ho
  have hl := hds_len ys.length ys (Nat.le_refl _)
  constructor
  · intro b0 b1 hb
    rw [hb] at hm hl
    match ht : tops ys, hl with
    | [x, y], _ =>
      rw [ht] at hm
      simp only [List.map_cons, List.map_nil, List.cons.injEq, and_true] at hm
      unfold twoB
      rw [ht]
      simp [hm.1, hm.2]
  · intro h
    unfold twoB
    match ht : tops ys with
    | [] => rfl
    | [x] => rfl
    | [x, y] => rw [ht] at hl; exact absurd hl h
    | x :: y :: z :: u => rfl

/-- In world w the slice v is a row of pointers to atoms with these heads; all lies from block lo on. -/
def HRow (lo : Nat) (w : World) (v : Value) (hs : List Hd) : Prop :=
  ∃ ps : List Nat, w.ownsRow lo 49 1 v hs.length (ps.map fun p => Value.pointer (some ⟨p, 0, none⟩)) ∧ ps.length = hs.length ∧ ∀ i, i < hs.length → lo ≤ ps.getD i 0 ∧ ∃ ab cb, HdAt w (ps.getD i 0) (hs.getD i Hd.none) ab cb
theorem HdAt.lt {w : World} {p : Nat} {h : Hd} {ab : Option Addr} {cb : Nat} (H : HdAt w p h ab cb) : p < w.heap.size := by
  obtain ⟨_, _, _, _, _, _, _, hh⟩ := H
  exact (Array.getElem?_eq_some_iff.1 hh).1
theorem HdAt.abv {lo : Nat} {w w' : World} {p : Nat} {h : Hd} {ab : Option Addr} {cb : Nat} (H : HdAt w p h ab cb) (hp : lo ≤ p) (ha : Abv lo w w') : HdAt w' p h ab cb := by
  have hl := H.lt
  obtain ⟨h1, h2, h3, au, cu, ad, cd, hh⟩ := H
  exact ⟨h1, h2, h3, au, cu, ad, cd, (ha.block p hp hl).trans hh⟩
theorem HRow.abv {lo : Nat} {w w' : World} {v : Value} {hs : List Hd} (H : HRow lo w v hs) (ha : Abv lo w w') : HRow lo w' v hs := by
  obtain ⟨ps, ⟨hm, ho⟩, hl, hc⟩ := H
  refine ⟨ps, ⟨hm, ?_⟩, hl, fun i hi => ⟨(hc i hi).1, ?_⟩⟩
  · rcases ho with ho | ⟨g, cap, cur, hv, hg, hh, hr⟩
    · exact .inl ho
    · exact .inr ⟨g, cap, cur, hv, hg, (ha.block g hg (Array.getElem?_eq_some_iff.1 hh).1).trans hh, hr⟩
  · obtain ⟨ab, cb, H⟩ := (hc i hi).2
    exact ⟨ab, cb, H.abv (hc i hi).1 ha⟩
theorem HRow.slice {lo : Nat} {w : World} {v : Value} {hs : List Hd} (H : HRow lo w v hs) : ∃ a c, v = .slice a hs.length c := by
  obtain ⟨ps, ⟨hm, ho⟩, hl, hc⟩ := H
  rcases ho with ⟨h0, h⟩ | ⟨g, cap, cur, hv, _⟩
  · exact ⟨none, 0, by rw [h0, h]⟩
  · exact ⟨_, cap, hv⟩

/-- What the program's can says of an atom whose parts are formulas. -/
theorem step_else {a : At} {r : List At} {deep : Nat} (hb : 0 ≤ a.b ∧ 0 ≤ a.u ∧ 0 ≤ a.d) (hk : a.kids ≤ r.length) (hr : r.length ≤ 2000) (ho : ok (r.take a.b.toNat) deep = true) (hno : ¬ ((hd a r).k = 3 ∧ (hd a r).ch = 0 ∧ (hd a r).nb = 2)) :
    canE (hd a r) = (atomB a && (!decide (a.k = 3) || twoB (r.take a.b.toNat))) := by
  have e0 := cut_len (ys := r) (s := 0) (q := a.b.toNat) (by unfold At.kids at hk; omega)
  have ht := (two_hds ho).2
  rw [hds_len _ _ (Nat.le_refl _)] at ht
  unfold hd at hno
  dsimp only at hno
  simp only [List.drop_zero] at e0
  unfold At.kids at hk
  unfold canE hd atomB cntB
  dsimp only
  obtain ⟨q, hq⟩ : ∃ q, q = (tops (List.take a.b.toNat r)).length := ⟨_, rfl⟩
  rw [← hq] at e0 ht hno ⊢
  by_cases h3 : a.k = 3
  · by_cases hc : a.ch = 0
    · have hq2 : q ≠ 2 := fun h => hno ⟨h3, hc, h⟩
      rw [ht hq2]
      simp [h3]
    · simp [h3, hc]
  · rw [Bool.eq_iff_iff]
    by_cases h1 : a.k = 1
    · simp [h1]
      omega
    · by_cases h2 : a.k = 2
      · simp [h2]
        omega
      · by_cases h4 : a.k = 4
        · simp [h4]
          omega
        · simp [h1, h2, h4, h3]
          omega
theorem step_two {a : At} {r : List At} {deep : Nat} {b0 b1 : Hd} (hb : 0 ≤ a.b ∧ 0 ≤ a.u ∧ 0 ≤ a.d) (hk : a.kids ≤ r.length) (hr : r.length ≤ 2000) (ho : ok (r.take a.b.toNat) deep = true) (hyes : (hd a r).k = 3 ∧ (hd a r).ch = 0) (hbs : hds (r.take a.b.toNat) = [b0, b1]) :
    canT (hd a r) b0 b1 = (atomB a && (!decide (a.k = 3) || twoB (r.take a.b.toNat))) := by
  have ht := (two_hds ho).1 b0 b1 hbs
  unfold hd at hyes
  dsimp only at hyes
  unfold At.kids at hk
  rw [ht]
  unfold canT hd atomB cntB
  dsimp only
  have c1 : decide (0 ≤ a.b ∧ a.b ≤ 2000) = true := by simp; omega
  have c2 : decide (0 ≤ a.u ∧ a.u ≤ 2000) = true := by simp; omega
  have c3 : decide (0 ≤ a.d ∧ a.d ≤ 2000) = true := by simp; omega
  rw [c1, c2, c3, hyes.1, hyes.2]
  simp [Bool.and_assoc]
end Go.Proofs.Ytfcfihlkckdmbaa
