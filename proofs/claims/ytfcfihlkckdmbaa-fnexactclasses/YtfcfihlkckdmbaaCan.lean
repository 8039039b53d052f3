/-
  Whether an atom of the program's tree can be, by the list that it was made of.
-/
import Derived.Test.YtfcfihlkckdmbaaHrw
namespace Go.Proofs.Ytfcfihlkckdmbaa
open Go.RowKit
set_option linter.unusedVariables false
set_option linter.unusedSimpArgs false

theorem can_step {w : World} {X e0 lo deep : Nat} {a0 : Option Addr} {t : At} {r : List At} (HX : HdAt w X (hd t r) a0 e0) (hrow : HRow lo w (.slice a0 (hd t r).nb e0) (hds (r.take t.b.toNat))) (hb : 0 ≤ t.b ∧ 0 ≤ t.u ∧ 0 ≤ t.d) (hk : t.kids ≤ r.length) (hr : r.length ≤ 2000) (ho : ok (r.take t.b.toNat) deep = true) :
    Calls Try.prog 36 #[.pointer (some ⟨X, 0, none⟩)] w fun e w' => e = .returned (.bool (atomB t && (!decide (t.k = 3) || twoB (r.take t.b.toNat)))) ∧ Below w.heap.size w w' := by
  by_cases hy : (hd t r).k = 3 ∧ (hd t r).ch = 0 ∧ (hd t r).nb = 2
  · obtain ⟨ps, ⟨hm, hown⟩, hpl, hc⟩ := hrow
    have hlen : (hds (r.take t.b.toNat)).length = 2 := by
      rw [hds_len _ _ (Nat.le_refl _)]
      exact hy.2.2
    obtain ⟨b0, b1, hbs⟩ : ∃ b0 b1, hds (r.take t.b.toNat) = [b0, b1] := by
      match hq : hds (r.take t.b.toNat), hlen with
      | [b0, b1], _ => exact ⟨b0, b1, rfl⟩
    obtain ⟨p0, p1, hps⟩ : ∃ b0 b1, ps = [b0, b1] := by
      match hq : ps, hpl.trans hlen with
      | [b0, b1], _ => exact ⟨b0, b1, rfl⟩
    subst hps
    rw [hbs] at hm hown hc
    rcases hown with ⟨_, h0⟩ | ⟨g, cap, cur, hv, hg, hh, hrest⟩
    · simp at h0
    · simp only [Value.slice.injEq] at hv
      obtain ⟨rfl, hv1, rfl⟩ := hv
      have hown2 : w.ownsRow lo 49 1 (.slice (some ⟨g, 0, none⟩) 2 e0) 2 ([p0, p1].map fun p => Value.pointer (some ⟨p, 0, none⟩)) := ⟨hm, .inr ⟨g, e0, cur, rfl, hg, hh, hrest⟩⟩
      have q0 := World.ownsRow.cellAt hown2 0 (by omega)
      have q1 := World.ownsRow.cellAt hown2 1 (by omega)
      obtain ⟨_, ab, cb, H0⟩ := hc 0 (by simp)
      obtain ⟨_, ab1, cb1, H1⟩ := hc 1 (by simp)
      rw [← step_two hb hk hr ho ⟨hy.1, hy.2.1⟩ hbs]
      exact can_two HX hy (Array.getElem?_eq_some_iff.1 hh).1 q0 q1 H0 H1
  · rw [← step_else hb hk hr ho hy]
    exact can_else HX hy

abbrev ptr (p : Nat) : Value := Value.pointer (some ⟨p, 0, none⟩)
theorem hrow_push {base : Nat} {w5 w6 : World} {g n c X e0 : Nat} {a0 : Option Addr} {done : List Hd} {h : Hd} {ps : List Nat} {v6 : Value} {o : Obj}
    (hown : w5.ownsRow base 49 1 (.slice (some ⟨g, 0, none⟩) n c) done.length (ps.map ptr)) (hpl : ps.length = done.length) (hpc : ∀ i, i < done.length → base ≤ ps.getD i 0 ∧ ∃ ab cb, HdAt w5 (ps.getD i 0) (done.getD i Hd.none) ab cb)
    (HX : HdAt w5 X h a0 e0) (hX : base ≤ X) (hown6 : w6.ownsRow base 49 1 v6 (done.length + 1) (ps.map ptr ++ [ptr X])) (hg : (w5.alloc o).grownBy w6 (some g)) : HRow base w6 v6 (done ++ [h]) := by
  have hgb : ∃ cur, w5.heap[g]? = some (.cells cur 49 (0, 0)) := by
    rcases hown.2 with ⟨h0, _⟩ | ⟨g', cap, cur, hv, hg', hh, _⟩
    · simp at h0
    · simp only [Value.slice.injEq, Option.some.injEq, Addr.mk.injEq, and_true] at hv
      obtain ⟨rfl, _⟩ := hv
      exact ⟨cur, hh⟩
  obtain ⟨cur, hcur⟩ := hgb
  have key : ∀ p k ab cb, HdAt w5 p k ab cb → HdAt w6 p k ab cb := by
    intro p k ab cb H
    have hlt := H.lt
    obtain ⟨h1, h2, h3, au, cu, ad, cd, hh⟩ := H
    have hne : p ≠ g := by
      rintro rfl
      rw [hcur] at hh
      simp at hh
    refine ⟨h1, h2, h3, au, cu, ad, cd, ?_⟩
    rw [hg.block p (by simp; omega) (by simpa using hne), (below1 w5 o).block p hlt]
    exact hh
  refine ⟨ps ++ [X], ?_, by simp [hpl], fun i hi => ?_⟩
  · rw [List.length_append, List.map_append]
    exact hown6
  · simp only [List.length_append, List.length_singleton] at hi
    by_cases hid : i < done.length
    · obtain ⟨q1, ab, cb, q2⟩ := hpc i hid
      have e1 : (ps ++ [X]).getD i 0 = ps.getD i 0 := by
        simp only [List.getD_eq_getElem?_getD]
        rw [List.getElem?_append_left (by omega)]
      have e2 : (done ++ [h]).getD i Hd.none = done.getD i Hd.none := by
        simp only [List.getD_eq_getElem?_getD]
        rw [List.getElem?_append_left hid]
      rw [e1, e2]
      exact ⟨q1, ab, cb, key _ _ _ _ q2⟩
    · obtain rfl : i = done.length := by omega
      have e1 : (ps ++ [X]).getD done.length 0 = X := by
        simp only [List.getD_eq_getElem?_getD]
        rw [List.getElem?_append_right (by omega), hpl]
        simp
      have e2 : (done ++ [h]).getD done.length Hd.none = h := by
        simp only [List.getD_eq_getElem?_getD]
        rw [List.getElem?_append_right (by omega)]
        simp
      rw [e1, e2]
      exact ⟨hX, a0, e0, key _ _ _ _ HX⟩
end Go.Proofs.Ytfcfihlkckdmbaa
