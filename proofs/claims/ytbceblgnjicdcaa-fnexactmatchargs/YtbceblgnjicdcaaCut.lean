/-
  The program's cut at the first slot, and the rows that a body with its lists is made of.
-/
import Derived.Test.YtbceblgnjicdcaaFlt
namespace Go.Proofs.Ytbceblgnjicdcaa
open Go.RowKit
set_option linter.unusedVariables false
set_option linter.unusedSimpArgs false

/-- How many tokens stand ahead of the first slot. -/
def lead : List Tk → Nat
  | [] => 0
  | t :: ts => if t.c = 16 then 0 else lead ts + 1
theorem lead_le : ∀ ts : List Tk, lead ts ≤ ts.length
  | [] => Nat.le_refl _
  | t :: ts => by unfold lead; split <;> simp <;> exact lead_le ts
theorem lead_on : ∀ (ts : List Tk) (k : Nat), k < lead ts → (ts.getD k Tk.none).c ≠ 16
  | [], k, h => by simp [lead] at h
  | t :: ts, 0, h => by unfold lead at h; split at h; · simp at h
                        · assumption
  | t :: ts, k + 1, h => by unfold lead at h; split at h; · simp at h
                            · exact lead_on ts k (by omega)
theorem lead_at : ∀ ts : List Tk, lead ts < ts.length → (ts.getD (lead ts) Tk.none).c = 16
  | [], h => by simp at h
  | t :: ts, h => by
    unfold lead at h ⊢
    split
    · assumption
    · next hc =>
      rw [if_neg hc] at h
      exact lead_at ts (by simpa using h)
theorem lead_is {ts : List Tk} {k : Nat} (hk : k < ts.length) (h0 : ∀ i, i < k → (ts.getD i Tk.none).c ≠ 16) (h : (ts.getD k Tk.none).c = 16) : lead ts = k := by
  rcases Nat.lt_trichotomy (lead ts) k with h1 | h1 | h1
  · exact absurd (lead_at ts (by omega)) (h0 _ h1)
  · exact h1
  · exact absurd h (lead_on ts k h1)
theorem lead_all {ts : List Tk} (h0 : ∀ i, i < ts.length → (ts.getD i Tk.none).c ≠ 16) : lead ts = ts.length := by
  rcases Nat.lt_or_ge (lead ts) ts.length with h | h
  · exact absurd (lead_at ts h) (h0 _ h)
  · exact Nat.le_antisymm (lead_le ts) h

set_option maxRecDepth 100000 in
set_option maxHeartbeats 4000000 in
theorem isSlot_any (t : Tk) (w : World) : Calls Try.prog 136 #[t.v] w fun e w' => e = .returned (.bool (t.c == 16)) ∧ Below w.heap.size w w' := by
  obtain ⟨c, h, s⟩ := t
  go_enter Try.func136, Try.ntmps136
  go_wp2
  go_ret
  exact ⟨rfl, below1 _ _⟩

set_option maxRecDepth 100000 in
set_option maxHeartbeats 4000000 in
theorem indexSlot_any {lo : Nat} {b off n cap : Nat} {ts : List Tk} {w : World} (h : TOn lo w (.slice (some ⟨b, off, none⟩) n cap) ts) (hn : n ≤ 1048576) :
    Calls Try.prog 135 #[.slice (some ⟨b, off, none⟩) n cap, .func (.func 136) #[] #[]] w fun e w' => (∃ r : Int, e = .returned (.int .i64 r) ∧ ((lead ts < n ∧ r = (lead ts : Int)) ∨ (lead ts = n ∧ r = -1))) ∧ Below w.heap.size w w' := by
  obtain ⟨b2, off2, cap2, e, hcap, _, hb, hc⟩ := h
  simp at e
  obtain ⟨⟨rfl, rfl⟩, hl, rfl⟩ := e
  have HC : Hid (∀ j u, (flat ts)[j]? = some u → w.cell? ⟨b, off + j, none⟩ = some u) := hc
  have HL : Hid (n = ts.length) := hl
  clear hc hl hcap
  go_enter Try.func135, Try.ntmps135
  go_wp2_with fail
  go_loopw [8] (fun i wr => ∃ k : Nat, k ≤ n ∧ i = .int .i64 k ∧ Hid (∀ i, i < k → (ts.getD i Tk.none).c ≠ 16) ∧ Below w.heap.size w wr) (fun i _ => n - (intOf i).toNat)
  case atStart => exact ⟨0, by omega, rfl, fun i hi => absurd hi (by omega), Below.refl _ _⟩
  case round =>
    obtain ⟨k, hk, rfl, HK, hbel⟩ := hrel
    have HB : Hid (Below w.heap.size w wr) := hbel
    clear hbel
    by_cases hkn : k < n
    · have hki : (k : Int) < (n : Int) := by omega
      have hkt : k < ts.length := by rw [← show n = ts.length from HL]; exact hkn
      obtain ⟨t, ht⟩ : ∃ t, t = ts.getD k Tk.none := ⟨_, rfl⟩
      obtain ⟨f0, f1, f2⟩ := flat_get ts k hkt
      rw [← ht] at f0 f1 f2
      have g0 := (Below.cell HB (p := ⟨b, off + k * 3, none⟩) hb).trans (HC _ _ f0)
      have g1 := (Below.cell HB (p := ⟨b, off + k * 3 + 1, none⟩) hb).trans (HC _ _ f1)
      have g2 := (Below.cell HB (p := ⟨b, off + k * 3 + 2, none⟩) hb).trans (HC _ _ f2)
      have HT : Hid (t = ts.getD k Tk.none) := ht
      clear f0 f1 f2 ht
      by_cases hc : t.c = 16
      · have hcb : (t.c == 16) = true := beq_iff_eq.2 hc
        have HD : Hid (lead ts < n ∧ (k : Int) = (lead ts : Int)) := by
          have := lead_is hkt HK (by rw [← show t = _ from HT]; exact hc)
          rw [this]; exact ⟨hkn, rfl⟩
        clear hc
        go_wp2_with (go_at_call 136; refine (isSlot_any t _).mono ?_; rw [hcb]; rintro e w2 ⟨rfl, hb1⟩; have HB2 : Hid (Below w.heap.size w w2) := below_more HB hb1 (Below.size HB); clear hb1)
        go_ret
        exact ⟨⟨_, rfl, .inl HD⟩, HB2⟩
      · have hcb : (t.c == 16) = false := beq_eq_false_iff_ne.2 hc
        have HN : Hid (∀ i, i < k + 1 → (ts.getD i Tk.none).c ≠ 16) := by
          intro i hi
          by_cases hik : i = k
          · subst hik; rw [← show t = _ from HT]; exact hc
          · exact HK i (by omega)
        go_wp2_with (go_at_call 136; refine (isSlot_any t _).mono ?_; rw [hcb]; rintro e w2 ⟨rfl, hb1⟩; have HB2 : Hid (Below w.heap.size w w2) := below_more HB hb1 (Below.size HB); clear hb1)
        go_roundw
        case rel => exact ⟨k + 1, by omega, by go_num, HN, HB2⟩
        case measure => simp [intOf]; omega
    · have hki : ¬ (k : Int) < (n : Int) := by omega
      obtain rfl : k = n := by omega
      have HD : Hid (lead ts = k) := by show lead ts = k; rw [lead_all (by rw [← show k = ts.length from HL]; exact HK), ← show k = ts.length from HL]
      go_wp2
      go_ret
      exact ⟨⟨_, rfl, .inr ⟨HD, rfl⟩⟩, HB⟩

set_option maxRecDepth 100000 in
set_option maxHeartbeats 4000000 in
theorem cut_any {lo : Nat} {b off n cap : Nat} {ts : List Tk} {w0 w : World} (h : TOn lo w0 (.slice (some ⟨b, off, none⟩) n cap) ts) (hw : Below w0.heap.size w0 w) (hn : n ≤ 1048576) :
    Calls Try.prog 109 #[.slice (some ⟨b, off, none⟩) n cap] w fun e w' => ∃ v1 v2, e = .returned (.tuple #[v1, v2]) ∧ TOn lo w0 v1 (ts.take (lead ts)) ∧ TN lo w0 v2 (ts.drop (lead ts)) ∧ Below w.heap.size w w' := by
  have HT : Hid (TOn lo w0 (.slice (some ⟨b, off, none⟩) n cap) ts) := h
  have HX : Hid (TOn lo w (.slice (some ⟨b, off, none⟩) n cap) ts) := h.below hw
  have hl : n = ts.length := by obtain ⟨b2, off2, cap2, e, _⟩ := h; simp at e; exact e.2.1
  have hcap : n ≤ cap := by obtain ⟨b2, off2, cap2, e, hc, _⟩ := h; simp at e; rw [← hl, ← e.2.2] at hc; exact hc
  have HL : Hid (n = ts.length) := hl
  clear h hl hw
  go_enter Try.func109, Try.ntmps109
  go_wp2_with fail
  refine (indexSlot_any HX hn).mono ?_
  rintro e w1 ⟨⟨r, rfl, hr⟩, hb1⟩
  have HB1 : Hid (Below w.heap.size w w1) := hb1
  clear hb1
  rcases hr with ⟨hlt, rfl⟩ | ⟨heq, rfl⟩
  · obtain ⟨k, hk⟩ : ∃ k, k = lead ts := ⟨_, rfl⟩
    rw [← hk] at hlt
    rw [← hk]
    have HK : Hid (k = lead ts) := hk
    clear hk
    have hneg : ¬ (k : Int) < 0 := by omega
    have h1 : (k : Int) ≤ (n : Int) := by omega
    have h2 : (k : Int) ≤ (cap : Int) := by omega
    go_wp2
    go_region
    all_goals
      go_wp2
      go_ret2
      refine ⟨_, _, rfl, ?_, .inr ?_, ?_⟩
      · rw [← show k = _ from HK]; exact TOn.take HT (by omega)
      · rw [← show k = _ from HK]; exact TOn.drop HT (by omega)
      · exact Below.drew HB1
  · go_wp2
    go_ret2
    refine ⟨_, _, rfl, ?_, .inl ⟨rfl, ?_⟩, HB1⟩
    · rw [heq, show n = ts.length from HL, List.take_length]; rw [show n = ts.length from HL] at HT; exact HT
    · rw [heq, show n = ts.length from HL, List.drop_length]
end Go.Proofs.Ytbceblgnjicdcaa
