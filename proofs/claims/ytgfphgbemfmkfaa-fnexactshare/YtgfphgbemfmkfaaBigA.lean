/-
  The walks of the specification's long numbers: l1Big.
-/
import Derived.Test.YtgfphgbemfmkfaaProg
import Derived.Test.YtgfphgbemfmkfaaBigN
import Derived.WalkKit
import Derived.WalkSpells
import Derived.Below
import Derived.Outline
namespace Go.Proofs.Ytgfphgbemfmkfaa
open Go.RowKit
set_option linter.unusedVariables false
set_option linter.unusedSimpArgs false

theorem hideB {p : Prop} (h : p) : Hid p := h

abbrev numC (d : Nat) : Value := .int .i64 (d : Int)

/-- The slice v holds the digits xs, at the head of a block. -/
def IsNum (w : World) (v : Value) (xs : List Nat) : Prop :=
  ∃ g cap : Nat, v = .slice (some ⟨g, 0, none⟩) xs.length cap ∧ xs.length ≤ cap ∧ cap ≤ maxLen ∧ g < w.heap.size ∧ ∀ i, i < xs.length → w.cell? ⟨g, i, none⟩ = some (numC (xs.getD i 0))

def IsBig (w : World) (v : Value) (N : Nat) : Prop := ∃ xs, IsNum w v xs ∧ BigN.Digits xs ∧ BigN.Trim xs ∧ BigN.val xs = N

theorem IsNum.kept {w w' : World} {v : Value} {xs : List Nat} (h : IsNum w v xs) (hb : Below w.heap.size w w') : IsNum w' v xs := by
  obtain ⟨g, cap, rfl, h1, h2, h3, h4⟩ := h
  refine ⟨g, cap, rfl, h1, h2, by have := hb.size; omega, fun i hi => ?_⟩
  rw [hb.cell (p := ⟨g, i, none⟩) h3]
  exact h4 i hi
theorem IsBig.kept {w w' : World} {v : Value} {N : Nat} (h : IsBig w v N) (hb : Below w.heap.size w w') : IsBig w' v N := by
  obtain ⟨xs, h1, h2⟩ := h
  exact ⟨xs, h1.kept hb, h2⟩

theorem isNum_of_own {w : World} {base n : Nat} {v : Value} {xs : List Nat} (h : w.ownsRow base 2 1 v n (xs.map numC)) (hv : v ≠ .slice none 0 0) (hn : n = xs.length) : IsNum w v xs := by
  subst hn
  rcases h.2 with ⟨h1, _⟩ | ⟨g, cap, cur, rfl, _, hg, h1, h2, _, _⟩
  · exact absurd h1 hv
  · refine ⟨g, cap, rfl, h1, h2, (Array.getElem?_eq_some_iff.1 hg).1, fun i hi => ?_⟩
    rw [h.cellAt i (by omega)]
    simp [List.getElem?_map, List.getD, hi]

theorem info2 : (Try.prog.info? 2).map (fun i => (i.zero, i.size, i.bytes)) = some (some (.int .i64 0), 1, 8) := by kernel_rfl

/-- What holds at the head of a round of l1Big: k digits are told, x' is left. -/
def BigAt (x : Nat) (w wr : World) (s0 s3 : Value) (k x' : Nat) (xs : List Nat) : Prop :=
  s0 = .int .u64 (x' : Int) ∧ xs.length = k ∧ BigN.Digits xs ∧ BigN.val xs + 16777216 ^ k * x' = x ∧ (0 < k → 16777216 ^ (k - 1) ≤ x) ∧ k ≤ 3 ∧
    wr.ownsRow w.heap.size 2 1 s3 k (xs.map numC) ∧ s3 ≠ .slice none 0 0 ∧ Below w.heap.size w wr

theorem k_le {x k : Nat} (hx : x < 18446744073709551616) (h : 16777216 ^ k ≤ x) : k ≤ 2 := by
  by_cases hk : k ≤ 2
  · exact hk
  · exfalso
    have h1 : 16777216 ^ 3 ≤ 16777216 ^ k := Nat.pow_le_pow_right (by decide) (by omega)
    have h2 : (16777216 : Nat) ^ 3 = 4722366482869645213696 := by decide
    omega

theorem big_step {x k x' : Nat} {xs : List Nat} (hx : x < 18446744073709551616) (h0 : 0 < x') (hl : xs.length = k) (hd : BigN.Digits xs) (hv : BigN.val xs + 16777216 ^ k * x' = x) :
    (xs ++ [x' % 16777216]).length = k + 1 ∧ BigN.Digits (xs ++ [x' % 16777216]) ∧ BigN.val (xs ++ [x' % 16777216]) + 16777216 ^ (k + 1) * (x' / 16777216) = x ∧ (0 < k + 1 → 16777216 ^ (k + 1 - 1) ≤ x) ∧ k + 1 ≤ 3 := by
  have hp : 16777216 ^ k ≤ x := by
    have : 16777216 ^ k * 1 ≤ 16777216 ^ k * x' := Nat.mul_le_mul_left _ h0
    omega
  have hk := k_le hx hp
  refine ⟨by simp [hl], hd.snoc (by omega), ?_, fun _ => by simpa using hp, by omega⟩
  rw [BigN.val_snoc, hl]
  have : 16777216 ^ k * x' = 16777216 ^ k * (x' % 16777216) + 16777216 ^ (k + 1) * (x' / 16777216) := by
    rw [Nat.pow_succ, Nat.mul_assoc, ← Nat.mul_add, Nat.mod_add_div]
  omega

set_option maxHeartbeats 1000000 in
theorem big_any (x : Nat) (w : World) (hx : x < 18446744073709551616) : Calls Try.prog 45 #[.int .u64 (x : Int)] w fun e w' => ∃ v, e = .returned v ∧ IsBig w' v x ∧ Below w.heap.size w w' := by
  obtain ⟨i0, hi, hz0, hz1, hz2⟩ := info_parts info2
  have hat : BigAt x w (w.alloc (.cells #[] 2)) (.int .u64 (x : Int)) (.slice (some ⟨w.heap.size, 0, none⟩) 0 0) 0 x [] :=
    ⟨rfl, rfl, BigN.Digits.nil, by simp [BigN.val], by simp, by omega, World.ownsRow_lit w #[] 0 (Nat.le_refl _) (by decide) rfl, by simp, (Below.refl _ _).alloc (Nat.le_refl _) _⟩
  have HAT := hideB hat
  clear hat
  go_enter Try.func45, Try.ntmps45
  go_wp2_with fail
  go_loopw [0, 3] (fun s0 s3 wr => ∃ k x' xs, BigAt x w wr s0 s3 k x' xs) (fun s0 _ _ => (intOf s0).toNat)
  case atStart => exact ⟨0, x, [], HAT.out⟩
  case round =>
    obtain ⟨k, x', xs, rfl, hl, hd, hv, hp, hk, hown, hnil, hbel⟩ := hrel
    have hxl : x' < 18446744073709551616 := by
      have : 1 * x' ≤ 16777216 ^ k * x' := Nat.mul_le_mul_right _ (BigN.pow_pos' k)
      omega
    by_cases h0 : 0 < x'
    · have hst := big_step hx h0 hl hd hv
      have HST := hideB hst
      have HOWN := hideB hown
      have HBEL := hideB hbel
      have HNIL := hideB hnil
      clear hst hown hbel hl hd hv hp hnil
      have hz := HBEL.out.size
      go_wp2_with (at_builtin; refine wpList_append_own _ rfl _ _ 27 rfl w.heap.size 2 i0 (.int .i64 0) 1 8 Try.underlying27 hi hz0 hz1 hz2 rfl (by decide) _ _ _ rfl (HOWN.out.alloc _) ⟨wr.heap.size, 0, none⟩ 1 1 [numC (x' % 16777216)] rfl rfl ?c1 ?c2 ?c3 ?c4 ?c5 ?_)
      case c1 =>
        intro j u hj
        match j, hj with
        | 0, hj => simp at hj; subst hj; simp [Addr.add]
      case c2 => intro u hu; simp at hu; subst hu; rfl
      case c3 => unfold maxLen; omega
      case c4 => omega
      case c5 => simp; omega
      intro v' w1 hown' hgrow hnil'
      have hst := HST.out
      have hb1 : Below w.heap.size w w1 := (HBEL.out.alloc hz _).grown hgrow (by simp; omega) (fun r hr => (HOWN.out.lt r hr).1)
      have hne : v' ≠ .slice none 0 0 := hnil'
      have HR : Hid (BigAt x w w1 (.int .u64 ((x' / 16777216 : Nat) : Int)) v' (k + 1) (x' / 16777216) (xs ++ [x' % 16777216])) :=
        ⟨rfl, hst.1, hst.2.1, hst.2.2.1, hst.2.2.2.1, hst.2.2.2.2, by simpa using hown', hne, hb1⟩
      clear hown' hgrow hnil' hst hb1 hne HOWN HBEL HNIL HST
      go_wp2
      go_roundw
      case rel => exact ⟨k + 1, x' / 16777216, xs ++ [x' % 16777216], by simpa using HR.out⟩
      case measure => simp [intOf]; omega
    · obtain rfl : x' = 0 := by omega
      have hfin : IsBig wr _ x := ⟨xs, isNum_of_own hown hnil hl.symm, hd, BigN.trim_of_val xs hd (fun hne => by rw [hl]; have := hp (by rw [← hl]; exact List.length_pos_iff.2 hne); omega), by omega⟩
      have HF := hideB (And.intro hfin hbel)
      clear hown hbel hnil hl hd hv hp hfin
      go_wp2
      go_ret
      exact ⟨_, rfl, HF.out⟩
end Go.Proofs.Ytgfphgbemfmkfaa
