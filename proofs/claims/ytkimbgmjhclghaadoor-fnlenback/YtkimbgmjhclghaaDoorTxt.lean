/-
  What ParseLen answers of a text of digits, a dot, digits and pt.
-/
import Derived.Test.YtkimbgmjhclghaaDoorNum
namespace Go.Proofs.YtkimbgmjhclghaaDoor
open Go.RowKit
set_option linter.unusedVariables false
set_option linter.unusedSimpArgs false

theorem size_list (s : ByteArray) : s.size = s.data.toList.length := Array.length_toList.symm

theorem byte_mid {s : ByteArray} {pre post : List UInt8} {c : UInt8} (hs : s.data.toList = pre ++ (c :: post)) : byteAt s pre.length = c.toNat := by
  unfold byteAt
  rw [hs, List.getD_eq_getElem?_getD, List.getElem?_append_right (Nat.le_refl _), Nat.sub_self]
  rfl

theorem dec_digs (s : ByteArray) (D : List UInt8) : ∀ (pre post : List UInt8) (n t k : Nat) (d : Bool), s.data.toList = pre ++ (D ++ post) → DigL D → k + D.length ≤ 15 →
    dec (byteAt s) (s.size - pre.length) pre.length n t k d = dec (byteAt s) (s.size - (pre.length + D.length)) (pre.length + D.length) (valL n D) (if d then t * 10 ^ D.length else t) (k + D.length) d := by
  induction D with
  | nil =>
    intro pre post n t k d hs hD hk
    have e : (if d then t * 10 ^ ([] : List UInt8).length else t) = t := by
      cases d
      · rfl
      · show t * 10 ^ 0 = t
        rw [Nat.pow_zero, Nat.mul_one]
    rw [e]
    rfl
  | cons c D ih =>
    intro pre post n t k d hs hD hk
    have hb : byteAt s pre.length = c.toNat := byte_mid (post := D ++ post) hs
    have hc := hD c (List.mem_cons_self)
    have hlt : pre.length < s.size := by rw [size_list, hs]; simp
    rw [List.length_cons] at hk
    rw [dec_digit _ _ _ _ _ _ _ hlt (by rw [hb]; exact hc) (by omega), hb]
    have := ih (pre ++ [c]) post (n * 10 + (c.toNat - 48)) (if d then t * 10 else t) (k + 1) d (by rw [hs]; simp) (fun x hx => hD x (List.mem_cons_of_mem _ hx)) (by omega)
    rw [List.length_append, List.length_singleton] at this
    rw [this, List.length_cons]
    have e1 : pre.length + 1 + D.length = pre.length + (D.length + 1) := by omega
    have e2 : k + 1 + D.length = k + (D.length + 1) := by omega
    have e3 : (if d then (if d then t * 10 else t) * 10 ^ D.length else (if d then t * 10 else t)) = if d then t * 10 ^ (D.length + 1) else t := by
      cases d
      · rfl
      · show t * 10 * 10 ^ D.length = t * 10 ^ (D.length + 1)
        rw [Nat.pow_succ, Nat.mul_assoc, Nat.mul_comm 10]
    rw [e1, e2, e3]
    rfl

theorem dec_text (s : ByteArray) (A B : List UInt8) (hs : s.data.toList = A ++ (46 :: (B ++ [112, 116]))) (hA : DigL A) (hB : DigL B) (hl : A.length + B.length ≤ 15) :
    dec (byteAt s) (s.size - 0) 0 0 1 0 false = ⟨A.length + 1 + B.length, valL 0 (A ++ B), 10 ^ B.length, A.length + B.length⟩ := by
  have h1 := dec_digs s A [] (46 :: (B ++ [112, 116])) 0 1 0 false (by rw [hs]; rfl) hA (by omega)
  simp only [List.length_nil, Nat.zero_add, Bool.false_eq_true, if_false] at h1
  rw [h1]
  have hsz : s.size = A.length + (B.length + 3) := by rw [size_list, hs]; simp
  have hb : byteAt s A.length = 46 := byte_mid (post := B ++ [112, 116]) hs
  rw [dec_dot _ _ _ _ _ _ (by omega) hb]
  have h2 := dec_digs s B (A ++ [46]) [112, 116] (valL 0 A) 1 A.length true (by rw [hs]; simp) hB (by omega)
  rw [List.length_append, List.length_singleton] at h2
  rw [h2, if_pos rfl, Nat.one_mul, valL_append]
  have hb2 : byteAt s (A.length + 1 + B.length) = 112 := by
    have := byte_mid (s := s) (pre := A ++ (46 :: B)) (post := [116]) (c := 112) (by rw [hs]; simp)
    rw [List.length_append, List.length_cons] at this
    rw [show A.length + 1 + B.length = A.length + (B.length + 1) by omega]
    exact this
  rw [dec_stop _ _ _ _ _ _ _ (by omega) (by rw [hb2]; decide) (by rw [hb2]; decide)]

theorem first_digit {s : ByteArray} {A rest : List UInt8} (hs : s.data.toList = A ++ rest) (hA : DigL A) (h0 : 0 < A.length) : 48 ≤ byteAt s 0 ∧ byteAt s 0 ≤ 57 := by
  cases A with
  | nil => simp at h0
  | cons c A' =>
    have hc := hA c List.mem_cons_self
    have hb0 : byteAt s 0 = c.toNat := byte_mid (pre := []) (post := A' ++ rest) hs
    rw [hb0]
    exact hc

theorem parse_text (s : ByteArray) (neg : Bool) (A B : List UInt8) (a : Nat) (hs : s.data.toList = (if neg then [45] else []) ++ (A ++ (46 :: (B ++ [112, 116])))) (hA : DigL A) (hA0 : 0 < A.length) (hB : DigL B) (hl : A.length + B.length ≤ 15)
    (hq : rd (valL 0 (A ++ B)) (10 ^ B.length) = a) (ha : a ≤ 1073741823) :
    ∀ w, Units w → Calls Tryd.prog 9 #[.string s] w fun e w' => e = .returned (.tuple #[.int .i64 (if neg then -(a : Int) else (a : Int)), .bool true]) ∧ Below w.heap.size w w' := by
  intro w hU
  have hpos : 0 < 10 ^ B.length := Nat.pow_pos (by decide)
  have hn := near_rd _ _ _ hpos hq ha
  have name : ∀ r : ByteArray, r.data.toList = A ++ (46 :: (B ++ [112, 116])) → (r.extract (A.length + 1 + B.length) r.size).toList = [112, 116] := by
    intro r hr
    rw [ByteArray.toList_eq, tail_list, hr, show A.length + 1 + B.length = (A ++ (46 :: B)).length by simp; omega, show A ++ (46 :: (B ++ [112, 116])) = (A ++ (46 :: B)) ++ [112, 116] by simp]
    exact List.drop_left
  have good : ∀ r : ByteArray, r.data.toList = A ++ (46 :: (B ++ [112, 116])) →
      parseGood ⟨A.length + 1 + B.length, valL 0 (A ++ B), 10 ^ B.length, A.length + B.length⟩ (r.extract (A.length + 1 + B.length) r.size).toList = true ∧
      parseV neg ⟨A.length + 1 + B.length, valL 0 (A ++ B), 10 ^ B.length, A.length + B.length⟩ (r.extract (A.length + 1 + B.length) r.size).toList = (if neg then -(a : Int) else (a : Int)) := by
    intro r hr
    obtain ⟨z1, z2⟩ := parse_hit neg ⟨A.length + 1 + B.length, valL 0 (A ++ B), 10 ^ B.length, A.length + B.length⟩ (r.extract (A.length + 1 + B.length) r.size).toList 65536 1 (by rw [name r hr]; rfl) (by rw [name r hr]; rfl) (by show 0 < A.length + B.length; omega) hl (by decide)
    rw [z1, z2]
    show decide (BigN.near (valL 0 (A ++ B)) 65536 (1 * 10 ^ B.length) 1073741824 ≤ 1073741823) = true ∧ (if BigN.near (valL 0 (A ++ B)) 65536 (1 * 10 ^ B.length) 1073741824 ≤ 1073741823 then (if neg then -((BigN.near (valL 0 (A ++ B)) 65536 (1 * 10 ^ B.length) 1073741824 : Nat) : Int) else ((BigN.near (valL 0 (A ++ B)) 65536 (1 * 10 ^ B.length) 1073741824 : Nat) : Int)) else 0) = (if neg then -(a : Int) else (a : Int))
    rw [hn, if_pos ha]
    exact ⟨decide_eq_true ha, rfl⟩
  cases neg
  · have hs' : s.data.toList = A ++ (46 :: (B ++ [112, 116])) := hs
    obtain ⟨g1, g2⟩ := good s hs'
    have hsz : s.size = A.length + (B.length + 3) := by rw [size_list, hs']; simp
    refine implParse_any s s false _ _ _ w hU (by omega) (fun w => ?_) (dec_text s A B hs' hA hB hl).symm g2.symm g1.symm
    have hc := first_digit hs' hA hA0
    have := sign_at s (byteAt s 0) w (by omega) rfl (by omega)
    rw [if_neg (by omega), show decide (byteAt s 0 = 45) = false by simp; omega] at this
    exact this
  · have hs' : s.data.toList = 45 :: (A ++ (46 :: (B ++ [112, 116]))) := hs
    have hsz : s.size = A.length + (B.length + 4) := by rw [size_list, hs']; simp; omega
    have hr : (s.extract 1 s.size).data.toList = A ++ (46 :: (B ++ [112, 116])) := by rw [tail_list, hs']; rfl
    obtain ⟨g1, g2⟩ := good (s.extract 1 s.size) hr
    have hts := tail_size s 1
    refine implParse_any s (s.extract 1 s.size) true _ _ _ w hU (by omega) (fun w => ?_) (dec_text _ A B hr hA hB hl).symm g2.symm g1.symm
    have hb0 : byteAt s 0 = 45 := byte_mid (pre := []) (post := A ++ (46 :: (B ++ [112, 116]))) hs'
    have := sign_at s (byteAt s 0) w (by omega) rfl (by omega)
    rw [if_pos (Or.inl hb0), show decide (byteAt s 0 = 45) = true by simp [hb0]] at this
    exact this
end Go.Proofs.YtkimbgmjhclghaaDoor
