/-
  The texts of the plain format: what both sides answer.
-/
import Derived.Test.YtpikfjnfkmndlaaRows
import Derived.WalkKit
import Derived.ProofKit
import Derived.OpenShut
import Derived.LoopTactic
import Derived.Laws.Concat
namespace Go.Proofs.Ytpikfjnfkmndlaa
open Go.ChangeShapes Go.WideShapes Go.ChangeAt Go.RowKit
set_option linter.unusedVariables false
set_option linter.unusedSimpArgs false

/-- The lines. -/
def LL : List (List UInt8) := [
  [92, 108, 101, 110, 32, 48, 61, 50, 48, 48, 112, 116, 32, 92, 108, 101, 110, 32, 49, 61, 51, 48, 48, 112, 116, 32, 92, 108, 101, 110, 32, 50, 61, 49, 50, 112, 116],
  [92, 99, 111, 117, 110, 116, 32, 49, 61, 50, 48, 48, 48, 32, 92, 99, 111, 117, 110, 116, 32, 50, 61, 49, 48, 32, 92, 99, 111, 117, 110, 116, 32, 51, 61, 53, 48, 32, 92, 99, 111, 117, 110, 116, 32, 52, 61, 49, 48, 48, 48, 48, 32, 92, 99, 111, 117, 110, 116, 32, 53, 61, 49, 48, 48, 48, 48],
  [92, 99, 111, 117, 110, 116, 32, 54, 61, 50, 32, 92, 99, 111, 117, 110, 116, 32, 55, 61, 50, 32, 92, 99, 111, 117, 110, 116, 32, 56, 61, 48, 32, 92, 99, 111, 117, 110, 116, 32, 57, 61, 48],
  [92, 103, 108, 117, 101, 32, 48, 61, 49, 51, 112, 116, 32, 112, 108, 117, 115, 32, 49, 112, 116, 32, 92, 103, 108, 117, 101, 32, 49, 61, 52, 112, 116, 32, 112, 108, 117, 115, 32, 50, 112, 116, 32, 92, 103, 108, 117, 101, 32, 52, 61, 48, 112, 116, 32, 112, 108, 117, 115, 32, 49, 102, 105, 108],
  [92, 102, 111, 110, 116, 32, 50],
  [92, 100, 101, 102, 92, 115, 101, 99, 116, 105, 111, 110, 35, 49, 123, 92, 112, 97, 114, 92, 118, 115, 107, 105, 112, 32, 56, 112, 116, 32, 112, 108, 117, 115, 32, 52, 112, 116, 92, 112, 101, 110, 97, 108, 116, 121, 32, 45, 50, 48, 48],
  [32, 32, 92, 110, 111, 105, 110, 100, 101, 110, 116, 123, 92, 102, 111, 110, 116, 32, 54, 32, 35, 49, 125, 92, 109, 97, 114, 107, 123, 35, 49, 125, 92, 119, 114, 105, 116, 101, 123, 35, 49, 125, 92, 112, 97, 114, 92, 112, 101, 110, 97, 108, 116, 121, 32, 49, 48, 48, 48, 48, 32, 125],
  [92, 100, 101, 102, 92, 108, 97, 98, 101, 108, 35, 49, 123, 92, 119, 114, 105, 116, 101, 123, 35, 49, 125, 125],
  [92, 100, 101, 102, 92, 114, 101, 102, 35, 49, 123, 92, 99, 115, 110, 97, 109, 101, 32, 112, 97, 103, 101, 32, 64, 35, 49, 92, 101, 110, 100, 99, 115, 110, 97, 109, 101, 125],
  [92, 100, 101, 102, 92, 102, 111, 111, 116, 35, 49, 123, 92, 110, 111, 116, 101, 32, 49, 123, 92, 102, 111, 110, 116, 32, 48, 32, 35, 49, 92, 112, 97, 114, 125, 125],
  [92, 100, 101, 102, 92, 101, 109, 112, 104, 35, 49, 123, 123, 92, 102, 111, 110, 116, 32, 52, 32, 35, 49, 125, 125],
  [92, 100, 101, 102, 92, 99, 101, 110, 116, 114, 101, 35, 49, 123, 92, 112, 97, 114, 92, 110, 111, 105, 110, 100, 101, 110, 116, 92, 104, 115, 107, 105, 112, 32, 48, 112, 116, 32, 112, 108, 117, 115, 32, 49, 102, 105, 108, 32, 35, 49, 92, 104, 115, 107, 105, 112, 32, 48, 112, 116, 32, 112, 108, 117, 115, 32, 49, 102, 105, 108, 92, 112, 97, 114, 125],
  [92, 100, 101, 102, 92, 105, 116, 101, 109, 35, 49, 123, 92, 112, 97, 114, 92, 110, 111, 105, 110, 100, 101, 110, 116, 92, 104, 98, 111, 120, 32, 116, 111, 32, 49, 53, 112, 116, 123, 35, 49, 92, 104, 115, 107, 105, 112, 32, 48, 112, 116, 32, 112, 108, 117, 115, 32, 49, 102, 105, 108, 125, 125],
  [92, 100, 101, 102, 92, 101, 110, 116, 114, 121, 35, 49, 35, 50, 123, 92, 112, 97, 114, 92, 110, 111, 105, 110, 100, 101, 110, 116, 32, 35, 49, 92, 104, 115, 107, 105, 112, 32, 49, 112, 116, 32, 112, 108, 117, 115, 32, 49, 102, 105, 108, 108, 32, 35, 50, 92, 112, 97, 114, 125],
  [92, 100, 101, 102, 92, 99, 111, 110, 116, 101, 110, 116, 115, 123, 92, 116, 104, 101, 92, 116, 111, 107, 115, 32, 49, 53, 32, 125]]
def ln (k : Nat) : ByteArray := ⟨(LL.getD k []).toArray⟩
/-- The first k lines, each with a newline. -/
def jn (k : Nat) : ByteArray := ⟨((LL.take k).flatMap (fun l => l ++ [10])).toArray⟩

theorem LL_length : LL.length = 15 := by kernel_rfl
theorem jn_step (k : Nat) (hk : k < 15) : (jn k ++ ln k) ++ ⟨#[10]⟩ = jn (k + 1) := by
  have h : LL[k]? = some (LL.getD k []) := by
    rw [List.getD_eq_getElem?_getD, List.getElem?_eq_getElem (by rw [LL_length]; exact hk)]
    rfl
  unfold jn ln
  rw [ByteArray.mk_append_mk, ByteArray.mk_append_mk, List.take_add_one, h]
  simp
theorem all_sizes : (List.range 15).all (fun k => decide (((LL.take k).flatMap (fun l => l ++ [10])).length + (LL.getD k []).length ≤ 4000)) = true := by kernel_rfl
theorem jn_size (k : Nat) (hk : k < 15) : (jn k).size + (ln k).size ≤ 4000 ∧ (jn k ++ ln k).size + (ByteArray.mk #[10]).size ≤ 4001 := by
  have h := of_decide_eq_true (List.all_eq_true.1 all_sizes k (List.mem_range.2 hk))
  have h1 : (jn k).size = ((LL.take k).flatMap (fun l => l ++ [10])).length := by show Array.size _ = _; simp
  have h2 : (ln k).size = (LL.getD k []).length := by show Array.size _ = _; simp
  have h3 : (ByteArray.mk #[10]).size = 1 := rfl
  rw [ByteArray.size_append, h3]
  omega

set_option maxRecDepth 20000 in
set_option maxHeartbeats 4000000 in
theorem spec_any (w : World) : Calls Try.prog 4 #[] w fun e w' => e = .returned (.string (jn 15)) ∧ Grown w w' := by
  go_enter Try.func4, Try.ntmps4
  go_wp2
  generalize hw : w.alloc _ = w1
  have hg : Grown w w1 := by rw [← hw]; exact Grown.alloc (Grown.refl w) _ _
  have hc : ∀ k, k < 15 → w1.cell? ⟨w.heap.size, k, none⟩ = some (.string (ln k)) := by
    intro k hk
    rw [← hw]
    have : k = 0 ∨ k = 1 ∨ k = 2 ∨ k = 3 ∨ k = 4 ∨ k = 5 ∨ k = 6 ∨ k = 7 ∨ k = 8 ∨ k = 9 ∨ k = 10 ∨ k = 11 ∨ k = 12 ∨ k = 13 ∨ k = 14 := by omega
    rcases this with rfl | rfl | rfl | rfl | rfl | rfl | rfl | rfl | rfl | rfl | rfl | rfl | rfl | rfl | rfl <;> (simp; rfl)
  have HG : Hid (Grown w w1) := hg
  have HC : Hid (∀ k, k < 15 → w1.cell? ⟨w.heap.size, k, none⟩ = some (.string (ln k))) := hc
  clear hw hg hc
  obtain ⟨b, hb⟩ : ∃ b, b = w.heap.size := ⟨_, rfl⟩
  rw [← hb] at HC ⊢
  clear hb
  go_loop [2, 3] (fun s i => ∃ k : Nat, k ≤ 15 ∧ i = .int .i64 k ∧ s = .string (jn k)) (fun _ i => match i with | .int _ m => 15 - m.toNat | _ => 0)
  case atStart => exact ⟨0, Nat.zero_le _, rfl, rfl⟩
  case round =>
    obtain ⟨k, hk, rfl, rfl⟩ := hrel
    by_cases hlt : k < 15
    · have h0 := HC k hlt
      have s1 := (jn_size k hlt).1
      have s2 := (jn_size k hlt).2
      have e3 := jn_step k hlt
      obtain ⟨j, hj⟩ : ∃ j, j = jn k := ⟨_, rfl⟩
      obtain ⟨l, hl⟩ : ∃ l, l = ln k := ⟨_, rfl⟩
      obtain ⟨j2, hj2⟩ : ∃ j2, j2 = jn (k + 1) := ⟨_, rfl⟩
      rw [← hj, ← hl] at s1 s2 e3
      rw [← hl] at h0
      rw [← hj2] at e3
      rw [← hj]
      have HJ2 : Hid (j2 = jn (k + 1)) := hj2
      clear hj hl hj2
      have hadd1 : (Op.stringOp .add j l).run Try.prog w1 = .ok (.string (j ++ l)) w1 := run_string_add_sum w1 _ _ (by omega)
      have hadd2 : (Op.stringOp .add (j ++ l) ⟨#[10]⟩).run Try.prog w1 = .ok (.string j2) w1 := by rw [run_string_add_sum w1 _ _ (by omega), e3]
      clear e3 s1 s2
      have hki : (k : Int) < 15 := by omega
      go_wp2
      exact ⟨⟨k + 1, by omega, rfl, by rw [show j2 = jn (k + 1) from HJ2]⟩, by show 15 - ((k : Int) + 1).toNat < 15 - (k : Int).toNat; omega⟩
    · have hki : ¬ (k : Int) < 15 := by omega
      have : k = 15 := by omega
      subst this
      go_wp2
      go_ret
      exact ⟨rfl, HG⟩
set_option maxRecDepth 20000 in
set_option maxHeartbeats 4000000 in
theorem impl_any (w : World) : Calls Try.prog 5 #[] w fun e w' => e = .returned (.string (jn 15)) ∧ w' = w := by
  go_enter Try.func5, Try.ntmps5
  go_wp2
  go_ret
  refine ⟨?_, rfl⟩
  kernel_rfl
end Go.Proofs.Ytpikfjnfkmndlaa
