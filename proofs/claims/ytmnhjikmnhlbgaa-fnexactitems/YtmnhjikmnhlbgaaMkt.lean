/-
  The texts that mark memory.
-/
import Derived.Test.YtmnhjikmnhlbgaaCln
import Derived.Laws.BytesArg
import Derived.Deep.RegionWith
namespace Go.Proofs.Ytmnhjikmnhlbgaa
open Go.RowKit
set_option linter.unusedVariables false
set_option linter.unusedSimpArgs false

/-- The digits of a number ahead of a text. -/
def mtGo (k : Nat) (out : ByteArray) : ByteArray := if h : k = 0 then out else mtGo (k / 10) (strOfNums [48 + (k : Int) % 10] ++ out)
def mtext (k : Nat) : ByteArray := ⟨#[109]⟩ ++ mtGo k ⟨#[]⟩
theorem mtGo_zero (o : ByteArray) : mtGo 0 o = o := by rw [mtGo]; simp
theorem mtGo_step {k : Nat} (h : 0 < k) (o : ByteArray) : mtGo k o = mtGo (k / 10) (strOfNums [48 + (k : Int) % 10] ++ o) := by
  rw [mtGo, dif_neg (by omega)]

theorem conv_one (w : World) (x : Int) : (convert 122 9 (.slice (some ⟨w.heap.size, 0, none⟩) 1 1)).run Try.prog (w.alloc (.cells #[.int .u8 x] 5)) = .ok (.string (strOfNums [x])) (w.alloc (.cells #[.int .u8 x] 5)) := by
  refine run_convert_bytes_arg (w.alloc (.cells #[.int .u8 x] 5)) 122 5 Try.underlying122 Try.underlying5 w.heap.size 0 1 1 [x] rfl ?_ 9 Try.underlying9
  intro i hi
  have h0 : i = 0 := by omega
  subst h0
  simp

set_option maxRecDepth 100000 in
set_option maxHeartbeats 2000000 in
theorem markText_any (k : Nat) (hk : 0 < k) (hk2 : k ≤ 4611686018424287904) (w : World) : Calls Try.prog 38 #[.int .i64 (k : Int)] w fun e w' => e = .returned (.string (mtext k)) ∧ Below w.heap.size w w' := by
  have h1 : ¬ (k : Int) ≤ 0 := by omega
  obtain ⟨S, hS⟩ : ∃ S, S = mtext k := ⟨_, rfl⟩
  rw [← hS]
  have HS : Hid (S = mtext k) := hS
  clear hS
  go_enter Try.func38, Try.ntmps38
  go_wp2
  go_loopw [0, 3] (fun kv out wr => ∃ (q : Nat) (o : ByteArray), kv = .int .i64 q ∧ out = .string o ∧ o.size + q ≤ k ∧ Hid (mtGo q o = mtGo k ⟨#[]⟩) ∧ Below w.heap.size w wr) (fun kv _ _ => (intOf kv).toNat)
  case atStart => exact ⟨k, ⟨#[]⟩, rfl, rfl, by show 0 + k ≤ k; omega, rfl, Below.refl _ _⟩
  case round =>
    obtain ⟨q, o, rfl, rfl, hq, HG, hbel⟩ := hrel
    have HB : Hid (Below w.heap.size w wr) := hbel
    clear hbel
    by_cases h0 : 0 < q
    · have hq0 : (0 : Int) < (q : Int) := by omega
      have hcv := conv_one wr
      have hsz : (strOfNums [48 + (q : Int) % 10]).size = 1 := rfl
      have hos : o.size ≤ 4611686018424287904 := by omega
      have HG2 : Hid (mtGo (q / 10) (strOfNums [48 + (q : Int) % 10] ++ o) = mtGo k ⟨#[]⟩) := by rw [← mtGo_step h0]; exact HG
      go_wp2
      go_roundw
      case rel => exact ⟨q / 10, _, by go_num, rfl, by rw [ByteArray.size_append, hsz]; omega, HG2, Below.alloc HB (Below.size HB) _⟩
      case measure => simp [intOf]; omega
    · have hq0 : ¬ (0 : Int) < (q : Int) := by omega
      obtain rfl : q = 0 := by omega
      have hos : o.size ≤ 4611686018424287904 := by omega
      have HE : Hid (S = ⟨#[109]⟩ ++ o) := by
        show S = _
        rw [show S = _ from HS]
        unfold mtext
        rw [← show mtGo 0 o = _ from HG, mtGo_zero]
      go_wp2
      go_ret
      refine ⟨?_, HB⟩
      rw [show S = _ from HE]
      rfl

end Go.Proofs.Ytmnhjikmnhlbgaa
