/-
  Ratio for all numbers, and the sign that is put back.
-/
import Derived.Test.YtkimbgmjhclghaaDoorDiv
import Derived.Test.YtkimbgmjhclghaaDoorRatioB
import Derived.Test.YtkimbgmjhclghaaDoorBigE
import Derived.ProofKit
import Derived.OpenShut
import Derived.ShutString
import Derived.ChangeOld
namespace Go.Proofs.YtkimbgmjhclghaaDoor
open Go.ChangeShapes Go.WideShapes Go.ChangeAt Go.RowKit
set_option linter.unusedVariables false
set_option linter.unusedSimpArgs false

theorem div_all (hi lo y : Nat) (hhy : hi < y) (hl : lo < 18446744073709551616) (hy' : y < 18446744073709551616) : DivAt hi lo y := by
  by_cases h : hi = 0
  · subst h
    exact div_zero lo y hl hhy hy'
  · exact div_high hi lo y (by omega) hhy hl hy'

theorem implRatio_all (x num den : Int) (w : World) (hx1 : -9223372036854775808 ≤ x) (hx2 : x ≤ 9223372036854775807) (hn1 : -9223372036854775808 ≤ num) (hn2 : num ≤ 9223372036854775807) (hd1 : -9223372036854775808 ≤ den) (hd2 : den ≤ 9223372036854775807) (hd0 : den ≠ 0) :
    Calls Tryd.prog 17 #[.int .i64 x, .int .i64 num, .int .i64 den] w fun e w' => e = .returned (.tuple #[.int .i64 (ratioV x num den), .bool (ratioB x num den)]) ∧ Below w.heap.size w w' :=
  implRatio_any x num den w hx1 hx2 hn1 hn2 hd1 hd2 hd0 (fun h => div_all _ _ _ h (Nat.mod_lt _ (by decide)) (by omega))

theorem signed_any (n : Nat) (below : Bool) (w : World) (hn : n ≤ 1073741824) :
    Calls Tryd.prog 20 #[.int .u64 (n : Int), .bool below] w fun e w' => e = .returned (.tuple #[.int .i64 (if n ≤ 1073741823 then (if below then -(n : Int) else (n : Int)) else 0), .bool (decide (n ≤ 1073741823))]) ∧ w' = w := by
  obtain ⟨ni, hni⟩ : ∃ ni : Int, ni = (n : Int) := ⟨_, rfl⟩
  rw [← hni]
  have n0 : 0 ≤ ni := by omega
  have n1 : ni ≤ 1073741824 := by omega
  by_cases h : n ≤ 1073741823
  · rw [if_pos h, show decide (n ≤ 1073741823) = true by simp [h]]
    have n2 : ni ≤ 1073741823 := by omega
    clear h hni hn
    cases below
    · go_enter Tryd.func20, Tryd.ntmps20
      go_wp2
      go_ret2
      exact ⟨rfl, rfl⟩
    · go_enter Tryd.func20, Tryd.ntmps20
      go_wp2
      go_ret2
      exact ⟨rfl, rfl⟩
  · rw [if_neg h, show decide (n ≤ 1073741823) = false by simp [h]]
    have n2 : 1073741823 < ni := by omega
    clear h hni hn
    go_enter Tryd.func20, Tryd.ntmps20
    go_wp2
    go_ret2
    exact ⟨rfl, rfl⟩

end Go.Proofs.YtkimbgmjhclghaaDoor
