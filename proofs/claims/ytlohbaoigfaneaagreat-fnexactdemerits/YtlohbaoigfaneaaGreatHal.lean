import Derived.Test.YtlohbaoigfaneaaGreatShn
import Derived.RegionTactic
import Derived.ChangeAlike
import Derived.Test.YtlohbaoigfaneaaGreatNod
namespace Go.Proofs.YtlohbaoigfaneaaGreat.Shr
open Go.RowKit
set_option linter.unusedVariables false
set_option linter.unusedSimpArgs false
abbrev Sett.v (s : Sett) : Value := setV s.sign s.order s.want s.have_ s.bad s.over
theorem Fr.trans {L : Nat} {w a b : World} (h : Fr L w a) (h2 : Fr L a b) : Fr L w b :=
 ⟨h2.1.trans h.1, h2.2.1.trans h.2.1, h2.2.2.1.trans h.2.2.1, Nat.le_trans h.2.2.2.1 h2.2.2.2.1, fun k hk hne => (h2.2.2.2.2 k (Nat.lt_of_lt_of_le hk h.2.2.2.1) hne).trans (h.2.2.2.2 k hk hne)⟩
def mxI (a b : Int) : Int := if b < a then a else b
theorem mostI_any (a b : Int) (w : World) : Calls Tryz.prog 105 #[.int .i64 a, .int .i64 b] w fun e w' => e = .returned (.int .i64 (mxI a b)) ∧ w' = w := by
 by_cases h : b < a
 ·rw [show mxI a b = a by simp [mxI, h]]
  go_enter Tryz.func105, Tryz.ntmps105
  go_wp2
  go_ret
  exact ⟨rfl, rfl⟩
 ·rw [show mxI a b = b by simp [mxI, h]]
  go_enter Tryz.func105, Tryz.ntmps105
  go_wp2
  go_ret
  exact ⟨rfl, rfl⟩
end Go.Proofs.YtlohbaoigfaneaaGreat.Shr
