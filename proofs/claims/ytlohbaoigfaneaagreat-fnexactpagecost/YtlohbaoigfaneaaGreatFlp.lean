import Derived.Test.YtlohbaoigfaneaaGreatLnn
import Derived.Test.YtlohbaoigfaneaaGreatDpu
import Derived.Test.YtlohbaoigfaneaaGreatLgr
import Derived.Test.YtlohbaoigfaneaaGreatLtm
import Derived.Test.YtlohbaoigfaneaaGreatPay
import Derived.Test.YtlohbaoigfaneaaGreatLmp
import Derived.Deep.DeepCutAuto
import Derived.Deep.RegionHeld3
namespace Go.Proofs.YtlohbaoigfaneaaGreat
open Go.RowKit
set_option linter.unusedVariables false
set_option linter.unusedSimpArgs false
theorem ParO.bel {xs : List Nd} {S : Sy} {lo : Nat} {w1 W : World} {PB : Nat} {L : List Nd} {ts : List Tn} {nv : Value} {B ic : Nat} {sv : Value} {g m c : Nat} (h : ParO xs S lo w1 PB L ts nv B ic sv g m c) (hW : Below w1.heap.size w1 W) : ParO xs S lo W PB L ts nv B ic sv g m c :=
 ⟨h.ok, h.lst, h.hd, h.ok3, h.few, h.par.keep (hW.block PB h.par.lt), ownG_below h.nds hW, ownG_below h.itm hW, h.tl, h.tf, ownG_below h.trn hW, fun t ht => (h.shw t ht).keep (KeepH.below hW), ownG_below h.sms hW, h.cnd⟩
section
variable {xs : List Nd} {S : Sy} {ys : List It} {ts : List Tn} {m : Nat} {W : World}
end
end Go.Proofs.YtlohbaoigfaneaaGreat
