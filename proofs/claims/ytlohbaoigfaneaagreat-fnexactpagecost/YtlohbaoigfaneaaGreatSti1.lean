import Derived.Test.YtlohbaoigfaneaaGreatAit
import Derived.Test.YtlohbaoigfaneaaGreatAdl
import Derived.Test.YtlohbaoigfaneaaGreatLrw
namespace Go.Proofs.YtlohbaoigfaneaaGreat
open Go.RowKit
set_option linter.unusedVariables false
set_option linter.unusedSimpArgs false
def mTo (ys : List It) : Nat → List Int
 | 0 => [0, 0, 0, 0, 0, 0, 0, 0, 0]
 | i + 1 => mAd 0 (ys.getD i It.none).1 (mTo ys i)
def flatM (ys : List It) : Nat → List Value
 | 0 => []
 | i + 1 => flatM ys i ++ (mTo ys i).map (Value.int .i64)
end Go.Proofs.YtlohbaoigfaneaaGreat
