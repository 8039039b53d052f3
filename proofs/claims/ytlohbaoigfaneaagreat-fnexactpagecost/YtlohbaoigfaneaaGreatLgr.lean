import Derived.Test.YtlohbaoigfaneaaGreatDpu
import Derived.Test.YtlohbaoigfaneaaGreatLmp
import Derived.Deep.RegionHeld3
namespace Go.Proofs.YtlohbaoigfaneaaGreat
open Go.RowKit
set_option linter.unusedVariables false
set_option linter.unusedSimpArgs false
end Go.Proofs.YtlohbaoigfaneaaGreat
