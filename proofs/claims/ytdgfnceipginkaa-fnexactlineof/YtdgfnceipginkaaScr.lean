/-
  A stack that is to become pages: the program.
-/
import Derived.Test.YtdgfnceipginkaaItx
import Derived.OwnWalk
import Derived.Laws.OwnMore
import Derived.RangeFuncNested
import Derived.RangeFuncBound
import Derived.RangeFuncCalls
import Derived.RangeFuncLeaves
import Derived.Shelf.Abstract
import Derived.Shelf.RegionOpen
import Derived.WalkKit
import Derived.OwnWalkIn
import Derived.TacticsInMore
import Derived.LoopNIn
import Derived.LoopIn
import Derived.Maps.AppendAt
import Derived.Test.YtdgfnceipginkaaIts
import Derived.Test.YtdgfnceipginkaaItf
import Derived.Test.YtdgfnceipginkaaLok
import Derived.Test.YtdgfnceipginkaaCol
import Derived.Deep.RegionWith
import Derived.Deep.RegionHeld3
namespace Go.Proofs.Ytdgfnceipginkaa
open Go.RowKit
set_option linter.unusedVariables false
set_option linter.unusedSimpArgs false

end Go.Proofs.Ytdgfnceipginkaa
namespace Go.Proofs.Ytdgfnceipginkaa
open Go.RowKit Go.Shelf
set_option linter.unusedVariables false
set_option linter.unusedSimpArgs false
attribute [local go_sem] Oper.semAt_some


end Go.Proofs.Ytdgfnceipginkaa
