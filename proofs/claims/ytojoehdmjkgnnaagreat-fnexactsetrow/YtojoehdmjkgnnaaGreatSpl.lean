import Derived.Test.YtojoehdmjkgnnaaGreatSts
import Derived.Maps.AppendAt
import Derived.OwnWalk
namespace Go.Proofs.YtojoehdmjkgnnaaGreat
open Go.RowKit
set_option linter.unusedVariables false
set_option linter.unusedSimpArgs false
theorem Tryz.info3b : (Tryz.prog.info? 3).map (fun i => (i.zero, i.size, i.bytes)) = some (some (.int .i64 0), 1, 8) := by kernel_rfl
def sliceLenB : Value → Nat
 | .slice _ n _ => n
 | _ => 0
end Go.Proofs.YtojoehdmjkgnnaaGreat
