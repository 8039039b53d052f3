import Derived.Test.YtbbehmcekbnkiaaGreatPalt
namespace Go.Proofs.YtbbehmcekbnkiaaGreat
open Go.RowKit
set_option linter.unusedVariables false
set_option linter.unusedSimpArgs false
end Go.Proofs.YtbbehmcekbnkiaaGreat
