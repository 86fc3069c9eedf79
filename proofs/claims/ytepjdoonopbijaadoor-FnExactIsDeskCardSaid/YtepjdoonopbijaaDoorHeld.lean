/- Contract: a state whose list holds the numbers. -/
import Derived.Test.YtepjdoonopbijaaDoorMark
namespace Go.Proofs.YtepjdoonopbijaaDoor
open Go.RowKit
set_option linter.unusedVariables false

end Go.Proofs.YtepjdoonopbijaaDoor
