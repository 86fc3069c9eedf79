/- Contracts: what is a state, by the specification's model and by the program. -/
import Derived.Test.YtepjdoonopbijaaDoorState1
namespace Go.Proofs.YtepjdoonopbijaaDoor
open Go.RowKit
set_option linter.unusedVariables false

end Go.Proofs.YtepjdoonopbijaaDoor
