/- Contracts: what is a state, by the specification's model and by the program. -/
import Derived.Test.YtepjdoonopbijaaEq
import Derived.Test.YtepjdoonopbijaaNum
namespace Go.Proofs.Ytepjdoonopbijaa
open Go.RowKit
set_option linter.unusedVariables false

end Go.Proofs.Ytepjdoonopbijaa
