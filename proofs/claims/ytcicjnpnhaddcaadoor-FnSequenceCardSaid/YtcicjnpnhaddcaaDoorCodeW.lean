/- Contracts: the code of a state and a peg; the goals and the distance to a peg. -/
import Derived.Test.YtcicjnpnhaddcaaDoorCode
namespace Go.Proofs.YtcicjnpnhaddcaaDoor
open Go.RowKit
set_option linter.unusedVariables false

end Go.Proofs.YtcicjnpnhaddcaaDoor
