/- Contract: the law's copy of a move. -/
import Derived.Test.YtcicjnpnhaddcaaDoorEq
namespace Go.Proofs.YtcicjnpnhaddcaaDoor
open Go.RowKit
set_option linter.unusedVariables false

end Go.Proofs.YtcicjnpnhaddcaaDoor
