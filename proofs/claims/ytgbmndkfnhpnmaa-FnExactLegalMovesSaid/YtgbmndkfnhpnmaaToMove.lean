/- Contract: the law's copy of a move. -/
import Derived.Test.YtgbmndkfnhpnmaaEq
namespace Go.Proofs.Ytgbmndkfnhpnmaa
open Go.RowKit
set_option linter.unusedVariables false

end Go.Proofs.Ytgbmndkfnhpnmaa
