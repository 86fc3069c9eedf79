/- Contract: the law's copy of a move. -/
import Derived.Test.YtbcgoboeeigcgaaEq
namespace Go.Proofs.Ytbcgoboeeigcgaa
open Go.RowKit
set_option linter.unusedVariables false

end Go.Proofs.Ytbcgoboeeigcgaa
