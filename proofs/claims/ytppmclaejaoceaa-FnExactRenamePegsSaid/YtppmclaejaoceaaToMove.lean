/- Contract: the law's copy of a move. -/
import Derived.Test.YtppmclaejaoceaaEq
namespace Go.Proofs.Ytppmclaejaoceaa
open Go.RowKit
set_option linter.unusedVariables false

end Go.Proofs.Ytppmclaejaoceaa
