/- Contract: the law's copy of a move. -/
import Derived.Test.YtbfajhjlnllamaaEq
namespace Go.Proofs.Ytbfajhjlnllamaa
open Go.RowKit
set_option linter.unusedVariables false

end Go.Proofs.Ytbfajhjlnllamaa
