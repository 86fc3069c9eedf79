/- Contract: the law's copy of a move. -/
import Derived.Test.YtmpmkhfbfaicpaaEq
namespace Go.Proofs.Ytmpmkhfbfaicpaa
open Go.RowKit
set_option linter.unusedVariables false

end Go.Proofs.Ytmpmkhfbfaicpaa
