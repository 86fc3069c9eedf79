/- Contract: the law's copy of a move. -/
import Derived.Test.YtfohhmappmefaaaEq
namespace Go.Proofs.Ytfohhmappmefaaa
open Go.RowKit
set_option linter.unusedVariables false

end Go.Proofs.Ytfohhmappmefaaa
