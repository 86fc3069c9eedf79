/- Contract: the law's copy of a move. -/
import Derived.Test.YtfdjlgpdbgmdkaaEq
namespace Go.Proofs.Ytfdjlgpdbgmdkaa
open Go.RowKit
set_option linter.unusedVariables false

end Go.Proofs.Ytfdjlgpdbgmdkaa
