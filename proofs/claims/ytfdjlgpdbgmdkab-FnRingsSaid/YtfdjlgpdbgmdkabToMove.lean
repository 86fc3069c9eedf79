/- Contract: the law's copy of a move. -/
import Derived.Test.YtfdjlgpdbgmdkabEq
namespace Go.Proofs.Ytfdjlgpdbgmdkab
open Go.RowKit
set_option linter.unusedVariables false

end Go.Proofs.Ytfdjlgpdbgmdkab
