/- Contract: the law's copy of a move. -/
import Derived.Test.YtfdjlgpdbgmdkacEq
namespace Go.Proofs.Ytfdjlgpdbgmdkac
open Go.RowKit
set_option linter.unusedVariables false

end Go.Proofs.Ytfdjlgpdbgmdkac
