/- Contract: a state whose list holds the numbers. -/
import Derived.Test.YtfdjlgpdbgmdkacMark
namespace Go.Proofs.Ytfdjlgpdbgmdkac
open Go.RowKit
set_option linter.unusedVariables false

end Go.Proofs.Ytfdjlgpdbgmdkac
