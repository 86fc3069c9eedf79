/- Contract: a state whose list holds the numbers. -/
import Derived.Test.YtfdjlgpdbgmdkaaMark
namespace Go.Proofs.Ytfdjlgpdbgmdkaa
open Go.RowKit
set_option linter.unusedVariables false

end Go.Proofs.Ytfdjlgpdbgmdkaa
