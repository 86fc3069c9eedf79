/- Contracts: the list of the legal moves, by the specification's model. -/
import Derived.Test.YtfdjlgpdbgmdkaaMovesL
import Derived.Test.YtfdjlgpdbgmdkaaMvS
namespace Go.Proofs.Ytfdjlgpdbgmdkaa
open Go.RowKit
set_option linter.unusedVariables false

end Go.Proofs.Ytfdjlgpdbgmdkaa
