/- Contracts: the list of the legal moves, by the specification's model. -/
import Derived.Test.YtfllbdpdfgkkaaaMovesL
import Derived.Test.YtfllbdpdfgkkaaaMvS
namespace Go.Proofs.Ytfllbdpdfgkkaaa
open Go.RowKit
set_option linter.unusedVariables false

end Go.Proofs.Ytfllbdpdfgkkaaa
