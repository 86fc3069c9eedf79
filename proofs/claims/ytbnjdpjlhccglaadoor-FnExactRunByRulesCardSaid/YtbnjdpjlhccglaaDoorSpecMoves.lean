/- Contracts: the list of the legal moves, by the specification's model. -/
import Derived.Test.YtbnjdpjlhccglaaDoorMovesL
import Derived.Test.YtbnjdpjlhccglaaDoorMvS
namespace Go.Proofs.YtbnjdpjlhccglaaDoor
open Go.RowKit
set_option linter.unusedVariables false

end Go.Proofs.YtbnjdpjlhccglaaDoor
