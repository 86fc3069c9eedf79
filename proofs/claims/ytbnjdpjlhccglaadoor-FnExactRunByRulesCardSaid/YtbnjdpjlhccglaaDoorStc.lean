/- Contracts of the laws' functions over lists of states: they compare, mark, look for marks. -/
import Derived.Test.YtbnjdpjlhccglaaDoorSt
import Derived.Test.YtbnjdpjlhccglaaDoorMark
import Derived.StillTailTactics
namespace Go.Proofs.YtbnjdpjlhccglaaDoor
open Go.RowKit
set_option linter.unusedVariables false

end Go.Proofs.YtbnjdpjlhccglaaDoor
