/- Contract: the law's copy of a move. -/
import Derived.Test.YtdgmlgdijdehjaaEq
namespace Go.Proofs.Ytdgmlgdijdehjaa
open Go.RowKit
set_option linter.unusedVariables false

end Go.Proofs.Ytdgmlgdijdehjaa
