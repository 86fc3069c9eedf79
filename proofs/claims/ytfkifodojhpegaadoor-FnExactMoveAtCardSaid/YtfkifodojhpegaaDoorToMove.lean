/- Contract: the law's copy of a move. -/
import Derived.Test.YtfkifodojhpegaaDoorEq
namespace Go.Proofs.YtfkifodojhpegaaDoor
open Go.RowKit
set_option linter.unusedVariables false

end Go.Proofs.YtfkifodojhpegaaDoor
