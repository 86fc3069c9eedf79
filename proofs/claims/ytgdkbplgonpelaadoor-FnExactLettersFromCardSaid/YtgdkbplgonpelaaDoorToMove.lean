/- Contract: the law's copy of a move. -/
import Derived.Test.YtgdkbplgonpelaaDoorEq
namespace Go.Proofs.YtgdkbplgonpelaaDoor
open Go.RowKit
set_option linter.unusedVariables false

end Go.Proofs.YtgdkbplgonpelaaDoor
