/- Contract: the law's copy of a move. -/
import Derived.Test.YtfllbdpdfgkkaaaEq
namespace Go.Proofs.Ytfllbdpdfgkkaaa
open Go.RowKit
set_option linter.unusedVariables false

end Go.Proofs.Ytfllbdpdfgkkaaa
