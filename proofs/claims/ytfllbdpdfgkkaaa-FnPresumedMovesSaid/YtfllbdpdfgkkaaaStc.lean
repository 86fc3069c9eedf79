/- Contracts of the laws' functions over lists of states: they compare, mark, look for marks. -/
import Derived.Test.YtfllbdpdfgkkaaaSt
import Derived.Test.YtfllbdpdfgkkaaaMark
import Derived.StillTailTactics
namespace Go.Proofs.Ytfllbdpdfgkkaaa
open Go.RowKit
set_option linter.unusedVariables false

end Go.Proofs.Ytfllbdpdfgkkaaa
