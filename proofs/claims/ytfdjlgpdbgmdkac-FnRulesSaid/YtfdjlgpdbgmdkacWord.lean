/- Contracts: words, by the specification's model and by the program. -/
import Derived.Test.YtfdjlgpdbgmdkacState1
import Derived.Test.YtfdjlgpdbgmdkacTo
namespace Go.Proofs.Ytfdjlgpdbgmdkac
open Go.RowKit
set_option linter.unusedVariables false

end Go.Proofs.Ytfdjlgpdbgmdkac
