/- Contracts: words, by the specification's model and by the program. -/
import Derived.Test.YtfdjlgpdbgmdkaaState1
import Derived.Test.YtfdjlgpdbgmdkaaTo
namespace Go.Proofs.Ytfdjlgpdbgmdkaa
open Go.RowKit
set_option linter.unusedVariables false

end Go.Proofs.Ytfdjlgpdbgmdkaa
