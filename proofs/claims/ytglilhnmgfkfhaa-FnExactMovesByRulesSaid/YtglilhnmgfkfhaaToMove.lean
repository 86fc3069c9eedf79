/- Contract: the law's copy of a move. -/
import Derived.Test.YtglilhnmgfkfhaaEq
namespace Go.Proofs.Ytglilhnmgfkfhaa
open Go.RowKit
set_option linter.unusedVariables false

end Go.Proofs.Ytglilhnmgfkfhaa
