/- Contracts: the goals of discs, and the distance to a peg. -/
import Derived.Test.YtglilhnmgfkfhaaCodeW
namespace Go.Proofs.Ytglilhnmgfkfhaa
open Go.RowKit
set_option linter.unusedVariables false

end Go.Proofs.Ytglilhnmgfkfhaa
