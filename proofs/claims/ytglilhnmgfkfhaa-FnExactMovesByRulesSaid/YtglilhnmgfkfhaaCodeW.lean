/- Contracts: the code of a state and a peg; the goals and the distance to a peg. -/
import Derived.Test.YtglilhnmgfkfhaaCode
namespace Go.Proofs.Ytglilhnmgfkfhaa
open Go.RowKit
set_option linter.unusedVariables false

end Go.Proofs.Ytglilhnmgfkfhaa
