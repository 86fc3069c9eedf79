/- Contracts: the code of a state and a peg; the goals and the distance to a peg. -/
import Derived.Test.YtfkifodojhpegaaCode
namespace Go.Proofs.Ytfkifodojhpegaa
open Go.RowKit
set_option linter.unusedVariables false

end Go.Proofs.Ytfkifodojhpegaa
