/- Contracts: words, by the specification's model and by the program. -/
import Derived.Test.YtppmclaejaoceaaState1
import Derived.Test.YtppmclaejaoceaaTo
namespace Go.Proofs.Ytppmclaejaoceaa
open Go.RowKit
set_option linter.unusedVariables false

end Go.Proofs.Ytppmclaejaoceaa
