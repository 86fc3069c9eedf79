/- Contracts: words, by the specification's model and by the program. -/
import Derived.Test.YtekakcpjfjmejaaState1
import Derived.Test.YtekakcpjfjmejaaTo
namespace Go.Proofs.Ytekakcpjfjmejaa
open Go.RowKit
set_option linter.unusedVariables false

end Go.Proofs.Ytekakcpjfjmejaa
