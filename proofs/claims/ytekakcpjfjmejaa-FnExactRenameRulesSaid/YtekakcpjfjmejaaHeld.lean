/- Contract: a state whose list holds the numbers. -/
import Derived.Test.YtekakcpjfjmejaaMark
namespace Go.Proofs.Ytekakcpjfjmejaa
open Go.RowKit
set_option linter.unusedVariables false

end Go.Proofs.Ytekakcpjfjmejaa
