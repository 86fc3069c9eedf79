/- Contracts of the laws' functions over lists of states: they compare, mark, look for marks. -/
import Derived.Test.YtglilhnmgfkfhaaSt
import Derived.Test.YtglilhnmgfkfhaaMark
import Derived.StillTailTactics
namespace Go.Proofs.Ytglilhnmgfkfhaa
open Go.RowKit
set_option linter.unusedVariables false

end Go.Proofs.Ytglilhnmgfkfhaa
