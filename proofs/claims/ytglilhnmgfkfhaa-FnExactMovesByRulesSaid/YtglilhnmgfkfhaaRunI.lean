/- Contracts: the states of a run, by the program; both sides of StatesOfRun. -/
import Derived.Test.YtglilhnmgfkfhaaRunS
namespace Go.Proofs.Ytglilhnmgfkfhaa
open Go.RowKit Go.Shelf
set_option linter.unusedVariables false

end Go.Proofs.Ytglilhnmgfkfhaa
