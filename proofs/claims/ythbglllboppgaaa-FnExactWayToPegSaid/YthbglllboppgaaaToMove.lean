/- Contract: the law's copy of a move. -/
import Derived.Test.YthbglllboppgaaaEq
namespace Go.Proofs.Ythbglllboppgaaa
open Go.RowKit
set_option linter.unusedVariables false

end Go.Proofs.Ythbglllboppgaaa
