/- Contract: the law's copy of a move. -/
import Derived.Test.YteokldpodaknpaaEq
namespace Go.Proofs.Yteokldpodaknpaa
open Go.RowKit
set_option linter.unusedVariables false

end Go.Proofs.Yteokldpodaknpaa
