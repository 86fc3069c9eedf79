/- Contracts: the code of one state and of two states of three pegs. -/
import Derived.Test.YtpiglaolofddfaaDoorState1
import Derived.Test.YtpiglaolofddfaaDoorWays
import Derived.Deep.DeepCutAuto
namespace Go.Proofs.YtpiglaolofddfaaDoor
open Go.RowKit
set_option linter.unusedVariables false

theorem ret_int' {a b : Int} (h : b = a) : Ending.returned (.int .i64 a) = .returned (.int .i64 b) := by rw [h]

end Go.Proofs.YtpiglaolofddfaaDoor
