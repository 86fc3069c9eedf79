/- Contracts: the legal moves of a state as a function that is ranged over. -/
import Derived.Test.YtfllbdpdfgkkaaaMovesL
import Derived.Test.YtfllbdpdfgkkaaaIterW
import Derived.RangeFuncNested
import Derived.RangeFuncBox
import Derived.RangeFuncBound
import Derived.RangeFuncCalls
import Derived.RangeFuncLeaves
import Derived.Shelf.Abstract
import Derived.Shelf.RegionOpen
import Derived.OwnWalkIn
import Derived.TacticsInMore
import Derived.LoopNIn
import Derived.LoopIn
namespace Go.Proofs.Ytfllbdpdfgkkaaa
open Go.RowKit Go.Shelf
set_option linter.unusedVariables false
attribute [local go_sem] Oper.semAt_some

end Go.Proofs.Ytfllbdpdfgkkaaa
