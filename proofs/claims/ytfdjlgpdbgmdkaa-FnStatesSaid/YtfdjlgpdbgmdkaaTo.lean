/- Contracts: the law's copies and sizes. -/
import Derived.Test.YtfdjlgpdbgmdkaaEq
namespace Go.Proofs.Ytfdjlgpdbgmdkaa
open Go.RowKit
set_option linter.unusedVariables false

theorem szI_lo (n : Nat) (left : Int) (h0 : 0 ≤ left) : -1 ≤ szI n left := by unfold szI; omega
theorem szI_hi (n : Nat) (left : Int) (h0 : 0 ≤ left) : szI n left ≤ left := by unfold szI; omega

end Go.Proofs.Ytfdjlgpdbgmdkaa
