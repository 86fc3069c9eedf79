/- Contracts: the code of rules. -/
import Derived.Test.YtbcgoboeeigcgaaRuIs
namespace Go.Proofs.Ytbcgoboeeigcgaa
open Go.RowKit
set_option linter.unusedVariables false

/-- The code of rules. -/
def cR (r : Nat → Int) : Int := if ruB r = true then 0 else 1
theorem cR_yes {r : Nat → Int} (h : ruB r = true) : cR r = 0 := by unfold cR; rw [if_pos h]
theorem cR_no {r : Nat → Int} (h : ruB r = false) : cR r = 1 := by unfold cR; rw [h]; rfl

end Go.Proofs.Ytbcgoboeeigcgaa
