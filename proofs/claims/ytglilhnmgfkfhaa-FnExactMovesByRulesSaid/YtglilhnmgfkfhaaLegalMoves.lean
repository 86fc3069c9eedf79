/- Contracts: LegalMoves, by the specification's model and by the program. -/
import Derived.Test.YtglilhnmgfkfhaaIter
import Derived.Test.YtglilhnmgfkfhaaSpecMoves
import Derived.RangeFuncBox
namespace Go.Proofs.Ytglilhnmgfkfhaa
open Go.RowKit Go.Shelf
set_option linter.unusedVariables false
attribute [local go_sem] Oper.semAt_some


/-- What LegalMoves answers. -/
def lmL (p : Int) (L : List Int) : List Mv := if stateB p L = true then movesL p L else []
theorem lmL_yes {p : Int} {L : List Int} (h : stateB p L = true) : lmL p L = movesL p L := by unfold lmL; rw [if_pos h]
theorem lmL_no {p : Int} {L : List Int} (h : stateB p L = false) : lmL p L = [] := by unfold lmL; rw [h]; rfl
theorem lmL_len (p : Int) (L : List Int) : (lmL p L).length ≤ 1048576 := by
  by_cases h : stateB p L = true
  · rw [lmL_yes h]; have := movesL_len h; omega
  · rw [lmL_no (by simpa using h)]; simp

end Go.Proofs.Ytglilhnmgfkfhaa
