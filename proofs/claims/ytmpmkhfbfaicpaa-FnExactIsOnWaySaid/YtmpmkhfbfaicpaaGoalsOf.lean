/- Contracts: GoalsOf, by the specification's model and by the program. -/
import Derived.Test.YtmpmkhfbfaicpaaDist
import Derived.Test.YtmpmkhfbfaicpaaMark
namespace Go.Proofs.Ytmpmkhfbfaicpaa
open Go.RowKit
set_option linter.unusedVariables false

def goE (p : Int) (L : List Int) (a : Int) : Int := codeW p L a
def goL (p : Int) (L : List Int) (a : Int) : List Int := if codeW p L a = 0 then goalsL L a else []
theorem goL_len (p : Int) (L : List Int) (a : Int) (h : L.length ≤ 1048576) : (goL p L a).length ≤ 1048576 := by
  unfold goL
  split
  · rw [goalsL_len]; exact h
  · simp

end Go.Proofs.Ytmpmkhfbfaicpaa
