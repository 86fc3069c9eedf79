/- Contracts: the distance to a peg. -/
import Derived.Test.YthbglllboppgaaaGoals
namespace Go.Proofs.Ythbglllboppgaaa
open Go.RowKit
open Go.RowKit (wrap64)
set_option linter.unusedVariables false

/-- 1 shifted to the left, as the walk writes it, is a power of 2. -/
theorem shl_pow {k : Nat} (hk : k < 9) : wrap64 ((2 : Int) ^ k) = pow2 k := by
  have e : (2 : Int) ^ k = pow2 k := by unfold pow2; simp
  have hb := pow2_bd (k := k) (by omega)
  rw [e]
  exact IntWalk.wrap64_in _ (by omega)

end Go.Proofs.Ythbglllboppgaaa
