/- Contracts: the goals of discs, and the distance to a peg. -/
import Derived.Test.YtbcgoboeeigcgaaCodeW
namespace Go.Proofs.Ytbcgoboeeigcgaa
open Go.RowKit
set_option linter.unusedVariables false

theorem thirdPeg_calls (a b : Int) (w : World) (ha : 0 ≤ a ∧ a ≤ 2) (hb : 0 ≤ b ∧ b ≤ 2) :
    Calls Try.prog 45 #[.int .i64 a, .int .i64 b] w fun e w' => e = .returned (.int .i64 (3 - a - b)) ∧ w = w' := by
  go_enter Try.func45, Try.ntmps45
  go_wp2
  go_ret
  exact ⟨rfl, rfl⟩

end Go.Proofs.Ytbcgoboeeigcgaa
