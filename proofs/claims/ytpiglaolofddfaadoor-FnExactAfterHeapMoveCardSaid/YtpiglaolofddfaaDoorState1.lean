/- Contracts: what is a state, by the specification's model and by the program. -/
import Derived.Test.YtpiglaolofddfaaDoorEq
import Derived.Test.YtpiglaolofddfaaDoorNum
namespace Go.Proofs.YtpiglaolofddfaaDoor
open Go.RowKit
set_option linter.unusedVariables false

theorem l01In_calls (a lo hi : Int) (w : World) :
    Calls Tryd.prog 34 #[.int .i64 a, .int .i64 lo, .int .i64 hi] w fun e w' => e = .returned (.bool (inB a lo hi)) ∧ w = w' := by
  by_cases h1 : lo ≤ a
  · by_cases h2 : a ≤ hi
    · go_enter Tryd.func34, Tryd.ntmps34
      go_wp2
      go_ret
      exact ⟨ret_in (by simp; omega), rfl⟩
    · go_enter Tryd.func34, Tryd.ntmps34
      go_wp2
      go_ret
      exact ⟨ret_in (by simp; omega), rfl⟩
  · go_enter Tryd.func34, Tryd.ntmps34
    go_wp2
    go_ret
    exact ⟨ret_in (by simp; omega), rfl⟩

end Go.Proofs.YtpiglaolofddfaaDoor
