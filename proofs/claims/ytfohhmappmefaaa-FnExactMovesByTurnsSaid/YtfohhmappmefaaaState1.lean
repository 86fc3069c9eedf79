/- Contracts: what is a state, by the specification's model and by the program. -/
import Derived.Test.YtfohhmappmefaaaEq
import Derived.Test.YtfohhmappmefaaaNum
namespace Go.Proofs.Ytfohhmappmefaaa
open Go.RowKit
set_option linter.unusedVariables false

theorem l01In_calls (a lo hi : Int) (w : World) :
    Calls Try.prog 13 #[.int .i64 a, .int .i64 lo, .int .i64 hi] w fun e w' => e = .returned (.bool (inB a lo hi)) ∧ w = w' := by
  by_cases h1 : lo ≤ a
  · by_cases h2 : a ≤ hi
    · go_enter Try.func13, Try.ntmps13
      go_wp2
      go_ret
      exact ⟨ret_in (by simp; omega), rfl⟩
    · go_enter Try.func13, Try.ntmps13
      go_wp2
      go_ret
      exact ⟨ret_in (by simp; omega), rfl⟩
  · go_enter Try.func13, Try.ntmps13
    go_wp2
    go_ret
    exact ⟨ret_in (by simp; omega), rfl⟩

theorem isPeg_calls (k peg : Int) (w : World) :
    Calls Try.prog 29 #[.int .i64 k, .int .i64 peg] w fun e w' => e = .returned (.bool (pegB k peg)) ∧ w = w' := by
  by_cases h1 : 0 ≤ peg
  · by_cases h2 : peg < k
    · go_enter Try.func29, Try.ntmps29
      go_wp2
      go_ret
      exact ⟨ret_peg (by simp; omega), rfl⟩
    · go_enter Try.func29, Try.ntmps29
      go_wp2
      go_ret
      exact ⟨ret_peg (by simp; omega), rfl⟩
  · go_enter Try.func29, Try.ntmps29
    go_wp2
    go_ret
    exact ⟨ret_peg (by simp; omega), rfl⟩

end Go.Proofs.Ytfohhmappmefaaa
