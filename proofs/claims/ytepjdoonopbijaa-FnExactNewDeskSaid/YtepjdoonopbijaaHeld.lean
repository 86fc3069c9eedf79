/- Contract: a state whose list holds the numbers. -/
import Derived.Test.YtepjdoonopbijaaMark
namespace Go.Proofs.Ytepjdoonopbijaa
open Go.RowKit
set_option linter.unusedVariables false

theorem heldState_calls (A : Option Addr) (n c : Nat) (p : Int) (k : Int) (w : World) (hI : Ints w A (iotaL k n)) (hn : n ≤ 1048576) (hk0 : 0 ≤ k) (hk1 : k ≤ 1000000000000) :
    Calls Try.prog 15 #[.agg #[.int .i64 p, .slice A n c], .int .i64 k] w fun e w' => e = .returned (.int .i64 (k + n)) ∧ Below w.heap.size w w' := by
  go_enter Try.func15, Try.ntmps15
  go_wp2_with fail
  refine (heldInt64S_calls A n c k _ (hI.below ((Below.refl _ _).alloc (Nat.le_refl _) _)) hn hk0 hk1).mono ?_
  rintro e w1 ⟨rfl, m, rfl⟩
  go_wp2
  go_ret
  exact ⟨rfl, belowDraws ((Below.refl _ _).alloc (Nat.le_refl _) _) m⟩

end Go.Proofs.Ytepjdoonopbijaa
