/- Contracts: powers of two: how many words of rings there are. -/
import Derived.Test.YtfohhmappmefaaaState1
namespace Go.Proofs.Ytfohhmappmefaaa
open Go.RowKit
set_option linter.unusedVariables false

theorem pow2n16 {n : Nat} (h : n ≤ 16) : 1 ≤ 2 ^ n ∧ 2 ^ n ≤ 65536 :=
  ⟨Nat.one_le_two_pow, Nat.le_trans (Nat.pow_le_pow_right (by omega) h) (by decide)⟩

theorem wrap_pow {n : Nat} (h : n ≤ 16) : wrap64 ((2 : Int) ^ n) = ((2 ^ n : Nat) : Int) := by
  have h0 := pow2n16 h
  have h1 : ((2 ^ n : Nat) : Int) = (2 : Int) ^ n := by simp
  rw [← h1]
  exact IntWalk.wrap64_in _ (by omega)
set_option maxHeartbeats 400000 in

theorem ret_nb {a b : Int} {x : Bool} (h : a = b) : Ending.returned (.tuple #[.int .i64 a, .bool x]) = .returned (.tuple #[.int .i64 b, .bool x]) := by rw [h]

end Go.Proofs.Ytfohhmappmefaaa
