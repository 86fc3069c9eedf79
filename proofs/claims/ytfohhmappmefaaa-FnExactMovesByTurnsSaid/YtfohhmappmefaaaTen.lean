/- Contracts: the plain numbers of chapter 10. -/
import Derived.Test.YtfohhmappmefaaaTt
namespace Go.Proofs.Ytfohhmappmefaaa
open Go.RowKit
open Go.RowKit (wrap64)
set_option linter.unusedVariables false

/-- How many of the moves at 1 to t are those of the disc d. -/
def mvN (t d : Nat) : Nat := (t + 2 ^ d) / 2 ^ (d + 1)
/-- The peg of a disc behind q moves of it. -/
def pgN (d q : Nat) : Nat := if d % 2 = 0 then q % 3 else (2 * q) % 3
theorem pgN_lt (d q : Nat) : pgN d q < 3 := by unfold pgN; split <;> omega
theorem pgN_even {d q : Nat} (h : d % 2 = 0) : pgN d q = q % 3 := by unfold pgN; rw [if_pos h]
theorem pgN_odd {d q : Nat} (h : ¬ d % 2 = 0) : pgN d q = (2 * q) % 3 := by unfold pgN; rw [if_neg h]
theorem pow2_40 {d : Nat} (h : d ≤ 41) : 1 ≤ 2 ^ d ∧ 2 ^ d ≤ 2199023255552 := ⟨Nat.one_le_two_pow, Nat.le_trans (Nat.pow_le_pow_right (by omega) h) (by decide)⟩
theorem wrap_pow41 {d : Nat} (h : d ≤ 41) : wrap64 ((2 : Int) ^ d) = ((2 ^ d : Nat) : Int) := by
  have h0 := pow2_40 h
  have h1 : ((2 ^ d : Nat) : Int) = (2 : Int) ^ d := by simp
  rw [← h1]
  exact IntWalk.wrap64_in _ (by omega)
def cdB (t d : Int) : Bool := inB t 0 1000000000000 && inB d 0 40
def cdV (t d : Int) : Int := twoV (cdB t d) (mvN t.toNat d.toNat : Int)
def cdE (t d : Int) : Int := twoE (cdB t d)

end Go.Proofs.Ytfohhmappmefaaa
