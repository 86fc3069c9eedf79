/- Contracts: the state at a time. -/
import Derived.Test.YtfohhmappmefaaaTen
import Derived.Test.YtfohhmappmefaaaPerfect
import Derived.Deep.AppendLies
import Derived.Deep.RegionLaw
import Derived.StillTailTactics
namespace Go.Proofs.Ytfohhmappmefaaa
open Go.RowKit
open Go.RowKit (wrap64)
set_option linter.unusedVariables false

/-- The pegs of the discs at t. -/
def atL (t : Nat) : Nat → List Int
  | 0 => []
  | j + 1 => atL t j ++ [(pgN j (mvN t j) : Int)]
theorem atL_len (t : Nat) : ∀ j, (atL t j).length = j
  | 0 => rfl
  | j + 1 => by simp [atL, atL_len t j]
theorem atL_at (t : Nat) {j : Nat} : ∀ m, j < m → (atL t m)[j]?.getD 0 = (pgN j (mvN t j) : Int)
  | 0, h => absurd h (by omega)
  | m + 1, h => by
    have hl := atL_len t m
    unfold atL
    by_cases hj : j < m
    · rw [List.getElem?_append_left (by omega)]
      exact atL_at t m hj
    · obtain rfl : j = m := by omega
      rw [List.getElem?_append_right (by omega), hl]
      simp
theorem mvN_le {t d : Nat} (h : t ≤ 1024) : mvN t d ≤ 1025 := by
  unfold mvN
  have h1 : (t + 2 ^ d) / 2 ^ (d + 1) ≤ (t + 2 ^ (d + 1)) / 2 ^ (d + 1) := Nat.div_le_div_right (by rw [Nat.pow_succ]; omega)
  rw [Nat.add_div_right _ (Nat.two_pow_pos _)] at h1
  have h2 := Nat.div_le_self t (2 ^ (d + 1))
  omega

def staB (t n : Int) : Bool := inB n 0 8 && inB t 0 (((2 ^ n.toNat : Nat) : Int) - 1)
def staP (t n : Int) : Int := if staB t n = true then 3 else 0
def staL (t n : Int) : List Int := if staB t n = true then atL t.toNat n.toNat else []
def staE (t n : Int) : Int := if staB t n = true then 0 else 2
theorem sta_yes {t n : Int} (h : staB t n = true) : staP t n = 3 ∧ staL t n = atL t.toNat n.toNat ∧ staE t n = 0 := by unfold staP staL staE; simp [h]
theorem sta_no {t n : Int} (h : staB t n = false) : staP t n = 0 ∧ staL t n = [] ∧ staE t n = 2 := by unfold staP staL staE; simp [h]
theorem staL_len (t n : Int) : (staL t n).length ≤ 8 := by
  unfold staL
  by_cases h : staB t n = true
  · rw [if_pos h, atL_len]
    unfold staB at h
    simp only [Bool.and_eq_true] at h
    have := inB_of h.1
    omega
  · rw [if_neg h]; simp

end Go.Proofs.Ytfohhmappmefaaa
