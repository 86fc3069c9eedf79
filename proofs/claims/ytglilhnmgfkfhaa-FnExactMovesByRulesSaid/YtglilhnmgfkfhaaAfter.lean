/- Contracts: the state after a move. -/
import Derived.Test.YtglilhnmgfkfhaaDone
namespace Go.Proofs.Ytglilhnmgfkfhaa
open Go.RowKit
set_option linter.unusedVariables false

/-- What AfterMove answers. -/
def aftB (p : Int) (L : List Int) (d f t : Int) : Bool := stateB p L && legalB p L d f t
def aftP (p : Int) (L : List Int) (d f t : Int) : Int := if aftB p L d f t = true then p else 0
def aftL (p : Int) (L : List Int) (d f t : Int) : List Int := if aftB p L d f t = true then L.set d.toNat t else []
def aftE (p : Int) (L : List Int) (d f t : Int) : Int := if stateB p L = true then (if legalB p L d f t = true then 0 else 5) else 1
theorem aft_yes {p : Int} {L : List Int} {d f t : Int} (h : stateB p L = true) (h' : legalB p L d f t = true) : aftP p L d f t = p ∧ aftL p L d f t = L.set d.toNat t ∧ aftE p L d f t = 0 := by unfold aftP aftL aftE aftB; simp [h, h']
theorem aft_no2 {p : Int} {L : List Int} {d f t : Int} (h : stateB p L = true) (h' : legalB p L d f t = false) : aftP p L d f t = 0 ∧ aftL p L d f t = [] ∧ aftE p L d f t = 5 := by unfold aftP aftL aftE aftB; simp [h, h']
theorem aft_no1 {p : Int} {L : List Int} {d f t : Int} (h : stateB p L = false) : aftP p L d f t = 0 ∧ aftL p L d f t = [] ∧ aftE p L d f t = 1 := by unfold aftP aftL aftE aftB; simp [h]
theorem legal_d {p : Int} {L : List Int} {d f t : Int} (h : legalB p L d f t = true) : 0 ≤ d ∧ d < L.length := by
  unfold legalB at h
  simp only [Bool.and_eq_true, decide_eq_true_iff] at h
  exact ⟨h.1.1, h.1.2.1⟩

end Go.Proofs.Ytglilhnmgfkfhaa
