/- Contracts: legal moves, by the specification's model and by the program. -/
import Derived.Test.YtfdjlgpdbgmdkacState1
import Derived.Test.YtfdjlgpdbgmdkacToMove
namespace Go.Proofs.Ytfdjlgpdbgmdkac
open Go.RowKit
set_option linter.unusedVariables false

/-- Whether a move is legal in a state. -/
def legalB (p : Int) (L : List Int) (d f t : Int) : Bool :=
  decide (0 ≤ d ∧ d < L.length ∧ 0 ≤ t ∧ t < p ∧ f ≠ t ∧ L.getD d.toNat 0 = f) && (List.range d.toNat).all (fun i => L.getD i 0 != f && L.getD i 0 != t)
def clearTo (L : List Int) (f t : Int) (k : Nat) : Prop := ∀ i, i < k → L.getD i 0 ≠ f ∧ L.getD i 0 ≠ t
theorem legal_yes {p : Int} {L : List Int} {d f t : Int} (h : 0 ≤ d ∧ d < L.length ∧ 0 ≤ t ∧ t < p ∧ f ≠ t ∧ L.getD d.toNat 0 = f) (hc : clearTo L f t d.toNat) : legalB p L d f t = true := by
  unfold legalB
  rw [Bool.and_eq_true, decide_eq_true_iff, List.all_eq_true]
  refine ⟨h, fun i hi => ?_⟩
  have := hc i (by simpa using hi)
  simp only [Bool.and_eq_true, bne_iff_ne]
  exact this
theorem legal_no {p : Int} {L : List Int} {d f t : Int} (h : ¬ (0 ≤ d ∧ d < L.length ∧ 0 ≤ t ∧ t < p ∧ f ≠ t ∧ L.getD d.toNat 0 = f)) : legalB p L d f t = false := by
  unfold legalB
  rw [Bool.and_eq_false_iff, decide_eq_false_iff_not]
  exact .inl h
theorem legal_no2 {p : Int} {L : List Int} {d f t : Int} {i : Nat} (hi : i < d.toNat) (h : L.getD i 0 = f ∨ L.getD i 0 = t) : legalB p L d f t = false := by
  unfold legalB
  rw [Bool.and_eq_false_iff, List.all_eq_false]
  right
  refine ⟨i, by simpa using hi, ?_⟩
  simp only [Bool.and_eq_true, bne_iff_ne]
  rintro ⟨h1, h2⟩
  rcases h with h | h
  · exact h1 h
  · exact h2 h
theorem ret_legal {p : Int} {L : List Int} {d f t : Int} {b : Bool} (h : legalB p L d f t = b) : Ending.returned (.bool b) = .returned (.bool (legalB p L d f t)) := by rw [h]

/-- What IsLegal answers. -/
def islV (p : Int) (L : List Int) (d f t : Int) : Bool := stateB p L && legalB p L d f t
theorem ret_bc {a b : Bool} {x y : Int} (h : a = b) (h' : x = y) : Ending.returned (.tuple #[.bool b, .int .i64 y]) = .returned (.tuple #[.bool a, .int .i64 x]) := by rw [h, h']

end Go.Proofs.Ytfdjlgpdbgmdkac
