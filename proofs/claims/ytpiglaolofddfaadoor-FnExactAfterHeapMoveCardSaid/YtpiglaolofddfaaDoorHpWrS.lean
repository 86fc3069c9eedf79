/- Contracts of the specification: wrong pairs, regular heaps. -/
import Derived.Test.YtpiglaolofddfaaDoorHpWr
import Derived.Test.YtpiglaolofddfaaDoorHpSpec
import Derived.BigQuiet
namespace Go.Proofs.YtpiglaolofddfaaDoor
open Go.RowKit
set_option linter.unusedVariables false

/-- Regular: a heap with no wrong pair. -/
def regV (LL : List (List Int)) : Bool := heapB LL && decide (wrongs LL = 0)
def wrongV (LL : List (List Int)) : Int := if heapB LL = true then (wrongs LL : Int) else 0

theorem reg_yes {LL : List (List Int)} (h : heapB LL = true) : regV LL = decide (wrongs LL = 0) ∧ wrongV LL = wrongs LL := ⟨by unfold regV; rw [h]; rfl, by unfold wrongV; rw [if_pos h]⟩
theorem reg_no {LL : List (List Int)} (h : heapB LL = false) : regV LL = false ∧ wrongV LL = 0 := ⟨by unfold regV; rw [h]; rfl, by unfold wrongV; rw [h]; rfl⟩
theorem wrongs_bound {LL : List (List Int)} (h : heapB LL = true) : wrongs LL ≤ 48 := by
  have h3 := (heapB_facts h).1
  have := wrongs_le h 3 (Nat.le_refl _)
  unfold wrongs
  rw [h3]
  omega

end Go.Proofs.YtpiglaolofddfaaDoor
