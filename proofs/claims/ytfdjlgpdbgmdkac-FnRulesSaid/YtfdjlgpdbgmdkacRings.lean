/- Contracts: words of rings, by the specification's model and by the program. -/
import Derived.Test.YtfdjlgpdbgmdkacState1
import Derived.Test.YtfdjlgpdbgmdkacTo
namespace Go.Proofs.Ytfdjlgpdbgmdkac
open Go.RowKit
set_option linter.unusedVariables false

def rgB (L : List Int) : Bool := L.all (fun x => inB x 0 1) && decide (L.length ≤ 16)
/-- All of the first k are nought or one. -/
def bitsTo (L : List Int) (k : Nat) : Prop := ∀ j, j < k → inB (L.getD j 0) 0 1 = true
theorem bits_all {L : List Int} (h : bitsTo L L.length) : L.all (fun x => inB x 0 1) = true := by
  rw [List.all_eq_true]
  intro x hx
  obtain ⟨i, hi, rfl⟩ := List.getElem_of_mem hx
  have := h i hi
  rwa [List.getD_eq_getElem?_getD, List.getElem?_eq_getElem hi] at this
theorem rgB_no {L : List Int} {k : Nat} (hk : k < L.length) (h : inB (L.getD k 0) 0 1 = false) : rgB L = false := by
  unfold rgB
  rw [Bool.and_eq_false_iff]
  left
  rw [List.all_eq_false]
  refine ⟨L[k], List.getElem_mem hk, ?_⟩
  rw [List.getD_eq_getElem?_getD, List.getElem?_eq_getElem hk] at h
  simpa using h
theorem rgB_all {L : List Int} (h : bitsTo L L.length) : rgB L = decide (L.length ≤ 16) := by
  unfold rgB
  rw [bits_all h, Bool.true_and]
theorem rgB_long {L : List Int} (h : ¬ L.length ≤ 16) : rgB L = false := by
  unfold rgB
  rw [Bool.and_eq_false_iff]
  right
  simpa using h
theorem rgB_len {L : List Int} (h : rgB L = true) : L.length ≤ 16 := by
  unfold rgB at h
  rw [Bool.and_eq_true, decide_eq_true_iff] at h
  exact h.2
theorem rgB_at {L : List Int} (h : rgB L = true) (k : Nat) : 0 ≤ L[k]?.getD 0 ∧ L[k]?.getD 0 ≤ 1 := by
  unfold rgB at h
  rw [Bool.and_eq_true, List.all_eq_true] at h
  by_cases hk : k < L.length
  · rw [List.getElem?_eq_getElem hk]
    exact inB_of (h.1 _ (List.getElem_mem hk))
  · rw [List.getElem?_eq_none (by omega)]
    simp
theorem ret_rg {L : List Int} {b : Bool} (h : rgB L = b) : Ending.returned (.bool b) = .returned (.bool (rgB L)) := by rw [h]

end Go.Proofs.Ytfdjlgpdbgmdkac
