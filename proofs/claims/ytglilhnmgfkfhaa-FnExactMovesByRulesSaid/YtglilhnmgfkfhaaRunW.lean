/- Words for runs: the discs after so many moves. No program. -/
import Derived.Test.YtglilhnmgfkfhaaNbr
import Derived.Test.YtglilhnmgfkfhaaAfter
namespace Go.Proofs.Ytglilhnmgfkfhaa
open Go.RowKit
set_option linter.unusedVariables false

def mvAt (M : List Mv) (k : Nat) : Mv := M[k]?.getD (0, 0, 0)
/-- The discs after so many moves. -/
def stA (L : List Int) (M : List Mv) : Nat → List Int
  | 0 => L
  | k + 1 => (stA L M k).set (mvAt M k).1.toNat (mvAt M k).2.2
/-- So many moves are legal, one after the other. -/
def okA (p : Int) (L : List Int) (M : List Mv) : Nat → Bool
  | 0 => true
  | k + 1 => okA p L M k && legalB p (stA L M k) (mvAt M k).1 (mvAt M k).2.1 (mvAt M k).2.2
theorem stA_len (L : List Int) (M : List Mv) : ∀ k, (stA L M k).length = L.length
  | 0 => rfl
  | k + 1 => by show ((stA L M k).set _ _).length = _; rw [List.length_set, stA_len L M k]
theorem okA_le {p : Int} {L : List Int} {M : List Mv} {k : Nat} (h : okA p L M k = false) : ∀ m, k ≤ m → okA p L M m = false
  | 0, hm => by rw [show k = 0 by omega] at h; exact h
  | m + 1, hm => by
    by_cases e : k = m + 1
    · rw [← e]; exact h
    · show (okA p L M m && _) = false
      rw [okA_le h m (by omega)]; rfl
theorem state_set {p : Int} {L : List Int} {d f t : Int} (h : stateB p L = true) (hl : legalB p L d f t = true) : stateB p (L.set d.toNat t) = true := by
  unfold legalB at hl
  simp only [Bool.and_eq_true, decide_eq_true_iff] at hl
  refine stateB_yes (by rw [List.length_set]; exact stateB_fits h) ?_
  intro i hi
  rw [List.length_set] at hi
  have hm := stateB_mem h
  rw [List.getD_eq_getElem?_getD, List.getElem?_set]
  by_cases e : d.toNat = i
  · rw [if_pos e, if_pos (by omega), Option.getD_some]
    unfold inB
    rw [decide_eq_true_iff]
    omega
  · rw [if_neg e, List.getElem?_eq_getElem hi, Option.getD_some]
    have := hm _ (List.getElem_mem hi)
    unfold inB
    rw [decide_eq_true_iff]
    omega
theorem stA_state {p : Int} {L : List Int} {M : List Mv} (h : stateB p L = true) : ∀ k, okA p L M k = true → stateB p (stA L M k) = true
  | 0, _ => h
  | k + 1, ho => by
    have ho' : (okA p L M k && legalB p (stA L M k) (mvAt M k).1 (mvAt M k).2.1 (mvAt M k).2.2) = true := ho
    rw [Bool.and_eq_true] at ho'
    exact state_set (stA_state h k ho'.1) ho'.2
/-- The states of a run. -/
def runL (p : Int) (L : List Int) (M : List Mv) (k : Nat) : List (Int × List Int) := (List.range (k + 1)).map (fun j => (p, stA L M j))
theorem runL_succ (p : Int) (L : List Int) (M : List Mv) (k : Nat) : runL p L M (k + 1) = runL p L M k ++ [(p, stA L M (k + 1))] := by
  unfold runL
  rw [List.range_succ (n := k + 1), List.map_append]
  rfl
theorem runL_at (p : Int) (L : List Int) (M : List Mv) {k j : Nat} (h : j ≤ k) : (runL p L M k)[j]? = some (p, stA L M j) := by
  unfold runL
  rw [List.getElem?_map, List.getElem?_range (by omega)]
  rfl
def rsB (p : Int) (L : List Int) (M : List Mv) : Bool := stateB p L && (decide (M.length ≤ 6561) && okA p L M M.length)
def rsV (p : Int) (L : List Int) (M : List Mv) : List (Int × List Int) := if rsB p L M = true then runL p L M M.length else []
def rsC (p : Int) (L : List Int) (M : List Mv) : Int := if stateB p L = true then (if M.length ≤ 6561 then (if okA p L M M.length = true then 0 else 5) else 2) else 1
theorem rs_yes {p : Int} {L : List Int} {M : List Mv} (h : stateB p L = true) (h2 : M.length ≤ 6561) (h3 : okA p L M M.length = true) : rsV p L M = runL p L M M.length ∧ rsC p L M = 0 := by
  unfold rsV rsC rsB; simp [h, h2, h3]
theorem rs_no5 {p : Int} {L : List Int} {M : List Mv} (h : stateB p L = true) (h2 : M.length ≤ 6561) (h3 : okA p L M M.length = false) : rsV p L M = [] ∧ rsC p L M = 5 := by
  unfold rsV rsC rsB; simp [h, h2, h3]
theorem rs_no2 {p : Int} {L : List Int} {M : List Mv} (h : stateB p L = true) (h2 : ¬ M.length ≤ 6561) : rsV p L M = [] ∧ rsC p L M = 2 := by
  unfold rsV rsC rsB; simp [h, h2]
theorem rs_no1 {p : Int} {L : List Int} {M : List Mv} (h : stateB p L = false) : rsV p L M = [] ∧ rsC p L M = 1 := by
  unfold rsV rsC rsB; simp [h]
theorem rsV_small (p : Int) (L : List Int) (M : List Mv) : ((rsV p L M).map (fun x => x.2.length + 1)).sum ≤ 1048576 := by
  by_cases h : rsB p L M = true
  · have h' := h
    unfold rsB at h'
    simp only [Bool.and_eq_true, decide_eq_true_iff] at h'
    obtain ⟨h3, h5, h8, _⟩ := state_facts h'.1 rfl
    unfold rsV
    rw [if_pos h]
    have h1 := sum_le_mul ((runL p L M M.length).map (fun x => x.2.length + 1)) 9 (fun x hx => by
      obtain ⟨l, hl, rfl⟩ := List.mem_map.1 hx
      unfold runL at hl
      obtain ⟨j, _, rfl⟩ := List.mem_map.1 hl
      have := stA_len L M j
      simp only
      omega)
    have h2 : (runL p L M M.length).length = M.length + 1 := by unfold runL; simp
    rw [List.length_map, h2] at h1
    omega
  · unfold rsV
    rw [if_neg h]
    simp

end Go.Proofs.Ytglilhnmgfkfhaa
