/- Contracts: the rank of a state, by the specification's model and by the program. -/
import Derived.Test.YtinemelcbnnpnaaState1
import Derived.Test.YtinemelcbnnpnaaNum
namespace Go.Proofs.Ytinemelcbnnpnaa
open Go.RowKit
set_option linter.unusedVariables false

/-- The number with the digits L, the least one first, to the base p. -/
def rankL (p : Int) : List Int → Int
  | [] => 0
  | x :: xs => rankL p xs * p + x

theorem rankL_bd {p : Int} (hp : 3 ≤ p) : ∀ L : List Int, (∀ x ∈ L, 0 ≤ x ∧ x ≤ p - 1) → 0 ≤ rankL p L ∧ rankL p L + 1 ≤ powI p L.length
  | [], _ => by simp [rankL, powI]
  | x :: xs, h => by
    have ih := rankL_bd hp xs (fun y hy => h y (List.mem_cons_of_mem _ hy))
    have hx := h x List.mem_cons_self
    simp only [rankL, List.length_cons, powI_succ]
    have h1 : 0 ≤ rankL p xs * p := Int.mul_nonneg ih.1 (by omega)
    have h2 : (rankL p xs + 1) * p ≤ powI p xs.length * p := Int.mul_le_mul_of_nonneg_right ih.2 (by omega)
    rw [Int.add_mul] at h2
    omega

theorem rankL_append (p : Int) (x : Int) : ∀ L : List Int, rankL p (L ++ [x]) = rankL p L + x * powI p L.length
  | [] => by simp [rankL, powI]
  | y :: ys => by
    simp only [List.cons_append, rankL, List.length_cons, powI_succ]
    rw [rankL_append p x ys, Int.add_mul, Int.mul_assoc]
    omega

theorem rank_drop {p : Int} {L : List Int} {k : Nat} (hk : k < L.length) : rankL p (L.drop k) = rankL p (L.drop (k + 1)) * p + L[k]?.getD 0 := by
  rw [List.drop_eq_getElem_cons hk, List.getElem?_eq_getElem hk, Option.getD_some]
  rfl

theorem rank_take {p : Int} {L : List Int} {k : Nat} (hk : k < L.length) : rankL p (L.take (k + 1)) = rankL p (L.take k) + L[k]?.getD 0 * powI p k := by
  rw [List.take_succ_eq_append_getElem hk, rankL_append, List.getElem?_eq_getElem hk, Option.getD_some, List.length_take, Nat.min_eq_left (by omega)]

theorem rank_drop_bd {p : Int} {L : List Int} (h : stateB p L = true) (k : Nat) : 0 ≤ rankL p (L.drop k) ∧ rankL p (L.drop k) ≤ 6560 := by
  obtain ⟨h3, h5, h8, hp⟩ := state_facts h rfl
  have h1 := rankL_bd h3 (L.drop k) (fun x hx => stateB_mem h x (List.mem_of_mem_drop hx))
  have h2 := powI_mono h3 (show (L.drop k).length ≤ L.length by simp)
  omega

theorem rank_take_bd {p : Int} {L : List Int} (h : stateB p L = true) (k : Nat) : 0 ≤ rankL p (L.take k) ∧ rankL p (L.take k) ≤ 6560 := by
  obtain ⟨h3, h5, h8, hp⟩ := state_facts h rfl
  have h1 := rankL_bd h3 (L.take k) (fun x hx => stateB_mem h x (List.mem_of_mem_take hx))
  have h2 := powI_mono h3 (show (L.take k).length ≤ L.length by simp; omega)
  omega

def rankV (p : Int) (L : List Int) : Int := if stateB p L = true then rankL p L else 0

theorem rankV_yes {p : Int} {L : List Int} (h : stateB p L = true) : rankV p L = rankL p L := by unfold rankV; rw [if_pos h]

theorem rankV_no {p : Int} {L : List Int} (h : stateB p L = false) : rankV p L = 0 := by unfold rankV; rw [h]; rfl

end Go.Proofs.Ytinemelcbnnpnaa
