/- Contracts: the neighbours of a state. -/
import Derived.Test.YtglilhnmgfkfhaaStc
import Derived.Test.YtglilhnmgfkfhaaLegalMoves
import Derived.Test.YtglilhnmgfkfhaaDone
import Derived.Deep.AppendLies
namespace Go.Proofs.Ytglilhnmgfkfhaa
open Go.RowKit Go.Shelf
set_option linter.unusedVariables false
attribute [local go_sem] Oper.semAt_some

theorem Try.infoSt : (Try.prog.info? 33).map (fun i => (i.zero, i.size, i.bytes)) = some (some (.agg #[.int .i64 0, .slice none 0 0]), 2, 32) := by kernel_rfl

/-- The states behind moves. -/
def nbF (p : Int) (L : List Int) (M : List Mv) : List (Int × List Int) := M.map (fun m => (p, L.set m.1.toNat m.2.2))
theorem nbF_snoc (p : Int) (L : List Int) (M : List Mv) (m : Mv) : nbF p L (M ++ [m]) = nbF p L M ++ [(p, L.set m.1.toNat m.2.2)] := by simp [nbF]
def nbV (p : Int) (L : List Int) : List (Int × List Int) := if stateB p L = true then nbF p L (movesL p L) else []
theorem nb_yes {p : Int} {L : List Int} (h : stateB p L = true) : nbV p L = nbF p L (movesL p L) ∧ codeS p L = 0 := ⟨by unfold nbV; rw [if_pos h], codeS_yes h⟩
theorem nb_no {p : Int} {L : List Int} (h : stateB p L = false) : nbV p L = [] ∧ codeS p L = 1 := ⟨by unfold nbV; rw [h]; rfl, codeS_no h⟩
theorem sum_le_mul : ∀ (l : List Nat) (b : Nat), (∀ x ∈ l, x ≤ b) → l.sum ≤ l.length * b
  | [], b, _ => by simp
  | x :: t, b, hl => by
    have h1 := hl x List.mem_cons_self
    have h2 := sum_le_mul t b (fun y hy => hl y (List.mem_cons_of_mem _ hy))
    rw [List.sum_cons, List.length_cons, Nat.add_mul]
    omega
theorem nbV_small (p : Int) (L : List Int) : ((nbV p L).map (fun x => x.2.length + 1)).sum ≤ 1048576 := by
  by_cases h : stateB p L = true
  · obtain ⟨h3, h5, h8, _⟩ := state_facts h rfl
    have h1 := sum_le_mul ((nbV p L).map (fun x => x.2.length + 1)) 9 (fun x hx => by
      obtain ⟨l, hl, rfl⟩ := List.mem_map.1 hx
      rw [(nb_yes h).1] at hl
      unfold nbF at hl
      obtain ⟨m, _, rfl⟩ := List.mem_map.1 hl
      simp only [List.length_set]
      omega)
    have h2 := movesL_len h
    rw [(nb_yes h).1] at h1 ⊢
    simp only [List.length_map, nbF] at h1 ⊢
    omega
  · rw [(nb_no (by simpa using h)).1]; simp
theorem mv_disc {p : Int} {L : List Int} {x : Mv} (h : x ∈ movesL p L) : ∃ j : Nat, x.1 = (j : Int) ∧ j < L.length := by
  have h1 := movesTo_legal (p := p) (L := L) L.length x h
  unfold legalB at h1
  simp only [Bool.and_eq_true, decide_eq_true_iff] at h1
  obtain ⟨j, hj⟩ := Int.eq_ofNat_of_zero_le h1.1.1
  exact ⟨j, hj, by have := h1.1.2.1; omega⟩

end Go.Proofs.Ytglilhnmgfkfhaa
