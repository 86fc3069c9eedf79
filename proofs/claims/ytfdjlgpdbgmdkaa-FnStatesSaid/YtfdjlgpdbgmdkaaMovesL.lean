/- Plain lists: the legal moves of a state, in their order. No program. -/
import Derived.Test.YtfdjlgpdbgmdkaaLegal
namespace Go.Proofs.Ytfdjlgpdbgmdkaa
open Go.RowKit
set_option linter.unusedVariables false

/-- A move: disc, from, to. -/
abbrev Mv := Int × Int × Int
def mvV (m : Mv) : Value := .agg #[.int .i64 m.1, .int .i64 m.2.1, .int .i64 m.2.2]
/-- The legal moves of the disc d to the first j pegs. -/
def rowM (p : Int) (L : List Int) (d : Nat) : Nat → List Mv
  | 0 => []
  | j + 1 => rowM p L d j ++ if legalB p L d (L[d]?.getD 0) j = true then [((d : Int), L[d]?.getD 0, (j : Int))] else []
/-- The legal moves of the first d discs. -/
def movesTo (p : Int) (L : List Int) : Nat → List Mv
  | 0 => []
  | d + 1 => movesTo p L d ++ rowM p L d p.toNat
def movesL (p : Int) (L : List Int) : List Mv := movesTo p L L.length
theorem rowM_yes {p : Int} {L : List Int} {d j : Nat} (h : legalB p L d (L[d]?.getD 0) j = true) : rowM p L d (j + 1) = rowM p L d j ++ [((d : Int), L[d]?.getD 0, (j : Int))] := by simp [rowM, h]
theorem rowM_no {p : Int} {L : List Int} {d j : Nat} (h : legalB p L d (L[d]?.getD 0) j = false) : rowM p L d (j + 1) = rowM p L d j := by simp [rowM, h]
theorem rowM_len (p : Int) (L : List Int) (d : Nat) : ∀ j, (rowM p L d j).length ≤ j
  | 0 => by simp [rowM]
  | j + 1 => by
    have ih := rowM_len p L d j
    simp only [rowM, List.length_append]
    split <;> simp <;> omega
theorem movesTo_len {p : Int} (hp : p ≤ 5) (L : List Int) : ∀ d, (movesTo p L d).length ≤ d * 5
  | 0 => by simp [movesTo]
  | d + 1 => by
    have ih := movesTo_len hp L d
    have h := rowM_len p L d p.toNat
    simp only [movesTo, List.length_append]
    omega
theorem rowM_prefix (p : Int) (L : List Int) (d : Nat) {i j : Nat} (h : i ≤ j) : rowM p L d i <+: rowM p L d j := by
  induction j with
  | zero => obtain rfl : i = 0 := by omega
            exact List.prefix_refl _
  | succ j ih =>
    by_cases hi : i = j + 1
    · subst hi; exact List.prefix_refl _
    · exact (ih (by omega)).trans ⟨_, rfl⟩
theorem movesTo_prefix (p : Int) (L : List Int) {a b : Nat} (h : a ≤ b) : movesTo p L a <+: movesTo p L b := by
  induction b with
  | zero => obtain rfl : a = 0 := by omega
            exact List.prefix_refl _
  | succ b ih =>
    by_cases hi : a = b + 1
    · subst hi; exact List.prefix_refl _
    · exact (ih (by omega)).trans ⟨_, rfl⟩
theorem moves_prefix {p : Int} {L : List Int} {d j : Nat} (hd : d < L.length) (hj : j ≤ p.toNat) : movesTo p L d ++ rowM p L d j <+: movesL p L := by
  have h1 : movesTo p L d ++ rowM p L d j <+: movesTo p L (d + 1) := by
    simp only [movesTo]
    exact (List.prefix_append_right_inj _).2 (rowM_prefix p L d hj)
  exact h1.trans (movesTo_prefix p L (by omega))
theorem movesL_len {p : Int} {L : List Int} (h : stateB p L = true) : (movesL p L).length ≤ 40 := by
  obtain ⟨h3, h5, h8, _⟩ := state_facts h rfl
  have := movesTo_len h5 L L.length
  unfold movesL
  omega
theorem moves_lt {p : Int} {L : List Int} {d j : Nat} (h : stateB p L = true) (hd : d < L.length) (hj : j < p.toNat) : (movesTo p L d ++ rowM p L d j).length < 40 := by
  obtain ⟨h3, h5, h8, _⟩ := state_facts h rfl
  have h1 := movesTo_len h5 L d
  have h2 := rowM_len p L d j
  rw [List.length_append]
  omega
theorem rowM_legal {p : Int} {L : List Int} {d : Nat} : ∀ (j : Nat) (x : Mv), x ∈ rowM p L d j → legalB p L x.1 x.2.1 x.2.2 = true
  | 0, x, h => by simp [rowM] at h
  | j + 1, x, h => by
    by_cases hl : legalB p L d (L[d]?.getD 0) j = true
    · rw [rowM_yes hl] at h
      rcases List.mem_append.1 h with h | h
      · exact rowM_legal j x h
      · simp at h; subst h; exact hl
    · rw [rowM_no (by simpa using hl)] at h
      exact rowM_legal j x h
theorem movesTo_legal {p : Int} {L : List Int} : ∀ (d : Nat) (x : Mv), x ∈ movesTo p L d → legalB p L x.1 x.2.1 x.2.2 = true
  | 0, x, h => by simp [movesTo] at h
  | d + 1, x, h => by
    rcases List.mem_append.1 (show x ∈ movesTo p L d ++ rowM p L d p.toNat from h) with h | h
    · exact movesTo_legal d x h
    · exact rowM_legal _ x h

end Go.Proofs.Ytfdjlgpdbgmdkaa
