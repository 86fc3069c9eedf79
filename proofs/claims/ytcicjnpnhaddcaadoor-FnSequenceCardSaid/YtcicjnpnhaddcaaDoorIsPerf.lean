/- Contracts: whether a state is perfect. -/
import Derived.Test.YtcicjnpnhaddcaaDoorPegs
import Derived.Test.YtcicjnpnhaddcaaDoorPerfect
import Derived.Test.YtcicjnpnhaddcaaDoorArrEq
import Derived.Deep.RegionHeld3
namespace Go.Proofs.YtcicjnpnhaddcaaDoor
open Go.RowKit
set_option linter.unusedVariables false

def allEq (L : List Int) : Bool := L.all (fun x => x == L.getD 0 0)
def ipV (p : Int) (L : List Int) : Bool := stateB p L && allEq L
theorem ret_bi {a b : Bool} {x y : Int} (h : a = b) (h' : x = y) : Ending.returned (.tuple #[.bool b, .int .i64 y]) = .returned (.tuple #[.bool a, .int .i64 x]) := by rw [h, h']
theorem allEq_no {L : List Int} {k : Nat} (hk : k < L.length) (h : L.getD k 0 ≠ L.getD 0 0) : allEq L = false := by
  unfold allEq
  rw [List.all_eq_false]
  refine ⟨L[k], List.getElem_mem hk, ?_⟩
  rw [List.getD_eq_getElem?_getD, List.getElem?_eq_getElem hk] at h
  simpa using h
theorem allEq_yes {L : List Int} (h : ∀ k, k < L.length → L.getD k 0 = L.getD 0 0) : allEq L = true := by
  unfold allEq
  rw [List.all_eq_true]
  intro x hx
  obtain ⟨i, hi, rfl⟩ := List.getElem_of_mem hx
  have := h i hi
  rw [List.getD_eq_getElem?_getD, List.getElem?_eq_getElem hi] at this
  simpa using this

theorem padI_bd {p : Int} {L : List Int} (h : stateB p L = true) (i : Nat) : 0 ≤ padI L i ∧ padI L i ≤ 4 := by
  obtain ⟨h3, h5, _, _⟩ := state_facts h rfl
  unfold padI
  by_cases hi : i < L.length
  · have := state_at h i hi; omega
  · rw [List.getElem?_eq_none (by omega)]; simp
theorem padI_rep (n : Nat) (a : Int) (i : Nat) : padI (List.replicate n a) i = if i < n then a else 0 := by
  unfold padI
  rw [List.getElem?_replicate]
  split <;> rfl
theorem wfOf {x : Int} (h : 0 ≤ x ∧ x ≤ 1000) : (Lit.int .i64 x).wf = true := WalkArith.wf_i64 (by omega)
theorem pad_ne {L : List Int} {n : Nat} {a : Int} (hL : L.length = n) (hn : n ≤ 8) (h : L ≠ List.replicate n a) : ∃ k, k < 8 ∧ padI L k ≠ padI (List.replicate n a) k := by
  apply Classical.byContradiction
  intro hc
  apply h
  apply List.ext_getElem (by simp [hL])
  intro i h1 h2
  have : padI L i = padI (List.replicate n a) i := by
    apply Classical.byContradiction
    intro hne
    exact hc ⟨i, by omega, hne⟩
  unfold padI at this
  rw [List.getElem?_eq_getElem h1, List.getElem?_eq_getElem h2] at this
  simpa using this
theorem rep_of_all {L : List Int} {n : Nat} (hL : L.length = n) (h : allEq L = true) : L = List.replicate n (L.getD 0 0) := by
  rw [List.eq_replicate_iff]
  refine ⟨hL, fun x hx => ?_⟩
  unfold allEq at h
  rw [List.all_eq_true] at h
  simpa using h x hx
theorem all_of_rep {L : List Int} {n : Nat} {a : Int} (h : L = List.replicate n a) : allEq L = true := by
  subst h
  unfold allEq
  rw [List.all_eq_true]
  intro x hx
  obtain ⟨h1, rfl⟩ := List.mem_replicate.1 hx
  simp
  cases n with
  | zero => exact absurd rfl h1
  | succ n => rfl

end Go.Proofs.YtcicjnpnhaddcaaDoor
