/- Contracts: the last state of a run, both sides. -/
import Derived.Test.YtglilhnmgfkfhaaRunI
import Derived.Laws.Rows
namespace Go.Proofs.Ytglilhnmgfkfhaa
open Go.RowKit Go.Shelf
set_option linter.unusedVariables false

def rmP (p : Int) (L : List Int) (M : List Mv) : Int := if rsB p L M = true then p else 0
def rmL (p : Int) (L : List Int) (M : List Mv) : List Int := if rsB p L M = true then stA L M M.length else []
theorem rm_yes {p : Int} {L : List Int} {M : List Mv} (h : rsB p L M = true) : rmP p L M = p ∧ rmL p L M = stA L M M.length ∧ rsC p L M = 0 ∧ rsV p L M = runL p L M M.length := by
  refine ⟨by unfold rmP; rw [if_pos h], by unfold rmL; rw [if_pos h], ?_, by unfold rsV; rw [if_pos h]⟩
  unfold rsB at h
  simp only [Bool.and_eq_true, decide_eq_true_iff] at h
  unfold rsC
  rw [if_pos h.1, if_pos h.2.1, if_pos h.2.2]
theorem rm_no {p : Int} {L : List Int} {M : List Mv} (h : rsB p L M = false) : rmP p L M = 0 ∧ rmL p L M = [] ∧ (rsC p L M != 0) = true := by
  refine ⟨by unfold rmP; rw [h]; rfl, by unfold rmL; rw [h]; rfl, ?_⟩
  unfold rsB at h
  unfold rsC
  by_cases h1 : stateB p L = true
  · rw [if_pos h1]
    by_cases h2 : M.length ≤ 6561
    · rw [if_pos h2]
      by_cases h3 : okA p L M M.length = true
      · simp [h1, h2, h3] at h
      · rw [if_neg h3]; rfl
    · rw [if_neg h2]; rfl
  · rw [if_neg h1]; rfl
theorem rmL_len (p : Int) (L : List Int) (M : List Mv) (hL : L.length ≤ 1048576) : (rmL p L M).length ≤ 1048576 := by
  unfold rmL
  split
  · rw [stA_len]; exact hL
  · simp
theorem results_row_tmp2 {P : Program} {fn : Func} {p q : Tmp} {ty : TypeId} (h : fn.results = #[.cell p ty, .tmp q]) (tmps : Array Value) (w : World) (g : Nat) (t : TypeId) (cs : Array Value) (fr : Nat × Nat) (d : TypeDesc)
    (hp : tmps.getD p undef = .pointer (some ⟨g, 0, none⟩)) (hg : w.heap[g]? = some (.cells cs t fr))
    (hu : P.underlying ty = some d) (hd : (match d with | .struct _ | .array _ _ => true | _ => false) = true) (hi : (P.info? ty).map (·.size) = some cs.size) :
    (results fn tmps).run P w = .ok (.tuple #[.agg cs, tmps.getD q undef]) w := by
  have hp' : tmps[p]?.getD undef = .pointer (some ⟨g, 0, none⟩) := by simpa using hp
  simp [results, h, hp', asAddr, run_loadVar_row w g t ty cs fr d hg hu hd hi]

end Go.Proofs.Ytglilhnmgfkfhaa
