/- Contracts: the perfect state. -/
import Derived.Test.YtfdjlgpdbgmdkacMark
import Derived.Test.YtfdjlgpdbgmdkacState1
import Derived.Maps.AppendAt
namespace Go.Proofs.Ytfdjlgpdbgmdkac
open Go.RowKit
set_option linter.unusedVariables false

/-- What PerfectState answers. -/
def perfB (k n a : Int) : Bool := fitsB k n && inB a 0 (k - 1)
def perfP (k n a : Int) : Int := if perfB k n a = true then k else 0
def perfL (k n a : Int) : List Int := if perfB k n a = true then List.replicate n.toNat a else []
def perfE (k n a : Int) : Int := if perfB k n a = true then 0 else 2
theorem perfL_len (k n a : Int) : (perfL k n a).length ≤ 1048576 := by
  unfold perfL
  by_cases h : perfB k n a = true
  · rw [if_pos h, List.length_replicate]
    unfold perfB at h
    simp only [Bool.and_eq_true] at h
    have := fitsB_bd h.1
    omega
  · rw [if_neg h]; simp
theorem perf_yes {k n a : Int} (h : perfB k n a = true) : perfP k n a = k ∧ perfL k n a = List.replicate n.toNat a ∧ perfE k n a = 0 := by unfold perfP perfL perfE; simp [h]
theorem perf_no {k n a : Int} (h : perfB k n a = false) : perfP k n a = 0 ∧ perfL k n a = [] ∧ perfE k n a = 2 := by unfold perfP perfL perfE; simp [h]

/-- The answer where there is none: no state, and a code. -/
theorem retState_zero {w w' : World} {e : Ending} {E : Int} (he : e = .returned (.tuple #[.agg #[.int .i64 0, .slice none 0 0], .int .i64 E])) (hb : Below w.heap.size w w') : RetState w 0 ([] : List Int).length [] E e w' :=
  ⟨none, 0, he, Own.nilS _ _, hb⟩

end Go.Proofs.Ytfdjlgpdbgmdkac
