/- How a state and a list of integers that came in are opened. -/
import Derived.Test.YtgdkbplgonpelaaDoorBase
import Derived.Test.YtgdkbplgonpelaaDoorRows
import Derived.ProofKit
import Derived.OpenShut
import Derived.Lib.SmallJoins
namespace Go.Proofs.YtgdkbplgonpelaaDoor
open Go.ChangeShapes Go.WideShapes Go.ChangeAt Go.RowKit Go.Joins
set_option linter.unusedVariables false

theorem own : ownKnob Tryd.prog.godebug = none := by kernel_rfl
theorem laidOut : laidOutB Tryd.prog = true := by kernel_rfl
theorem cellsI : Tryd.prog.cellsOf 2 = 1 := by kernel_rfl

theorem zs_ints {w : World} {a : Addr} {len : Nat} {zs : List Int} (hl : len ≤ zs.length) (hc : ∀ i, i < zs.length → w.cell? (a.add i) = some (.int .i64 (zs.getD i 0))) :
    Ints w (some a) (zs.take len) := by
  intro k hk
  have hk' : k < len := by simp at hk; omega
  have h := hc k (by omega)
  refine ⟨a, rfl, by have := block_of_cell h; rwa [add_block] at this, ?_⟩
  rw [h]
  simp [hk']

end Go.Proofs.YtgdkbplgonpelaaDoor
