/- The ring of a step, and the specification's contract. -/
import Derived.Test.YtcicjnpnhaddcaaDoorState1
import Derived.Test.YtcicjnpnhaddcaaDoorBase
namespace Go.Proofs.YtcicjnpnhaddcaaDoor
open Go.RowKit
set_option linter.unusedVariables false

/-- The ring of a step: how often 2 divides it. -/
def ctz (t : Nat) : Nat := if h : t % 2 = 0 ∧ 0 < t then ctz (t / 2) + 1 else 0
termination_by t
decreasing_by omega
theorem ctz_odd {t : Nat} (h : t % 2 = 1) : ctz t = 0 := by
  unfold ctz
  rw [dif_neg (by omega)]
theorem ctz_even {t : Nat} (h : t % 2 = 0) (h0 : 0 < t) : ctz t = ctz (t / 2) + 1 := by
  rw [ctz, dif_pos ⟨h, h0⟩]
theorem ctz_two {q : Nat} (h : 0 < q) : ctz (2 * q) = ctz q + 1 := by
  rw [ctz_even (by omega) (by omega)]
  congr 2
  omega
theorem ret_cz {a b : Int} (h : a = b) : Ending.returned (.int .i64 a) = .returned (.int .i64 b) := by rw [h]

end Go.Proofs.YtcicjnpnhaddcaaDoor
