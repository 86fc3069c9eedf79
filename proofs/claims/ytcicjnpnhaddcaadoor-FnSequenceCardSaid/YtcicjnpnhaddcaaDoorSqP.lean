/- The sequence of moves: pure facts. -/
import Derived.Test.YtcicjnpnhaddcaaDoorTn
import Derived.Test.YtcicjnpnhaddcaaDoorTmI
import Derived.Test.YtcicjnpnhaddcaaDoorMvAt
import Derived.Test.YtcicjnpnhaddcaaDoorAfter
namespace Go.Proofs.YtcicjnpnhaddcaaDoor
open Go.RowKit
set_option linter.unusedVariables false

/-- The move at t, with the ring of its step by fuel. -/
def atG (t : Nat) : Mv := let d := Lib.ctzFrom 9 t; ((d : Int), (pgN d (t / 2 ^ (d + 1)) : Int), (pgN d (t / 2 ^ (d + 1) + 1) : Int))
theorem atG_is {t : Nat} (h0 : 0 < t) (h : t < 512) : atM t = atG t := by
  have := ctz_from 9 t h0 (by omega)
  unfold atG atM atF atT
  rw [this]
def okSq (n t : Nat) : Bool := decide (2 ^ n ≤ t) || (stateB 3 (atL t n) && (decide (t = 0) || (let m := atG t; decide (aftE 3 (atL (t - 1) n) m.1 m.2.1 m.2.2 = 0) && decide (aftP 3 (atL (t - 1) n) m.1 m.2.1 m.2.2 = 3) && decide (aftL 3 (atL (t - 1) n) m.1 m.2.1 m.2.2 = atL t n))))
theorem okSq_all : ∀ n : Fin 9, ∀ t : Fin 256, okSq n.val t.val = true := by decide +kernel
def okTs (n : Nat) : Bool := decide (tnL n (2 ^ n - 1) = (List.range (2 ^ n - 1)).map (fun i => atG (i + 1)))
theorem okTs_all : ∀ n : Fin 9, okTs n.val = true := by decide +kernel

end Go.Proofs.YtcicjnpnhaddcaaDoor
