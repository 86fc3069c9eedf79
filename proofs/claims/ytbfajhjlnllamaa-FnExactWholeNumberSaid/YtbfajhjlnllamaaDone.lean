/- Contracts: copies of states, and the state after a legal move. -/
import Derived.Test.YtbfajhjlnllamaaMark
import Derived.Test.YtbfajhjlnllamaaLegal
import Derived.Test.YtbfajhjlnllamaaNews
import Derived.Laws.CopyOwn
import Derived.Laws.AppendOwnNone
import Derived.Deep.RegionHeld3
import Derived.Deep.DeepCutAuto
namespace Go.Proofs.Ytbfajhjlnllamaa
open Go.RowKit
set_option linter.unusedVariables false

theorem Try.sizeI : (Try.prog.info? 2).map (·.size) = some 1 := by kernel_rfl

/-- A list of integers has room. -/
theorem own_below {B : Nat} {w w1 : World} {A : Option Addr} {n c : Nat} {L : List Int} (h : Own B w A n c L) (hg : w.grownBy w1 (Value.slice A n c).ownBlock) {B0 : Nat} (hB : B0 ≤ B) (hs : B0 ≤ w.heap.size) : Below B0 w w1 :=
  (Below.refl B0 w).grown hg hs (fun k hk => Nat.le_trans hB (own_bk h k hk))

end Go.Proofs.Ytbfajhjlnllamaa
