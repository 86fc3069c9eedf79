/- Contracts: slices.Clone of a list of integers. -/
import Derived.Test.YtglilhnmgfkfhaaMark
import Derived.Test.YtglilhnmgfkfhaaNews
import Derived.Test.YtglilhnmgfkfhaaOwnG
import Derived.Laws.Cover3
namespace Go.Proofs.Ytglilhnmgfkfhaa
open Go.RowKit
set_option linter.unusedVariables false

theorem OwnG.grown_belowC {e size B : Nat} {w w1 : World} {A : Option Addr} {n c : Nat} {xs : List Value} {B0 : Nat} (h : OwnG e size B w A n c xs) (hg : w.grownBy w1 (Value.slice A n c).ownBlock) (h1 : B0 ≤ B) (h2 : B0 ≤ w.heap.size) : Below B0 w w1 := by
  refine (Below.refl B0 w).grown hg h2 (fun k hk => ?_)
  rcases h.form with ⟨rfl, rfl, rfl⟩ | ⟨g, rfl, hB, _⟩
  · simp [Value.ownBlock] at hk
  · simp only [Value.ownBlock, Option.some.injEq] at hk
    omega

end Go.Proofs.Ytglilhnmgfkfhaa
