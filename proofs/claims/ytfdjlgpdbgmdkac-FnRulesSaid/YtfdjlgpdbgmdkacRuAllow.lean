/- Contracts: which moves are allowed, by rules and by turned rules. -/
import Derived.Test.YtfdjlgpdbgmdkacRu
namespace Go.Proofs.Ytfdjlgpdbgmdkac
open Go.RowKit
set_option linter.unusedVariables false

/-- Moves from i to j are allowed. -/
def alR (r : Nat → Int) (i j : Int) : Bool := r (3 * i + j).toNat == 1
theorem in3 {i : Int} (h : 0 ≤ i ∧ i < 3) : i = 0 ∨ i = 1 ∨ i = 2 := by omega

set_option maxRecDepth 100000 in
set_option maxHeartbeats 1000000 in
theorem allowsR_calls (r : Nat → Int) (i j : Int) (hi : 0 ≤ i ∧ i < 3) (hj : 0 ≤ j ∧ j < 3) (w : World) :
    Calls Try.prog 77 #[.agg (z9 r), .int .i64 i, .int .i64 j] w fun e w' => e = .returned (.bool (alR r i j)) ∧ w' = w.alloc (.cells (z9 r) 26) := by
  unfold z9
  rcases in3 hi with rfl | rfl | rfl <;> rcases in3 hj with rfl | rfl | rfl <;>
  · clear hi hj
    go_enter Try.func77, Try.ntmps77
    go_wp2
    go_ret
    exact ⟨rfl, rfl⟩

set_option maxRecDepth 100000 in
set_option maxHeartbeats 1000000 in
theorem allowsT_calls (r : Nat → Int) (i j : Int) (hi : 0 ≤ i ∧ i < 3) (hj : 0 ≤ j ∧ j < 3) (w : World) :
    Calls Try.prog 78 #[.agg #[.iface 26 (.agg (z9 r))], .int .i64 i, .int .i64 j] w fun e w' => e = .returned (.bool (alR r j i)) ∧ Below w.heap.size w w' := by
  go_enter Try.func78, Try.ntmps78
  go_wp2_with (refine (allowsR_calls r j i hj hi _).mono ?_; rintro e w' ⟨rfl, rfl⟩)
  go_ret
  exact ⟨rfl, by go_grown⟩

end Go.Proofs.Ytfdjlgpdbgmdkac
