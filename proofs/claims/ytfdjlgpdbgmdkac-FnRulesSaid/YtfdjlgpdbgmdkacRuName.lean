/- Contracts: rules by their names. -/
import Derived.Test.YtfdjlgpdbgmdkacRu
namespace Go.Proofs.Ytfdjlgpdbgmdkac
open Go.RowKit
set_option linter.unusedVariables false

/-- The rules with a name, and the code. -/
def nmR (s : ByteArray) : (Nat → Int) × Int :=
  if (s.toList == [97, 108, 108]) = true then (fun k => ([0, 1, 1, 1, 0, 1, 1, 1, 0] : List Int)[k]?.getD 0, 0) else if (s.toList == [99, 121, 99, 108, 105, 99]) = true then (fun k => ([0, 1, 0, 0, 0, 1, 1, 0, 0] : List Int)[k]?.getD 0, 0) else if (s.toList == [108, 105, 110, 101, 97, 114]) = true then (fun k => ([0, 1, 0, 1, 0, 1, 0, 1, 0] : List Int)[k]?.getD 0, 0) else if (s.toList == [112, 108, 117, 115]) = true then (fun k => ([0, 1, 0, 1, 0, 1, 1, 0, 0] : List Int)[k]?.getD 0, 0) else if (s.toList == [110, 101, 97, 114]) = true then (fun k => ([0, 1, 0, 1, 0, 1, 1, 1, 0] : List Int)[k]?.getD 0, 0) else (fun _ => 0, 4)

set_option maxRecDepth 100000 in
set_option maxHeartbeats 1000000 in
theorem implNamedRules_calls (s : ByteArray) (w : World) :
    Calls Try.prog 12 #[.string s] w fun e w' => e = .returned (.tuple #[.agg (z9 (nmR s).1), .int .i64 (nmR s).2]) ∧ Below w.heap.size w w' := by
  go_enter Try.func12, Try.ntmps12
  go_wp2
  all_goals (go_returns; refine ⟨?_, by go_grown⟩; simp_all [nmR, z9])

set_option maxRecDepth 100000 in
set_option maxHeartbeats 1000000 in
theorem specNamedRules_calls (s : ByteArray) (w : World) :
    Calls Try.prog 18 #[.string s] w fun e w' => e = .returned (.tuple #[.agg (z9 (nmR s).1), .int .i64 (nmR s).2]) ∧ Below w.heap.size w w' := by
  go_enter Try.func18, Try.ntmps18
  go_wp2
  all_goals (go_returns; refine ⟨?_, by go_grown⟩; simp_all [nmR, z9])

end Go.Proofs.Ytfdjlgpdbgmdkac
