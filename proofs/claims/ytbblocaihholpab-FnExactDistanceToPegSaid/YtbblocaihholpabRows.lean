/-
  No cell of these rows narrows 'for every input' (looked for: loops, veiled, ifaces, maps, wideKeys, modest, calm, conditions, laid).
  DERIVED. THE GIVEN ROWS OF THIS SEAT. 5 by the template 'for every input the law returns true; each argument reads behind the call as it read before'; 0 by the template 'total and deterministic' (their statements: YtbblocaihholpabTotals.lean).
  GIVEN WITH THE SEED: the statements are not yours to turn. If you find one false, say at which input.
  Laid BY PROGRAM, IN A SANDBOX (cutbox-rows.mjs): the forced cells as the released guide's own fill.sh prints them over the translation 9408dc3f17f9f01d… (all of the seat's roots in one cut). By AI agents, Wed Nov 11 2026. No macro, syntax, notation, axiom, sorry.
-/
import Derived.Test.YtbblocaihholpabChecked
import GoSem.Claim
import GoSem.ClaimJoined
import GoSem.ClaimMapViews
import Derived.JoinedTies
import Derived.KernelRfl
namespace Go.Proofs.Ytbblocaihholpab
/- THE CELL 'sum', in the pinned program and in every row, IS THE sha256 OF THE DUMP (.gsa) THAT YtbblocaihholpabProg.lean LOADS. Nothing in Lean hashes anything: it is a label: what it is worth is what the hold of that sum in a sandbox is worth. -/
noncomputable def Try.pinned : Pinned := { name := "ytbblocaihholpab", sum := "9408dc3f17f9f01d424b4c6e3f494dbb1773761b723920883239eae4b09463cc", checked := Try.checked }
namespace Rows
def none {H : Type} : Left H := { results := [], args := [] }

/-- 'laws.FnExactLegalMoves': WHATEVER THE INPUT: true; the input reads as it did. -/
def fnExactLegalMovesSpec : ChangeSpec := { name := "fnExactLegalMoves", fn := fun _ => fun
  | [d] => { results := [.lit (.bool true)], args := [d] }
  | _ => none }
def fnExactLegalMovesRow : OpenClaim := { program := "ytbblocaihholpab", sum := "9408dc3f17f9f01d424b4c6e3f494dbb1773761b723920883239eae4b09463cc", func := "loop.example/g01321/laws.FnExactLegalMoves", spec := "fnExactLegalMoves", unfollowed := true, recurses := true, plainKeys := false, apart := false }
def FnExactLegalMovesSaid : Prop := fnExactLegalMovesRow.holds Try.pinned (OpenSpec.ofChange fnExactLegalMovesSpec)

/-- ITS FALSE NEIGHBOUR: 'it returns false'. Refute it at one input. -/
def fnExactLegalMovesWrong : ChangeSpec := { name := "fnExactLegalMoves", fn := fun _ => fun
  | [d] => { results := [.lit (.bool false)], args := [d] }
  | _ => none }
def FnExactLegalMovesWrongFalsely : Prop := fnExactLegalMovesRow.holds Try.pinned (OpenSpec.ofChange fnExactLegalMovesWrong)

/-- 'laws.FnExactNeighboursOf': WHATEVER THE INPUT: true; the input reads as it did. -/
def fnExactNeighboursOfSpec : ChangeSpec := { name := "fnExactNeighboursOf", fn := fun _ => fun
  | [d] => { results := [.lit (.bool true)], args := [d] }
  | _ => none }
def fnExactNeighboursOfRow : OpenClaim := { program := "ytbblocaihholpab", sum := "9408dc3f17f9f01d424b4c6e3f494dbb1773761b723920883239eae4b09463cc", func := "loop.example/g01321/laws.FnExactNeighboursOf", spec := "fnExactNeighboursOf", unfollowed := true, recurses := true, plainKeys := false, apart := false }
def FnExactNeighboursOfSaid : Prop := fnExactNeighboursOfRow.holds Try.pinned (OpenSpec.ofChange fnExactNeighboursOfSpec)

/-- ITS FALSE NEIGHBOUR: 'it returns false'. Refute it at one input. -/
def fnExactNeighboursOfWrong : ChangeSpec := { name := "fnExactNeighboursOf", fn := fun _ => fun
  | [d] => { results := [.lit (.bool false)], args := [d] }
  | _ => none }
def FnExactNeighboursOfWrongFalsely : Prop := fnExactNeighboursOfRow.holds Try.pinned (OpenSpec.ofChange fnExactNeighboursOfWrong)

/-- 'laws.FnExactMoveBetween': WHATEVER THE INPUT: true; the input reads as it did. -/
def fnExactMoveBetweenSpec : ChangeSpec := { name := "fnExactMoveBetween", fn := fun _ => fun
  | [d1, d2] => { results := [.lit (.bool true)], args := [d1, d2] }
  | _ => none }
def fnExactMoveBetweenRow : OpenClaim := { program := "ytbblocaihholpab", sum := "9408dc3f17f9f01d424b4c6e3f494dbb1773761b723920883239eae4b09463cc", func := "loop.example/g01321/laws.FnExactMoveBetween", spec := "fnExactMoveBetween", unfollowed := true, recurses := true, plainKeys := false, apart := false }
def FnExactMoveBetweenSaid : Prop := fnExactMoveBetweenRow.holds Try.pinned (OpenSpec.ofChange fnExactMoveBetweenSpec)

/-- ITS FALSE NEIGHBOUR: 'it returns false'. Refute it at one input. -/
def fnExactMoveBetweenWrong : ChangeSpec := { name := "fnExactMoveBetween", fn := fun _ => fun
  | [d1, d2] => { results := [.lit (.bool false)], args := [d1, d2] }
  | _ => none }
def FnExactMoveBetweenWrongFalsely : Prop := fnExactMoveBetweenRow.holds Try.pinned (OpenSpec.ofChange fnExactMoveBetweenWrong)

/-- 'laws.FnExactGoalsOf': WHATEVER THE INPUT: true; the input reads as it did. -/
def fnExactGoalsOfSpec : ChangeSpec := { name := "fnExactGoalsOf", fn := fun _ => fun
  | [d1, d2] => { results := [.lit (.bool true)], args := [d1, d2] }
  | _ => none }
def fnExactGoalsOfRow : OpenClaim := { program := "ytbblocaihholpab", sum := "9408dc3f17f9f01d424b4c6e3f494dbb1773761b723920883239eae4b09463cc", func := "loop.example/g01321/laws.FnExactGoalsOf", spec := "fnExactGoalsOf", plainKeys := false, apart := false }
def FnExactGoalsOfSaid : Prop := fnExactGoalsOfRow.holds Try.pinned (OpenSpec.ofChange fnExactGoalsOfSpec)

/-- ITS FALSE NEIGHBOUR: 'it returns false'. Refute it at one input. -/
def fnExactGoalsOfWrong : ChangeSpec := { name := "fnExactGoalsOf", fn := fun _ => fun
  | [d1, d2] => { results := [.lit (.bool false)], args := [d1, d2] }
  | _ => none }
def FnExactGoalsOfWrongFalsely : Prop := fnExactGoalsOfRow.holds Try.pinned (OpenSpec.ofChange fnExactGoalsOfWrong)

/-- 'laws.FnExactDistanceToPeg': WHATEVER THE INPUT: true; the input reads as it did. -/
def fnExactDistanceToPegSpec : ChangeSpec := { name := "fnExactDistanceToPeg", fn := fun _ => fun
  | [d1, d2] => { results := [.lit (.bool true)], args := [d1, d2] }
  | _ => none }
def fnExactDistanceToPegRow : OpenClaim := { program := "ytbblocaihholpab", sum := "9408dc3f17f9f01d424b4c6e3f494dbb1773761b723920883239eae4b09463cc", func := "loop.example/g01321/laws.FnExactDistanceToPeg", spec := "fnExactDistanceToPeg", plainKeys := false, apart := false }
def FnExactDistanceToPegSaid : Prop := fnExactDistanceToPegRow.holds Try.pinned (OpenSpec.ofChange fnExactDistanceToPegSpec)

/-- ITS FALSE NEIGHBOUR: 'it returns false'. Refute it at one input. -/
def fnExactDistanceToPegWrong : ChangeSpec := { name := "fnExactDistanceToPeg", fn := fun _ => fun
  | [d1, d2] => { results := [.lit (.bool false)], args := [d1, d2] }
  | _ => none }
def FnExactDistanceToPegWrongFalsely : Prop := fnExactDistanceToPegRow.holds Try.pinned (OpenSpec.ofChange fnExactDistanceToPegWrong)

/- THE SECOND FORM. 'bulk': how many values and letters a reading holds, each counted each time it is reached (what is shared counts as often as it is met; a slice's spare places count too). A statement '..UptoSaid' is the law's where the arguments, and the package variables that the reading takes, are together of bulk at most 1048576: NARROWER than '..Said'. Prove '..Said' where nothing that the law and all that it calls make is longer than what came in: it says more and counts as full. Else prove '..UptoSaid'. A law counts once. -/
mutual
def uptoBulk {H : Type} : DataW H → Nat
  | .lit (.string bytes) => bytes.length + 1
  | .lit _ => 1
  | .nil => 1
  | .ptr d => uptoBulk d + 1
  | .slice elems spare => uptoBulkAll elems + uptoBulkAll spare + 1
  | .agg parts => uptoBulkAll parts + 1
  | .iface _ d => uptoBulk d + 1
  | .map entries => uptoBulkEntries entries + 1
  | .held _ => 1
def uptoBulkAll {H : Type} : List (DataW H) → Nat
  | [] => 0
  | d :: r => uptoBulk d + uptoBulkAll r
def uptoBulkEntries {H : Type} : List (Lit × DataW H) → Nat
  | [] => 0
  | x :: r => uptoBulkEntry x + uptoBulkEntries r
def uptoBulkEntry {H : Type} : Lit × DataW H → Nat
  | (.string bytes, d) => bytes.length + uptoBulk d + 1
  | (_, d) => uptoBulk d + 1
 end
def uptoSmall : (H : Type) → List (DataW H) → Bool := fun _ ds => decide (uptoBulkAll ds ≤ 1048576)
def OpenSpec.upto (s : _root_.Go.ChangeSpec) : _root_.Go.OpenSpec := { _root_.Go.OpenSpec.ofChange s with cond := some uptoSmall }

/-- 'laws.FnExactLegalMoves', WHERE WHAT IT READS IS OF BULK AT MOST 1048576: true; the input reads as it did. -/
def fnExactLegalMovesUptoRow : OpenClaim := { program := "ytbblocaihholpab", sum := "9408dc3f17f9f01d424b4c6e3f494dbb1773761b723920883239eae4b09463cc", func := "loop.example/g01321/laws.FnExactLegalMoves", spec := "fnExactLegalMoves", unfollowed := true, recurses := true, plainKeys := false, apart := false, narrowed := true }
def FnExactLegalMovesUptoSaid : Prop := fnExactLegalMovesUptoRow.holds Try.pinned (OpenSpec.upto fnExactLegalMovesSpec)

/-- 'laws.FnExactNeighboursOf', WHERE WHAT IT READS IS OF BULK AT MOST 1048576: true; the input reads as it did. -/
def fnExactNeighboursOfUptoRow : OpenClaim := { program := "ytbblocaihholpab", sum := "9408dc3f17f9f01d424b4c6e3f494dbb1773761b723920883239eae4b09463cc", func := "loop.example/g01321/laws.FnExactNeighboursOf", spec := "fnExactNeighboursOf", unfollowed := true, recurses := true, plainKeys := false, apart := false, narrowed := true }
def FnExactNeighboursOfUptoSaid : Prop := fnExactNeighboursOfUptoRow.holds Try.pinned (OpenSpec.upto fnExactNeighboursOfSpec)

/-- 'laws.FnExactMoveBetween', WHERE WHAT IT READS IS OF BULK AT MOST 1048576: true; the input reads as it did. -/
def fnExactMoveBetweenUptoRow : OpenClaim := { program := "ytbblocaihholpab", sum := "9408dc3f17f9f01d424b4c6e3f494dbb1773761b723920883239eae4b09463cc", func := "loop.example/g01321/laws.FnExactMoveBetween", spec := "fnExactMoveBetween", unfollowed := true, recurses := true, plainKeys := false, apart := false, narrowed := true }
def FnExactMoveBetweenUptoSaid : Prop := fnExactMoveBetweenUptoRow.holds Try.pinned (OpenSpec.upto fnExactMoveBetweenSpec)

/-- 'laws.FnExactGoalsOf', WHERE WHAT IT READS IS OF BULK AT MOST 1048576: true; the input reads as it did. -/
def fnExactGoalsOfUptoRow : OpenClaim := { program := "ytbblocaihholpab", sum := "9408dc3f17f9f01d424b4c6e3f494dbb1773761b723920883239eae4b09463cc", func := "loop.example/g01321/laws.FnExactGoalsOf", spec := "fnExactGoalsOf", plainKeys := false, apart := false, narrowed := true }
def FnExactGoalsOfUptoSaid : Prop := fnExactGoalsOfUptoRow.holds Try.pinned (OpenSpec.upto fnExactGoalsOfSpec)

/-- 'laws.FnExactDistanceToPeg', WHERE WHAT IT READS IS OF BULK AT MOST 1048576: true; the input reads as it did. -/
def fnExactDistanceToPegUptoRow : OpenClaim := { program := "ytbblocaihholpab", sum := "9408dc3f17f9f01d424b4c6e3f494dbb1773761b723920883239eae4b09463cc", func := "loop.example/g01321/laws.FnExactDistanceToPeg", spec := "fnExactDistanceToPeg", plainKeys := false, apart := false, narrowed := true }
def FnExactDistanceToPegUptoSaid : Prop := fnExactDistanceToPegUptoRow.holds Try.pinned (OpenSpec.upto fnExactDistanceToPegSpec)

end Rows
end Go.Proofs.Ytbblocaihholpab
