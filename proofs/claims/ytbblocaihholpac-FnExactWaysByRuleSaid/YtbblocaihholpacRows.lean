/-
  No cell of these rows narrows 'for every input' (looked for: loops, veiled, ifaces, maps, wideKeys, modest, calm, conditions, laid).
  DERIVED. THE GIVEN ROWS OF THIS SEAT. 5 by the template 'for every input the law returns true; each argument reads behind the call as it read before'; 0 by the template 'total and deterministic' (their statements: YtbblocaihholpacTotals.lean).
  GIVEN WITH THE SEED: the statements are not yours to turn. If you find one false, say at which input.
  Laid BY PROGRAM, IN A SANDBOX (cutbox-rows.mjs): the forced cells as the released guide's own fill.sh prints them over the translation 2564d2deeda40442… (all of the seat's roots in one cut). By AI agents, Wed Nov 11 2026. No macro, syntax, notation, axiom, sorry.
-/
import Derived.Test.YtbblocaihholpacChecked
import GoSem.Claim
import GoSem.ClaimJoined
import GoSem.ClaimMapViews
import Derived.JoinedTies
import Derived.KernelRfl
namespace Go.Proofs.Ytbblocaihholpac
/- THE CELL 'sum', in the pinned program and in every row, IS THE sha256 OF THE DUMP (.gsa) THAT YtbblocaihholpacProg.lean LOADS. Nothing in Lean hashes anything: it is a label: what it is worth is what the hold of that sum in a sandbox is worth. -/
noncomputable def Try.pinned : Pinned := { name := "ytbblocaihholpac", sum := "2564d2deeda4044274303b75af6867895534137e786b19801f8ff09dd83c9bc8", checked := Try.checked }
namespace Rows
def none {H : Type} : Left H := { results := [], args := [] }

/-- 'laws.FnExactOneMoveNumber': WHATEVER THE INPUT: true; the input reads as it did. -/
def fnExactOneMoveNumberSpec : ChangeSpec := { name := "fnExactOneMoveNumber", fn := fun _ => fun
  | [d1, d2] => { results := [.lit (.bool true)], args := [d1, d2] }
  | _ => none }
def fnExactOneMoveNumberRow : OpenClaim := { program := "ytbblocaihholpac", sum := "2564d2deeda4044274303b75af6867895534137e786b19801f8ff09dd83c9bc8", func := "loop.example/g01321/laws.FnExactOneMoveNumber", spec := "fnExactOneMoveNumber", apart := false }
def FnExactOneMoveNumberSaid : Prop := fnExactOneMoveNumberRow.holds Try.pinned (OpenSpec.ofChange fnExactOneMoveNumberSpec)

/-- ITS FALSE NEIGHBOUR: 'it returns false'. Refute it at one input. -/
def fnExactOneMoveNumberWrong : ChangeSpec := { name := "fnExactOneMoveNumber", fn := fun _ => fun
  | [d1, d2] => { results := [.lit (.bool false)], args := [d1, d2] }
  | _ => none }
def FnExactOneMoveNumberWrongFalsely : Prop := fnExactOneMoveNumberRow.holds Try.pinned (OpenSpec.ofChange fnExactOneMoveNumberWrong)

/-- 'laws.FnExactTwoMoveNumber': WHATEVER THE INPUT: true; the input reads as it did. -/
def fnExactTwoMoveNumberSpec : ChangeSpec := { name := "fnExactTwoMoveNumber", fn := fun _ => fun
  | [d1, d2] => { results := [.lit (.bool true)], args := [d1, d2] }
  | _ => none }
def fnExactTwoMoveNumberRow : OpenClaim := { program := "ytbblocaihholpac", sum := "2564d2deeda4044274303b75af6867895534137e786b19801f8ff09dd83c9bc8", func := "loop.example/g01321/laws.FnExactTwoMoveNumber", spec := "fnExactTwoMoveNumber", apart := false }
def FnExactTwoMoveNumberSaid : Prop := fnExactTwoMoveNumberRow.holds Try.pinned (OpenSpec.ofChange fnExactTwoMoveNumberSpec)

/-- ITS FALSE NEIGHBOUR: 'it returns false'. Refute it at one input. -/
def fnExactTwoMoveNumberWrong : ChangeSpec := { name := "fnExactTwoMoveNumber", fn := fun _ => fun
  | [d1, d2] => { results := [.lit (.bool false)], args := [d1, d2] }
  | _ => none }
def FnExactTwoMoveNumberWrongFalsely : Prop := fnExactTwoMoveNumberRow.holds Try.pinned (OpenSpec.ofChange fnExactTwoMoveNumberWrong)

/-- 'laws.FnExactDistanceByRule': WHATEVER THE INPUT: true; the input reads as it did. -/
def fnExactDistanceByRuleSpec : ChangeSpec := { name := "fnExactDistanceByRule", fn := fun _ => fun
  | [d1, d2] => { results := [.lit (.bool true)], args := [d1, d2] }
  | _ => none }
def fnExactDistanceByRuleRow : OpenClaim := { program := "ytbblocaihholpac", sum := "2564d2deeda4044274303b75af6867895534137e786b19801f8ff09dd83c9bc8", func := "loop.example/g01321/laws.FnExactDistanceByRule", spec := "fnExactDistanceByRule", apart := false }
def FnExactDistanceByRuleSaid : Prop := fnExactDistanceByRuleRow.holds Try.pinned (OpenSpec.ofChange fnExactDistanceByRuleSpec)

/-- ITS FALSE NEIGHBOUR: 'it returns false'. Refute it at one input. -/
def fnExactDistanceByRuleWrong : ChangeSpec := { name := "fnExactDistanceByRule", fn := fun _ => fun
  | [d1, d2] => { results := [.lit (.bool false)], args := [d1, d2] }
  | _ => none }
def FnExactDistanceByRuleWrongFalsely : Prop := fnExactDistanceByRuleRow.holds Try.pinned (OpenSpec.ofChange fnExactDistanceByRuleWrong)

/-- 'laws.FnExactWaysByRule': WHATEVER THE INPUT: true; the input reads as it did. -/
def fnExactWaysByRuleSpec : ChangeSpec := { name := "fnExactWaysByRule", fn := fun _ => fun
  | [d1, d2] => { results := [.lit (.bool true)], args := [d1, d2] }
  | _ => none }
def fnExactWaysByRuleRow : OpenClaim := { program := "ytbblocaihholpac", sum := "2564d2deeda4044274303b75af6867895534137e786b19801f8ff09dd83c9bc8", func := "loop.example/g01321/laws.FnExactWaysByRule", spec := "fnExactWaysByRule", apart := false }
def FnExactWaysByRuleSaid : Prop := fnExactWaysByRuleRow.holds Try.pinned (OpenSpec.ofChange fnExactWaysByRuleSpec)

/-- ITS FALSE NEIGHBOUR: 'it returns false'. Refute it at one input. -/
def fnExactWaysByRuleWrong : ChangeSpec := { name := "fnExactWaysByRule", fn := fun _ => fun
  | [d1, d2] => { results := [.lit (.bool false)], args := [d1, d2] }
  | _ => none }
def FnExactWaysByRuleWrongFalsely : Prop := fnExactWaysByRuleRow.holds Try.pinned (OpenSpec.ofChange fnExactWaysByRuleWrong)

/-- 'laws.FnExactFirstMove': WHATEVER THE INPUT: true; the input reads as it did. -/
def fnExactFirstMoveSpec : ChangeSpec := { name := "fnExactFirstMove", fn := fun _ => fun
  | [d1, d2] => { results := [.lit (.bool true)], args := [d1, d2] }
  | _ => none }
def fnExactFirstMoveRow : OpenClaim := { program := "ytbblocaihholpac", sum := "2564d2deeda4044274303b75af6867895534137e786b19801f8ff09dd83c9bc8", func := "loop.example/g01321/laws.FnExactFirstMove", spec := "fnExactFirstMove", unfollowed := true, recurses := true, apart := false }
def FnExactFirstMoveSaid : Prop := fnExactFirstMoveRow.holds Try.pinned (OpenSpec.ofChange fnExactFirstMoveSpec)

/-- ITS FALSE NEIGHBOUR: 'it returns false'. Refute it at one input. -/
def fnExactFirstMoveWrong : ChangeSpec := { name := "fnExactFirstMove", fn := fun _ => fun
  | [d1, d2] => { results := [.lit (.bool false)], args := [d1, d2] }
  | _ => none }
def FnExactFirstMoveWrongFalsely : Prop := fnExactFirstMoveRow.holds Try.pinned (OpenSpec.ofChange fnExactFirstMoveWrong)

/- THE SECOND FORM. 'bulk': how many values and letters a reading holds, each counted each time it is reached (what is shared counts as often as it is met; a slice's spare places count too). A statement '..UptoSaid' is the law's where the arguments, and the package variables that the reading takes, are together of bulk at most 1048576: NARROWER than '..Said'. Prove '..Said' where nothing that the law and all that it calls make is longer than what came in: it says more and counts as full. Else prove '..UptoSaid'. A law counts once. -/
mutual
def uptoBulk {H : Type} : DataW H → Nat
  | .lit (.string bytes) => bytes.length + 1
  | .lit _ => 1
  | .nil => 1
  | .ptr d => uptoBulk d + 1
  | .slice elems spare => uptoBulkAll elems + uptoBulkAll spare + 1
  | .agg parts => uptoBulkAll parts + 1
  | .iface _ d => uptoBulk d + 1
  | .map entries => uptoBulkEntries entries + 1
  | .held _ => 1
def uptoBulkAll {H : Type} : List (DataW H) → Nat
  | [] => 0
  | d :: r => uptoBulk d + uptoBulkAll r
def uptoBulkEntries {H : Type} : List (Lit × DataW H) → Nat
  | [] => 0
  | x :: r => uptoBulkEntry x + uptoBulkEntries r
def uptoBulkEntry {H : Type} : Lit × DataW H → Nat
  | (.string bytes, d) => bytes.length + uptoBulk d + 1
  | (_, d) => uptoBulk d + 1
 end
def uptoSmall : (H : Type) → List (DataW H) → Bool := fun _ ds => decide (uptoBulkAll ds ≤ 1048576)
def OpenSpec.upto (s : _root_.Go.ChangeSpec) : _root_.Go.OpenSpec := { _root_.Go.OpenSpec.ofChange s with cond := some uptoSmall }

/-- 'laws.FnExactOneMoveNumber', WHERE WHAT IT READS IS OF BULK AT MOST 1048576: true; the input reads as it did. -/
def fnExactOneMoveNumberUptoRow : OpenClaim := { program := "ytbblocaihholpac", sum := "2564d2deeda4044274303b75af6867895534137e786b19801f8ff09dd83c9bc8", func := "loop.example/g01321/laws.FnExactOneMoveNumber", spec := "fnExactOneMoveNumber", apart := false, narrowed := true }
def FnExactOneMoveNumberUptoSaid : Prop := fnExactOneMoveNumberUptoRow.holds Try.pinned (OpenSpec.upto fnExactOneMoveNumberSpec)

/-- 'laws.FnExactTwoMoveNumber', WHERE WHAT IT READS IS OF BULK AT MOST 1048576: true; the input reads as it did. -/
def fnExactTwoMoveNumberUptoRow : OpenClaim := { program := "ytbblocaihholpac", sum := "2564d2deeda4044274303b75af6867895534137e786b19801f8ff09dd83c9bc8", func := "loop.example/g01321/laws.FnExactTwoMoveNumber", spec := "fnExactTwoMoveNumber", apart := false, narrowed := true }
def FnExactTwoMoveNumberUptoSaid : Prop := fnExactTwoMoveNumberUptoRow.holds Try.pinned (OpenSpec.upto fnExactTwoMoveNumberSpec)

/-- 'laws.FnExactDistanceByRule', WHERE WHAT IT READS IS OF BULK AT MOST 1048576: true; the input reads as it did. -/
def fnExactDistanceByRuleUptoRow : OpenClaim := { program := "ytbblocaihholpac", sum := "2564d2deeda4044274303b75af6867895534137e786b19801f8ff09dd83c9bc8", func := "loop.example/g01321/laws.FnExactDistanceByRule", spec := "fnExactDistanceByRule", apart := false, narrowed := true }
def FnExactDistanceByRuleUptoSaid : Prop := fnExactDistanceByRuleUptoRow.holds Try.pinned (OpenSpec.upto fnExactDistanceByRuleSpec)

/-- 'laws.FnExactWaysByRule', WHERE WHAT IT READS IS OF BULK AT MOST 1048576: true; the input reads as it did. -/
def fnExactWaysByRuleUptoRow : OpenClaim := { program := "ytbblocaihholpac", sum := "2564d2deeda4044274303b75af6867895534137e786b19801f8ff09dd83c9bc8", func := "loop.example/g01321/laws.FnExactWaysByRule", spec := "fnExactWaysByRule", apart := false, narrowed := true }
def FnExactWaysByRuleUptoSaid : Prop := fnExactWaysByRuleUptoRow.holds Try.pinned (OpenSpec.upto fnExactWaysByRuleSpec)

/-- 'laws.FnExactFirstMove', WHERE WHAT IT READS IS OF BULK AT MOST 1048576: true; the input reads as it did. -/
def fnExactFirstMoveUptoRow : OpenClaim := { program := "ytbblocaihholpac", sum := "2564d2deeda4044274303b75af6867895534137e786b19801f8ff09dd83c9bc8", func := "loop.example/g01321/laws.FnExactFirstMove", spec := "fnExactFirstMove", unfollowed := true, recurses := true, apart := false, narrowed := true }
def FnExactFirstMoveUptoSaid : Prop := fnExactFirstMoveUptoRow.holds Try.pinned (OpenSpec.upto fnExactFirstMoveSpec)

end Rows
end Go.Proofs.Ytbblocaihholpac
