/-
  No cell of these rows narrows 'for every input' (looked for: loops, veiled, ifaces, maps, wideKeys, modest, calm, conditions, laid).
  DERIVED. THE GIVEN ROWS OF THIS SEAT. 3 by the template 'for every input the law returns true; each argument reads behind the call as it read before'; 0 by the template 'total and deterministic' (their statements: YtbcgoboeeigcgaaTotals.lean).
  GIVEN WITH THE SEED: the statements are not yours to turn. If you find one false, say at which input.
  Laid BY PROGRAM, IN A SANDBOX (cutbox-rows.mjs): the forced cells as the released guide's own fill.sh prints them over the translation 0e90afc12c380c5c… (all of the seat's roots in one cut). By AI agents, Wed Nov 11 2026. No macro, syntax, notation, axiom, sorry.
-/
import Derived.Test.YtbcgoboeeigcgaaChecked
import GoSem.Claim
import GoSem.ClaimJoined
import GoSem.ClaimMapViews
import Derived.JoinedTies
import Derived.KernelRfl
namespace Go.Proofs.Ytbcgoboeeigcgaa
/- THE CELL 'sum', in the pinned program and in every row, IS THE sha256 OF THE DUMP (.gsa) THAT YtbcgoboeeigcgaaProg.lean LOADS. Nothing in Lean hashes anything: it is a label: what it is worth is what the hold of that sum in a sandbox is worth. -/
noncomputable def Try.pinned : Pinned := { name := "ytbcgoboeeigcgaa", sum := "0e90afc12c380c5cea262b4742922eea7ce9dafa30045b19fe3a2e23f59f432e", checked := Try.checked }
namespace Rows
def none {H : Type} : Left H := { results := [], args := [] }

/-- 'laws.FnExactTableByRules': WHATEVER THE INPUT: true; the input reads as it did. -/
def fnExactTableByRulesSpec : ChangeSpec := { name := "fnExactTableByRules", fn := fun _ => fun
  | [d1, d2] => { results := [.lit (.bool true)], args := [d1, d2] }
  | _ => none }
def fnExactTableByRulesRow : OpenClaim := { program := "ytbcgoboeeigcgaa", sum := "0e90afc12c380c5cea262b4742922eea7ce9dafa30045b19fe3a2e23f59f432e", func := "loop.example/g01321/laws.FnExactTableByRules", spec := "fnExactTableByRules", unfollowed := true, recurses := true, apart := false }
def FnExactTableByRulesSaid : Prop := fnExactTableByRulesRow.holds Try.pinned (OpenSpec.ofChange fnExactTableByRulesSpec)

/-- ITS FALSE NEIGHBOUR: 'it returns false'. Refute it at one input. -/
def fnExactTableByRulesWrong : ChangeSpec := { name := "fnExactTableByRules", fn := fun _ => fun
  | [d1, d2] => { results := [.lit (.bool false)], args := [d1, d2] }
  | _ => none }
def FnExactTableByRulesWrongFalsely : Prop := fnExactTableByRulesRow.holds Try.pinned (OpenSpec.ofChange fnExactTableByRulesWrong)

/-- 'laws.FnExactLeastByRules': WHATEVER THE INPUT: true; the input reads as it did. -/
def fnExactLeastByRulesSpec : ChangeSpec := { name := "fnExactLeastByRules", fn := fun _ => fun
  | [d1, d2, d3, d4] => { results := [.lit (.bool true)], args := [d1, d2, d3, d4] }
  | _ => none }
def fnExactLeastByRulesRow : OpenClaim := { program := "ytbcgoboeeigcgaa", sum := "0e90afc12c380c5cea262b4742922eea7ce9dafa30045b19fe3a2e23f59f432e", func := "loop.example/g01321/laws.FnExactLeastByRules", spec := "fnExactLeastByRules", unfollowed := true, recurses := true, apart := false }
def FnExactLeastByRulesSaid : Prop := fnExactLeastByRulesRow.holds Try.pinned (OpenSpec.ofChange fnExactLeastByRulesSpec)

/-- ITS FALSE NEIGHBOUR: 'it returns false'. Refute it at one input. -/
def fnExactLeastByRulesWrong : ChangeSpec := { name := "fnExactLeastByRules", fn := fun _ => fun
  | [d1, d2, d3, d4] => { results := [.lit (.bool false)], args := [d1, d2, d3, d4] }
  | _ => none }
def FnExactLeastByRulesWrongFalsely : Prop := fnExactLeastByRulesRow.holds Try.pinned (OpenSpec.ofChange fnExactLeastByRulesWrong)

/-- 'laws.FnExactPresumedMoves': WHATEVER THE INPUT: true; the input reads as it did. -/
def fnExactPresumedMovesSpec : ChangeSpec := { name := "fnExactPresumedMoves", fn := fun _ => fun
  | [d1, d2] => { results := [.lit (.bool true)], args := [d1, d2] }
  | _ => none }
def fnExactPresumedMovesRow : OpenClaim := { program := "ytbcgoboeeigcgaa", sum := "0e90afc12c380c5cea262b4742922eea7ce9dafa30045b19fe3a2e23f59f432e", func := "loop.example/g01321/laws.FnExactPresumedMoves", spec := "fnExactPresumedMoves", unfollowed := true, recurses := true, apart := false }
def FnExactPresumedMovesSaid : Prop := fnExactPresumedMovesRow.holds Try.pinned (OpenSpec.ofChange fnExactPresumedMovesSpec)

/-- ITS FALSE NEIGHBOUR: 'it returns false'. Refute it at one input. -/
def fnExactPresumedMovesWrong : ChangeSpec := { name := "fnExactPresumedMoves", fn := fun _ => fun
  | [d1, d2] => { results := [.lit (.bool false)], args := [d1, d2] }
  | _ => none }
def FnExactPresumedMovesWrongFalsely : Prop := fnExactPresumedMovesRow.holds Try.pinned (OpenSpec.ofChange fnExactPresumedMovesWrong)

/- THE SECOND FORM. 'bulk': how many values and letters a reading holds, each counted each time it is reached (what is shared counts as often as it is met; a slice's spare places count too). A statement '..UptoSaid' is the law's where the arguments, and the package variables that the reading takes, are together of bulk at most 1048576: NARROWER than '..Said'. Prove '..Said' where nothing that the law and all that it calls make is longer than what came in: it says more and counts as full. Else prove '..UptoSaid'. A law counts once. -/
mutual
def uptoBulk {H : Type} : DataW H → Nat
  | .lit (.string bytes) => bytes.length + 1
  | .lit _ => 1
  | .nil => 1
  | .ptr d => uptoBulk d + 1
  | .slice elems spare => uptoBulkAll elems + uptoBulkAll spare + 1
  | .agg parts => uptoBulkAll parts + 1
  | .iface _ d => uptoBulk d + 1
  | .map entries => uptoBulkEntries entries + 1
  | .held _ => 1
def uptoBulkAll {H : Type} : List (DataW H) → Nat
  | [] => 0
  | d :: r => uptoBulk d + uptoBulkAll r
def uptoBulkEntries {H : Type} : List (Lit × DataW H) → Nat
  | [] => 0
  | x :: r => uptoBulkEntry x + uptoBulkEntries r
def uptoBulkEntry {H : Type} : Lit × DataW H → Nat
  | (.string bytes, d) => bytes.length + uptoBulk d + 1
  | (_, d) => uptoBulk d + 1
 end
def uptoSmall : (H : Type) → List (DataW H) → Bool := fun _ ds => decide (uptoBulkAll ds ≤ 1048576)
def OpenSpec.upto (s : _root_.Go.ChangeSpec) : _root_.Go.OpenSpec := { _root_.Go.OpenSpec.ofChange s with cond := some uptoSmall }

/-- 'laws.FnExactTableByRules', WHERE WHAT IT READS IS OF BULK AT MOST 1048576: true; the input reads as it did. -/
def fnExactTableByRulesUptoRow : OpenClaim := { program := "ytbcgoboeeigcgaa", sum := "0e90afc12c380c5cea262b4742922eea7ce9dafa30045b19fe3a2e23f59f432e", func := "loop.example/g01321/laws.FnExactTableByRules", spec := "fnExactTableByRules", unfollowed := true, recurses := true, apart := false, narrowed := true }
def FnExactTableByRulesUptoSaid : Prop := fnExactTableByRulesUptoRow.holds Try.pinned (OpenSpec.upto fnExactTableByRulesSpec)

/-- 'laws.FnExactLeastByRules', WHERE WHAT IT READS IS OF BULK AT MOST 1048576: true; the input reads as it did. -/
def fnExactLeastByRulesUptoRow : OpenClaim := { program := "ytbcgoboeeigcgaa", sum := "0e90afc12c380c5cea262b4742922eea7ce9dafa30045b19fe3a2e23f59f432e", func := "loop.example/g01321/laws.FnExactLeastByRules", spec := "fnExactLeastByRules", unfollowed := true, recurses := true, apart := false, narrowed := true }
def FnExactLeastByRulesUptoSaid : Prop := fnExactLeastByRulesUptoRow.holds Try.pinned (OpenSpec.upto fnExactLeastByRulesSpec)

/-- 'laws.FnExactPresumedMoves', WHERE WHAT IT READS IS OF BULK AT MOST 1048576: true; the input reads as it did. -/
def fnExactPresumedMovesUptoRow : OpenClaim := { program := "ytbcgoboeeigcgaa", sum := "0e90afc12c380c5cea262b4742922eea7ce9dafa30045b19fe3a2e23f59f432e", func := "loop.example/g01321/laws.FnExactPresumedMoves", spec := "fnExactPresumedMoves", unfollowed := true, recurses := true, apart := false, narrowed := true }
def FnExactPresumedMovesUptoSaid : Prop := fnExactPresumedMovesUptoRow.holds Try.pinned (OpenSpec.upto fnExactPresumedMovesSpec)

end Rows
end Go.Proofs.Ytbcgoboeeigcgaa
