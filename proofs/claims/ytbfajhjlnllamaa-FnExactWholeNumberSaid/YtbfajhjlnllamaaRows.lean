/-
  No cell of these rows narrows 'for every input' (looked for: loops, veiled, ifaces, maps, wideKeys, modest, calm, conditions, laid).
  DERIVED. THE GIVEN ROWS OF THIS SEAT. 5 by the template 'for every input the law returns true; each argument reads behind the call as it read before'; 0 by the template 'total and deterministic' (their statements: YtbfajhjlnllamaaTotals.lean).
  GIVEN WITH THE SEED: the statements are not yours to turn. If you find one false, say at which input.
  Laid BY PROGRAM, IN A SANDBOX (cutbox-rows.mjs): the forced cells as the released guide's own fill.sh prints them over the translation e8cfee15ec8ec81e… (all of the seat's roots in one cut). By AI agents, Wed Nov 11 2026. No macro, syntax, notation, axiom, sorry.
-/
import Derived.Test.YtbfajhjlnllamaaChecked
import GoSem.Claim
import GoSem.ClaimJoined
import GoSem.ClaimMapViews
import Derived.JoinedTies
import Derived.KernelRfl
namespace Go.Proofs.Ytbfajhjlnllamaa
/- THE CELL 'sum', in the pinned program and in every row, IS THE sha256 OF THE DUMP (.gsa) THAT YtbfajhjlnllamaaProg.lean LOADS. Nothing in Lean hashes anything: it is a label: what it is worth is what the hold of that sum in a sandbox is worth. -/
noncomputable def Try.pinned : Pinned := { name := "ytbfajhjlnllamaa", sum := "e8cfee15ec8ec81eac7d9fb91dd05dcf89d1a0a129eba887ad4fd0096a0f0ea6", checked := Try.checked }
namespace Rows
def none {H : Type} : Left H := { results := [], args := [] }

/-- 'laws.FnExactIsRings': WHATEVER THE INPUT: true; the input reads as it did. -/
def fnExactIsRingsSpec : ChangeSpec := { name := "fnExactIsRings", fn := fun _ => fun
  | [d] => { results := [.lit (.bool true)], args := [d] }
  | _ => none }
def fnExactIsRingsRow : OpenClaim := { program := "ytbfajhjlnllamaa", sum := "e8cfee15ec8ec81eac7d9fb91dd05dcf89d1a0a129eba887ad4fd0096a0f0ea6", func := "loop.example/g01321/laws.FnExactIsRings", spec := "fnExactIsRings", apart := false }
def FnExactIsRingsSaid : Prop := fnExactIsRingsRow.holds Try.pinned (OpenSpec.ofChange fnExactIsRingsSpec)

/-- ITS FALSE NEIGHBOUR: 'it returns false'. Refute it at one input. -/
def fnExactIsRingsWrong : ChangeSpec := { name := "fnExactIsRings", fn := fun _ => fun
  | [d] => { results := [.lit (.bool false)], args := [d] }
  | _ => none }
def FnExactIsRingsWrongFalsely : Prop := fnExactIsRingsRow.holds Try.pinned (OpenSpec.ofChange fnExactIsRingsWrong)

/-- 'laws.FnExactRankOfRings': WHATEVER THE INPUT: true; the input reads as it did. -/
def fnExactRankOfRingsSpec : ChangeSpec := { name := "fnExactRankOfRings", fn := fun _ => fun
  | [d] => { results := [.lit (.bool true)], args := [d] }
  | _ => none }
def fnExactRankOfRingsRow : OpenClaim := { program := "ytbfajhjlnllamaa", sum := "e8cfee15ec8ec81eac7d9fb91dd05dcf89d1a0a129eba887ad4fd0096a0f0ea6", func := "loop.example/g01321/laws.FnExactRankOfRings", spec := "fnExactRankOfRings", unfollowed := true, recurses := true, apart := false }
def FnExactRankOfRingsSaid : Prop := fnExactRankOfRingsRow.holds Try.pinned (OpenSpec.ofChange fnExactRankOfRingsSpec)

/-- ITS FALSE NEIGHBOUR: 'it returns false'. Refute it at one input. -/
def fnExactRankOfRingsWrong : ChangeSpec := { name := "fnExactRankOfRings", fn := fun _ => fun
  | [d] => { results := [.lit (.bool false)], args := [d] }
  | _ => none }
def FnExactRankOfRingsWrongFalsely : Prop := fnExactRankOfRingsRow.holds Try.pinned (OpenSpec.ofChange fnExactRankOfRingsWrong)

/-- 'laws.FnExactRingsOfRank': WHATEVER THE INPUT: true; the input reads as it did. -/
def fnExactRingsOfRankSpec : ChangeSpec := { name := "fnExactRingsOfRank", fn := fun _ => fun
  | [d1, d2] => { results := [.lit (.bool true)], args := [d1, d2] }
  | _ => none }
def fnExactRingsOfRankRow : OpenClaim := { program := "ytbfajhjlnllamaa", sum := "e8cfee15ec8ec81eac7d9fb91dd05dcf89d1a0a129eba887ad4fd0096a0f0ea6", func := "loop.example/g01321/laws.FnExactRingsOfRank", spec := "fnExactRingsOfRank", apart := false }
def FnExactRingsOfRankSaid : Prop := fnExactRingsOfRankRow.holds Try.pinned (OpenSpec.ofChange fnExactRingsOfRankSpec)

/-- ITS FALSE NEIGHBOUR: 'it returns false'. Refute it at one input. -/
def fnExactRingsOfRankWrong : ChangeSpec := { name := "fnExactRingsOfRank", fn := fun _ => fun
  | [d1, d2] => { results := [.lit (.bool false)], args := [d1, d2] }
  | _ => none }
def FnExactRingsOfRankWrongFalsely : Prop := fnExactRingsOfRankRow.holds Try.pinned (OpenSpec.ofChange fnExactRingsOfRankWrong)

/-- 'laws.FnExactDistanceOfRings': WHATEVER THE INPUT: true; the input reads as it did. -/
def fnExactDistanceOfRingsSpec : ChangeSpec := { name := "fnExactDistanceOfRings", fn := fun _ => fun
  | [d1, d2] => { results := [.lit (.bool true)], args := [d1, d2] }
  | _ => none }
def fnExactDistanceOfRingsRow : OpenClaim := { program := "ytbfajhjlnllamaa", sum := "e8cfee15ec8ec81eac7d9fb91dd05dcf89d1a0a129eba887ad4fd0096a0f0ea6", func := "loop.example/g01321/laws.FnExactDistanceOfRings", spec := "fnExactDistanceOfRings", unfollowed := true, recurses := true, apart := false }
def FnExactDistanceOfRingsSaid : Prop := fnExactDistanceOfRingsRow.holds Try.pinned (OpenSpec.ofChange fnExactDistanceOfRingsSpec)

/-- ITS FALSE NEIGHBOUR: 'it returns false'. Refute it at one input. -/
def fnExactDistanceOfRingsWrong : ChangeSpec := { name := "fnExactDistanceOfRings", fn := fun _ => fun
  | [d1, d2] => { results := [.lit (.bool false)], args := [d1, d2] }
  | _ => none }
def FnExactDistanceOfRingsWrongFalsely : Prop := fnExactDistanceOfRingsRow.holds Try.pinned (OpenSpec.ofChange fnExactDistanceOfRingsWrong)

/-- 'laws.FnExactWholeNumber': WHATEVER THE INPUT: true; the input reads as it did. -/
def fnExactWholeNumberSpec : ChangeSpec := { name := "fnExactWholeNumber", fn := fun _ => fun
  | [d] => { results := [.lit (.bool true)], args := [d] }
  | _ => none }
def fnExactWholeNumberRow : OpenClaim := { program := "ytbfajhjlnllamaa", sum := "e8cfee15ec8ec81eac7d9fb91dd05dcf89d1a0a129eba887ad4fd0096a0f0ea6", func := "loop.example/g01321/laws.FnExactWholeNumber", spec := "fnExactWholeNumber", unfollowed := true, recurses := true, apart := false }
def FnExactWholeNumberSaid : Prop := fnExactWholeNumberRow.holds Try.pinned (OpenSpec.ofChange fnExactWholeNumberSpec)

/-- ITS FALSE NEIGHBOUR: 'it returns false'. Refute it at one input. -/
def fnExactWholeNumberWrong : ChangeSpec := { name := "fnExactWholeNumber", fn := fun _ => fun
  | [d] => { results := [.lit (.bool false)], args := [d] }
  | _ => none }
def FnExactWholeNumberWrongFalsely : Prop := fnExactWholeNumberRow.holds Try.pinned (OpenSpec.ofChange fnExactWholeNumberWrong)

/- THE SECOND FORM. 'bulk': how many values and letters a reading holds, each counted each time it is reached (what is shared counts as often as it is met; a slice's spare places count too). A statement '..UptoSaid' is the law's where the arguments, and the package variables that the reading takes, are together of bulk at most 1048576: NARROWER than '..Said'. Prove '..Said' where nothing that the law and all that it calls make is longer than what came in: it says more and counts as full. Else prove '..UptoSaid'. A law counts once. -/
mutual
def uptoBulk {H : Type} : DataW H → Nat
  | .lit (.string bytes) => bytes.length + 1
  | .lit _ => 1
  | .nil => 1
  | .ptr d => uptoBulk d + 1
  | .slice elems spare => uptoBulkAll elems + uptoBulkAll spare + 1
  | .agg parts => uptoBulkAll parts + 1
  | .iface _ d => uptoBulk d + 1
  | .map entries => uptoBulkEntries entries + 1
  | .held _ => 1
def uptoBulkAll {H : Type} : List (DataW H) → Nat
  | [] => 0
  | d :: r => uptoBulk d + uptoBulkAll r
def uptoBulkEntries {H : Type} : List (Lit × DataW H) → Nat
  | [] => 0
  | x :: r => uptoBulkEntry x + uptoBulkEntries r
def uptoBulkEntry {H : Type} : Lit × DataW H → Nat
  | (.string bytes, d) => bytes.length + uptoBulk d + 1
  | (_, d) => uptoBulk d + 1
 end
def uptoSmall : (H : Type) → List (DataW H) → Bool := fun _ ds => decide (uptoBulkAll ds ≤ 1048576)
def OpenSpec.upto (s : _root_.Go.ChangeSpec) : _root_.Go.OpenSpec := { _root_.Go.OpenSpec.ofChange s with cond := some uptoSmall }

/-- 'laws.FnExactIsRings', WHERE WHAT IT READS IS OF BULK AT MOST 1048576: true; the input reads as it did. -/
def fnExactIsRingsUptoRow : OpenClaim := { program := "ytbfajhjlnllamaa", sum := "e8cfee15ec8ec81eac7d9fb91dd05dcf89d1a0a129eba887ad4fd0096a0f0ea6", func := "loop.example/g01321/laws.FnExactIsRings", spec := "fnExactIsRings", apart := false, narrowed := true }
def FnExactIsRingsUptoSaid : Prop := fnExactIsRingsUptoRow.holds Try.pinned (OpenSpec.upto fnExactIsRingsSpec)

/-- 'laws.FnExactRankOfRings', WHERE WHAT IT READS IS OF BULK AT MOST 1048576: true; the input reads as it did. -/
def fnExactRankOfRingsUptoRow : OpenClaim := { program := "ytbfajhjlnllamaa", sum := "e8cfee15ec8ec81eac7d9fb91dd05dcf89d1a0a129eba887ad4fd0096a0f0ea6", func := "loop.example/g01321/laws.FnExactRankOfRings", spec := "fnExactRankOfRings", unfollowed := true, recurses := true, apart := false, narrowed := true }
def FnExactRankOfRingsUptoSaid : Prop := fnExactRankOfRingsUptoRow.holds Try.pinned (OpenSpec.upto fnExactRankOfRingsSpec)

/-- 'laws.FnExactRingsOfRank', WHERE WHAT IT READS IS OF BULK AT MOST 1048576: true; the input reads as it did. -/
def fnExactRingsOfRankUptoRow : OpenClaim := { program := "ytbfajhjlnllamaa", sum := "e8cfee15ec8ec81eac7d9fb91dd05dcf89d1a0a129eba887ad4fd0096a0f0ea6", func := "loop.example/g01321/laws.FnExactRingsOfRank", spec := "fnExactRingsOfRank", apart := false, narrowed := true }
def FnExactRingsOfRankUptoSaid : Prop := fnExactRingsOfRankUptoRow.holds Try.pinned (OpenSpec.upto fnExactRingsOfRankSpec)

/-- 'laws.FnExactDistanceOfRings', WHERE WHAT IT READS IS OF BULK AT MOST 1048576: true; the input reads as it did. -/
def fnExactDistanceOfRingsUptoRow : OpenClaim := { program := "ytbfajhjlnllamaa", sum := "e8cfee15ec8ec81eac7d9fb91dd05dcf89d1a0a129eba887ad4fd0096a0f0ea6", func := "loop.example/g01321/laws.FnExactDistanceOfRings", spec := "fnExactDistanceOfRings", unfollowed := true, recurses := true, apart := false, narrowed := true }
def FnExactDistanceOfRingsUptoSaid : Prop := fnExactDistanceOfRingsUptoRow.holds Try.pinned (OpenSpec.upto fnExactDistanceOfRingsSpec)

/-- 'laws.FnExactWholeNumber', WHERE WHAT IT READS IS OF BULK AT MOST 1048576: true; the input reads as it did. -/
def fnExactWholeNumberUptoRow : OpenClaim := { program := "ytbfajhjlnllamaa", sum := "e8cfee15ec8ec81eac7d9fb91dd05dcf89d1a0a129eba887ad4fd0096a0f0ea6", func := "loop.example/g01321/laws.FnExactWholeNumber", spec := "fnExactWholeNumber", unfollowed := true, recurses := true, apart := false, narrowed := true }
def FnExactWholeNumberUptoSaid : Prop := fnExactWholeNumberUptoRow.holds Try.pinned (OpenSpec.upto fnExactWholeNumberSpec)

end Rows
end Go.Proofs.Ytbfajhjlnllamaa
