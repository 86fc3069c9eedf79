/-
  No cell of these rows narrows 'for every input' (looked for: loops, veiled, ifaces, maps, wideKeys, modest, calm, conditions, laid).
  DERIVED. THE GIVEN ROWS OF THIS SEAT. 2 by the template 'for every input the law returns true; each argument reads behind the call as it read before'; 0 by the template 'total and deterministic' (their statements: YtakcacppkgfcfaaTotals.lean).
  GIVEN WITH THE SEED: the statements are not yours to turn. If you find one false, say at which input.
  Laid BY PROGRAM, IN A SANDBOX (cutbox-rows.mjs): the forced cells as the released guide's own fill.sh prints them over the translation 97b9e0bd39d46129… (all of the seat's roots in one cut). By AI agents, Wed Nov 11 2026. No macro, syntax, notation, axiom, sorry.
-/
import Derived.Test.YtakcacppkgfcfaaChecked
import GoSem.Claim
import GoSem.ClaimJoined
import GoSem.ClaimMapViews
import Derived.JoinedTies
import Derived.KernelRfl
namespace Go.Proofs.Ytakcacppkgfcfaa
/- THE CELL 'sum', in the pinned program and in every row, IS THE sha256 OF THE DUMP (.gsa) THAT YtakcacppkgfcfaaProg.lean LOADS. Nothing in Lean hashes anything: it is a label: what it is worth is what the hold of that sum in a sandbox is worth. -/
noncomputable def Try.pinned : Pinned := { name := "ytakcacppkgfcfaa", sum := "97b9e0bd39d46129cd89e533098546c33de8e9d413e84df76fce907441c8244a", checked := Try.checked }
namespace Rows
def none {H : Type} : Left H := { results := [], args := [] }

/-- 'laws.FnExactRingsText': WHATEVER THE INPUT: true; the input reads as it did. -/
def fnExactRingsTextSpec : ChangeSpec := { name := "fnExactRingsText", fn := fun _ => fun
  | [d] => { results := [.lit (.bool true)], args := [d] }
  | _ => none }
def fnExactRingsTextRow : OpenClaim := { program := "ytakcacppkgfcfaa", sum := "97b9e0bd39d46129cd89e533098546c33de8e9d413e84df76fce907441c8244a", func := "loop.example/g01321/laws.FnExactRingsText", spec := "fnExactRingsText", apart := false }
def FnExactRingsTextSaid : Prop := fnExactRingsTextRow.holds Try.pinned (OpenSpec.ofChange fnExactRingsTextSpec)

/-- ITS FALSE NEIGHBOUR: 'it returns false'. Refute it at one input. -/
def fnExactRingsTextWrong : ChangeSpec := { name := "fnExactRingsText", fn := fun _ => fun
  | [d] => { results := [.lit (.bool false)], args := [d] }
  | _ => none }
def FnExactRingsTextWrongFalsely : Prop := fnExactRingsTextRow.holds Try.pinned (OpenSpec.ofChange fnExactRingsTextWrong)

/-- 'laws.FnExactParseRings': WHATEVER THE INPUT: true; the input reads as it did. -/
def fnExactParseRingsSpec : ChangeSpec := { name := "fnExactParseRings", fn := fun _ => fun
  | [d] => { results := [.lit (.bool true)], args := [d] }
  | _ => none }
def fnExactParseRingsRow : OpenClaim := { program := "ytakcacppkgfcfaa", sum := "97b9e0bd39d46129cd89e533098546c33de8e9d413e84df76fce907441c8244a", func := "loop.example/g01321/laws.FnExactParseRings", spec := "fnExactParseRings", apart := false }
def FnExactParseRingsSaid : Prop := fnExactParseRingsRow.holds Try.pinned (OpenSpec.ofChange fnExactParseRingsSpec)

/-- ITS FALSE NEIGHBOUR: 'it returns false'. Refute it at one input. -/
def fnExactParseRingsWrong : ChangeSpec := { name := "fnExactParseRings", fn := fun _ => fun
  | [d] => { results := [.lit (.bool false)], args := [d] }
  | _ => none }
def FnExactParseRingsWrongFalsely : Prop := fnExactParseRingsRow.holds Try.pinned (OpenSpec.ofChange fnExactParseRingsWrong)

/- THE SECOND FORM. 'bulk': how many values and letters a reading holds, each counted each time it is reached (what is shared counts as often as it is met; a slice's spare places count too). A statement '..UptoSaid' is the law's where the arguments, and the package variables that the reading takes, are together of bulk at most 1048576: NARROWER than '..Said'. Prove '..Said' where nothing that the law and all that it calls make is longer than what came in: it says more and counts as full. Else prove '..UptoSaid'. A law counts once. -/
mutual
def uptoBulk {H : Type} : DataW H → Nat
  | .lit (.string bytes) => bytes.length + 1
  | .lit _ => 1
  | .nil => 1
  | .ptr d => uptoBulk d + 1
  | .slice elems spare => uptoBulkAll elems + uptoBulkAll spare + 1
  | .agg parts => uptoBulkAll parts + 1
  | .iface _ d => uptoBulk d + 1
  | .map entries => uptoBulkEntries entries + 1
  | .held _ => 1
def uptoBulkAll {H : Type} : List (DataW H) → Nat
  | [] => 0
  | d :: r => uptoBulk d + uptoBulkAll r
def uptoBulkEntries {H : Type} : List (Lit × DataW H) → Nat
  | [] => 0
  | x :: r => uptoBulkEntry x + uptoBulkEntries r
def uptoBulkEntry {H : Type} : Lit × DataW H → Nat
  | (.string bytes, d) => bytes.length + uptoBulk d + 1
  | (_, d) => uptoBulk d + 1
 end
def uptoSmall : (H : Type) → List (DataW H) → Bool := fun _ ds => decide (uptoBulkAll ds ≤ 1048576)
def OpenSpec.upto (s : _root_.Go.ChangeSpec) : _root_.Go.OpenSpec := { _root_.Go.OpenSpec.ofChange s with cond := some uptoSmall }

/-- 'laws.FnExactRingsText', WHERE WHAT IT READS IS OF BULK AT MOST 1048576: true; the input reads as it did. -/
def fnExactRingsTextUptoRow : OpenClaim := { program := "ytakcacppkgfcfaa", sum := "97b9e0bd39d46129cd89e533098546c33de8e9d413e84df76fce907441c8244a", func := "loop.example/g01321/laws.FnExactRingsText", spec := "fnExactRingsText", apart := false, narrowed := true }
def FnExactRingsTextUptoSaid : Prop := fnExactRingsTextUptoRow.holds Try.pinned (OpenSpec.upto fnExactRingsTextSpec)

/-- 'laws.FnExactParseRings', WHERE WHAT IT READS IS OF BULK AT MOST 1048576: true; the input reads as it did. -/
def fnExactParseRingsUptoRow : OpenClaim := { program := "ytakcacppkgfcfaa", sum := "97b9e0bd39d46129cd89e533098546c33de8e9d413e84df76fce907441c8244a", func := "loop.example/g01321/laws.FnExactParseRings", spec := "fnExactParseRings", apart := false, narrowed := true }
def FnExactParseRingsUptoSaid : Prop := fnExactParseRingsUptoRow.holds Try.pinned (OpenSpec.upto fnExactParseRingsSpec)

end Rows
end Go.Proofs.Ytakcacppkgfcfaa
