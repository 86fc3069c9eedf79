/-
  No cell of these rows narrows 'for every input' (looked for: loops, veiled, ifaces, maps, wideKeys, modest, calm, conditions, laid).
  DERIVED. THE GIVEN ROWS OF THIS SEAT. 3 by the template 'for every input the law returns true; each argument reads behind the call as it read before'; 0 by the template 'total and deterministic' (their statements: YtppfheodpalmpacTotals.lean).
  GIVEN WITH THE SEED: the statements are not yours to turn. If you find one false, say at which input.
  Laid BY PROGRAM, IN A SANDBOX (cutbox-rows.mjs): the forced cells as the released guide's own fill.sh prints them over the translation b88f2c569c77e74b… (all of the seat's roots in one cut). By AI agents, Wed Nov 11 2026. No macro, syntax, notation, axiom, sorry.
-/
import Derived.Test.YtppfheodpalmpacChecked
import GoSem.Claim
import GoSem.ClaimJoined
import GoSem.ClaimMapViews
import Derived.JoinedTies
import Derived.KernelRfl
namespace Go.Proofs.Ytppfheodpalmpac
/- THE CELL 'sum', in the pinned program and in every row, IS THE sha256 OF THE DUMP (.gsa) THAT YtppfheodpalmpacProg.lean LOADS. Nothing in Lean hashes anything: it is a label: what it is worth is what the hold of that sum in a sandbox is worth. -/
noncomputable def Try.pinned : Pinned := { name := "ytppfheodpalmpac", sum := "b88f2c569c77e74b466d49b00f59bfd059dade2e6b89d698156e15c2edc96c68", checked := Try.checked }
namespace Rows
def none {H : Type} : Left H := { results := [], args := [] }

/-- 'laws.FnExactParseState': WHATEVER THE INPUT: true; the input reads as it did. -/
def fnExactParseStateSpec : ChangeSpec := { name := "fnExactParseState", fn := fun _ => fun
  | [d] => { results := [.lit (.bool true)], args := [d] }
  | _ => none }
def fnExactParseStateRow : OpenClaim := { program := "ytppfheodpalmpac", sum := "b88f2c569c77e74b466d49b00f59bfd059dade2e6b89d698156e15c2edc96c68", func := "loop.example/g01321/laws.FnExactParseState", spec := "fnExactParseState", apart := false }
def FnExactParseStateSaid : Prop := fnExactParseStateRow.holds Try.pinned (OpenSpec.ofChange fnExactParseStateSpec)

/-- ITS FALSE NEIGHBOUR: 'it returns false'. Refute it at one input. -/
def fnExactParseStateWrong : ChangeSpec := { name := "fnExactParseState", fn := fun _ => fun
  | [d] => { results := [.lit (.bool false)], args := [d] }
  | _ => none }
def FnExactParseStateWrongFalsely : Prop := fnExactParseStateRow.holds Try.pinned (OpenSpec.ofChange fnExactParseStateWrong)

/-- 'laws.FnExactMoveText': WHATEVER THE INPUT: true; the input reads as it did. -/
def fnExactMoveTextSpec : ChangeSpec := { name := "fnExactMoveText", fn := fun _ => fun
  | [d] => { results := [.lit (.bool true)], args := [d] }
  | _ => none }
def fnExactMoveTextRow : OpenClaim := { program := "ytppfheodpalmpac", sum := "b88f2c569c77e74b466d49b00f59bfd059dade2e6b89d698156e15c2edc96c68", func := "loop.example/g01321/laws.FnExactMoveText", spec := "fnExactMoveText", recurses := true, apart := false }
def FnExactMoveTextSaid : Prop := fnExactMoveTextRow.holds Try.pinned (OpenSpec.ofChange fnExactMoveTextSpec)

/-- ITS FALSE NEIGHBOUR: 'it returns false'. Refute it at one input. -/
def fnExactMoveTextWrong : ChangeSpec := { name := "fnExactMoveText", fn := fun _ => fun
  | [d] => { results := [.lit (.bool false)], args := [d] }
  | _ => none }
def FnExactMoveTextWrongFalsely : Prop := fnExactMoveTextRow.holds Try.pinned (OpenSpec.ofChange fnExactMoveTextWrong)

/-- 'laws.FnExactParseMove': WHATEVER THE INPUT: true; the input reads as it did. -/
def fnExactParseMoveSpec : ChangeSpec := { name := "fnExactParseMove", fn := fun _ => fun
  | [d] => { results := [.lit (.bool true)], args := [d] }
  | _ => none }
def fnExactParseMoveRow : OpenClaim := { program := "ytppfheodpalmpac", sum := "b88f2c569c77e74b466d49b00f59bfd059dade2e6b89d698156e15c2edc96c68", func := "loop.example/g01321/laws.FnExactParseMove", spec := "fnExactParseMove", apart := false }
def FnExactParseMoveSaid : Prop := fnExactParseMoveRow.holds Try.pinned (OpenSpec.ofChange fnExactParseMoveSpec)

/-- ITS FALSE NEIGHBOUR: 'it returns false'. Refute it at one input. -/
def fnExactParseMoveWrong : ChangeSpec := { name := "fnExactParseMove", fn := fun _ => fun
  | [d] => { results := [.lit (.bool false)], args := [d] }
  | _ => none }
def FnExactParseMoveWrongFalsely : Prop := fnExactParseMoveRow.holds Try.pinned (OpenSpec.ofChange fnExactParseMoveWrong)

/- THE SECOND FORM. 'bulk': how many values and letters a reading holds, each counted each time it is reached (what is shared counts as often as it is met; a slice's spare places count too). A statement '..UptoSaid' is the law's where the arguments, and the package variables that the reading takes, are together of bulk at most 1048576: NARROWER than '..Said'. Prove '..Said' where nothing that the law and all that it calls make is longer than what came in: it says more and counts as full. Else prove '..UptoSaid'. A law counts once. -/
mutual
def uptoBulk {H : Type} : DataW H → Nat
  | .lit (.string bytes) => bytes.length + 1
  | .lit _ => 1
  | .nil => 1
  | .ptr d => uptoBulk d + 1
  | .slice elems spare => uptoBulkAll elems + uptoBulkAll spare + 1
  | .agg parts => uptoBulkAll parts + 1
  | .iface _ d => uptoBulk d + 1
  | .map entries => uptoBulkEntries entries + 1
  | .held _ => 1
def uptoBulkAll {H : Type} : List (DataW H) → Nat
  | [] => 0
  | d :: r => uptoBulk d + uptoBulkAll r
def uptoBulkEntries {H : Type} : List (Lit × DataW H) → Nat
  | [] => 0
  | x :: r => uptoBulkEntry x + uptoBulkEntries r
def uptoBulkEntry {H : Type} : Lit × DataW H → Nat
  | (.string bytes, d) => bytes.length + uptoBulk d + 1
  | (_, d) => uptoBulk d + 1
 end
def uptoSmall : (H : Type) → List (DataW H) → Bool := fun _ ds => decide (uptoBulkAll ds ≤ 1048576)
def OpenSpec.upto (s : _root_.Go.ChangeSpec) : _root_.Go.OpenSpec := { _root_.Go.OpenSpec.ofChange s with cond := some uptoSmall }

/-- 'laws.FnExactParseState', WHERE WHAT IT READS IS OF BULK AT MOST 1048576: true; the input reads as it did. -/
def fnExactParseStateUptoRow : OpenClaim := { program := "ytppfheodpalmpac", sum := "b88f2c569c77e74b466d49b00f59bfd059dade2e6b89d698156e15c2edc96c68", func := "loop.example/g01321/laws.FnExactParseState", spec := "fnExactParseState", apart := false, narrowed := true }
def FnExactParseStateUptoSaid : Prop := fnExactParseStateUptoRow.holds Try.pinned (OpenSpec.upto fnExactParseStateSpec)

/-- 'laws.FnExactMoveText', WHERE WHAT IT READS IS OF BULK AT MOST 1048576: true; the input reads as it did. -/
def fnExactMoveTextUptoRow : OpenClaim := { program := "ytppfheodpalmpac", sum := "b88f2c569c77e74b466d49b00f59bfd059dade2e6b89d698156e15c2edc96c68", func := "loop.example/g01321/laws.FnExactMoveText", spec := "fnExactMoveText", recurses := true, apart := false, narrowed := true }
def FnExactMoveTextUptoSaid : Prop := fnExactMoveTextUptoRow.holds Try.pinned (OpenSpec.upto fnExactMoveTextSpec)

/-- 'laws.FnExactParseMove', WHERE WHAT IT READS IS OF BULK AT MOST 1048576: true; the input reads as it did. -/
def fnExactParseMoveUptoRow : OpenClaim := { program := "ytppfheodpalmpac", sum := "b88f2c569c77e74b466d49b00f59bfd059dade2e6b89d698156e15c2edc96c68", func := "loop.example/g01321/laws.FnExactParseMove", spec := "fnExactParseMove", apart := false, narrowed := true }
def FnExactParseMoveUptoSaid : Prop := fnExactParseMoveUptoRow.holds Try.pinned (OpenSpec.upto fnExactParseMoveSpec)

end Rows
end Go.Proofs.Ytppfheodpalmpac
