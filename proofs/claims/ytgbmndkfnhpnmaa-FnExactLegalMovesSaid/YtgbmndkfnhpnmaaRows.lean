/-
  No cell of these rows narrows 'for every input' (looked for: loops, veiled, ifaces, maps, wideKeys, modest, calm, conditions, laid).
  DERIVED. THE GIVEN ROWS OF THIS SEAT. 5 by the template 'for every input the law returns true; each argument reads behind the call as it read before'; 0 by the template 'total and deterministic' (their statements: YtgbmndkfnhpnmaaTotals.lean).
  GIVEN WITH THE SEED: the statements are not yours to turn. If you find one false, say at which input.
  Laid BY PROGRAM, IN A SANDBOX (cutbox-rows.mjs): the forced cells as the released guide's own fill.sh prints them over the translation ec72ce29412fdc4f… (all of the seat's roots in one cut). By AI agents, Wed Nov 11 2026. No macro, syntax, notation, axiom, sorry.
-/
import Derived.Test.YtgbmndkfnhpnmaaChecked
import GoSem.Claim
import GoSem.ClaimJoined
import GoSem.ClaimMapViews
import Derived.JoinedTies
import Derived.KernelRfl
namespace Go.Proofs.Ytgbmndkfnhpnmaa
/- THE CELL 'sum', in the pinned program and in every row, IS THE sha256 OF THE DUMP (.gsa) THAT YtgbmndkfnhpnmaaProg.lean LOADS. Nothing in Lean hashes anything: it is a label: what it is worth is what the hold of that sum in a sandbox is worth. -/
noncomputable def Try.pinned : Pinned := { name := "ytgbmndkfnhpnmaa", sum := "ec72ce29412fdc4fede840d627e7087815bceb98468010eb93f6fa3b120d238d", checked := Try.checked }
namespace Rows
def none {H : Type} : Left H := { results := [], args := [] }

/-- 'laws.FnExactRankOf': WHATEVER THE INPUT: true; the input reads as it did. -/
def fnExactRankOfSpec : ChangeSpec := { name := "fnExactRankOf", fn := fun _ => fun
  | [d] => { results := [.lit (.bool true)], args := [d] }
  | _ => none }
def fnExactRankOfRow : OpenClaim := { program := "ytgbmndkfnhpnmaa", sum := "ec72ce29412fdc4fede840d627e7087815bceb98468010eb93f6fa3b120d238d", func := "loop.example/g01321/laws.FnExactRankOf", spec := "fnExactRankOf", apart := false }
def FnExactRankOfSaid : Prop := fnExactRankOfRow.holds Try.pinned (OpenSpec.ofChange fnExactRankOfSpec)

/-- ITS FALSE NEIGHBOUR: 'it returns false'. Refute it at one input. -/
def fnExactRankOfWrong : ChangeSpec := { name := "fnExactRankOf", fn := fun _ => fun
  | [d] => { results := [.lit (.bool false)], args := [d] }
  | _ => none }
def FnExactRankOfWrongFalsely : Prop := fnExactRankOfRow.holds Try.pinned (OpenSpec.ofChange fnExactRankOfWrong)

/-- 'laws.FnExactStateOfRank': WHATEVER THE INPUT: true; the input reads as it did. -/
def fnExactStateOfRankSpec : ChangeSpec := { name := "fnExactStateOfRank", fn := fun _ => fun
  | [d1, d2, d3] => { results := [.lit (.bool true)], args := [d1, d2, d3] }
  | _ => none }
def fnExactStateOfRankRow : OpenClaim := { program := "ytgbmndkfnhpnmaa", sum := "ec72ce29412fdc4fede840d627e7087815bceb98468010eb93f6fa3b120d238d", func := "loop.example/g01321/laws.FnExactStateOfRank", spec := "fnExactStateOfRank", apart := false }
def FnExactStateOfRankSaid : Prop := fnExactStateOfRankRow.holds Try.pinned (OpenSpec.ofChange fnExactStateOfRankSpec)

/-- ITS FALSE NEIGHBOUR: 'it returns false'. Refute it at one input. -/
def fnExactStateOfRankWrong : ChangeSpec := { name := "fnExactStateOfRank", fn := fun _ => fun
  | [d1, d2, d3] => { results := [.lit (.bool false)], args := [d1, d2, d3] }
  | _ => none }
def FnExactStateOfRankWrongFalsely : Prop := fnExactStateOfRankRow.holds Try.pinned (OpenSpec.ofChange fnExactStateOfRankWrong)

/-- 'laws.FnExactLegalMoves': WHATEVER THE INPUT: true; the input reads as it did. -/
def fnExactLegalMovesSpec : ChangeSpec := { name := "fnExactLegalMoves", fn := fun _ => fun
  | [d] => { results := [.lit (.bool true)], args := [d] }
  | _ => none }
def fnExactLegalMovesRow : OpenClaim := { program := "ytgbmndkfnhpnmaa", sum := "ec72ce29412fdc4fede840d627e7087815bceb98468010eb93f6fa3b120d238d", func := "loop.example/g01321/laws.FnExactLegalMoves", spec := "fnExactLegalMoves", unfollowed := true, recurses := true, apart := false }
def FnExactLegalMovesSaid : Prop := fnExactLegalMovesRow.holds Try.pinned (OpenSpec.ofChange fnExactLegalMovesSpec)

/-- ITS FALSE NEIGHBOUR: 'it returns false'. Refute it at one input. -/
def fnExactLegalMovesWrong : ChangeSpec := { name := "fnExactLegalMoves", fn := fun _ => fun
  | [d] => { results := [.lit (.bool false)], args := [d] }
  | _ => none }
def FnExactLegalMovesWrongFalsely : Prop := fnExactLegalMovesRow.holds Try.pinned (OpenSpec.ofChange fnExactLegalMovesWrong)

/-- 'laws.FnExactCountStates': WHATEVER THE INPUT: true; the input reads as it did. -/
def fnExactCountStatesSpec : ChangeSpec := { name := "fnExactCountStates", fn := fun _ => fun
  | [d1, d2] => { results := [.lit (.bool true)], args := [d1, d2] }
  | _ => none }
def fnExactCountStatesRow : OpenClaim := { program := "ytgbmndkfnhpnmaa", sum := "ec72ce29412fdc4fede840d627e7087815bceb98468010eb93f6fa3b120d238d", func := "loop.example/g01321/laws.FnExactCountStates", spec := "fnExactCountStates", apart := false }
def FnExactCountStatesSaid : Prop := fnExactCountStatesRow.holds Try.pinned (OpenSpec.ofChange fnExactCountStatesSpec)

/-- ITS FALSE NEIGHBOUR: 'it returns false'. Refute it at one input. -/
def fnExactCountStatesWrong : ChangeSpec := { name := "fnExactCountStates", fn := fun _ => fun
  | [d1, d2] => { results := [.lit (.bool false)], args := [d1, d2] }
  | _ => none }
def FnExactCountStatesWrongFalsely : Prop := fnExactCountStatesRow.holds Try.pinned (OpenSpec.ofChange fnExactCountStatesWrong)

/-- 'laws.FnExactDegreeOf': WHATEVER THE INPUT: true; the input reads as it did. -/
def fnExactDegreeOfSpec : ChangeSpec := { name := "fnExactDegreeOf", fn := fun _ => fun
  | [d] => { results := [.lit (.bool true)], args := [d] }
  | _ => none }
def fnExactDegreeOfRow : OpenClaim := { program := "ytgbmndkfnhpnmaa", sum := "ec72ce29412fdc4fede840d627e7087815bceb98468010eb93f6fa3b120d238d", func := "loop.example/g01321/laws.FnExactDegreeOf", spec := "fnExactDegreeOf", unfollowed := true, recurses := true, apart := false }
def FnExactDegreeOfSaid : Prop := fnExactDegreeOfRow.holds Try.pinned (OpenSpec.ofChange fnExactDegreeOfSpec)

/-- ITS FALSE NEIGHBOUR: 'it returns false'. Refute it at one input. -/
def fnExactDegreeOfWrong : ChangeSpec := { name := "fnExactDegreeOf", fn := fun _ => fun
  | [d] => { results := [.lit (.bool false)], args := [d] }
  | _ => none }
def FnExactDegreeOfWrongFalsely : Prop := fnExactDegreeOfRow.holds Try.pinned (OpenSpec.ofChange fnExactDegreeOfWrong)

/- THE SECOND FORM. 'bulk': how many values and letters a reading holds, each counted each time it is reached (what is shared counts as often as it is met; a slice's spare places count too). A statement '..UptoSaid' is the law's where the arguments, and the package variables that the reading takes, are together of bulk at most 1048576: NARROWER than '..Said'. Prove '..Said' where nothing that the law and all that it calls make is longer than what came in: it says more and counts as full. Else prove '..UptoSaid'. A law counts once. -/
mutual
def uptoBulk {H : Type} : DataW H → Nat
  | .lit (.string bytes) => bytes.length + 1
  | .lit _ => 1
  | .nil => 1
  | .ptr d => uptoBulk d + 1
  | .slice elems spare => uptoBulkAll elems + uptoBulkAll spare + 1
  | .agg parts => uptoBulkAll parts + 1
  | .iface _ d => uptoBulk d + 1
  | .map entries => uptoBulkEntries entries + 1
  | .held _ => 1
def uptoBulkAll {H : Type} : List (DataW H) → Nat
  | [] => 0
  | d :: r => uptoBulk d + uptoBulkAll r
def uptoBulkEntries {H : Type} : List (Lit × DataW H) → Nat
  | [] => 0
  | x :: r => uptoBulkEntry x + uptoBulkEntries r
def uptoBulkEntry {H : Type} : Lit × DataW H → Nat
  | (.string bytes, d) => bytes.length + uptoBulk d + 1
  | (_, d) => uptoBulk d + 1
 end
def uptoSmall : (H : Type) → List (DataW H) → Bool := fun _ ds => decide (uptoBulkAll ds ≤ 1048576)
def OpenSpec.upto (s : _root_.Go.ChangeSpec) : _root_.Go.OpenSpec := { _root_.Go.OpenSpec.ofChange s with cond := some uptoSmall }

/-- 'laws.FnExactRankOf', WHERE WHAT IT READS IS OF BULK AT MOST 1048576: true; the input reads as it did. -/
def fnExactRankOfUptoRow : OpenClaim := { program := "ytgbmndkfnhpnmaa", sum := "ec72ce29412fdc4fede840d627e7087815bceb98468010eb93f6fa3b120d238d", func := "loop.example/g01321/laws.FnExactRankOf", spec := "fnExactRankOf", apart := false, narrowed := true }
def FnExactRankOfUptoSaid : Prop := fnExactRankOfUptoRow.holds Try.pinned (OpenSpec.upto fnExactRankOfSpec)

/-- 'laws.FnExactStateOfRank', WHERE WHAT IT READS IS OF BULK AT MOST 1048576: true; the input reads as it did. -/
def fnExactStateOfRankUptoRow : OpenClaim := { program := "ytgbmndkfnhpnmaa", sum := "ec72ce29412fdc4fede840d627e7087815bceb98468010eb93f6fa3b120d238d", func := "loop.example/g01321/laws.FnExactStateOfRank", spec := "fnExactStateOfRank", apart := false, narrowed := true }
def FnExactStateOfRankUptoSaid : Prop := fnExactStateOfRankUptoRow.holds Try.pinned (OpenSpec.upto fnExactStateOfRankSpec)

/-- 'laws.FnExactLegalMoves', WHERE WHAT IT READS IS OF BULK AT MOST 1048576: true; the input reads as it did. -/
def fnExactLegalMovesUptoRow : OpenClaim := { program := "ytgbmndkfnhpnmaa", sum := "ec72ce29412fdc4fede840d627e7087815bceb98468010eb93f6fa3b120d238d", func := "loop.example/g01321/laws.FnExactLegalMoves", spec := "fnExactLegalMoves", unfollowed := true, recurses := true, apart := false, narrowed := true }
def FnExactLegalMovesUptoSaid : Prop := fnExactLegalMovesUptoRow.holds Try.pinned (OpenSpec.upto fnExactLegalMovesSpec)

/-- 'laws.FnExactCountStates', WHERE WHAT IT READS IS OF BULK AT MOST 1048576: true; the input reads as it did. -/
def fnExactCountStatesUptoRow : OpenClaim := { program := "ytgbmndkfnhpnmaa", sum := "ec72ce29412fdc4fede840d627e7087815bceb98468010eb93f6fa3b120d238d", func := "loop.example/g01321/laws.FnExactCountStates", spec := "fnExactCountStates", apart := false, narrowed := true }
def FnExactCountStatesUptoSaid : Prop := fnExactCountStatesUptoRow.holds Try.pinned (OpenSpec.upto fnExactCountStatesSpec)

/-- 'laws.FnExactDegreeOf', WHERE WHAT IT READS IS OF BULK AT MOST 1048576: true; the input reads as it did. -/
def fnExactDegreeOfUptoRow : OpenClaim := { program := "ytgbmndkfnhpnmaa", sum := "ec72ce29412fdc4fede840d627e7087815bceb98468010eb93f6fa3b120d238d", func := "loop.example/g01321/laws.FnExactDegreeOf", spec := "fnExactDegreeOf", unfollowed := true, recurses := true, apart := false, narrowed := true }
def FnExactDegreeOfUptoSaid : Prop := fnExactDegreeOfUptoRow.holds Try.pinned (OpenSpec.upto fnExactDegreeOfSpec)

end Rows
end Go.Proofs.Ytgbmndkfnhpnmaa
