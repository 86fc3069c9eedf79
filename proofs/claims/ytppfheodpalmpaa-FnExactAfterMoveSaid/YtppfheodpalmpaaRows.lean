/-
  No cell of these rows narrows 'for every input' (looked for: loops, veiled, ifaces, maps, wideKeys, modest, calm, conditions, laid).
  DERIVED. THE GIVEN ROWS OF THIS SEAT. 5 by the template 'for every input the law returns true; each argument reads behind the call as it read before'; 0 by the template 'total and deterministic' (their statements: YtppfheodpalmpaaTotals.lean).
  GIVEN WITH THE SEED: the statements are not yours to turn. If you find one false, say at which input.
  Laid BY PROGRAM, IN A SANDBOX (cutbox-rows.mjs): the forced cells as the released guide's own fill.sh prints them over the translation d9a13ce426bd4b3a… (all of the seat's roots in one cut). By AI agents, Wed Nov 11 2026. No macro, syntax, notation, axiom, sorry.
-/
import Derived.Test.YtppfheodpalmpaaChecked
import GoSem.Claim
import GoSem.ClaimJoined
import GoSem.ClaimMapViews
import Derived.JoinedTies
import Derived.KernelRfl
namespace Go.Proofs.Ytppfheodpalmpaa
/- THE CELL 'sum', in the pinned program and in every row, IS THE sha256 OF THE DUMP (.gsa) THAT YtppfheodpalmpaaProg.lean LOADS. Nothing in Lean hashes anything: it is a label: what it is worth is what the hold of that sum in a sandbox is worth. -/
noncomputable def Try.pinned : Pinned := { name := "ytppfheodpalmpaa", sum := "d9a13ce426bd4b3a29b60b926824494ed3d39aa65a34f46435a86fae0278c2dc", checked := Try.checked }
namespace Rows
def none {H : Type} : Left H := { results := [], args := [] }

/-- 'laws.FnExactStacksOf': WHATEVER THE INPUT: true; the input reads as it did. -/
def fnExactStacksOfSpec : ChangeSpec := { name := "fnExactStacksOf", fn := fun _ => fun
  | [d] => { results := [.lit (.bool true)], args := [d] }
  | _ => none }
def fnExactStacksOfRow : OpenClaim := { program := "ytppfheodpalmpaa", sum := "d9a13ce426bd4b3a29b60b926824494ed3d39aa65a34f46435a86fae0278c2dc", func := "loop.example/g01321/laws.FnExactStacksOf", spec := "fnExactStacksOf", apart := false }
def FnExactStacksOfSaid : Prop := fnExactStacksOfRow.holds Try.pinned (OpenSpec.ofChange fnExactStacksOfSpec)

/-- ITS FALSE NEIGHBOUR: 'it returns false'. Refute it at one input. -/
def fnExactStacksOfWrong : ChangeSpec := { name := "fnExactStacksOf", fn := fun _ => fun
  | [d] => { results := [.lit (.bool false)], args := [d] }
  | _ => none }
def FnExactStacksOfWrongFalsely : Prop := fnExactStacksOfRow.holds Try.pinned (OpenSpec.ofChange fnExactStacksOfWrong)

/-- 'laws.FnExactIsLegal': WHATEVER THE INPUT: true; the input reads as it did. -/
def fnExactIsLegalSpec : ChangeSpec := { name := "fnExactIsLegal", fn := fun _ => fun
  | [d1, d2] => { results := [.lit (.bool true)], args := [d1, d2] }
  | _ => none }
def fnExactIsLegalRow : OpenClaim := { program := "ytppfheodpalmpaa", sum := "d9a13ce426bd4b3a29b60b926824494ed3d39aa65a34f46435a86fae0278c2dc", func := "loop.example/g01321/laws.FnExactIsLegal", spec := "fnExactIsLegal", apart := false }
def FnExactIsLegalSaid : Prop := fnExactIsLegalRow.holds Try.pinned (OpenSpec.ofChange fnExactIsLegalSpec)

/-- ITS FALSE NEIGHBOUR: 'it returns false'. Refute it at one input. -/
def fnExactIsLegalWrong : ChangeSpec := { name := "fnExactIsLegal", fn := fun _ => fun
  | [d1, d2] => { results := [.lit (.bool false)], args := [d1, d2] }
  | _ => none }
def FnExactIsLegalWrongFalsely : Prop := fnExactIsLegalRow.holds Try.pinned (OpenSpec.ofChange fnExactIsLegalWrong)

/-- 'laws.FnExactLegalMoves': WHATEVER THE INPUT: true; the input reads as it did. -/
def fnExactLegalMovesSpec : ChangeSpec := { name := "fnExactLegalMoves", fn := fun _ => fun
  | [d] => { results := [.lit (.bool true)], args := [d] }
  | _ => none }
def fnExactLegalMovesRow : OpenClaim := { program := "ytppfheodpalmpaa", sum := "d9a13ce426bd4b3a29b60b926824494ed3d39aa65a34f46435a86fae0278c2dc", func := "loop.example/g01321/laws.FnExactLegalMoves", spec := "fnExactLegalMoves", unfollowed := true, recurses := true, apart := false }
def FnExactLegalMovesSaid : Prop := fnExactLegalMovesRow.holds Try.pinned (OpenSpec.ofChange fnExactLegalMovesSpec)

/-- ITS FALSE NEIGHBOUR: 'it returns false'. Refute it at one input. -/
def fnExactLegalMovesWrong : ChangeSpec := { name := "fnExactLegalMoves", fn := fun _ => fun
  | [d] => { results := [.lit (.bool false)], args := [d] }
  | _ => none }
def FnExactLegalMovesWrongFalsely : Prop := fnExactLegalMovesRow.holds Try.pinned (OpenSpec.ofChange fnExactLegalMovesWrong)

/-- 'laws.FnExactAfterMove': WHATEVER THE INPUT: true; the input reads as it did. -/
def fnExactAfterMoveSpec : ChangeSpec := { name := "fnExactAfterMove", fn := fun _ => fun
  | [d1, d2] => { results := [.lit (.bool true)], args := [d1, d2] }
  | _ => none }
def fnExactAfterMoveRow : OpenClaim := { program := "ytppfheodpalmpaa", sum := "d9a13ce426bd4b3a29b60b926824494ed3d39aa65a34f46435a86fae0278c2dc", func := "loop.example/g01321/laws.FnExactAfterMove", spec := "fnExactAfterMove", apart := false }
def FnExactAfterMoveSaid : Prop := fnExactAfterMoveRow.holds Try.pinned (OpenSpec.ofChange fnExactAfterMoveSpec)

/-- ITS FALSE NEIGHBOUR: 'it returns false'. Refute it at one input. -/
def fnExactAfterMoveWrong : ChangeSpec := { name := "fnExactAfterMove", fn := fun _ => fun
  | [d1, d2] => { results := [.lit (.bool false)], args := [d1, d2] }
  | _ => none }
def FnExactAfterMoveWrongFalsely : Prop := fnExactAfterMoveRow.holds Try.pinned (OpenSpec.ofChange fnExactAfterMoveWrong)

/-- 'laws.FnExactNeighboursOf': WHATEVER THE INPUT: true; the input reads as it did. -/
def fnExactNeighboursOfSpec : ChangeSpec := { name := "fnExactNeighboursOf", fn := fun _ => fun
  | [d] => { results := [.lit (.bool true)], args := [d] }
  | _ => none }
def fnExactNeighboursOfRow : OpenClaim := { program := "ytppfheodpalmpaa", sum := "d9a13ce426bd4b3a29b60b926824494ed3d39aa65a34f46435a86fae0278c2dc", func := "loop.example/g01321/laws.FnExactNeighboursOf", spec := "fnExactNeighboursOf", unfollowed := true, recurses := true, apart := false }
def FnExactNeighboursOfSaid : Prop := fnExactNeighboursOfRow.holds Try.pinned (OpenSpec.ofChange fnExactNeighboursOfSpec)

/-- ITS FALSE NEIGHBOUR: 'it returns false'. Refute it at one input. -/
def fnExactNeighboursOfWrong : ChangeSpec := { name := "fnExactNeighboursOf", fn := fun _ => fun
  | [d] => { results := [.lit (.bool false)], args := [d] }
  | _ => none }
def FnExactNeighboursOfWrongFalsely : Prop := fnExactNeighboursOfRow.holds Try.pinned (OpenSpec.ofChange fnExactNeighboursOfWrong)

/- THE SECOND FORM. 'bulk': how many values and letters a reading holds, each counted each time it is reached (what is shared counts as often as it is met; a slice's spare places count too). A statement '..UptoSaid' is the law's where the arguments, and the package variables that the reading takes, are together of bulk at most 1048576: NARROWER than '..Said'. Prove '..Said' where nothing that the law and all that it calls make is longer than what came in: it says more and counts as full. Else prove '..UptoSaid'. A law counts once. -/
mutual
def uptoBulk {H : Type} : DataW H → Nat
  | .lit (.string bytes) => bytes.length + 1
  | .lit _ => 1
  | .nil => 1
  | .ptr d => uptoBulk d + 1
  | .slice elems spare => uptoBulkAll elems + uptoBulkAll spare + 1
  | .agg parts => uptoBulkAll parts + 1
  | .iface _ d => uptoBulk d + 1
  | .map entries => uptoBulkEntries entries + 1
  | .held _ => 1
def uptoBulkAll {H : Type} : List (DataW H) → Nat
  | [] => 0
  | d :: r => uptoBulk d + uptoBulkAll r
def uptoBulkEntries {H : Type} : List (Lit × DataW H) → Nat
  | [] => 0
  | x :: r => uptoBulkEntry x + uptoBulkEntries r
def uptoBulkEntry {H : Type} : Lit × DataW H → Nat
  | (.string bytes, d) => bytes.length + uptoBulk d + 1
  | (_, d) => uptoBulk d + 1
 end
def uptoSmall : (H : Type) → List (DataW H) → Bool := fun _ ds => decide (uptoBulkAll ds ≤ 1048576)
def OpenSpec.upto (s : _root_.Go.ChangeSpec) : _root_.Go.OpenSpec := { _root_.Go.OpenSpec.ofChange s with cond := some uptoSmall }

/-- 'laws.FnExactStacksOf', WHERE WHAT IT READS IS OF BULK AT MOST 1048576: true; the input reads as it did. -/
def fnExactStacksOfUptoRow : OpenClaim := { program := "ytppfheodpalmpaa", sum := "d9a13ce426bd4b3a29b60b926824494ed3d39aa65a34f46435a86fae0278c2dc", func := "loop.example/g01321/laws.FnExactStacksOf", spec := "fnExactStacksOf", apart := false, narrowed := true }
def FnExactStacksOfUptoSaid : Prop := fnExactStacksOfUptoRow.holds Try.pinned (OpenSpec.upto fnExactStacksOfSpec)

/-- 'laws.FnExactIsLegal', WHERE WHAT IT READS IS OF BULK AT MOST 1048576: true; the input reads as it did. -/
def fnExactIsLegalUptoRow : OpenClaim := { program := "ytppfheodpalmpaa", sum := "d9a13ce426bd4b3a29b60b926824494ed3d39aa65a34f46435a86fae0278c2dc", func := "loop.example/g01321/laws.FnExactIsLegal", spec := "fnExactIsLegal", apart := false, narrowed := true }
def FnExactIsLegalUptoSaid : Prop := fnExactIsLegalUptoRow.holds Try.pinned (OpenSpec.upto fnExactIsLegalSpec)

/-- 'laws.FnExactLegalMoves', WHERE WHAT IT READS IS OF BULK AT MOST 1048576: true; the input reads as it did. -/
def fnExactLegalMovesUptoRow : OpenClaim := { program := "ytppfheodpalmpaa", sum := "d9a13ce426bd4b3a29b60b926824494ed3d39aa65a34f46435a86fae0278c2dc", func := "loop.example/g01321/laws.FnExactLegalMoves", spec := "fnExactLegalMoves", unfollowed := true, recurses := true, apart := false, narrowed := true }
def FnExactLegalMovesUptoSaid : Prop := fnExactLegalMovesUptoRow.holds Try.pinned (OpenSpec.upto fnExactLegalMovesSpec)

/-- 'laws.FnExactAfterMove', WHERE WHAT IT READS IS OF BULK AT MOST 1048576: true; the input reads as it did. -/
def fnExactAfterMoveUptoRow : OpenClaim := { program := "ytppfheodpalmpaa", sum := "d9a13ce426bd4b3a29b60b926824494ed3d39aa65a34f46435a86fae0278c2dc", func := "loop.example/g01321/laws.FnExactAfterMove", spec := "fnExactAfterMove", apart := false, narrowed := true }
def FnExactAfterMoveUptoSaid : Prop := fnExactAfterMoveUptoRow.holds Try.pinned (OpenSpec.upto fnExactAfterMoveSpec)

/-- 'laws.FnExactNeighboursOf', WHERE WHAT IT READS IS OF BULK AT MOST 1048576: true; the input reads as it did. -/
def fnExactNeighboursOfUptoRow : OpenClaim := { program := "ytppfheodpalmpaa", sum := "d9a13ce426bd4b3a29b60b926824494ed3d39aa65a34f46435a86fae0278c2dc", func := "loop.example/g01321/laws.FnExactNeighboursOf", spec := "fnExactNeighboursOf", unfollowed := true, recurses := true, apart := false, narrowed := true }
def FnExactNeighboursOfUptoSaid : Prop := fnExactNeighboursOfUptoRow.holds Try.pinned (OpenSpec.upto fnExactNeighboursOfSpec)

end Rows
end Go.Proofs.Ytppfheodpalmpaa
