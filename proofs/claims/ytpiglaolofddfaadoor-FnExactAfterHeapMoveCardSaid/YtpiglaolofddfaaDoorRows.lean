/-
  NARROWER THAN 'FOR EVERY INPUT', by the rows' own cells (each row's printed sentence says how): FnExactHeapMoves: ifaces, laid · FnExactAfterHeapMove: ifaces, laid.
  DERIVED. THE GIVEN ROWS OF THIS SEAT. 2 by the template 'for every input the law returns true; each argument reads behind the call as it read before'; 0 by the template 'total and deterministic' (their statements: YtpiglaolofddfaaDoorTotals.lean).
  GIVEN WITH THE SEED: the statements are not yours to turn. If you find one false, say at which input.
  Laid BY PROGRAM, IN A SANDBOX (cutbox-rows.mjs): the forced cells as the released guide's own fill.sh prints them over the translation 71729167c551d89a… (all of the seat's roots in one cut). By AI agents, Wed Nov 11 2026. No macro, syntax, notation, axiom, sorry.
-/
import Derived.Test.YtpiglaolofddfaaDoorChecked
import GoSem.Claim
import GoSem.ClaimJoined
import GoSem.ClaimMapViews
import Derived.JoinedTies
import Derived.KernelRfl
namespace Go.Proofs.YtpiglaolofddfaaDoor
/- THE CELL 'sum', in the pinned program and in every row, IS THE sha256 OF THE DUMP (.gsa) THAT YtpiglaolofddfaaDoorProg.lean LOADS. Nothing in Lean hashes anything: it is a label: what it is worth is what the hold of that sum in a sandbox is worth. -/
noncomputable def Tryd.pinned : Pinned := { name := "ytpiglaolofddfaadoor", sum := "71729167c551d89aab547d1a2f688011078fb67292b30369a24e493dc6245d4f", checked := Tryd.checked }
namespace Rows
def none {H : Type} : Left H := { results := [], args := [] }

/- WHAT THE LISTED PACKAGE-LEVEL VARIABLES READ AS WHEN THE CALL BEGINS. Each datum BY PROGRAM (the guide's laid-datum.mjs) off the statement by which the dump's own 'gosem.cut.vars' lays the variable. In a bare row this is a premise. The card (YtpiglaolofddfaaDoorCards.lean) ties it to the program's text. -/
def laid_loop_example_g01321_impl_errNoHeap {H : Type} : DataW H := .iface "*errors.errorString" (.ptr (.agg [.lit (.string [116, 104, 101, 32, 83, 116, 97, 99, 107, 115, 32, 97, 114, 101, 32, 110, 111, 32, 104, 101, 97, 112])]))

/-- 'laws.FnExactHeapMoves': WHATEVER THE INPUT: true; the input reads as it did. -/
def fnExactHeapMovesSpec : ChangeSpec := { name := "fnExactHeapMoves", vars := ["loop.example/g01321/impl.errNoHeap"], fn := fun _ => fun
  | [d, g1] => { results := [.lit (.bool true)], args := [d], vars := [g1] }
  | _ => none }
def fnExactHeapMovesRow : OpenClaim := { program := "ytpiglaolofddfaadoor", sum := "71729167c551d89aab547d1a2f688011078fb67292b30369a24e493dc6245d4f", func := "loop.example/g01321/laws.FnExactHeapMoves", spec := "fnExactHeapMoves", unfollowed := true, recurses := true, named := ["loop.example/g01321/impl.errNoHeap"], ifaces := true, apart := false, laid := [("loop.example/g01321/impl.errNoHeap", laid_loop_example_g01321_impl_errNoHeap)] }
def FnExactHeapMovesSaid : Prop := fnExactHeapMovesRow.holds Tryd.pinned (OpenSpec.ofChange fnExactHeapMovesSpec)

/-- ITS FALSE NEIGHBOUR: 'it returns false'. Refute it at one input. -/
def fnExactHeapMovesWrong : ChangeSpec := { name := "fnExactHeapMoves", vars := ["loop.example/g01321/impl.errNoHeap"], fn := fun _ => fun
  | [d, g1] => { results := [.lit (.bool false)], args := [d], vars := [g1] }
  | _ => none }
def FnExactHeapMovesWrongFalsely : Prop := fnExactHeapMovesRow.holds Tryd.pinned (OpenSpec.ofChange fnExactHeapMovesWrong)

/-- 'laws.FnExactAfterHeapMove': WHATEVER THE INPUT: true; the input reads as it did. -/
def fnExactAfterHeapMoveSpec : ChangeSpec := { name := "fnExactAfterHeapMove", vars := ["loop.example/g01321/impl.errNoHeap"], fn := fun _ => fun
  | [d1, d2, g1] => { results := [.lit (.bool true)], args := [d1, d2], vars := [g1] }
  | _ => none }
def fnExactAfterHeapMoveRow : OpenClaim := { program := "ytpiglaolofddfaadoor", sum := "71729167c551d89aab547d1a2f688011078fb67292b30369a24e493dc6245d4f", func := "loop.example/g01321/laws.FnExactAfterHeapMove", spec := "fnExactAfterHeapMove", unfollowed := true, recurses := true, named := ["loop.example/g01321/impl.errNoHeap"], ifaces := true, apart := false, laid := [("loop.example/g01321/impl.errNoHeap", laid_loop_example_g01321_impl_errNoHeap)] }
def FnExactAfterHeapMoveSaid : Prop := fnExactAfterHeapMoveRow.holds Tryd.pinned (OpenSpec.ofChange fnExactAfterHeapMoveSpec)

/-- ITS FALSE NEIGHBOUR: 'it returns false'. Refute it at one input. -/
def fnExactAfterHeapMoveWrong : ChangeSpec := { name := "fnExactAfterHeapMove", vars := ["loop.example/g01321/impl.errNoHeap"], fn := fun _ => fun
  | [d1, d2, g1] => { results := [.lit (.bool false)], args := [d1, d2], vars := [g1] }
  | _ => none }
def FnExactAfterHeapMoveWrongFalsely : Prop := fnExactAfterHeapMoveRow.holds Tryd.pinned (OpenSpec.ofChange fnExactAfterHeapMoveWrong)

/- THE SECOND FORM. 'bulk': how many values and letters a reading holds, each counted each time it is reached (what is shared counts as often as it is met; a slice's spare places count too). A statement '..UptoSaid' is the law's where the arguments, and the package variables that the reading takes, are together of bulk at most 1048576: NARROWER than '..Said'. Prove '..Said' where nothing that the law and all that it calls make is longer than what came in: it says more and counts as full. Else prove '..UptoSaid'. A law counts once. -/
mutual
def uptoBulk {H : Type} : DataW H → Nat
  | .lit (.string bytes) => bytes.length + 1
  | .lit _ => 1
  | .nil => 1
  | .ptr d => uptoBulk d + 1
  | .slice elems spare => uptoBulkAll elems + uptoBulkAll spare + 1
  | .agg parts => uptoBulkAll parts + 1
  | .iface _ d => uptoBulk d + 1
  | .map entries => uptoBulkEntries entries + 1
  | .held _ => 1
def uptoBulkAll {H : Type} : List (DataW H) → Nat
  | [] => 0
  | d :: r => uptoBulk d + uptoBulkAll r
def uptoBulkEntries {H : Type} : List (Lit × DataW H) → Nat
  | [] => 0
  | x :: r => uptoBulkEntry x + uptoBulkEntries r
def uptoBulkEntry {H : Type} : Lit × DataW H → Nat
  | (.string bytes, d) => bytes.length + uptoBulk d + 1
  | (_, d) => uptoBulk d + 1
 end
def uptoSmall : (H : Type) → List (DataW H) → Bool := fun _ ds => decide (uptoBulkAll ds ≤ 1048576)
def OpenSpec.upto (s : _root_.Go.ChangeSpec) : _root_.Go.OpenSpec := { _root_.Go.OpenSpec.ofChange s with cond := some uptoSmall }

/-- 'laws.FnExactHeapMoves', WHERE WHAT IT READS IS OF BULK AT MOST 1048576: true; the input reads as it did. -/
def fnExactHeapMovesUptoRow : OpenClaim := { program := "ytpiglaolofddfaadoor", sum := "71729167c551d89aab547d1a2f688011078fb67292b30369a24e493dc6245d4f", func := "loop.example/g01321/laws.FnExactHeapMoves", spec := "fnExactHeapMoves", unfollowed := true, recurses := true, named := ["loop.example/g01321/impl.errNoHeap"], ifaces := true, apart := false, laid := [("loop.example/g01321/impl.errNoHeap", laid_loop_example_g01321_impl_errNoHeap)], narrowed := true }
def FnExactHeapMovesUptoSaid : Prop := fnExactHeapMovesUptoRow.holds Tryd.pinned (OpenSpec.upto fnExactHeapMovesSpec)

/-- 'laws.FnExactAfterHeapMove', WHERE WHAT IT READS IS OF BULK AT MOST 1048576: true; the input reads as it did. -/
def fnExactAfterHeapMoveUptoRow : OpenClaim := { program := "ytpiglaolofddfaadoor", sum := "71729167c551d89aab547d1a2f688011078fb67292b30369a24e493dc6245d4f", func := "loop.example/g01321/laws.FnExactAfterHeapMove", spec := "fnExactAfterHeapMove", unfollowed := true, recurses := true, named := ["loop.example/g01321/impl.errNoHeap"], ifaces := true, apart := false, laid := [("loop.example/g01321/impl.errNoHeap", laid_loop_example_g01321_impl_errNoHeap)], narrowed := true }
def FnExactAfterHeapMoveUptoSaid : Prop := fnExactAfterHeapMoveUptoRow.holds Tryd.pinned (OpenSpec.upto fnExactAfterHeapMoveSpec)

end Rows
end Go.Proofs.YtpiglaolofddfaaDoor
