/-
  NARROWER THAN 'FOR EVERY INPUT', by the rows' own cells (each row's printed sentence says how): FnExactIsHeap: ifaces, laid · FnExactIsRegularHeap: ifaces, laid · FnExactStateOfHeap: ifaces, laid · FnExactCountWrongPairs: ifaces, laid.
  DERIVED. THE GIVEN ROWS OF THIS SEAT. 4 by the template 'for every input the law returns true; each argument reads behind the call as it read before'; 0 by the template 'total and deterministic' (their statements: YtdifolaobgclgaaDoorTotals.lean).
  GIVEN WITH THE SEED: the statements are not yours to turn. If you find one false, say at which input.
  Laid BY PROGRAM, IN A SANDBOX (cutbox-rows.mjs): the forced cells as the released guide's own fill.sh prints them over the translation 434f971ed7272d56… (all of the seat's roots in one cut). By AI agents, Wed Nov 11 2026. No macro, syntax, notation, axiom, sorry.
-/
import Derived.Test.YtdifolaobgclgaaDoorChecked
import GoSem.Claim
import GoSem.ClaimJoined
import GoSem.ClaimMapViews
import Derived.JoinedTies
import Derived.KernelRfl
namespace Go.Proofs.YtdifolaobgclgaaDoor
/- THE CELL 'sum', in the pinned program and in every row, IS THE sha256 OF THE DUMP (.gsa) THAT YtdifolaobgclgaaDoorProg.lean LOADS. Nothing in Lean hashes anything: it is a label: what it is worth is what the hold of that sum in a sandbox is worth. -/
noncomputable def Tryd.pinned : Pinned := { name := "ytdifolaobgclgaadoor", sum := "434f971ed7272d56a39ce3ff3e53d176afb95458b9aca45adaf9066d05cd0538", checked := Tryd.checked }
namespace Rows
def none {H : Type} : Left H := { results := [], args := [] }

/- WHAT THE LISTED PACKAGE-LEVEL VARIABLES READ AS WHEN THE CALL BEGINS. Each datum BY PROGRAM (the guide's laid-datum.mjs) off the statement by which the dump's own 'gosem.cut.vars' lays the variable. In a bare row this is a premise. The card (YtdifolaobgclgaaDoorCards.lean) ties it to the program's text. -/
def laid_loop_example_g01321_impl_errNoHeap {H : Type} : DataW H := .iface "*errors.errorString" (.ptr (.agg [.lit (.string [116, 104, 101, 32, 83, 116, 97, 99, 107, 115, 32, 97, 114, 101, 32, 110, 111, 32, 104, 101, 97, 112])]))

/-- 'laws.FnExactIsHeap': WHATEVER THE INPUT: true; the input reads as it did. -/
def fnExactIsHeapSpec : ChangeSpec := { name := "fnExactIsHeap", vars := ["loop.example/g01321/impl.errNoHeap"], fn := fun _ => fun
  | [d, g1] => { results := [.lit (.bool true)], args := [d], vars := [g1] }
  | _ => none }
def fnExactIsHeapRow : OpenClaim := { program := "ytdifolaobgclgaadoor", sum := "434f971ed7272d56a39ce3ff3e53d176afb95458b9aca45adaf9066d05cd0538", func := "loop.example/g01321/laws.FnExactIsHeap", spec := "fnExactIsHeap", unfollowed := true, recurses := true, named := ["loop.example/g01321/impl.errNoHeap"], ifaces := true, apart := false, laid := [("loop.example/g01321/impl.errNoHeap", laid_loop_example_g01321_impl_errNoHeap)] }
def FnExactIsHeapSaid : Prop := fnExactIsHeapRow.holds Tryd.pinned (OpenSpec.ofChange fnExactIsHeapSpec)

/-- ITS FALSE NEIGHBOUR: 'it returns false'. Refute it at one input. -/
def fnExactIsHeapWrong : ChangeSpec := { name := "fnExactIsHeap", vars := ["loop.example/g01321/impl.errNoHeap"], fn := fun _ => fun
  | [d, g1] => { results := [.lit (.bool false)], args := [d], vars := [g1] }
  | _ => none }
def FnExactIsHeapWrongFalsely : Prop := fnExactIsHeapRow.holds Tryd.pinned (OpenSpec.ofChange fnExactIsHeapWrong)

/-- 'laws.FnExactIsRegularHeap': WHATEVER THE INPUT: true; the input reads as it did. -/
def fnExactIsRegularHeapSpec : ChangeSpec := { name := "fnExactIsRegularHeap", vars := ["loop.example/g01321/impl.errNoHeap"], fn := fun _ => fun
  | [d, g1] => { results := [.lit (.bool true)], args := [d], vars := [g1] }
  | _ => none }
def fnExactIsRegularHeapRow : OpenClaim := { program := "ytdifolaobgclgaadoor", sum := "434f971ed7272d56a39ce3ff3e53d176afb95458b9aca45adaf9066d05cd0538", func := "loop.example/g01321/laws.FnExactIsRegularHeap", spec := "fnExactIsRegularHeap", unfollowed := true, recurses := true, named := ["loop.example/g01321/impl.errNoHeap"], ifaces := true, apart := false, laid := [("loop.example/g01321/impl.errNoHeap", laid_loop_example_g01321_impl_errNoHeap)] }
def FnExactIsRegularHeapSaid : Prop := fnExactIsRegularHeapRow.holds Tryd.pinned (OpenSpec.ofChange fnExactIsRegularHeapSpec)

/-- ITS FALSE NEIGHBOUR: 'it returns false'. Refute it at one input. -/
def fnExactIsRegularHeapWrong : ChangeSpec := { name := "fnExactIsRegularHeap", vars := ["loop.example/g01321/impl.errNoHeap"], fn := fun _ => fun
  | [d, g1] => { results := [.lit (.bool false)], args := [d], vars := [g1] }
  | _ => none }
def FnExactIsRegularHeapWrongFalsely : Prop := fnExactIsRegularHeapRow.holds Tryd.pinned (OpenSpec.ofChange fnExactIsRegularHeapWrong)

/-- 'laws.FnExactStateOfHeap': WHATEVER THE INPUT: true; the input reads as it did. -/
def fnExactStateOfHeapSpec : ChangeSpec := { name := "fnExactStateOfHeap", vars := ["loop.example/g01321/impl.errNoHeap"], fn := fun _ => fun
  | [d, g1] => { results := [.lit (.bool true)], args := [d], vars := [g1] }
  | _ => none }
def fnExactStateOfHeapRow : OpenClaim := { program := "ytdifolaobgclgaadoor", sum := "434f971ed7272d56a39ce3ff3e53d176afb95458b9aca45adaf9066d05cd0538", func := "loop.example/g01321/laws.FnExactStateOfHeap", spec := "fnExactStateOfHeap", unfollowed := true, recurses := true, named := ["loop.example/g01321/impl.errNoHeap"], ifaces := true, apart := false, laid := [("loop.example/g01321/impl.errNoHeap", laid_loop_example_g01321_impl_errNoHeap)] }
def FnExactStateOfHeapSaid : Prop := fnExactStateOfHeapRow.holds Tryd.pinned (OpenSpec.ofChange fnExactStateOfHeapSpec)

/-- ITS FALSE NEIGHBOUR: 'it returns false'. Refute it at one input. -/
def fnExactStateOfHeapWrong : ChangeSpec := { name := "fnExactStateOfHeap", vars := ["loop.example/g01321/impl.errNoHeap"], fn := fun _ => fun
  | [d, g1] => { results := [.lit (.bool false)], args := [d], vars := [g1] }
  | _ => none }
def FnExactStateOfHeapWrongFalsely : Prop := fnExactStateOfHeapRow.holds Tryd.pinned (OpenSpec.ofChange fnExactStateOfHeapWrong)

/-- 'laws.FnExactCountWrongPairs': WHATEVER THE INPUT: true; the input reads as it did. -/
def fnExactCountWrongPairsSpec : ChangeSpec := { name := "fnExactCountWrongPairs", vars := ["loop.example/g01321/impl.errNoHeap"], fn := fun _ => fun
  | [d, g1] => { results := [.lit (.bool true)], args := [d], vars := [g1] }
  | _ => none }
def fnExactCountWrongPairsRow : OpenClaim := { program := "ytdifolaobgclgaadoor", sum := "434f971ed7272d56a39ce3ff3e53d176afb95458b9aca45adaf9066d05cd0538", func := "loop.example/g01321/laws.FnExactCountWrongPairs", spec := "fnExactCountWrongPairs", unfollowed := true, recurses := true, named := ["loop.example/g01321/impl.errNoHeap"], ifaces := true, apart := false, laid := [("loop.example/g01321/impl.errNoHeap", laid_loop_example_g01321_impl_errNoHeap)] }
def FnExactCountWrongPairsSaid : Prop := fnExactCountWrongPairsRow.holds Tryd.pinned (OpenSpec.ofChange fnExactCountWrongPairsSpec)

/-- ITS FALSE NEIGHBOUR: 'it returns false'. Refute it at one input. -/
def fnExactCountWrongPairsWrong : ChangeSpec := { name := "fnExactCountWrongPairs", vars := ["loop.example/g01321/impl.errNoHeap"], fn := fun _ => fun
  | [d, g1] => { results := [.lit (.bool false)], args := [d], vars := [g1] }
  | _ => none }
def FnExactCountWrongPairsWrongFalsely : Prop := fnExactCountWrongPairsRow.holds Tryd.pinned (OpenSpec.ofChange fnExactCountWrongPairsWrong)

/- THE SECOND FORM. 'bulk': how many values and letters a reading holds, each counted each time it is reached (what is shared counts as often as it is met; a slice's spare places count too). A statement '..UptoSaid' is the law's where the arguments, and the package variables that the reading takes, are together of bulk at most 1048576: NARROWER than '..Said'. Prove '..Said' where nothing that the law and all that it calls make is longer than what came in: it says more and counts as full. Else prove '..UptoSaid'. A law counts once. -/
mutual
def uptoBulk {H : Type} : DataW H → Nat
  | .lit (.string bytes) => bytes.length + 1
  | .lit _ => 1
  | .nil => 1
  | .ptr d => uptoBulk d + 1
  | .slice elems spare => uptoBulkAll elems + uptoBulkAll spare + 1
  | .agg parts => uptoBulkAll parts + 1
  | .iface _ d => uptoBulk d + 1
  | .map entries => uptoBulkEntries entries + 1
  | .held _ => 1
def uptoBulkAll {H : Type} : List (DataW H) → Nat
  | [] => 0
  | d :: r => uptoBulk d + uptoBulkAll r
def uptoBulkEntries {H : Type} : List (Lit × DataW H) → Nat
  | [] => 0
  | x :: r => uptoBulkEntry x + uptoBulkEntries r
def uptoBulkEntry {H : Type} : Lit × DataW H → Nat
  | (.string bytes, d) => bytes.length + uptoBulk d + 1
  | (_, d) => uptoBulk d + 1
 end
def uptoSmall : (H : Type) → List (DataW H) → Bool := fun _ ds => decide (uptoBulkAll ds ≤ 1048576)
def OpenSpec.upto (s : _root_.Go.ChangeSpec) : _root_.Go.OpenSpec := { _root_.Go.OpenSpec.ofChange s with cond := some uptoSmall }

/-- 'laws.FnExactIsHeap', WHERE WHAT IT READS IS OF BULK AT MOST 1048576: true; the input reads as it did. -/
def fnExactIsHeapUptoRow : OpenClaim := { program := "ytdifolaobgclgaadoor", sum := "434f971ed7272d56a39ce3ff3e53d176afb95458b9aca45adaf9066d05cd0538", func := "loop.example/g01321/laws.FnExactIsHeap", spec := "fnExactIsHeap", unfollowed := true, recurses := true, named := ["loop.example/g01321/impl.errNoHeap"], ifaces := true, apart := false, laid := [("loop.example/g01321/impl.errNoHeap", laid_loop_example_g01321_impl_errNoHeap)], narrowed := true }
def FnExactIsHeapUptoSaid : Prop := fnExactIsHeapUptoRow.holds Tryd.pinned (OpenSpec.upto fnExactIsHeapSpec)

/-- 'laws.FnExactIsRegularHeap', WHERE WHAT IT READS IS OF BULK AT MOST 1048576: true; the input reads as it did. -/
def fnExactIsRegularHeapUptoRow : OpenClaim := { program := "ytdifolaobgclgaadoor", sum := "434f971ed7272d56a39ce3ff3e53d176afb95458b9aca45adaf9066d05cd0538", func := "loop.example/g01321/laws.FnExactIsRegularHeap", spec := "fnExactIsRegularHeap", unfollowed := true, recurses := true, named := ["loop.example/g01321/impl.errNoHeap"], ifaces := true, apart := false, laid := [("loop.example/g01321/impl.errNoHeap", laid_loop_example_g01321_impl_errNoHeap)], narrowed := true }
def FnExactIsRegularHeapUptoSaid : Prop := fnExactIsRegularHeapUptoRow.holds Tryd.pinned (OpenSpec.upto fnExactIsRegularHeapSpec)

/-- 'laws.FnExactStateOfHeap', WHERE WHAT IT READS IS OF BULK AT MOST 1048576: true; the input reads as it did. -/
def fnExactStateOfHeapUptoRow : OpenClaim := { program := "ytdifolaobgclgaadoor", sum := "434f971ed7272d56a39ce3ff3e53d176afb95458b9aca45adaf9066d05cd0538", func := "loop.example/g01321/laws.FnExactStateOfHeap", spec := "fnExactStateOfHeap", unfollowed := true, recurses := true, named := ["loop.example/g01321/impl.errNoHeap"], ifaces := true, apart := false, laid := [("loop.example/g01321/impl.errNoHeap", laid_loop_example_g01321_impl_errNoHeap)], narrowed := true }
def FnExactStateOfHeapUptoSaid : Prop := fnExactStateOfHeapUptoRow.holds Tryd.pinned (OpenSpec.upto fnExactStateOfHeapSpec)

/-- 'laws.FnExactCountWrongPairs', WHERE WHAT IT READS IS OF BULK AT MOST 1048576: true; the input reads as it did. -/
def fnExactCountWrongPairsUptoRow : OpenClaim := { program := "ytdifolaobgclgaadoor", sum := "434f971ed7272d56a39ce3ff3e53d176afb95458b9aca45adaf9066d05cd0538", func := "loop.example/g01321/laws.FnExactCountWrongPairs", spec := "fnExactCountWrongPairs", unfollowed := true, recurses := true, named := ["loop.example/g01321/impl.errNoHeap"], ifaces := true, apart := false, laid := [("loop.example/g01321/impl.errNoHeap", laid_loop_example_g01321_impl_errNoHeap)], narrowed := true }
def FnExactCountWrongPairsUptoSaid : Prop := fnExactCountWrongPairsUptoRow.holds Tryd.pinned (OpenSpec.upto fnExactCountWrongPairsSpec)

end Rows
end Go.Proofs.YtdifolaobgclgaaDoor
