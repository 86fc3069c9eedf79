/-
  No cell of these rows narrows 'for every input' (looked for: loops, veiled, ifaces, maps, wideKeys, modest, calm, conditions, laid).
  DERIVED. THE GIVEN ROWS OF THIS SEAT. 6 by the template 'for every input the law returns true; each argument reads behind the call as it read before'; 0 by the template 'total and deterministic' (their statements: YtinhpkckaajnmaaTotals.lean).
  GIVEN WITH THE SEED: the statements are not yours to turn. If you find one false, say at which input.
  Laid BY PROGRAM, IN A SANDBOX (cutbox-rows.mjs): the forced cells as the released guide's own fill.sh prints them over the translation fed99e2c6d6b07db… (all of the seat's roots in one cut). By AI agents, Wed Nov 11 2026. No macro, syntax, notation, axiom, sorry.
-/
import Derived.Test.YtinhpkckaajnmaaChecked
import GoSem.Claim
import GoSem.ClaimJoined
import GoSem.ClaimMapViews
import Derived.JoinedTies
import Derived.KernelRfl
namespace Go.Proofs.Ytinhpkckaajnmaa
/- THE CELL 'sum', in the pinned program and in every row, IS THE sha256 OF THE DUMP (.gsa) THAT YtinhpkckaajnmaaProg.lean LOADS. Nothing in Lean hashes anything: it is a label: what it is worth is what the hold of that sum in a sandbox is worth. -/
noncomputable def Try.pinned : Pinned := { name := "ytinhpkckaajnmaa", sum := "fed99e2c6d6b07dbb46cf062656d3b59ef15000c583d8cc27077f6a6ca8d0262", checked := Try.checked }
namespace Rows
def none {H : Type} : Left H := { results := [], args := [] }

/-- 'laws.FnExactIsState': WHATEVER THE INPUT: true; the input reads as it did. -/
def fnExactIsStateSpec : ChangeSpec := { name := "fnExactIsState", fn := fun _ => fun
  | [d] => { results := [.lit (.bool true)], args := [d] }
  | _ => none }
def fnExactIsStateRow : OpenClaim := { program := "ytinhpkckaajnmaa", sum := "fed99e2c6d6b07dbb46cf062656d3b59ef15000c583d8cc27077f6a6ca8d0262", func := "loop.example/g01321/laws.FnExactIsState", spec := "fnExactIsState", apart := false }
def FnExactIsStateSaid : Prop := fnExactIsStateRow.holds Try.pinned (OpenSpec.ofChange fnExactIsStateSpec)

/-- ITS FALSE NEIGHBOUR: 'it returns false'. Refute it at one input. -/
def fnExactIsStateWrong : ChangeSpec := { name := "fnExactIsState", fn := fun _ => fun
  | [d] => { results := [.lit (.bool false)], args := [d] }
  | _ => none }
def FnExactIsStateWrongFalsely : Prop := fnExactIsStateRow.holds Try.pinned (OpenSpec.ofChange fnExactIsStateWrong)

/-- 'laws.FnExactPerfectState': WHATEVER THE INPUT: true; the input reads as it did. -/
def fnExactPerfectStateSpec : ChangeSpec := { name := "fnExactPerfectState", fn := fun _ => fun
  | [d1, d2, d3] => { results := [.lit (.bool true)], args := [d1, d2, d3] }
  | _ => none }
def fnExactPerfectStateRow : OpenClaim := { program := "ytinhpkckaajnmaa", sum := "fed99e2c6d6b07dbb46cf062656d3b59ef15000c583d8cc27077f6a6ca8d0262", func := "loop.example/g01321/laws.FnExactPerfectState", spec := "fnExactPerfectState", apart := false }
def FnExactPerfectStateSaid : Prop := fnExactPerfectStateRow.holds Try.pinned (OpenSpec.ofChange fnExactPerfectStateSpec)

/-- ITS FALSE NEIGHBOUR: 'it returns false'. Refute it at one input. -/
def fnExactPerfectStateWrong : ChangeSpec := { name := "fnExactPerfectState", fn := fun _ => fun
  | [d1, d2, d3] => { results := [.lit (.bool false)], args := [d1, d2, d3] }
  | _ => none }
def FnExactPerfectStateWrongFalsely : Prop := fnExactPerfectStateRow.holds Try.pinned (OpenSpec.ofChange fnExactPerfectStateWrong)

/-- 'laws.FnExactIsPerfectState': WHATEVER THE INPUT: true; the input reads as it did. -/
def fnExactIsPerfectStateSpec : ChangeSpec := { name := "fnExactIsPerfectState", fn := fun _ => fun
  | [d] => { results := [.lit (.bool true)], args := [d] }
  | _ => none }
def fnExactIsPerfectStateRow : OpenClaim := { program := "ytinhpkckaajnmaa", sum := "fed99e2c6d6b07dbb46cf062656d3b59ef15000c583d8cc27077f6a6ca8d0262", func := "loop.example/g01321/laws.FnExactIsPerfectState", spec := "fnExactIsPerfectState", apart := false }
def FnExactIsPerfectStateSaid : Prop := fnExactIsPerfectStateRow.holds Try.pinned (OpenSpec.ofChange fnExactIsPerfectStateSpec)

/-- ITS FALSE NEIGHBOUR: 'it returns false'. Refute it at one input. -/
def fnExactIsPerfectStateWrong : ChangeSpec := { name := "fnExactIsPerfectState", fn := fun _ => fun
  | [d] => { results := [.lit (.bool false)], args := [d] }
  | _ => none }
def FnExactIsPerfectStateWrongFalsely : Prop := fnExactIsPerfectStateRow.holds Try.pinned (OpenSpec.ofChange fnExactIsPerfectStateWrong)

/-- 'laws.FnExactRankOf': WHATEVER THE INPUT: true; the input reads as it did. -/
def fnExactRankOfSpec : ChangeSpec := { name := "fnExactRankOf", fn := fun _ => fun
  | [d] => { results := [.lit (.bool true)], args := [d] }
  | _ => none }
def fnExactRankOfRow : OpenClaim := { program := "ytinhpkckaajnmaa", sum := "fed99e2c6d6b07dbb46cf062656d3b59ef15000c583d8cc27077f6a6ca8d0262", func := "loop.example/g01321/laws.FnExactRankOf", spec := "fnExactRankOf", apart := false }
def FnExactRankOfSaid : Prop := fnExactRankOfRow.holds Try.pinned (OpenSpec.ofChange fnExactRankOfSpec)

/-- ITS FALSE NEIGHBOUR: 'it returns false'. Refute it at one input. -/
def fnExactRankOfWrong : ChangeSpec := { name := "fnExactRankOf", fn := fun _ => fun
  | [d] => { results := [.lit (.bool false)], args := [d] }
  | _ => none }
def FnExactRankOfWrongFalsely : Prop := fnExactRankOfRow.holds Try.pinned (OpenSpec.ofChange fnExactRankOfWrong)

/-- 'laws.FnExactStateOfRank': WHATEVER THE INPUT: true; the input reads as it did. -/
def fnExactStateOfRankSpec : ChangeSpec := { name := "fnExactStateOfRank", fn := fun _ => fun
  | [d1, d2, d3] => { results := [.lit (.bool true)], args := [d1, d2, d3] }
  | _ => none }
def fnExactStateOfRankRow : OpenClaim := { program := "ytinhpkckaajnmaa", sum := "fed99e2c6d6b07dbb46cf062656d3b59ef15000c583d8cc27077f6a6ca8d0262", func := "loop.example/g01321/laws.FnExactStateOfRank", spec := "fnExactStateOfRank", apart := false }
def FnExactStateOfRankSaid : Prop := fnExactStateOfRankRow.holds Try.pinned (OpenSpec.ofChange fnExactStateOfRankSpec)

/-- ITS FALSE NEIGHBOUR: 'it returns false'. Refute it at one input. -/
def fnExactStateOfRankWrong : ChangeSpec := { name := "fnExactStateOfRank", fn := fun _ => fun
  | [d1, d2, d3] => { results := [.lit (.bool false)], args := [d1, d2, d3] }
  | _ => none }
def FnExactStateOfRankWrongFalsely : Prop := fnExactStateOfRankRow.holds Try.pinned (OpenSpec.ofChange fnExactStateOfRankWrong)

/-- 'laws.FnExactTopOf': WHATEVER THE INPUT: true; the input reads as it did. -/
def fnExactTopOfSpec : ChangeSpec := { name := "fnExactTopOf", fn := fun _ => fun
  | [d1, d2] => { results := [.lit (.bool true)], args := [d1, d2] }
  | _ => none }
def fnExactTopOfRow : OpenClaim := { program := "ytinhpkckaajnmaa", sum := "fed99e2c6d6b07dbb46cf062656d3b59ef15000c583d8cc27077f6a6ca8d0262", func := "loop.example/g01321/laws.FnExactTopOf", spec := "fnExactTopOf", apart := false }
def FnExactTopOfSaid : Prop := fnExactTopOfRow.holds Try.pinned (OpenSpec.ofChange fnExactTopOfSpec)

/-- ITS FALSE NEIGHBOUR: 'it returns false'. Refute it at one input. -/
def fnExactTopOfWrong : ChangeSpec := { name := "fnExactTopOf", fn := fun _ => fun
  | [d1, d2] => { results := [.lit (.bool false)], args := [d1, d2] }
  | _ => none }
def FnExactTopOfWrongFalsely : Prop := fnExactTopOfRow.holds Try.pinned (OpenSpec.ofChange fnExactTopOfWrong)

/- THE SECOND FORM. 'bulk': how many values and letters a reading holds, each counted each time it is reached (what is shared counts as often as it is met; a slice's spare places count too). A statement '..UptoSaid' is the law's where the arguments, and the package variables that the reading takes, are together of bulk at most 1048576: NARROWER than '..Said'. Prove '..Said' where nothing that the law and all that it calls make is longer than what came in: it says more and counts as full. Else prove '..UptoSaid'. A law counts once. -/
mutual
def uptoBulk {H : Type} : DataW H → Nat
  | .lit (.string bytes) => bytes.length + 1
  | .lit _ => 1
  | .nil => 1
  | .ptr d => uptoBulk d + 1
  | .slice elems spare => uptoBulkAll elems + uptoBulkAll spare + 1
  | .agg parts => uptoBulkAll parts + 1
  | .iface _ d => uptoBulk d + 1
  | .map entries => uptoBulkEntries entries + 1
  | .held _ => 1
def uptoBulkAll {H : Type} : List (DataW H) → Nat
  | [] => 0
  | d :: r => uptoBulk d + uptoBulkAll r
def uptoBulkEntries {H : Type} : List (Lit × DataW H) → Nat
  | [] => 0
  | x :: r => uptoBulkEntry x + uptoBulkEntries r
def uptoBulkEntry {H : Type} : Lit × DataW H → Nat
  | (.string bytes, d) => bytes.length + uptoBulk d + 1
  | (_, d) => uptoBulk d + 1
 end
def uptoSmall : (H : Type) → List (DataW H) → Bool := fun _ ds => decide (uptoBulkAll ds ≤ 1048576)
def OpenSpec.upto (s : _root_.Go.ChangeSpec) : _root_.Go.OpenSpec := { _root_.Go.OpenSpec.ofChange s with cond := some uptoSmall }

/-- 'laws.FnExactIsState', WHERE WHAT IT READS IS OF BULK AT MOST 1048576: true; the input reads as it did. -/
def fnExactIsStateUptoRow : OpenClaim := { program := "ytinhpkckaajnmaa", sum := "fed99e2c6d6b07dbb46cf062656d3b59ef15000c583d8cc27077f6a6ca8d0262", func := "loop.example/g01321/laws.FnExactIsState", spec := "fnExactIsState", apart := false, narrowed := true }
def FnExactIsStateUptoSaid : Prop := fnExactIsStateUptoRow.holds Try.pinned (OpenSpec.upto fnExactIsStateSpec)

/-- 'laws.FnExactPerfectState', WHERE WHAT IT READS IS OF BULK AT MOST 1048576: true; the input reads as it did. -/
def fnExactPerfectStateUptoRow : OpenClaim := { program := "ytinhpkckaajnmaa", sum := "fed99e2c6d6b07dbb46cf062656d3b59ef15000c583d8cc27077f6a6ca8d0262", func := "loop.example/g01321/laws.FnExactPerfectState", spec := "fnExactPerfectState", apart := false, narrowed := true }
def FnExactPerfectStateUptoSaid : Prop := fnExactPerfectStateUptoRow.holds Try.pinned (OpenSpec.upto fnExactPerfectStateSpec)

/-- 'laws.FnExactIsPerfectState', WHERE WHAT IT READS IS OF BULK AT MOST 1048576: true; the input reads as it did. -/
def fnExactIsPerfectStateUptoRow : OpenClaim := { program := "ytinhpkckaajnmaa", sum := "fed99e2c6d6b07dbb46cf062656d3b59ef15000c583d8cc27077f6a6ca8d0262", func := "loop.example/g01321/laws.FnExactIsPerfectState", spec := "fnExactIsPerfectState", apart := false, narrowed := true }
def FnExactIsPerfectStateUptoSaid : Prop := fnExactIsPerfectStateUptoRow.holds Try.pinned (OpenSpec.upto fnExactIsPerfectStateSpec)

/-- 'laws.FnExactRankOf', WHERE WHAT IT READS IS OF BULK AT MOST 1048576: true; the input reads as it did. -/
def fnExactRankOfUptoRow : OpenClaim := { program := "ytinhpkckaajnmaa", sum := "fed99e2c6d6b07dbb46cf062656d3b59ef15000c583d8cc27077f6a6ca8d0262", func := "loop.example/g01321/laws.FnExactRankOf", spec := "fnExactRankOf", apart := false, narrowed := true }
def FnExactRankOfUptoSaid : Prop := fnExactRankOfUptoRow.holds Try.pinned (OpenSpec.upto fnExactRankOfSpec)

/-- 'laws.FnExactStateOfRank', WHERE WHAT IT READS IS OF BULK AT MOST 1048576: true; the input reads as it did. -/
def fnExactStateOfRankUptoRow : OpenClaim := { program := "ytinhpkckaajnmaa", sum := "fed99e2c6d6b07dbb46cf062656d3b59ef15000c583d8cc27077f6a6ca8d0262", func := "loop.example/g01321/laws.FnExactStateOfRank", spec := "fnExactStateOfRank", apart := false, narrowed := true }
def FnExactStateOfRankUptoSaid : Prop := fnExactStateOfRankUptoRow.holds Try.pinned (OpenSpec.upto fnExactStateOfRankSpec)

/-- 'laws.FnExactTopOf', WHERE WHAT IT READS IS OF BULK AT MOST 1048576: true; the input reads as it did. -/
def fnExactTopOfUptoRow : OpenClaim := { program := "ytinhpkckaajnmaa", sum := "fed99e2c6d6b07dbb46cf062656d3b59ef15000c583d8cc27077f6a6ca8d0262", func := "loop.example/g01321/laws.FnExactTopOf", spec := "fnExactTopOf", apart := false, narrowed := true }
def FnExactTopOfUptoSaid : Prop := fnExactTopOfUptoRow.holds Try.pinned (OpenSpec.upto fnExactTopOfSpec)

end Rows
end Go.Proofs.Ytinhpkckaajnmaa
