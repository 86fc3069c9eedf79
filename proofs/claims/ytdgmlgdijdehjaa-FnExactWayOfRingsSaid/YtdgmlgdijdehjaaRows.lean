/-
  No cell of these rows narrows 'for every input' (looked for: loops, veiled, ifaces, maps, wideKeys, modest, calm, conditions, laid).
  DERIVED. THE GIVEN ROWS OF THIS SEAT. 4 by the template 'for every input the law returns true; each argument reads behind the call as it read before'; 0 by the template 'total and deterministic' (their statements: YtdgmlgdijdehjaaTotals.lean).
  GIVEN WITH THE SEED: the statements are not yours to turn. If you find one false, say at which input.
  Laid BY PROGRAM, IN A SANDBOX (cutbox-rows.mjs): the forced cells as the released guide's own fill.sh prints them over the translation 99675b979139594d… (all of the seat's roots in one cut). By AI agents, Wed Nov 11 2026. No macro, syntax, notation, axiom, sorry.
-/
import Derived.Test.YtdgmlgdijdehjaaChecked
import GoSem.Claim
import GoSem.ClaimJoined
import GoSem.ClaimMapViews
import Derived.JoinedTies
import Derived.KernelRfl
namespace Go.Proofs.Ytdgmlgdijdehjaa
/- THE CELL 'sum', in the pinned program and in every row, IS THE sha256 OF THE DUMP (.gsa) THAT YtdgmlgdijdehjaaProg.lean LOADS. Nothing in Lean hashes anything: it is a label: what it is worth is what the hold of that sum in a sandbox is worth. -/
noncomputable def Try.pinned : Pinned := { name := "ytdgmlgdijdehjaa", sum := "99675b979139594d046e989fdb9cd9f62a96fa62755eb3cf16eb79de79948d35", checked := Try.checked }
namespace Rows
def none {H : Type} : Left H := { results := [], args := [] }

/-- 'laws.FnExactRingsThatChange': WHATEVER THE INPUT: true; the input reads as it did. -/
def fnExactRingsThatChangeSpec : ChangeSpec := { name := "fnExactRingsThatChange", fn := fun _ => fun
  | [d] => { results := [.lit (.bool true)], args := [d] }
  | _ => none }
def fnExactRingsThatChangeRow : OpenClaim := { program := "ytdgmlgdijdehjaa", sum := "99675b979139594d046e989fdb9cd9f62a96fa62755eb3cf16eb79de79948d35", func := "loop.example/g01321/laws.FnExactRingsThatChange", spec := "fnExactRingsThatChange", unfollowed := true, recurses := true, apart := false }
def FnExactRingsThatChangeSaid : Prop := fnExactRingsThatChangeRow.holds Try.pinned (OpenSpec.ofChange fnExactRingsThatChangeSpec)

/-- ITS FALSE NEIGHBOUR: 'it returns false'. Refute it at one input. -/
def fnExactRingsThatChangeWrong : ChangeSpec := { name := "fnExactRingsThatChange", fn := fun _ => fun
  | [d] => { results := [.lit (.bool false)], args := [d] }
  | _ => none }
def FnExactRingsThatChangeWrongFalsely : Prop := fnExactRingsThatChangeRow.holds Try.pinned (OpenSpec.ofChange fnExactRingsThatChangeWrong)

/-- 'laws.FnExactChangeRing': WHATEVER THE INPUT: true; the input reads as it did. -/
def fnExactChangeRingSpec : ChangeSpec := { name := "fnExactChangeRing", fn := fun _ => fun
  | [d1, d2] => { results := [.lit (.bool true)], args := [d1, d2] }
  | _ => none }
def fnExactChangeRingRow : OpenClaim := { program := "ytdgmlgdijdehjaa", sum := "99675b979139594d046e989fdb9cd9f62a96fa62755eb3cf16eb79de79948d35", func := "loop.example/g01321/laws.FnExactChangeRing", spec := "fnExactChangeRing", unfollowed := true, recurses := true, apart := false }
def FnExactChangeRingSaid : Prop := fnExactChangeRingRow.holds Try.pinned (OpenSpec.ofChange fnExactChangeRingSpec)

/-- ITS FALSE NEIGHBOUR: 'it returns false'. Refute it at one input. -/
def fnExactChangeRingWrong : ChangeSpec := { name := "fnExactChangeRing", fn := fun _ => fun
  | [d1, d2] => { results := [.lit (.bool false)], args := [d1, d2] }
  | _ => none }
def FnExactChangeRingWrongFalsely : Prop := fnExactChangeRingRow.holds Try.pinned (OpenSpec.ofChange fnExactChangeRingWrong)

/-- 'laws.FnExactWayOfRings': WHATEVER THE INPUT: true; the input reads as it did. -/
def fnExactWayOfRingsSpec : ChangeSpec := { name := "fnExactWayOfRings", fn := fun _ => fun
  | [d1, d2] => { results := [.lit (.bool true)], args := [d1, d2] }
  | _ => none }
def fnExactWayOfRingsRow : OpenClaim := { program := "ytdgmlgdijdehjaa", sum := "99675b979139594d046e989fdb9cd9f62a96fa62755eb3cf16eb79de79948d35", func := "loop.example/g01321/laws.FnExactWayOfRings", spec := "fnExactWayOfRings", unfollowed := true, recurses := true, apart := false }
def FnExactWayOfRingsSaid : Prop := fnExactWayOfRingsRow.holds Try.pinned (OpenSpec.ofChange fnExactWayOfRingsSpec)

/-- ITS FALSE NEIGHBOUR: 'it returns false'. Refute it at one input. -/
def fnExactWayOfRingsWrong : ChangeSpec := { name := "fnExactWayOfRings", fn := fun _ => fun
  | [d1, d2] => { results := [.lit (.bool false)], args := [d1, d2] }
  | _ => none }
def FnExactWayOfRingsWrongFalsely : Prop := fnExactWayOfRingsRow.holds Try.pinned (OpenSpec.ofChange fnExactWayOfRingsWrong)

/-- 'laws.FnExactOppositeRings': WHATEVER THE INPUT: true; the input reads as it did. -/
def fnExactOppositeRingsSpec : ChangeSpec := { name := "fnExactOppositeRings", fn := fun _ => fun
  | [d] => { results := [.lit (.bool true)], args := [d] }
  | _ => none }
def fnExactOppositeRingsRow : OpenClaim := { program := "ytdgmlgdijdehjaa", sum := "99675b979139594d046e989fdb9cd9f62a96fa62755eb3cf16eb79de79948d35", func := "loop.example/g01321/laws.FnExactOppositeRings", spec := "fnExactOppositeRings", apart := false }
def FnExactOppositeRingsSaid : Prop := fnExactOppositeRingsRow.holds Try.pinned (OpenSpec.ofChange fnExactOppositeRingsSpec)

/-- ITS FALSE NEIGHBOUR: 'it returns false'. Refute it at one input. -/
def fnExactOppositeRingsWrong : ChangeSpec := { name := "fnExactOppositeRings", fn := fun _ => fun
  | [d] => { results := [.lit (.bool false)], args := [d] }
  | _ => none }
def FnExactOppositeRingsWrongFalsely : Prop := fnExactOppositeRingsRow.holds Try.pinned (OpenSpec.ofChange fnExactOppositeRingsWrong)

/- THE SECOND FORM. 'bulk': how many values and letters a reading holds, each counted each time it is reached (what is shared counts as often as it is met; a slice's spare places count too). A statement '..UptoSaid' is the law's where the arguments, and the package variables that the reading takes, are together of bulk at most 1048576: NARROWER than '..Said'. Prove '..Said' where nothing that the law and all that it calls make is longer than what came in: it says more and counts as full. Else prove '..UptoSaid'. A law counts once. -/
mutual
def uptoBulk {H : Type} : DataW H → Nat
  | .lit (.string bytes) => bytes.length + 1
  | .lit _ => 1
  | .nil => 1
  | .ptr d => uptoBulk d + 1
  | .slice elems spare => uptoBulkAll elems + uptoBulkAll spare + 1
  | .agg parts => uptoBulkAll parts + 1
  | .iface _ d => uptoBulk d + 1
  | .map entries => uptoBulkEntries entries + 1
  | .held _ => 1
def uptoBulkAll {H : Type} : List (DataW H) → Nat
  | [] => 0
  | d :: r => uptoBulk d + uptoBulkAll r
def uptoBulkEntries {H : Type} : List (Lit × DataW H) → Nat
  | [] => 0
  | x :: r => uptoBulkEntry x + uptoBulkEntries r
def uptoBulkEntry {H : Type} : Lit × DataW H → Nat
  | (.string bytes, d) => bytes.length + uptoBulk d + 1
  | (_, d) => uptoBulk d + 1
 end
def uptoSmall : (H : Type) → List (DataW H) → Bool := fun _ ds => decide (uptoBulkAll ds ≤ 1048576)
def OpenSpec.upto (s : _root_.Go.ChangeSpec) : _root_.Go.OpenSpec := { _root_.Go.OpenSpec.ofChange s with cond := some uptoSmall }

/-- 'laws.FnExactRingsThatChange', WHERE WHAT IT READS IS OF BULK AT MOST 1048576: true; the input reads as it did. -/
def fnExactRingsThatChangeUptoRow : OpenClaim := { program := "ytdgmlgdijdehjaa", sum := "99675b979139594d046e989fdb9cd9f62a96fa62755eb3cf16eb79de79948d35", func := "loop.example/g01321/laws.FnExactRingsThatChange", spec := "fnExactRingsThatChange", unfollowed := true, recurses := true, apart := false, narrowed := true }
def FnExactRingsThatChangeUptoSaid : Prop := fnExactRingsThatChangeUptoRow.holds Try.pinned (OpenSpec.upto fnExactRingsThatChangeSpec)

/-- 'laws.FnExactChangeRing', WHERE WHAT IT READS IS OF BULK AT MOST 1048576: true; the input reads as it did. -/
def fnExactChangeRingUptoRow : OpenClaim := { program := "ytdgmlgdijdehjaa", sum := "99675b979139594d046e989fdb9cd9f62a96fa62755eb3cf16eb79de79948d35", func := "loop.example/g01321/laws.FnExactChangeRing", spec := "fnExactChangeRing", unfollowed := true, recurses := true, apart := false, narrowed := true }
def FnExactChangeRingUptoSaid : Prop := fnExactChangeRingUptoRow.holds Try.pinned (OpenSpec.upto fnExactChangeRingSpec)

/-- 'laws.FnExactWayOfRings', WHERE WHAT IT READS IS OF BULK AT MOST 1048576: true; the input reads as it did. -/
def fnExactWayOfRingsUptoRow : OpenClaim := { program := "ytdgmlgdijdehjaa", sum := "99675b979139594d046e989fdb9cd9f62a96fa62755eb3cf16eb79de79948d35", func := "loop.example/g01321/laws.FnExactWayOfRings", spec := "fnExactWayOfRings", unfollowed := true, recurses := true, apart := false, narrowed := true }
def FnExactWayOfRingsUptoSaid : Prop := fnExactWayOfRingsUptoRow.holds Try.pinned (OpenSpec.upto fnExactWayOfRingsSpec)

/-- 'laws.FnExactOppositeRings', WHERE WHAT IT READS IS OF BULK AT MOST 1048576: true; the input reads as it did. -/
def fnExactOppositeRingsUptoRow : OpenClaim := { program := "ytdgmlgdijdehjaa", sum := "99675b979139594d046e989fdb9cd9f62a96fa62755eb3cf16eb79de79948d35", func := "loop.example/g01321/laws.FnExactOppositeRings", spec := "fnExactOppositeRings", apart := false, narrowed := true }
def FnExactOppositeRingsUptoSaid : Prop := fnExactOppositeRingsUptoRow.holds Try.pinned (OpenSpec.upto fnExactOppositeRingsSpec)

end Rows
end Go.Proofs.Ytdgmlgdijdehjaa
