/-
  No cell of these rows narrows 'for every input' (looked for: loops, veiled, ifaces, maps, wideKeys, modest, calm, conditions, laid).
  DERIVED. THE GIVEN ROWS OF THIS SEAT. 6 by the template 'for every input the law returns true; each argument reads behind the call as it read before'; 0 by the template 'total and deterministic' (their statements: YtdccdnjcmpkkgaaTotals.lean).
  GIVEN WITH THE SEED: the statements are not yours to turn. If you find one false, say at which input.
  Laid BY PROGRAM, IN A SANDBOX (cutbox-rows.mjs): the forced cells as the released guide's own fill.sh prints them over the translation f6bf7dc1bf8fbe1e… (all of the seat's roots in one cut). By AI agents, Wed Nov 11 2026. No macro, syntax, notation, axiom, sorry.
-/
import Derived.Test.YtdccdnjcmpkkgaaChecked
import GoSem.Claim
import GoSem.ClaimJoined
import GoSem.ClaimMapViews
import Derived.JoinedTies
import Derived.KernelRfl
namespace Go.Proofs.Ytdccdnjcmpkkgaa
/- THE CELL 'sum', in the pinned program and in every row, IS THE sha256 OF THE DUMP (.gsa) THAT YtdccdnjcmpkkgaaProg.lean LOADS. Nothing in Lean hashes anything: it is a label: what it is worth is what the hold of that sum in a sandbox is worth. -/
noncomputable def Try.pinned : Pinned := { name := "ytdccdnjcmpkkgaa", sum := "f6bf7dc1bf8fbe1e33f822df6ab011dccad3b39a6e8c54550a66a8bcc3b4f91a", checked := Try.checked }
namespace Rows
def none {H : Type} : Left H := { results := [], args := [] }

/-- 'laws.FnExactCountWordEdges': WHATEVER THE INPUT: true; the input reads as it did. -/
def fnExactCountWordEdgesSpec : ChangeSpec := { name := "fnExactCountWordEdges", fn := fun _ => fun
  | [d1, d2] => { results := [.lit (.bool true)], args := [d1, d2] }
  | _ => none }
def fnExactCountWordEdgesRow : OpenClaim := { program := "ytdccdnjcmpkkgaa", sum := "f6bf7dc1bf8fbe1e33f822df6ab011dccad3b39a6e8c54550a66a8bcc3b4f91a", func := "loop.example/g01321/laws.FnExactCountWordEdges", spec := "fnExactCountWordEdges", unfollowed := true, recurses := true, plainKeys := false, apart := false }
def FnExactCountWordEdgesSaid : Prop := fnExactCountWordEdgesRow.holds Try.pinned (OpenSpec.ofChange fnExactCountWordEdgesSpec)

/-- ITS FALSE NEIGHBOUR: 'it returns false'. Refute it at one input. -/
def fnExactCountWordEdgesWrong : ChangeSpec := { name := "fnExactCountWordEdges", fn := fun _ => fun
  | [d1, d2] => { results := [.lit (.bool false)], args := [d1, d2] }
  | _ => none }
def FnExactCountWordEdgesWrongFalsely : Prop := fnExactCountWordEdgesRow.holds Try.pinned (OpenSpec.ofChange fnExactCountWordEdgesWrong)

/-- 'laws.FnExactSumToExtreme': WHATEVER THE INPUT: true; the input reads as it did. -/
def fnExactSumToExtremeSpec : ChangeSpec := { name := "fnExactSumToExtreme", fn := fun _ => fun
  | [d1, d2] => { results := [.lit (.bool true)], args := [d1, d2] }
  | _ => none }
def fnExactSumToExtremeRow : OpenClaim := { program := "ytdccdnjcmpkkgaa", sum := "f6bf7dc1bf8fbe1e33f822df6ab011dccad3b39a6e8c54550a66a8bcc3b4f91a", func := "loop.example/g01321/laws.FnExactSumToExtreme", spec := "fnExactSumToExtreme", plainKeys := false, apart := false }
def FnExactSumToExtremeSaid : Prop := fnExactSumToExtremeRow.holds Try.pinned (OpenSpec.ofChange fnExactSumToExtremeSpec)

/-- ITS FALSE NEIGHBOUR: 'it returns false'. Refute it at one input. -/
def fnExactSumToExtremeWrong : ChangeSpec := { name := "fnExactSumToExtreme", fn := fun _ => fun
  | [d1, d2] => { results := [.lit (.bool false)], args := [d1, d2] }
  | _ => none }
def FnExactSumToExtremeWrongFalsely : Prop := fnExactSumToExtremeRow.holds Try.pinned (OpenSpec.ofChange fnExactSumToExtremeWrong)

/-- 'laws.FnExactIsSierpinskiWord': WHATEVER THE INPUT: true; the input reads as it did. -/
def fnExactIsSierpinskiWordSpec : ChangeSpec := { name := "fnExactIsSierpinskiWord", fn := fun _ => fun
  | [d1, d2] => { results := [.lit (.bool true)], args := [d1, d2] }
  | _ => none }
def fnExactIsSierpinskiWordRow : OpenClaim := { program := "ytdccdnjcmpkkgaa", sum := "f6bf7dc1bf8fbe1e33f822df6ab011dccad3b39a6e8c54550a66a8bcc3b4f91a", func := "loop.example/g01321/laws.FnExactIsSierpinskiWord", spec := "fnExactIsSierpinskiWord", plainKeys := false, apart := false }
def FnExactIsSierpinskiWordSaid : Prop := fnExactIsSierpinskiWordRow.holds Try.pinned (OpenSpec.ofChange fnExactIsSierpinskiWordSpec)

/-- ITS FALSE NEIGHBOUR: 'it returns false'. Refute it at one input. -/
def fnExactIsSierpinskiWordWrong : ChangeSpec := { name := "fnExactIsSierpinskiWord", fn := fun _ => fun
  | [d1, d2] => { results := [.lit (.bool false)], args := [d1, d2] }
  | _ => none }
def FnExactIsSierpinskiWordWrongFalsely : Prop := fnExactIsSierpinskiWordRow.holds Try.pinned (OpenSpec.ofChange fnExactIsSierpinskiWordWrong)

/-- 'laws.FnExactDistanceToExtreme': WHATEVER THE INPUT: true; the input reads as it did. -/
def fnExactDistanceToExtremeSpec : ChangeSpec := { name := "fnExactDistanceToExtreme", fn := fun _ => fun
  | [d1, d2, d3] => { results := [.lit (.bool true)], args := [d1, d2, d3] }
  | _ => none }
def fnExactDistanceToExtremeRow : OpenClaim := { program := "ytdccdnjcmpkkgaa", sum := "f6bf7dc1bf8fbe1e33f822df6ab011dccad3b39a6e8c54550a66a8bcc3b4f91a", func := "loop.example/g01321/laws.FnExactDistanceToExtreme", spec := "fnExactDistanceToExtreme", plainKeys := false, apart := false }
def FnExactDistanceToExtremeSaid : Prop := fnExactDistanceToExtremeRow.holds Try.pinned (OpenSpec.ofChange fnExactDistanceToExtremeSpec)

/-- ITS FALSE NEIGHBOUR: 'it returns false'. Refute it at one input. -/
def fnExactDistanceToExtremeWrong : ChangeSpec := { name := "fnExactDistanceToExtreme", fn := fun _ => fun
  | [d1, d2, d3] => { results := [.lit (.bool false)], args := [d1, d2, d3] }
  | _ => none }
def FnExactDistanceToExtremeWrongFalsely : Prop := fnExactDistanceToExtremeRow.holds Try.pinned (OpenSpec.ofChange fnExactDistanceToExtremeWrong)

/-- 'laws.FnExactRenameWord': WHATEVER THE INPUT: true; the input reads as it did. -/
def fnExactRenameWordSpec : ChangeSpec := { name := "fnExactRenameWord", fn := fun _ => fun
  | [d1, d2, d3] => { results := [.lit (.bool true)], args := [d1, d2, d3] }
  | _ => none }
def fnExactRenameWordRow : OpenClaim := { program := "ytdccdnjcmpkkgaa", sum := "f6bf7dc1bf8fbe1e33f822df6ab011dccad3b39a6e8c54550a66a8bcc3b4f91a", func := "loop.example/g01321/laws.FnExactRenameWord", spec := "fnExactRenameWord", plainKeys := false, apart := false }
def FnExactRenameWordSaid : Prop := fnExactRenameWordRow.holds Try.pinned (OpenSpec.ofChange fnExactRenameWordSpec)

/-- ITS FALSE NEIGHBOUR: 'it returns false'. Refute it at one input. -/
def fnExactRenameWordWrong : ChangeSpec := { name := "fnExactRenameWord", fn := fun _ => fun
  | [d1, d2, d3] => { results := [.lit (.bool false)], args := [d1, d2, d3] }
  | _ => none }
def FnExactRenameWordWrongFalsely : Prop := fnExactRenameWordRow.holds Try.pinned (OpenSpec.ofChange fnExactRenameWordWrong)

/-- 'laws.FnExactStraightNumber': WHATEVER THE INPUT: true; the input reads as it did. -/
def fnExactStraightNumberSpec : ChangeSpec := { name := "fnExactStraightNumber", fn := fun _ => fun
  | [d1, d2, d3] => { results := [.lit (.bool true)], args := [d1, d2, d3] }
  | _ => none }
def fnExactStraightNumberRow : OpenClaim := { program := "ytdccdnjcmpkkgaa", sum := "f6bf7dc1bf8fbe1e33f822df6ab011dccad3b39a6e8c54550a66a8bcc3b4f91a", func := "loop.example/g01321/laws.FnExactStraightNumber", spec := "fnExactStraightNumber", plainKeys := false, apart := false }
def FnExactStraightNumberSaid : Prop := fnExactStraightNumberRow.holds Try.pinned (OpenSpec.ofChange fnExactStraightNumberSpec)

/-- ITS FALSE NEIGHBOUR: 'it returns false'. Refute it at one input. -/
def fnExactStraightNumberWrong : ChangeSpec := { name := "fnExactStraightNumber", fn := fun _ => fun
  | [d1, d2, d3] => { results := [.lit (.bool false)], args := [d1, d2, d3] }
  | _ => none }
def FnExactStraightNumberWrongFalsely : Prop := fnExactStraightNumberRow.holds Try.pinned (OpenSpec.ofChange fnExactStraightNumberWrong)

/- THE SECOND FORM. 'bulk': how many values and letters a reading holds, each counted each time it is reached (what is shared counts as often as it is met; a slice's spare places count too). A statement '..UptoSaid' is the law's where the arguments, and the package variables that the reading takes, are together of bulk at most 1048576: NARROWER than '..Said'. Prove '..Said' where nothing that the law and all that it calls make is longer than what came in: it says more and counts as full. Else prove '..UptoSaid'. A law counts once. -/
mutual
def uptoBulk {H : Type} : DataW H → Nat
  | .lit (.string bytes) => bytes.length + 1
  | .lit _ => 1
  | .nil => 1
  | .ptr d => uptoBulk d + 1
  | .slice elems spare => uptoBulkAll elems + uptoBulkAll spare + 1
  | .agg parts => uptoBulkAll parts + 1
  | .iface _ d => uptoBulk d + 1
  | .map entries => uptoBulkEntries entries + 1
  | .held _ => 1
def uptoBulkAll {H : Type} : List (DataW H) → Nat
  | [] => 0
  | d :: r => uptoBulk d + uptoBulkAll r
def uptoBulkEntries {H : Type} : List (Lit × DataW H) → Nat
  | [] => 0
  | x :: r => uptoBulkEntry x + uptoBulkEntries r
def uptoBulkEntry {H : Type} : Lit × DataW H → Nat
  | (.string bytes, d) => bytes.length + uptoBulk d + 1
  | (_, d) => uptoBulk d + 1
 end
def uptoSmall : (H : Type) → List (DataW H) → Bool := fun _ ds => decide (uptoBulkAll ds ≤ 1048576)
def OpenSpec.upto (s : _root_.Go.ChangeSpec) : _root_.Go.OpenSpec := { _root_.Go.OpenSpec.ofChange s with cond := some uptoSmall }

/-- 'laws.FnExactCountWordEdges', WHERE WHAT IT READS IS OF BULK AT MOST 1048576: true; the input reads as it did. -/
def fnExactCountWordEdgesUptoRow : OpenClaim := { program := "ytdccdnjcmpkkgaa", sum := "f6bf7dc1bf8fbe1e33f822df6ab011dccad3b39a6e8c54550a66a8bcc3b4f91a", func := "loop.example/g01321/laws.FnExactCountWordEdges", spec := "fnExactCountWordEdges", unfollowed := true, recurses := true, plainKeys := false, apart := false, narrowed := true }
def FnExactCountWordEdgesUptoSaid : Prop := fnExactCountWordEdgesUptoRow.holds Try.pinned (OpenSpec.upto fnExactCountWordEdgesSpec)

/-- 'laws.FnExactSumToExtreme', WHERE WHAT IT READS IS OF BULK AT MOST 1048576: true; the input reads as it did. -/
def fnExactSumToExtremeUptoRow : OpenClaim := { program := "ytdccdnjcmpkkgaa", sum := "f6bf7dc1bf8fbe1e33f822df6ab011dccad3b39a6e8c54550a66a8bcc3b4f91a", func := "loop.example/g01321/laws.FnExactSumToExtreme", spec := "fnExactSumToExtreme", plainKeys := false, apart := false, narrowed := true }
def FnExactSumToExtremeUptoSaid : Prop := fnExactSumToExtremeUptoRow.holds Try.pinned (OpenSpec.upto fnExactSumToExtremeSpec)

/-- 'laws.FnExactIsSierpinskiWord', WHERE WHAT IT READS IS OF BULK AT MOST 1048576: true; the input reads as it did. -/
def fnExactIsSierpinskiWordUptoRow : OpenClaim := { program := "ytdccdnjcmpkkgaa", sum := "f6bf7dc1bf8fbe1e33f822df6ab011dccad3b39a6e8c54550a66a8bcc3b4f91a", func := "loop.example/g01321/laws.FnExactIsSierpinskiWord", spec := "fnExactIsSierpinskiWord", plainKeys := false, apart := false, narrowed := true }
def FnExactIsSierpinskiWordUptoSaid : Prop := fnExactIsSierpinskiWordUptoRow.holds Try.pinned (OpenSpec.upto fnExactIsSierpinskiWordSpec)

/-- 'laws.FnExactDistanceToExtreme', WHERE WHAT IT READS IS OF BULK AT MOST 1048576: true; the input reads as it did. -/
def fnExactDistanceToExtremeUptoRow : OpenClaim := { program := "ytdccdnjcmpkkgaa", sum := "f6bf7dc1bf8fbe1e33f822df6ab011dccad3b39a6e8c54550a66a8bcc3b4f91a", func := "loop.example/g01321/laws.FnExactDistanceToExtreme", spec := "fnExactDistanceToExtreme", plainKeys := false, apart := false, narrowed := true }
def FnExactDistanceToExtremeUptoSaid : Prop := fnExactDistanceToExtremeUptoRow.holds Try.pinned (OpenSpec.upto fnExactDistanceToExtremeSpec)

/-- 'laws.FnExactRenameWord', WHERE WHAT IT READS IS OF BULK AT MOST 1048576: true; the input reads as it did. -/
def fnExactRenameWordUptoRow : OpenClaim := { program := "ytdccdnjcmpkkgaa", sum := "f6bf7dc1bf8fbe1e33f822df6ab011dccad3b39a6e8c54550a66a8bcc3b4f91a", func := "loop.example/g01321/laws.FnExactRenameWord", spec := "fnExactRenameWord", plainKeys := false, apart := false, narrowed := true }
def FnExactRenameWordUptoSaid : Prop := fnExactRenameWordUptoRow.holds Try.pinned (OpenSpec.upto fnExactRenameWordSpec)

/-- 'laws.FnExactStraightNumber', WHERE WHAT IT READS IS OF BULK AT MOST 1048576: true; the input reads as it did. -/
def fnExactStraightNumberUptoRow : OpenClaim := { program := "ytdccdnjcmpkkgaa", sum := "f6bf7dc1bf8fbe1e33f822df6ab011dccad3b39a6e8c54550a66a8bcc3b4f91a", func := "loop.example/g01321/laws.FnExactStraightNumber", spec := "fnExactStraightNumber", plainKeys := false, apart := false, narrowed := true }
def FnExactStraightNumberUptoSaid : Prop := fnExactStraightNumberUptoRow.holds Try.pinned (OpenSpec.upto fnExactStraightNumberSpec)

end Rows
end Go.Proofs.Ytdccdnjcmpkkgaa
