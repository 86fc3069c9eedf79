/-
  No cell of these rows narrows 'for every input' (looked for: loops, veiled, ifaces, maps, wideKeys, modest, calm, conditions, laid).
  DERIVED. THE GIVEN ROWS OF THIS SEAT. 5 by the template 'for every input the law returns true; each argument reads behind the call as it read before'; 0 by the template 'total and deterministic' (their statements: YtnfjdggiaodhmaaTotals.lean).
  GIVEN WITH THE SEED: the statements are not yours to turn. If you find one false, say at which input.
  Laid BY PROGRAM, IN A SANDBOX (cutbox-rows.mjs): the forced cells as the released guide's own fill.sh prints them over the translation 6489d93b36703eed… (all of the seat's roots in one cut). By AI agents, Wed Nov 11 2026. No macro, syntax, notation, axiom, sorry.
-/
import Derived.Test.YtnfjdggiaodhmaaChecked
import GoSem.Claim
import GoSem.ClaimJoined
import GoSem.ClaimMapViews
import Derived.JoinedTies
import Derived.KernelRfl
namespace Go.Proofs.Ytnfjdggiaodhmaa
/- THE CELL 'sum', in the pinned program and in every row, IS THE sha256 OF THE DUMP (.gsa) THAT YtnfjdggiaodhmaaProg.lean LOADS. Nothing in Lean hashes anything: it is a label: what it is worth is what the hold of that sum in a sandbox is worth. -/
noncomputable def Try.pinned : Pinned := { name := "ytnfjdggiaodhmaa", sum := "6489d93b36703eeddefa56fadcfa32020706f1acd16de514fa5df705d1672691", checked := Try.checked }
namespace Rows
def none {H : Type} : Left H := { results := [], args := [] }

/-- 'laws.FnExactDetourNumber': WHATEVER THE INPUT: true; the input reads as it did. -/
def fnExactDetourNumberSpec : ChangeSpec := { name := "fnExactDetourNumber", fn := fun _ => fun
  | [d1, d2, d3, d4] => { results := [.lit (.bool true)], args := [d1, d2, d3, d4] }
  | _ => none }
def fnExactDetourNumberRow : OpenClaim := { program := "ytnfjdggiaodhmaa", sum := "6489d93b36703eeddefa56fadcfa32020706f1acd16de514fa5df705d1672691", func := "loop.example/g01321/laws.FnExactDetourNumber", spec := "fnExactDetourNumber", apart := false }
def FnExactDetourNumberSaid : Prop := fnExactDetourNumberRow.holds Try.pinned (OpenSpec.ofChange fnExactDetourNumberSpec)

/-- ITS FALSE NEIGHBOUR: 'it returns false'. Refute it at one input. -/
def fnExactDetourNumberWrong : ChangeSpec := { name := "fnExactDetourNumber", fn := fun _ => fun
  | [d1, d2, d3, d4] => { results := [.lit (.bool false)], args := [d1, d2, d3, d4] }
  | _ => none }
def FnExactDetourNumberWrongFalsely : Prop := fnExactDetourNumberRow.holds Try.pinned (OpenSpec.ofChange fnExactDetourNumberWrong)

/-- 'laws.FnExactWordDistance': WHATEVER THE INPUT: true; the input reads as it did. -/
def fnExactWordDistanceSpec : ChangeSpec := { name := "fnExactWordDistance", fn := fun _ => fun
  | [d1, d2, d3] => { results := [.lit (.bool true)], args := [d1, d2, d3] }
  | _ => none }
def fnExactWordDistanceRow : OpenClaim := { program := "ytnfjdggiaodhmaa", sum := "6489d93b36703eeddefa56fadcfa32020706f1acd16de514fa5df705d1672691", func := "loop.example/g01321/laws.FnExactWordDistance", spec := "fnExactWordDistance", apart := false }
def FnExactWordDistanceSaid : Prop := fnExactWordDistanceRow.holds Try.pinned (OpenSpec.ofChange fnExactWordDistanceSpec)

/-- ITS FALSE NEIGHBOUR: 'it returns false'. Refute it at one input. -/
def fnExactWordDistanceWrong : ChangeSpec := { name := "fnExactWordDistance", fn := fun _ => fun
  | [d1, d2, d3] => { results := [.lit (.bool false)], args := [d1, d2, d3] }
  | _ => none }
def FnExactWordDistanceWrongFalsely : Prop := fnExactWordDistanceRow.holds Try.pinned (OpenSpec.ofChange fnExactWordDistanceWrong)

/-- 'laws.FnExactCountWordWays': WHATEVER THE INPUT: true; the input reads as it did. -/
def fnExactCountWordWaysSpec : ChangeSpec := { name := "fnExactCountWordWays", fn := fun _ => fun
  | [d1, d2, d3] => { results := [.lit (.bool true)], args := [d1, d2, d3] }
  | _ => none }
def fnExactCountWordWaysRow : OpenClaim := { program := "ytnfjdggiaodhmaa", sum := "6489d93b36703eeddefa56fadcfa32020706f1acd16de514fa5df705d1672691", func := "loop.example/g01321/laws.FnExactCountWordWays", spec := "fnExactCountWordWays", apart := false }
def FnExactCountWordWaysSaid : Prop := fnExactCountWordWaysRow.holds Try.pinned (OpenSpec.ofChange fnExactCountWordWaysSpec)

/-- ITS FALSE NEIGHBOUR: 'it returns false'. Refute it at one input. -/
def fnExactCountWordWaysWrong : ChangeSpec := { name := "fnExactCountWordWays", fn := fun _ => fun
  | [d1, d2, d3] => { results := [.lit (.bool false)], args := [d1, d2, d3] }
  | _ => none }
def FnExactCountWordWaysWrongFalsely : Prop := fnExactCountWordWaysRow.holds Try.pinned (OpenSpec.ofChange fnExactCountWordWaysWrong)

/-- 'laws.FnExactWordOfState': WHATEVER THE INPUT: true; the input reads as it did. -/
def fnExactWordOfStateSpec : ChangeSpec := { name := "fnExactWordOfState", fn := fun _ => fun
  | [d] => { results := [.lit (.bool true)], args := [d] }
  | _ => none }
def fnExactWordOfStateRow : OpenClaim := { program := "ytnfjdggiaodhmaa", sum := "6489d93b36703eeddefa56fadcfa32020706f1acd16de514fa5df705d1672691", func := "loop.example/g01321/laws.FnExactWordOfState", spec := "fnExactWordOfState", apart := false }
def FnExactWordOfStateSaid : Prop := fnExactWordOfStateRow.holds Try.pinned (OpenSpec.ofChange fnExactWordOfStateSpec)

/-- ITS FALSE NEIGHBOUR: 'it returns false'. Refute it at one input. -/
def fnExactWordOfStateWrong : ChangeSpec := { name := "fnExactWordOfState", fn := fun _ => fun
  | [d] => { results := [.lit (.bool false)], args := [d] }
  | _ => none }
def FnExactWordOfStateWrongFalsely : Prop := fnExactWordOfStateRow.holds Try.pinned (OpenSpec.ofChange fnExactWordOfStateWrong)

/-- 'laws.FnExactStateOfWord': WHATEVER THE INPUT: true; the input reads as it did. -/
def fnExactStateOfWordSpec : ChangeSpec := { name := "fnExactStateOfWord", fn := fun _ => fun
  | [d] => { results := [.lit (.bool true)], args := [d] }
  | _ => none }
def fnExactStateOfWordRow : OpenClaim := { program := "ytnfjdggiaodhmaa", sum := "6489d93b36703eeddefa56fadcfa32020706f1acd16de514fa5df705d1672691", func := "loop.example/g01321/laws.FnExactStateOfWord", spec := "fnExactStateOfWord", apart := false }
def FnExactStateOfWordSaid : Prop := fnExactStateOfWordRow.holds Try.pinned (OpenSpec.ofChange fnExactStateOfWordSpec)

/-- ITS FALSE NEIGHBOUR: 'it returns false'. Refute it at one input. -/
def fnExactStateOfWordWrong : ChangeSpec := { name := "fnExactStateOfWord", fn := fun _ => fun
  | [d] => { results := [.lit (.bool false)], args := [d] }
  | _ => none }
def FnExactStateOfWordWrongFalsely : Prop := fnExactStateOfWordRow.holds Try.pinned (OpenSpec.ofChange fnExactStateOfWordWrong)

/- THE SECOND FORM. 'bulk': how many values and letters a reading holds, each counted each time it is reached (what is shared counts as often as it is met; a slice's spare places count too). A statement '..UptoSaid' is the law's where the arguments, and the package variables that the reading takes, are together of bulk at most 1048576: NARROWER than '..Said'. Prove '..Said' where nothing that the law and all that it calls make is longer than what came in: it says more and counts as full. Else prove '..UptoSaid'. A law counts once. -/
mutual
def uptoBulk {H : Type} : DataW H → Nat
  | .lit (.string bytes) => bytes.length + 1
  | .lit _ => 1
  | .nil => 1
  | .ptr d => uptoBulk d + 1
  | .slice elems spare => uptoBulkAll elems + uptoBulkAll spare + 1
  | .agg parts => uptoBulkAll parts + 1
  | .iface _ d => uptoBulk d + 1
  | .map entries => uptoBulkEntries entries + 1
  | .held _ => 1
def uptoBulkAll {H : Type} : List (DataW H) → Nat
  | [] => 0
  | d :: r => uptoBulk d + uptoBulkAll r
def uptoBulkEntries {H : Type} : List (Lit × DataW H) → Nat
  | [] => 0
  | x :: r => uptoBulkEntry x + uptoBulkEntries r
def uptoBulkEntry {H : Type} : Lit × DataW H → Nat
  | (.string bytes, d) => bytes.length + uptoBulk d + 1
  | (_, d) => uptoBulk d + 1
 end
def uptoSmall : (H : Type) → List (DataW H) → Bool := fun _ ds => decide (uptoBulkAll ds ≤ 1048576)
def OpenSpec.upto (s : _root_.Go.ChangeSpec) : _root_.Go.OpenSpec := { _root_.Go.OpenSpec.ofChange s with cond := some uptoSmall }

/-- 'laws.FnExactDetourNumber', WHERE WHAT IT READS IS OF BULK AT MOST 1048576: true; the input reads as it did. -/
def fnExactDetourNumberUptoRow : OpenClaim := { program := "ytnfjdggiaodhmaa", sum := "6489d93b36703eeddefa56fadcfa32020706f1acd16de514fa5df705d1672691", func := "loop.example/g01321/laws.FnExactDetourNumber", spec := "fnExactDetourNumber", apart := false, narrowed := true }
def FnExactDetourNumberUptoSaid : Prop := fnExactDetourNumberUptoRow.holds Try.pinned (OpenSpec.upto fnExactDetourNumberSpec)

/-- 'laws.FnExactWordDistance', WHERE WHAT IT READS IS OF BULK AT MOST 1048576: true; the input reads as it did. -/
def fnExactWordDistanceUptoRow : OpenClaim := { program := "ytnfjdggiaodhmaa", sum := "6489d93b36703eeddefa56fadcfa32020706f1acd16de514fa5df705d1672691", func := "loop.example/g01321/laws.FnExactWordDistance", spec := "fnExactWordDistance", apart := false, narrowed := true }
def FnExactWordDistanceUptoSaid : Prop := fnExactWordDistanceUptoRow.holds Try.pinned (OpenSpec.upto fnExactWordDistanceSpec)

/-- 'laws.FnExactCountWordWays', WHERE WHAT IT READS IS OF BULK AT MOST 1048576: true; the input reads as it did. -/
def fnExactCountWordWaysUptoRow : OpenClaim := { program := "ytnfjdggiaodhmaa", sum := "6489d93b36703eeddefa56fadcfa32020706f1acd16de514fa5df705d1672691", func := "loop.example/g01321/laws.FnExactCountWordWays", spec := "fnExactCountWordWays", apart := false, narrowed := true }
def FnExactCountWordWaysUptoSaid : Prop := fnExactCountWordWaysUptoRow.holds Try.pinned (OpenSpec.upto fnExactCountWordWaysSpec)

/-- 'laws.FnExactWordOfState', WHERE WHAT IT READS IS OF BULK AT MOST 1048576: true; the input reads as it did. -/
def fnExactWordOfStateUptoRow : OpenClaim := { program := "ytnfjdggiaodhmaa", sum := "6489d93b36703eeddefa56fadcfa32020706f1acd16de514fa5df705d1672691", func := "loop.example/g01321/laws.FnExactWordOfState", spec := "fnExactWordOfState", apart := false, narrowed := true }
def FnExactWordOfStateUptoSaid : Prop := fnExactWordOfStateUptoRow.holds Try.pinned (OpenSpec.upto fnExactWordOfStateSpec)

/-- 'laws.FnExactStateOfWord', WHERE WHAT IT READS IS OF BULK AT MOST 1048576: true; the input reads as it did. -/
def fnExactStateOfWordUptoRow : OpenClaim := { program := "ytnfjdggiaodhmaa", sum := "6489d93b36703eeddefa56fadcfa32020706f1acd16de514fa5df705d1672691", func := "loop.example/g01321/laws.FnExactStateOfWord", spec := "fnExactStateOfWord", apart := false, narrowed := true }
def FnExactStateOfWordUptoSaid : Prop := fnExactStateOfWordUptoRow.holds Try.pinned (OpenSpec.upto fnExactStateOfWordSpec)

end Rows
end Go.Proofs.Ytnfjdggiaodhmaa
