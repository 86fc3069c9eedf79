/-
  No cell of these rows narrows 'for every input' (looked for: loops, veiled, ifaces, maps, wideKeys, modest, calm, conditions, laid).
  DERIVED. THE GIVEN ROWS OF THIS SEAT. 6 by the template 'for every input the law returns true; each argument reads behind the call as it read before'; 0 by the template 'total and deterministic' (their statements: YtekakcpjfjmejaaTotals.lean).
  GIVEN WITH THE SEED: the statements are not yours to turn. If you find one false, say at which input.
  Laid BY PROGRAM, IN A SANDBOX (cutbox-rows.mjs): the forced cells as the released guide's own fill.sh prints them over the translation 5517846d0c2d0a46… (all of the seat's roots in one cut). By AI agents, Wed Nov 11 2026. No macro, syntax, notation, axiom, sorry.
-/
import Derived.Test.YtekakcpjfjmejaaChecked
import GoSem.Claim
import GoSem.ClaimJoined
import GoSem.ClaimMapViews
import Derived.JoinedTies
import Derived.KernelRfl
namespace Go.Proofs.Ytekakcpjfjmejaa
/- THE CELL 'sum', in the pinned program and in every row, IS THE sha256 OF THE DUMP (.gsa) THAT YtekakcpjfjmejaaProg.lean LOADS. Nothing in Lean hashes anything: it is a label: what it is worth is what the hold of that sum in a sandbox is worth. -/
noncomputable def Try.pinned : Pinned := { name := "ytekakcpjfjmejaa", sum := "5517846d0c2d0a468f9fb046611cc84d5f0692df318fa5f10d375f9bc978501d", checked := Try.checked }
namespace Rows
def none {H : Type} : Left H := { results := [], args := [] }

/-- 'laws.FnExactIsRules': WHATEVER THE INPUT: true; the input reads as it did. -/
def fnExactIsRulesSpec : ChangeSpec := { name := "fnExactIsRules", fn := fun _ => fun
  | [d] => { results := [.lit (.bool true)], args := [d] }
  | _ => none }
def fnExactIsRulesRow : OpenClaim := { program := "ytekakcpjfjmejaa", sum := "5517846d0c2d0a468f9fb046611cc84d5f0692df318fa5f10d375f9bc978501d", func := "loop.example/g01321/laws.FnExactIsRules", spec := "fnExactIsRules", unfollowed := true, recurses := true, apart := false }
def FnExactIsRulesSaid : Prop := fnExactIsRulesRow.holds Try.pinned (OpenSpec.ofChange fnExactIsRulesSpec)

/-- ITS FALSE NEIGHBOUR: 'it returns false'. Refute it at one input. -/
def fnExactIsRulesWrong : ChangeSpec := { name := "fnExactIsRules", fn := fun _ => fun
  | [d] => { results := [.lit (.bool false)], args := [d] }
  | _ => none }
def FnExactIsRulesWrongFalsely : Prop := fnExactIsRulesRow.holds Try.pinned (OpenSpec.ofChange fnExactIsRulesWrong)

/-- 'laws.FnExactNamedRules': WHATEVER THE INPUT: true; the input reads as it did. -/
def fnExactNamedRulesSpec : ChangeSpec := { name := "fnExactNamedRules", fn := fun _ => fun
  | [d] => { results := [.lit (.bool true)], args := [d] }
  | _ => none }
def fnExactNamedRulesRow : OpenClaim := { program := "ytekakcpjfjmejaa", sum := "5517846d0c2d0a468f9fb046611cc84d5f0692df318fa5f10d375f9bc978501d", func := "loop.example/g01321/laws.FnExactNamedRules", spec := "fnExactNamedRules", apart := false }
def FnExactNamedRulesSaid : Prop := fnExactNamedRulesRow.holds Try.pinned (OpenSpec.ofChange fnExactNamedRulesSpec)

/-- ITS FALSE NEIGHBOUR: 'it returns false'. Refute it at one input. -/
def fnExactNamedRulesWrong : ChangeSpec := { name := "fnExactNamedRules", fn := fun _ => fun
  | [d] => { results := [.lit (.bool false)], args := [d] }
  | _ => none }
def FnExactNamedRulesWrongFalsely : Prop := fnExactNamedRulesRow.holds Try.pinned (OpenSpec.ofChange fnExactNamedRulesWrong)

/-- 'laws.FnExactAreStrong': WHATEVER THE INPUT: true; the input reads as it did. -/
def fnExactAreStrongSpec : ChangeSpec := { name := "fnExactAreStrong", fn := fun _ => fun
  | [d] => { results := [.lit (.bool true)], args := [d] }
  | _ => none }
def fnExactAreStrongRow : OpenClaim := { program := "ytekakcpjfjmejaa", sum := "5517846d0c2d0a468f9fb046611cc84d5f0692df318fa5f10d375f9bc978501d", func := "loop.example/g01321/laws.FnExactAreStrong", spec := "fnExactAreStrong", unfollowed := true, recurses := true, apart := false }
def FnExactAreStrongSaid : Prop := fnExactAreStrongRow.holds Try.pinned (OpenSpec.ofChange fnExactAreStrongSpec)

/-- ITS FALSE NEIGHBOUR: 'it returns false'. Refute it at one input. -/
def fnExactAreStrongWrong : ChangeSpec := { name := "fnExactAreStrong", fn := fun _ => fun
  | [d] => { results := [.lit (.bool false)], args := [d] }
  | _ => none }
def FnExactAreStrongWrongFalsely : Prop := fnExactAreStrongRow.holds Try.pinned (OpenSpec.ofChange fnExactAreStrongWrong)

/-- 'laws.FnExactNumberByRules': WHATEVER THE INPUT: true; the input reads as it did. -/
def fnExactNumberByRulesSpec : ChangeSpec := { name := "fnExactNumberByRules", fn := fun _ => fun
  | [d1, d2, d3, d4] => { results := [.lit (.bool true)], args := [d1, d2, d3, d4] }
  | _ => none }
def fnExactNumberByRulesRow : OpenClaim := { program := "ytekakcpjfjmejaa", sum := "5517846d0c2d0a468f9fb046611cc84d5f0692df318fa5f10d375f9bc978501d", func := "loop.example/g01321/laws.FnExactNumberByRules", spec := "fnExactNumberByRules", unfollowed := true, recurses := true, apart := false }
def FnExactNumberByRulesSaid : Prop := fnExactNumberByRulesRow.holds Try.pinned (OpenSpec.ofChange fnExactNumberByRulesSpec)

/-- ITS FALSE NEIGHBOUR: 'it returns false'. Refute it at one input. -/
def fnExactNumberByRulesWrong : ChangeSpec := { name := "fnExactNumberByRules", fn := fun _ => fun
  | [d1, d2, d3, d4] => { results := [.lit (.bool false)], args := [d1, d2, d3, d4] }
  | _ => none }
def FnExactNumberByRulesWrongFalsely : Prop := fnExactNumberByRulesRow.holds Try.pinned (OpenSpec.ofChange fnExactNumberByRulesWrong)

/-- 'laws.FnExactTurnRules': WHATEVER THE INPUT: true; the input reads as it did. -/
def fnExactTurnRulesSpec : ChangeSpec := { name := "fnExactTurnRules", fn := fun _ => fun
  | [d] => { results := [.lit (.bool true)], args := [d] }
  | _ => none }
def fnExactTurnRulesRow : OpenClaim := { program := "ytekakcpjfjmejaa", sum := "5517846d0c2d0a468f9fb046611cc84d5f0692df318fa5f10d375f9bc978501d", func := "loop.example/g01321/laws.FnExactTurnRules", spec := "fnExactTurnRules", unfollowed := true, recurses := true, apart := false }
def FnExactTurnRulesSaid : Prop := fnExactTurnRulesRow.holds Try.pinned (OpenSpec.ofChange fnExactTurnRulesSpec)

/-- ITS FALSE NEIGHBOUR: 'it returns false'. Refute it at one input. -/
def fnExactTurnRulesWrong : ChangeSpec := { name := "fnExactTurnRules", fn := fun _ => fun
  | [d] => { results := [.lit (.bool false)], args := [d] }
  | _ => none }
def FnExactTurnRulesWrongFalsely : Prop := fnExactTurnRulesRow.holds Try.pinned (OpenSpec.ofChange fnExactTurnRulesWrong)

/-- 'laws.FnExactRenameRules': WHATEVER THE INPUT: true; the input reads as it did. -/
def fnExactRenameRulesSpec : ChangeSpec := { name := "fnExactRenameRules", fn := fun _ => fun
  | [d1, d2] => { results := [.lit (.bool true)], args := [d1, d2] }
  | _ => none }
def fnExactRenameRulesRow : OpenClaim := { program := "ytekakcpjfjmejaa", sum := "5517846d0c2d0a468f9fb046611cc84d5f0692df318fa5f10d375f9bc978501d", func := "loop.example/g01321/laws.FnExactRenameRules", spec := "fnExactRenameRules", unfollowed := true, recurses := true, apart := false }
def FnExactRenameRulesSaid : Prop := fnExactRenameRulesRow.holds Try.pinned (OpenSpec.ofChange fnExactRenameRulesSpec)

/-- ITS FALSE NEIGHBOUR: 'it returns false'. Refute it at one input. -/
def fnExactRenameRulesWrong : ChangeSpec := { name := "fnExactRenameRules", fn := fun _ => fun
  | [d1, d2] => { results := [.lit (.bool false)], args := [d1, d2] }
  | _ => none }
def FnExactRenameRulesWrongFalsely : Prop := fnExactRenameRulesRow.holds Try.pinned (OpenSpec.ofChange fnExactRenameRulesWrong)

/- THE SECOND FORM. 'bulk': how many values and letters a reading holds, each counted each time it is reached (what is shared counts as often as it is met; a slice's spare places count too). A statement '..UptoSaid' is the law's where the arguments, and the package variables that the reading takes, are together of bulk at most 1048576: NARROWER than '..Said'. Prove '..Said' where nothing that the law and all that it calls make is longer than what came in: it says more and counts as full. Else prove '..UptoSaid'. A law counts once. -/
mutual
def uptoBulk {H : Type} : DataW H → Nat
  | .lit (.string bytes) => bytes.length + 1
  | .lit _ => 1
  | .nil => 1
  | .ptr d => uptoBulk d + 1
  | .slice elems spare => uptoBulkAll elems + uptoBulkAll spare + 1
  | .agg parts => uptoBulkAll parts + 1
  | .iface _ d => uptoBulk d + 1
  | .map entries => uptoBulkEntries entries + 1
  | .held _ => 1
def uptoBulkAll {H : Type} : List (DataW H) → Nat
  | [] => 0
  | d :: r => uptoBulk d + uptoBulkAll r
def uptoBulkEntries {H : Type} : List (Lit × DataW H) → Nat
  | [] => 0
  | x :: r => uptoBulkEntry x + uptoBulkEntries r
def uptoBulkEntry {H : Type} : Lit × DataW H → Nat
  | (.string bytes, d) => bytes.length + uptoBulk d + 1
  | (_, d) => uptoBulk d + 1
 end
def uptoSmall : (H : Type) → List (DataW H) → Bool := fun _ ds => decide (uptoBulkAll ds ≤ 1048576)
def OpenSpec.upto (s : _root_.Go.ChangeSpec) : _root_.Go.OpenSpec := { _root_.Go.OpenSpec.ofChange s with cond := some uptoSmall }

/-- 'laws.FnExactIsRules', WHERE WHAT IT READS IS OF BULK AT MOST 1048576: true; the input reads as it did. -/
def fnExactIsRulesUptoRow : OpenClaim := { program := "ytekakcpjfjmejaa", sum := "5517846d0c2d0a468f9fb046611cc84d5f0692df318fa5f10d375f9bc978501d", func := "loop.example/g01321/laws.FnExactIsRules", spec := "fnExactIsRules", unfollowed := true, recurses := true, apart := false, narrowed := true }
def FnExactIsRulesUptoSaid : Prop := fnExactIsRulesUptoRow.holds Try.pinned (OpenSpec.upto fnExactIsRulesSpec)

/-- 'laws.FnExactNamedRules', WHERE WHAT IT READS IS OF BULK AT MOST 1048576: true; the input reads as it did. -/
def fnExactNamedRulesUptoRow : OpenClaim := { program := "ytekakcpjfjmejaa", sum := "5517846d0c2d0a468f9fb046611cc84d5f0692df318fa5f10d375f9bc978501d", func := "loop.example/g01321/laws.FnExactNamedRules", spec := "fnExactNamedRules", apart := false, narrowed := true }
def FnExactNamedRulesUptoSaid : Prop := fnExactNamedRulesUptoRow.holds Try.pinned (OpenSpec.upto fnExactNamedRulesSpec)

/-- 'laws.FnExactAreStrong', WHERE WHAT IT READS IS OF BULK AT MOST 1048576: true; the input reads as it did. -/
def fnExactAreStrongUptoRow : OpenClaim := { program := "ytekakcpjfjmejaa", sum := "5517846d0c2d0a468f9fb046611cc84d5f0692df318fa5f10d375f9bc978501d", func := "loop.example/g01321/laws.FnExactAreStrong", spec := "fnExactAreStrong", unfollowed := true, recurses := true, apart := false, narrowed := true }
def FnExactAreStrongUptoSaid : Prop := fnExactAreStrongUptoRow.holds Try.pinned (OpenSpec.upto fnExactAreStrongSpec)

/-- 'laws.FnExactNumberByRules', WHERE WHAT IT READS IS OF BULK AT MOST 1048576: true; the input reads as it did. -/
def fnExactNumberByRulesUptoRow : OpenClaim := { program := "ytekakcpjfjmejaa", sum := "5517846d0c2d0a468f9fb046611cc84d5f0692df318fa5f10d375f9bc978501d", func := "loop.example/g01321/laws.FnExactNumberByRules", spec := "fnExactNumberByRules", unfollowed := true, recurses := true, apart := false, narrowed := true }
def FnExactNumberByRulesUptoSaid : Prop := fnExactNumberByRulesUptoRow.holds Try.pinned (OpenSpec.upto fnExactNumberByRulesSpec)

/-- 'laws.FnExactTurnRules', WHERE WHAT IT READS IS OF BULK AT MOST 1048576: true; the input reads as it did. -/
def fnExactTurnRulesUptoRow : OpenClaim := { program := "ytekakcpjfjmejaa", sum := "5517846d0c2d0a468f9fb046611cc84d5f0692df318fa5f10d375f9bc978501d", func := "loop.example/g01321/laws.FnExactTurnRules", spec := "fnExactTurnRules", unfollowed := true, recurses := true, apart := false, narrowed := true }
def FnExactTurnRulesUptoSaid : Prop := fnExactTurnRulesUptoRow.holds Try.pinned (OpenSpec.upto fnExactTurnRulesSpec)

/-- 'laws.FnExactRenameRules', WHERE WHAT IT READS IS OF BULK AT MOST 1048576: true; the input reads as it did. -/
def fnExactRenameRulesUptoRow : OpenClaim := { program := "ytekakcpjfjmejaa", sum := "5517846d0c2d0a468f9fb046611cc84d5f0692df318fa5f10d375f9bc978501d", func := "loop.example/g01321/laws.FnExactRenameRules", spec := "fnExactRenameRules", unfollowed := true, recurses := true, apart := false, narrowed := true }
def FnExactRenameRulesUptoSaid : Prop := fnExactRenameRulesUptoRow.holds Try.pinned (OpenSpec.upto fnExactRenameRulesSpec)

end Rows
end Go.Proofs.Ytekakcpjfjmejaa
