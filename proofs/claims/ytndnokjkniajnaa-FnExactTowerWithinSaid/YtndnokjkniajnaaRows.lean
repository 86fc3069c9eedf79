/-
  No cell of these rows narrows 'for every input' (looked for: loops, veiled, ifaces, maps, wideKeys, modest, calm, conditions, laid).
  DERIVED. THE GIVEN ROWS OF THIS SEAT. 6 by the template 'for every input the law returns true; each argument reads behind the call as it read before'; 0 by the template 'total and deterministic' (their statements: YtndnokjkniajnaaTotals.lean).
  GIVEN WITH THE SEED: the statements are not yours to turn. If you find one false, say at which input.
  Laid BY PROGRAM, IN A SANDBOX (cutbox-rows.mjs): the forced cells as the released guide's own fill.sh prints them over the translation ebee2415ff42068c… (all of the seat's roots in one cut). By AI agents, Wed Nov 11 2026. No macro, syntax, notation, axiom, sorry.
-/
import Derived.Test.YtndnokjkniajnaaChecked
import GoSem.Claim
import GoSem.ClaimJoined
import GoSem.ClaimMapViews
import Derived.JoinedTies
import Derived.KernelRfl
namespace Go.Proofs.Ytndnokjkniajnaa
/- THE CELL 'sum', in the pinned program and in every row, IS THE sha256 OF THE DUMP (.gsa) THAT YtndnokjkniajnaaProg.lean LOADS. Nothing in Lean hashes anything: it is a label: what it is worth is what the hold of that sum in a sandbox is worth. -/
noncomputable def Try.pinned : Pinned := { name := "ytndnokjkniajnaa", sum := "ebee2415ff42068ce5224b269cb3547db4f61f729f4389c0f6aceff56417b4b8", checked := Try.checked }
namespace Rows
def none {H : Type} : Left H := { results := [], args := [] }

/-- 'laws.FnExactPresumedNumber': WHATEVER THE INPUT: true; the input reads as it did. -/
def fnExactPresumedNumberSpec : ChangeSpec := { name := "fnExactPresumedNumber", fn := fun _ => fun
  | [d1, d2] => { results := [.lit (.bool true)], args := [d1, d2] }
  | _ => none }
def fnExactPresumedNumberRow : OpenClaim := { program := "ytndnokjkniajnaa", sum := "ebee2415ff42068ce5224b269cb3547db4f61f729f4389c0f6aceff56417b4b8", func := "loop.example/g01321/laws.FnExactPresumedNumber", spec := "fnExactPresumedNumber", unfollowed := true, recurses := true, apart := false }
def FnExactPresumedNumberSaid : Prop := fnExactPresumedNumberRow.holds Try.pinned (OpenSpec.ofChange fnExactPresumedNumberSpec)

/-- ITS FALSE NEIGHBOUR: 'it returns false'. Refute it at one input. -/
def fnExactPresumedNumberWrong : ChangeSpec := { name := "fnExactPresumedNumber", fn := fun _ => fun
  | [d1, d2] => { results := [.lit (.bool false)], args := [d1, d2] }
  | _ => none }
def FnExactPresumedNumberWrongFalsely : Prop := fnExactPresumedNumberRow.holds Try.pinned (OpenSpec.ofChange fnExactPresumedNumberWrong)

/-- 'laws.FnExactPresumedSplits': WHATEVER THE INPUT: true; the input reads as it did. -/
def fnExactPresumedSplitsSpec : ChangeSpec := { name := "fnExactPresumedSplits", fn := fun _ => fun
  | [d1, d2] => { results := [.lit (.bool true)], args := [d1, d2] }
  | _ => none }
def fnExactPresumedSplitsRow : OpenClaim := { program := "ytndnokjkniajnaa", sum := "ebee2415ff42068ce5224b269cb3547db4f61f729f4389c0f6aceff56417b4b8", func := "loop.example/g01321/laws.FnExactPresumedSplits", spec := "fnExactPresumedSplits", unfollowed := true, recurses := true, apart := false }
def FnExactPresumedSplitsSaid : Prop := fnExactPresumedSplitsRow.holds Try.pinned (OpenSpec.ofChange fnExactPresumedSplitsSpec)

/-- ITS FALSE NEIGHBOUR: 'it returns false'. Refute it at one input. -/
def fnExactPresumedSplitsWrong : ChangeSpec := { name := "fnExactPresumedSplits", fn := fun _ => fun
  | [d1, d2] => { results := [.lit (.bool false)], args := [d1, d2] }
  | _ => none }
def FnExactPresumedSplitsWrongFalsely : Prop := fnExactPresumedSplitsRow.holds Try.pinned (OpenSpec.ofChange fnExactPresumedSplitsWrong)

/-- 'laws.FnExactPresumedParts': WHATEVER THE INPUT: true; the input reads as it did. -/
def fnExactPresumedPartsSpec : ChangeSpec := { name := "fnExactPresumedParts", fn := fun _ => fun
  | [d1, d2] => { results := [.lit (.bool true)], args := [d1, d2] }
  | _ => none }
def fnExactPresumedPartsRow : OpenClaim := { program := "ytndnokjkniajnaa", sum := "ebee2415ff42068ce5224b269cb3547db4f61f729f4389c0f6aceff56417b4b8", func := "loop.example/g01321/laws.FnExactPresumedParts", spec := "fnExactPresumedParts", unfollowed := true, recurses := true, apart := false }
def FnExactPresumedPartsSaid : Prop := fnExactPresumedPartsRow.holds Try.pinned (OpenSpec.ofChange fnExactPresumedPartsSpec)

/-- ITS FALSE NEIGHBOUR: 'it returns false'. Refute it at one input. -/
def fnExactPresumedPartsWrong : ChangeSpec := { name := "fnExactPresumedParts", fn := fun _ => fun
  | [d1, d2] => { results := [.lit (.bool false)], args := [d1, d2] }
  | _ => none }
def FnExactPresumedPartsWrongFalsely : Prop := fnExactPresumedPartsRow.holds Try.pinned (OpenSpec.ofChange fnExactPresumedPartsWrong)

/-- 'laws.FnExactPresumedSteps': WHATEVER THE INPUT: true; the input reads as it did. -/
def fnExactPresumedStepsSpec : ChangeSpec := { name := "fnExactPresumedSteps", fn := fun _ => fun
  | [d1, d2] => { results := [.lit (.bool true)], args := [d1, d2] }
  | _ => none }
def fnExactPresumedStepsRow : OpenClaim := { program := "ytndnokjkniajnaa", sum := "ebee2415ff42068ce5224b269cb3547db4f61f729f4389c0f6aceff56417b4b8", func := "loop.example/g01321/laws.FnExactPresumedSteps", spec := "fnExactPresumedSteps", unfollowed := true, recurses := true, apart := false }
def FnExactPresumedStepsSaid : Prop := fnExactPresumedStepsRow.holds Try.pinned (OpenSpec.ofChange fnExactPresumedStepsSpec)

/-- ITS FALSE NEIGHBOUR: 'it returns false'. Refute it at one input. -/
def fnExactPresumedStepsWrong : ChangeSpec := { name := "fnExactPresumedSteps", fn := fun _ => fun
  | [d1, d2] => { results := [.lit (.bool false)], args := [d1, d2] }
  | _ => none }
def FnExactPresumedStepsWrongFalsely : Prop := fnExactPresumedStepsRow.holds Try.pinned (OpenSpec.ofChange fnExactPresumedStepsWrong)

/-- 'laws.FnExactFormulaNumber': WHATEVER THE INPUT: true; the input reads as it did. -/
def fnExactFormulaNumberSpec : ChangeSpec := { name := "fnExactFormulaNumber", fn := fun _ => fun
  | [d1, d2] => { results := [.lit (.bool true)], args := [d1, d2] }
  | _ => none }
def fnExactFormulaNumberRow : OpenClaim := { program := "ytndnokjkniajnaa", sum := "ebee2415ff42068ce5224b269cb3547db4f61f729f4389c0f6aceff56417b4b8", func := "loop.example/g01321/laws.FnExactFormulaNumber", spec := "fnExactFormulaNumber", apart := false }
def FnExactFormulaNumberSaid : Prop := fnExactFormulaNumberRow.holds Try.pinned (OpenSpec.ofChange fnExactFormulaNumberSpec)

/-- ITS FALSE NEIGHBOUR: 'it returns false'. Refute it at one input. -/
def fnExactFormulaNumberWrong : ChangeSpec := { name := "fnExactFormulaNumber", fn := fun _ => fun
  | [d1, d2] => { results := [.lit (.bool false)], args := [d1, d2] }
  | _ => none }
def FnExactFormulaNumberWrongFalsely : Prop := fnExactFormulaNumberRow.holds Try.pinned (OpenSpec.ofChange fnExactFormulaNumberWrong)

/-- 'laws.FnExactTowerWithin': WHATEVER THE INPUT: true; the input reads as it did. -/
def fnExactTowerWithinSpec : ChangeSpec := { name := "fnExactTowerWithin", fn := fun _ => fun
  | [d1, d2] => { results := [.lit (.bool true)], args := [d1, d2] }
  | _ => none }
def fnExactTowerWithinRow : OpenClaim := { program := "ytndnokjkniajnaa", sum := "ebee2415ff42068ce5224b269cb3547db4f61f729f4389c0f6aceff56417b4b8", func := "loop.example/g01321/laws.FnExactTowerWithin", spec := "fnExactTowerWithin", unfollowed := true, recurses := true, apart := false }
def FnExactTowerWithinSaid : Prop := fnExactTowerWithinRow.holds Try.pinned (OpenSpec.ofChange fnExactTowerWithinSpec)

/-- ITS FALSE NEIGHBOUR: 'it returns false'. Refute it at one input. -/
def fnExactTowerWithinWrong : ChangeSpec := { name := "fnExactTowerWithin", fn := fun _ => fun
  | [d1, d2] => { results := [.lit (.bool false)], args := [d1, d2] }
  | _ => none }
def FnExactTowerWithinWrongFalsely : Prop := fnExactTowerWithinRow.holds Try.pinned (OpenSpec.ofChange fnExactTowerWithinWrong)

/- THE SECOND FORM. 'bulk': how many values and letters a reading holds, each counted each time it is reached (what is shared counts as often as it is met; a slice's spare places count too). A statement '..UptoSaid' is the law's where the arguments, and the package variables that the reading takes, are together of bulk at most 1048576: NARROWER than '..Said'. Prove '..Said' where nothing that the law and all that it calls make is longer than what came in: it says more and counts as full. Else prove '..UptoSaid'. A law counts once. -/
mutual
def uptoBulk {H : Type} : DataW H → Nat
  | .lit (.string bytes) => bytes.length + 1
  | .lit _ => 1
  | .nil => 1
  | .ptr d => uptoBulk d + 1
  | .slice elems spare => uptoBulkAll elems + uptoBulkAll spare + 1
  | .agg parts => uptoBulkAll parts + 1
  | .iface _ d => uptoBulk d + 1
  | .map entries => uptoBulkEntries entries + 1
  | .held _ => 1
def uptoBulkAll {H : Type} : List (DataW H) → Nat
  | [] => 0
  | d :: r => uptoBulk d + uptoBulkAll r
def uptoBulkEntries {H : Type} : List (Lit × DataW H) → Nat
  | [] => 0
  | x :: r => uptoBulkEntry x + uptoBulkEntries r
def uptoBulkEntry {H : Type} : Lit × DataW H → Nat
  | (.string bytes, d) => bytes.length + uptoBulk d + 1
  | (_, d) => uptoBulk d + 1
 end
def uptoSmall : (H : Type) → List (DataW H) → Bool := fun _ ds => decide (uptoBulkAll ds ≤ 1048576)
def OpenSpec.upto (s : _root_.Go.ChangeSpec) : _root_.Go.OpenSpec := { _root_.Go.OpenSpec.ofChange s with cond := some uptoSmall }

/-- 'laws.FnExactPresumedNumber', WHERE WHAT IT READS IS OF BULK AT MOST 1048576: true; the input reads as it did. -/
def fnExactPresumedNumberUptoRow : OpenClaim := { program := "ytndnokjkniajnaa", sum := "ebee2415ff42068ce5224b269cb3547db4f61f729f4389c0f6aceff56417b4b8", func := "loop.example/g01321/laws.FnExactPresumedNumber", spec := "fnExactPresumedNumber", unfollowed := true, recurses := true, apart := false, narrowed := true }
def FnExactPresumedNumberUptoSaid : Prop := fnExactPresumedNumberUptoRow.holds Try.pinned (OpenSpec.upto fnExactPresumedNumberSpec)

/-- 'laws.FnExactPresumedSplits', WHERE WHAT IT READS IS OF BULK AT MOST 1048576: true; the input reads as it did. -/
def fnExactPresumedSplitsUptoRow : OpenClaim := { program := "ytndnokjkniajnaa", sum := "ebee2415ff42068ce5224b269cb3547db4f61f729f4389c0f6aceff56417b4b8", func := "loop.example/g01321/laws.FnExactPresumedSplits", spec := "fnExactPresumedSplits", unfollowed := true, recurses := true, apart := false, narrowed := true }
def FnExactPresumedSplitsUptoSaid : Prop := fnExactPresumedSplitsUptoRow.holds Try.pinned (OpenSpec.upto fnExactPresumedSplitsSpec)

/-- 'laws.FnExactPresumedParts', WHERE WHAT IT READS IS OF BULK AT MOST 1048576: true; the input reads as it did. -/
def fnExactPresumedPartsUptoRow : OpenClaim := { program := "ytndnokjkniajnaa", sum := "ebee2415ff42068ce5224b269cb3547db4f61f729f4389c0f6aceff56417b4b8", func := "loop.example/g01321/laws.FnExactPresumedParts", spec := "fnExactPresumedParts", unfollowed := true, recurses := true, apart := false, narrowed := true }
def FnExactPresumedPartsUptoSaid : Prop := fnExactPresumedPartsUptoRow.holds Try.pinned (OpenSpec.upto fnExactPresumedPartsSpec)

/-- 'laws.FnExactPresumedSteps', WHERE WHAT IT READS IS OF BULK AT MOST 1048576: true; the input reads as it did. -/
def fnExactPresumedStepsUptoRow : OpenClaim := { program := "ytndnokjkniajnaa", sum := "ebee2415ff42068ce5224b269cb3547db4f61f729f4389c0f6aceff56417b4b8", func := "loop.example/g01321/laws.FnExactPresumedSteps", spec := "fnExactPresumedSteps", unfollowed := true, recurses := true, apart := false, narrowed := true }
def FnExactPresumedStepsUptoSaid : Prop := fnExactPresumedStepsUptoRow.holds Try.pinned (OpenSpec.upto fnExactPresumedStepsSpec)

/-- 'laws.FnExactFormulaNumber', WHERE WHAT IT READS IS OF BULK AT MOST 1048576: true; the input reads as it did. -/
def fnExactFormulaNumberUptoRow : OpenClaim := { program := "ytndnokjkniajnaa", sum := "ebee2415ff42068ce5224b269cb3547db4f61f729f4389c0f6aceff56417b4b8", func := "loop.example/g01321/laws.FnExactFormulaNumber", spec := "fnExactFormulaNumber", apart := false, narrowed := true }
def FnExactFormulaNumberUptoSaid : Prop := fnExactFormulaNumberUptoRow.holds Try.pinned (OpenSpec.upto fnExactFormulaNumberSpec)

/-- 'laws.FnExactTowerWithin', WHERE WHAT IT READS IS OF BULK AT MOST 1048576: true; the input reads as it did. -/
def fnExactTowerWithinUptoRow : OpenClaim := { program := "ytndnokjkniajnaa", sum := "ebee2415ff42068ce5224b269cb3547db4f61f729f4389c0f6aceff56417b4b8", func := "loop.example/g01321/laws.FnExactTowerWithin", spec := "fnExactTowerWithin", unfollowed := true, recurses := true, apart := false, narrowed := true }
def FnExactTowerWithinUptoSaid : Prop := fnExactTowerWithinUptoRow.holds Try.pinned (OpenSpec.upto fnExactTowerWithinSpec)

end Rows
end Go.Proofs.Ytndnokjkniajnaa
