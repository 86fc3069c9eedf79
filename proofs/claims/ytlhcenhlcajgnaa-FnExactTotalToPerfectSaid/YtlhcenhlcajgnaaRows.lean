/-
  No cell of these rows narrows 'for every input' (looked for: loops, veiled, ifaces, maps, wideKeys, modest, calm, conditions, laid).
  DERIVED. THE GIVEN ROWS OF THIS SEAT. 4 by the template 'for every input the law returns true; each argument reads behind the call as it read before'; 0 by the template 'total and deterministic' (their statements: YtlhcenhlcajgnaaTotals.lean).
  GIVEN WITH THE SEED: the statements are not yours to turn. If you find one false, say at which input.
  Laid BY PROGRAM, IN A SANDBOX (cutbox-rows.mjs): the forced cells as the released guide's own fill.sh prints them over the translation c574abf7fb81199b… (all of the seat's roots in one cut). By AI agents, Wed Nov 11 2026. No macro, syntax, notation, axiom, sorry.
-/
import Derived.Test.YtlhcenhlcajgnaaChecked
import GoSem.Claim
import GoSem.ClaimJoined
import GoSem.ClaimMapViews
import Derived.JoinedTies
import Derived.KernelRfl
namespace Go.Proofs.Ytlhcenhlcajgnaa
/- THE CELL 'sum', in the pinned program and in every row, IS THE sha256 OF THE DUMP (.gsa) THAT YtlhcenhlcajgnaaProg.lean LOADS. Nothing in Lean hashes anything: it is a label: what it is worth is what the hold of that sum in a sandbox is worth. -/
noncomputable def Try.pinned : Pinned := { name := "ytlhcenhlcajgnaa", sum := "c574abf7fb81199bbbda85099e74247420b3f1748864af24140d0f181e36dd69", checked := Try.checked }
namespace Rows
def none {H : Type} : Left H := { results := [], args := [] }

/-- 'laws.FnExactTotalToPerfect': WHATEVER THE INPUT: true; the input reads as it did. -/
def fnExactTotalToPerfectSpec : ChangeSpec := { name := "fnExactTotalToPerfect", fn := fun _ => fun
  | [d] => { results := [.lit (.bool true)], args := [d] }
  | _ => none }
def fnExactTotalToPerfectRow : OpenClaim := { program := "ytlhcenhlcajgnaa", sum := "c574abf7fb81199bbbda85099e74247420b3f1748864af24140d0f181e36dd69", func := "loop.example/g01321/laws.FnExactTotalToPerfect", spec := "fnExactTotalToPerfect", apart := false }
def FnExactTotalToPerfectSaid : Prop := fnExactTotalToPerfectRow.holds Try.pinned (OpenSpec.ofChange fnExactTotalToPerfectSpec)

/-- ITS FALSE NEIGHBOUR: 'it returns false'. Refute it at one input. -/
def fnExactTotalToPerfectWrong : ChangeSpec := { name := "fnExactTotalToPerfect", fn := fun _ => fun
  | [d] => { results := [.lit (.bool false)], args := [d] }
  | _ => none }
def FnExactTotalToPerfectWrongFalsely : Prop := fnExactTotalToPerfectRow.holds Try.pinned (OpenSpec.ofChange fnExactTotalToPerfectWrong)

/-- 'laws.FnExactDigitNumber': WHATEVER THE INPUT: true; the input reads as it did. -/
def fnExactDigitNumberSpec : ChangeSpec := { name := "fnExactDigitNumber", fn := fun _ => fun
  | [d] => { results := [.lit (.bool true)], args := [d] }
  | _ => none }
def fnExactDigitNumberRow : OpenClaim := { program := "ytlhcenhlcajgnaa", sum := "c574abf7fb81199bbbda85099e74247420b3f1748864af24140d0f181e36dd69", func := "loop.example/g01321/laws.FnExactDigitNumber", spec := "fnExactDigitNumber", apart := false }
def FnExactDigitNumberSaid : Prop := fnExactDigitNumberRow.holds Try.pinned (OpenSpec.ofChange fnExactDigitNumberSpec)

/-- ITS FALSE NEIGHBOUR: 'it returns false'. Refute it at one input. -/
def fnExactDigitNumberWrong : ChangeSpec := { name := "fnExactDigitNumber", fn := fun _ => fun
  | [d] => { results := [.lit (.bool false)], args := [d] }
  | _ => none }
def FnExactDigitNumberWrongFalsely : Prop := fnExactDigitNumberRow.holds Try.pinned (OpenSpec.ofChange fnExactDigitNumberWrong)

/-- 'laws.FnExactStatesAtDistance': WHATEVER THE INPUT: true; the input reads as it did. -/
def fnExactStatesAtDistanceSpec : ChangeSpec := { name := "fnExactStatesAtDistance", fn := fun _ => fun
  | [d1, d2] => { results := [.lit (.bool true)], args := [d1, d2] }
  | _ => none }
def fnExactStatesAtDistanceRow : OpenClaim := { program := "ytlhcenhlcajgnaa", sum := "c574abf7fb81199bbbda85099e74247420b3f1748864af24140d0f181e36dd69", func := "loop.example/g01321/laws.FnExactStatesAtDistance", spec := "fnExactStatesAtDistance", apart := false }
def FnExactStatesAtDistanceSaid : Prop := fnExactStatesAtDistanceRow.holds Try.pinned (OpenSpec.ofChange fnExactStatesAtDistanceSpec)

/-- ITS FALSE NEIGHBOUR: 'it returns false'. Refute it at one input. -/
def fnExactStatesAtDistanceWrong : ChangeSpec := { name := "fnExactStatesAtDistance", fn := fun _ => fun
  | [d1, d2] => { results := [.lit (.bool false)], args := [d1, d2] }
  | _ => none }
def FnExactStatesAtDistanceWrongFalsely : Prop := fnExactStatesAtDistanceRow.holds Try.pinned (OpenSpec.ofChange fnExactStatesAtDistanceWrong)

/-- 'laws.FnExactShareOfDisc': WHATEVER THE INPUT: true; the input reads as it did. -/
def fnExactShareOfDiscSpec : ChangeSpec := { name := "fnExactShareOfDisc", fn := fun _ => fun
  | [d1, d2] => { results := [.lit (.bool true)], args := [d1, d2] }
  | _ => none }
def fnExactShareOfDiscRow : OpenClaim := { program := "ytlhcenhlcajgnaa", sum := "c574abf7fb81199bbbda85099e74247420b3f1748864af24140d0f181e36dd69", func := "loop.example/g01321/laws.FnExactShareOfDisc", spec := "fnExactShareOfDisc", apart := false }
def FnExactShareOfDiscSaid : Prop := fnExactShareOfDiscRow.holds Try.pinned (OpenSpec.ofChange fnExactShareOfDiscSpec)

/-- ITS FALSE NEIGHBOUR: 'it returns false'. Refute it at one input. -/
def fnExactShareOfDiscWrong : ChangeSpec := { name := "fnExactShareOfDisc", fn := fun _ => fun
  | [d1, d2] => { results := [.lit (.bool false)], args := [d1, d2] }
  | _ => none }
def FnExactShareOfDiscWrongFalsely : Prop := fnExactShareOfDiscRow.holds Try.pinned (OpenSpec.ofChange fnExactShareOfDiscWrong)

/- THE SECOND FORM. 'bulk': how many values and letters a reading holds, each counted each time it is reached (what is shared counts as often as it is met; a slice's spare places count too). A statement '..UptoSaid' is the law's where the arguments, and the package variables that the reading takes, are together of bulk at most 1048576: NARROWER than '..Said'. Prove '..Said' where nothing that the law and all that it calls make is longer than what came in: it says more and counts as full. Else prove '..UptoSaid'. A law counts once. -/
mutual
def uptoBulk {H : Type} : DataW H → Nat
  | .lit (.string bytes) => bytes.length + 1
  | .lit _ => 1
  | .nil => 1
  | .ptr d => uptoBulk d + 1
  | .slice elems spare => uptoBulkAll elems + uptoBulkAll spare + 1
  | .agg parts => uptoBulkAll parts + 1
  | .iface _ d => uptoBulk d + 1
  | .map entries => uptoBulkEntries entries + 1
  | .held _ => 1
def uptoBulkAll {H : Type} : List (DataW H) → Nat
  | [] => 0
  | d :: r => uptoBulk d + uptoBulkAll r
def uptoBulkEntries {H : Type} : List (Lit × DataW H) → Nat
  | [] => 0
  | x :: r => uptoBulkEntry x + uptoBulkEntries r
def uptoBulkEntry {H : Type} : Lit × DataW H → Nat
  | (.string bytes, d) => bytes.length + uptoBulk d + 1
  | (_, d) => uptoBulk d + 1
 end
def uptoSmall : (H : Type) → List (DataW H) → Bool := fun _ ds => decide (uptoBulkAll ds ≤ 1048576)
def OpenSpec.upto (s : _root_.Go.ChangeSpec) : _root_.Go.OpenSpec := { _root_.Go.OpenSpec.ofChange s with cond := some uptoSmall }

/-- 'laws.FnExactTotalToPerfect', WHERE WHAT IT READS IS OF BULK AT MOST 1048576: true; the input reads as it did. -/
def fnExactTotalToPerfectUptoRow : OpenClaim := { program := "ytlhcenhlcajgnaa", sum := "c574abf7fb81199bbbda85099e74247420b3f1748864af24140d0f181e36dd69", func := "loop.example/g01321/laws.FnExactTotalToPerfect", spec := "fnExactTotalToPerfect", apart := false, narrowed := true }
def FnExactTotalToPerfectUptoSaid : Prop := fnExactTotalToPerfectUptoRow.holds Try.pinned (OpenSpec.upto fnExactTotalToPerfectSpec)

/-- 'laws.FnExactDigitNumber', WHERE WHAT IT READS IS OF BULK AT MOST 1048576: true; the input reads as it did. -/
def fnExactDigitNumberUptoRow : OpenClaim := { program := "ytlhcenhlcajgnaa", sum := "c574abf7fb81199bbbda85099e74247420b3f1748864af24140d0f181e36dd69", func := "loop.example/g01321/laws.FnExactDigitNumber", spec := "fnExactDigitNumber", apart := false, narrowed := true }
def FnExactDigitNumberUptoSaid : Prop := fnExactDigitNumberUptoRow.holds Try.pinned (OpenSpec.upto fnExactDigitNumberSpec)

/-- 'laws.FnExactStatesAtDistance', WHERE WHAT IT READS IS OF BULK AT MOST 1048576: true; the input reads as it did. -/
def fnExactStatesAtDistanceUptoRow : OpenClaim := { program := "ytlhcenhlcajgnaa", sum := "c574abf7fb81199bbbda85099e74247420b3f1748864af24140d0f181e36dd69", func := "loop.example/g01321/laws.FnExactStatesAtDistance", spec := "fnExactStatesAtDistance", apart := false, narrowed := true }
def FnExactStatesAtDistanceUptoSaid : Prop := fnExactStatesAtDistanceUptoRow.holds Try.pinned (OpenSpec.upto fnExactStatesAtDistanceSpec)

/-- 'laws.FnExactShareOfDisc', WHERE WHAT IT READS IS OF BULK AT MOST 1048576: true; the input reads as it did. -/
def fnExactShareOfDiscUptoRow : OpenClaim := { program := "ytlhcenhlcajgnaa", sum := "c574abf7fb81199bbbda85099e74247420b3f1748864af24140d0f181e36dd69", func := "loop.example/g01321/laws.FnExactShareOfDisc", spec := "fnExactShareOfDisc", apart := false, narrowed := true }
def FnExactShareOfDiscUptoSaid : Prop := fnExactShareOfDiscUptoRow.holds Try.pinned (OpenSpec.upto fnExactShareOfDiscSpec)

end Rows
end Go.Proofs.Ytlhcenhlcajgnaa
