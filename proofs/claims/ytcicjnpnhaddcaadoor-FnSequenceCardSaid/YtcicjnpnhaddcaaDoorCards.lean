/-
  DERIVED. GIVEN WITH THE SEED: THE CARDS: each row of YtcicjnpnhaddcaaDoorRows.lean that lists a variable, with what it lists TIED to the program's text (the seventh form; the later family's looks); each row that meets fmt, with fmt's text TOLD by the authors' own Lean function (tested against real Go, not proved from fmt's source: count such statements apart). THE CARD IS WHAT COUNTS. Prove the row's statement (the work); the ties are given (YtcicjnpnhaddcaaDoorTie.lean); close each card by the builder's one call (the guide's Derived/Test/ToyasCard.lean, 'card_holds'). Laid BY PROGRAM, IN A SANDBOX (cutbox-door.mjs). By AI agents, Wed Nov 11 2026. No macro, syntax, notation, axiom, sorry.
-/
import Derived.Test.YtcicjnpnhaddcaaDoorRows
import GoSem.ClaimSeven
namespace Go.Proofs.YtcicjnpnhaddcaaDoor
namespace Rows

/-- THE TIED CARD OF 'laws.FnSequence'. -/
def fnSequenceCard : Claim7 := { stood := { row := fnSequenceRow, standIns := [], harness := (true, "780b7642db522495ccaf5e5ea38c9aae4a0a3c8486611c3fe2edbc8c7a07afd9"), looks := false }, kinds := [], alts := [], laidByText := true, laidKinds := [.data], laidTests := true, laidLooks := .later }
def FnSequenceCardSaid : Prop := Claim7.holds Tryd.pinned (.plain (OpenSpec.ofChange fnSequenceSpec)) fnSequenceCard

/-- THE SECOND FORM's CARD OF 'laws.FnSequence'. -/
def fnSequenceUptoCard : Claim7 := { stood := { row := fnSequenceUptoRow, standIns := [], harness := (true, "780b7642db522495ccaf5e5ea38c9aae4a0a3c8486611c3fe2edbc8c7a07afd9"), looks := false }, kinds := [], alts := [], laidByText := true, laidKinds := [.data], laidTests := true, laidLooks := .later }
def FnSequenceUptoCardSaid : Prop := Claim7.holds Tryd.pinned (.plain (OpenSpec.upto fnSequenceSpec)) fnSequenceUptoCard
end Rows
end Go.Proofs.YtcicjnpnhaddcaaDoor
