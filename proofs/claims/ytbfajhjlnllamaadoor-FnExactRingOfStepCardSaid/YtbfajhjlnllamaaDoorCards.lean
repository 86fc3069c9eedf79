/-
  DERIVED. GIVEN WITH THE SEED: THE CARDS: each row of YtbfajhjlnllamaaDoorRows.lean that lists a variable, with what it lists TIED to the program's text (the seventh form; the later family's looks); each row that meets fmt, with fmt's text TOLD by the authors' own Lean function (tested against real Go, not proved from fmt's source: count such statements apart). THE CARD IS WHAT COUNTS. Prove the row's statement (the work); the ties are given (YtbfajhjlnllamaaDoorTie.lean); close each card by the builder's one call (the guide's Derived/Test/ToyasCard.lean, 'card_holds'). Laid BY PROGRAM, IN A SANDBOX (cutbox-door.mjs). By AI agents, Wed Nov 11 2026. No macro, syntax, notation, axiom, sorry.
-/
import Derived.Test.YtbfajhjlnllamaaDoorRows
import GoSem.ClaimSeven
namespace Go.Proofs.YtbfajhjlnllamaaDoor
namespace Rows

/-- THE TIED CARD OF 'laws.FnExactRingOfStep'. -/
def fnExactRingOfStepCard : Claim7 := { stood := { row := fnExactRingOfStepRow, standIns := [], harness := (true, "bbc9710daa4fc7caa8becb49d79cbc6bbc79583601b6c51fc2cd1a3ca6c416fd"), looks := false }, kinds := [], alts := [], laidByText := true, laidKinds := [.data], laidTests := true, laidLooks := .later }
def FnExactRingOfStepCardSaid : Prop := Claim7.holds Tryd.pinned (.plain (OpenSpec.ofChange fnExactRingOfStepSpec)) fnExactRingOfStepCard

/-- THE SECOND FORM's CARD OF 'laws.FnExactRingOfStep'. -/
def fnExactRingOfStepUptoCard : Claim7 := { stood := { row := fnExactRingOfStepUptoRow, standIns := [], harness := (true, "bbc9710daa4fc7caa8becb49d79cbc6bbc79583601b6c51fc2cd1a3ca6c416fd"), looks := false }, kinds := [], alts := [], laidByText := true, laidKinds := [.data], laidTests := true, laidLooks := .later }
def FnExactRingOfStepUptoCardSaid : Prop := Claim7.holds Tryd.pinned (.plain (OpenSpec.upto fnExactRingOfStepSpec)) fnExactRingOfStepUptoCard
end Rows
end Go.Proofs.YtbfajhjlnllamaaDoor
