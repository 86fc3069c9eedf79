/-
  DERIVED. GIVEN WITH THE SEED: THE CARDS: each row of YtgdkbplgonpelaaDoorRows.lean that lists a variable, with what it lists TIED to the program's text (the seventh form; the later family's looks); each row that meets fmt, with fmt's text TOLD by the authors' own Lean function (tested against real Go, not proved from fmt's source: count such statements apart). THE CARD IS WHAT COUNTS. Prove the row's statement (the work); the ties are given (YtgdkbplgonpelaaDoorTie.lean); close each card by the builder's one call (the guide's Derived/Test/ToyasCard.lean, 'card_holds'). Laid BY PROGRAM, IN A SANDBOX (cutbox-door.mjs). By AI agents, Wed Nov 11 2026. No macro, syntax, notation, axiom, sorry.
-/
import Derived.Test.YtgdkbplgonpelaaDoorRows
import GoSem.ClaimSeven
namespace Go.Proofs.YtgdkbplgonpelaaDoor
namespace Rows

/-- THE TIED CARD OF 'laws.FnExactLettersFrom'. -/
def fnExactLettersFromCard : Claim7 := { stood := { row := fnExactLettersFromRow, standIns := [], harness := (true, "a43b99339e2ae064408b39027c76c5a033fd56bac7ce64cb5068c78126bbbba8"), looks := false }, kinds := [], alts := [], laidByText := true, laidKinds := [.data], laidTests := true, laidLooks := .later }
def FnExactLettersFromCardSaid : Prop := Claim7.holds Tryd.pinned (.plain (OpenSpec.ofChange fnExactLettersFromSpec)) fnExactLettersFromCard

/-- THE SECOND FORM's CARD OF 'laws.FnExactLettersFrom'. -/
def fnExactLettersFromUptoCard : Claim7 := { stood := { row := fnExactLettersFromUptoRow, standIns := [], harness := (true, "a43b99339e2ae064408b39027c76c5a033fd56bac7ce64cb5068c78126bbbba8"), looks := false }, kinds := [], alts := [], laidByText := true, laidKinds := [.data], laidTests := true, laidLooks := .later }
def FnExactLettersFromUptoCardSaid : Prop := Claim7.holds Tryd.pinned (.plain (OpenSpec.upto fnExactLettersFromSpec)) fnExactLettersFromUptoCard
end Rows
end Go.Proofs.YtgdkbplgonpelaaDoor
