/-
  DERIVED. GIVEN WITH THE SEED: THE CARDS: each row of YtdifolaobgclgaaDoorRows.lean that lists a variable, with what it lists TIED to the program's text (the seventh form; the later family's looks); each row that meets fmt, with fmt's text TOLD by the authors' own Lean function (tested against real Go, not proved from fmt's source: count such statements apart). THE CARD IS WHAT COUNTS. Prove the row's statement (the work); the ties are given (YtdifolaobgclgaaDoorTie.lean); close each card by the builder's one call (the guide's Derived/Test/ToyasCard.lean, 'card_holds'). Laid BY PROGRAM, IN A SANDBOX (cutbox-door.mjs). By AI agents, Wed Nov 11 2026. No macro, syntax, notation, axiom, sorry.
-/
import Derived.Test.YtdifolaobgclgaaDoorRows
import GoSem.ClaimSeven
namespace Go.Proofs.YtdifolaobgclgaaDoor
namespace Rows

/-- THE TIED CARD OF 'laws.FnExactIsHeap'. -/
def fnExactIsHeapCard : Claim7 := { stood := { row := fnExactIsHeapRow, standIns := [], harness := (true, "0f27572431deeb7b98bfc5a95e2d9057a88f2ce97751f8b87859d4def7a7d77f"), looks := true }, kinds := [], alts := [], laidByText := true, laidKinds := [.sentinel], laidTests := true, laidLooks := .later }
def FnExactIsHeapCardSaid : Prop := Claim7.holds Tryd.pinned (.plain (OpenSpec.ofChange fnExactIsHeapSpec)) fnExactIsHeapCard

/-- THE TIED CARD OF 'laws.FnExactIsRegularHeap'. -/
def fnExactIsRegularHeapCard : Claim7 := { stood := { row := fnExactIsRegularHeapRow, standIns := [], harness := (true, "0f27572431deeb7b98bfc5a95e2d9057a88f2ce97751f8b87859d4def7a7d77f"), looks := true }, kinds := [], alts := [], laidByText := true, laidKinds := [.sentinel], laidTests := true, laidLooks := .later }
def FnExactIsRegularHeapCardSaid : Prop := Claim7.holds Tryd.pinned (.plain (OpenSpec.ofChange fnExactIsRegularHeapSpec)) fnExactIsRegularHeapCard

/-- THE TIED CARD OF 'laws.FnExactStateOfHeap'. -/
def fnExactStateOfHeapCard : Claim7 := { stood := { row := fnExactStateOfHeapRow, standIns := [], harness := (true, "0f27572431deeb7b98bfc5a95e2d9057a88f2ce97751f8b87859d4def7a7d77f"), looks := true }, kinds := [], alts := [], laidByText := true, laidKinds := [.sentinel], laidTests := true, laidLooks := .later }
def FnExactStateOfHeapCardSaid : Prop := Claim7.holds Tryd.pinned (.plain (OpenSpec.ofChange fnExactStateOfHeapSpec)) fnExactStateOfHeapCard

/-- THE TIED CARD OF 'laws.FnExactCountWrongPairs'. -/
def fnExactCountWrongPairsCard : Claim7 := { stood := { row := fnExactCountWrongPairsRow, standIns := [], harness := (true, "0f27572431deeb7b98bfc5a95e2d9057a88f2ce97751f8b87859d4def7a7d77f"), looks := true }, kinds := [], alts := [], laidByText := true, laidKinds := [.sentinel], laidTests := true, laidLooks := .later }
def FnExactCountWrongPairsCardSaid : Prop := Claim7.holds Tryd.pinned (.plain (OpenSpec.ofChange fnExactCountWrongPairsSpec)) fnExactCountWrongPairsCard

/-- THE SECOND FORM's CARD OF 'laws.FnExactIsHeap'. -/
def fnExactIsHeapUptoCard : Claim7 := { stood := { row := fnExactIsHeapUptoRow, standIns := [], harness := (true, "0f27572431deeb7b98bfc5a95e2d9057a88f2ce97751f8b87859d4def7a7d77f"), looks := true }, kinds := [], alts := [], laidByText := true, laidKinds := [.sentinel], laidTests := true, laidLooks := .later }
def FnExactIsHeapUptoCardSaid : Prop := Claim7.holds Tryd.pinned (.plain (OpenSpec.upto fnExactIsHeapSpec)) fnExactIsHeapUptoCard

/-- THE SECOND FORM's CARD OF 'laws.FnExactIsRegularHeap'. -/
def fnExactIsRegularHeapUptoCard : Claim7 := { stood := { row := fnExactIsRegularHeapUptoRow, standIns := [], harness := (true, "0f27572431deeb7b98bfc5a95e2d9057a88f2ce97751f8b87859d4def7a7d77f"), looks := true }, kinds := [], alts := [], laidByText := true, laidKinds := [.sentinel], laidTests := true, laidLooks := .later }
def FnExactIsRegularHeapUptoCardSaid : Prop := Claim7.holds Tryd.pinned (.plain (OpenSpec.upto fnExactIsRegularHeapSpec)) fnExactIsRegularHeapUptoCard

/-- THE SECOND FORM's CARD OF 'laws.FnExactStateOfHeap'. -/
def fnExactStateOfHeapUptoCard : Claim7 := { stood := { row := fnExactStateOfHeapUptoRow, standIns := [], harness := (true, "0f27572431deeb7b98bfc5a95e2d9057a88f2ce97751f8b87859d4def7a7d77f"), looks := true }, kinds := [], alts := [], laidByText := true, laidKinds := [.sentinel], laidTests := true, laidLooks := .later }
def FnExactStateOfHeapUptoCardSaid : Prop := Claim7.holds Tryd.pinned (.plain (OpenSpec.upto fnExactStateOfHeapSpec)) fnExactStateOfHeapUptoCard

/-- THE SECOND FORM's CARD OF 'laws.FnExactCountWrongPairs'. -/
def fnExactCountWrongPairsUptoCard : Claim7 := { stood := { row := fnExactCountWrongPairsUptoRow, standIns := [], harness := (true, "0f27572431deeb7b98bfc5a95e2d9057a88f2ce97751f8b87859d4def7a7d77f"), looks := true }, kinds := [], alts := [], laidByText := true, laidKinds := [.sentinel], laidTests := true, laidLooks := .later }
def FnExactCountWrongPairsUptoCardSaid : Prop := Claim7.holds Tryd.pinned (.plain (OpenSpec.upto fnExactCountWrongPairsSpec)) fnExactCountWrongPairsUptoCard
end Rows
end Go.Proofs.YtdifolaobgclgaaDoor
