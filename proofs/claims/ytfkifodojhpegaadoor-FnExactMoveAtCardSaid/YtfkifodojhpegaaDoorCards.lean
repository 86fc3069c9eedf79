/-
  DERIVED. GIVEN WITH THE SEED: THE CARDS: each row of YtfkifodojhpegaaDoorRows.lean that lists a variable, with what it lists TIED to the program's text (the seventh form; the later family's looks); each row that meets fmt, with fmt's text TOLD by the authors' own Lean function (tested against real Go, not proved from fmt's source: count such statements apart). THE CARD IS WHAT COUNTS. Prove the row's statement (the work); the ties are given (YtfkifodojhpegaaDoorTie.lean); close each card by the builder's one call (the guide's Derived/Test/ToyasCard.lean, 'card_holds'). Laid BY PROGRAM, IN A SANDBOX (cutbox-door.mjs). By AI agents, Wed Nov 11 2026. No macro, syntax, notation, axiom, sorry.
-/
import Derived.Test.YtfkifodojhpegaaDoorRows
import GoSem.ClaimSeven
namespace Go.Proofs.YtfkifodojhpegaaDoor
namespace Rows

/-- THE TIED CARD OF 'laws.FnExactDiscAt'. -/
def fnExactDiscAtCard : Claim7 := { stood := { row := fnExactDiscAtRow, standIns := [], harness := (true, "69d9210e6106f69ca8dde997f511e6b4627d3c1c16084c3443d3789f31e9f486"), looks := false }, kinds := [], alts := [], laidByText := true, laidKinds := [.data], laidTests := true, laidLooks := .later }
def FnExactDiscAtCardSaid : Prop := Claim7.holds Tryd.pinned (.plain (OpenSpec.ofChange fnExactDiscAtSpec)) fnExactDiscAtCard

/-- THE TIED CARD OF 'laws.FnExactMoveAt'. -/
def fnExactMoveAtCard : Claim7 := { stood := { row := fnExactMoveAtRow, standIns := [], harness := (true, "69d9210e6106f69ca8dde997f511e6b4627d3c1c16084c3443d3789f31e9f486"), looks := false }, kinds := [], alts := [], laidByText := true, laidKinds := [.data], laidTests := true, laidLooks := .later }
def FnExactMoveAtCardSaid : Prop := Claim7.holds Tryd.pinned (.plain (OpenSpec.ofChange fnExactMoveAtSpec)) fnExactMoveAtCard

/-- THE SECOND FORM's CARD OF 'laws.FnExactDiscAt'. -/
def fnExactDiscAtUptoCard : Claim7 := { stood := { row := fnExactDiscAtUptoRow, standIns := [], harness := (true, "69d9210e6106f69ca8dde997f511e6b4627d3c1c16084c3443d3789f31e9f486"), looks := false }, kinds := [], alts := [], laidByText := true, laidKinds := [.data], laidTests := true, laidLooks := .later }
def FnExactDiscAtUptoCardSaid : Prop := Claim7.holds Tryd.pinned (.plain (OpenSpec.upto fnExactDiscAtSpec)) fnExactDiscAtUptoCard

/-- THE SECOND FORM's CARD OF 'laws.FnExactMoveAt'. -/
def fnExactMoveAtUptoCard : Claim7 := { stood := { row := fnExactMoveAtUptoRow, standIns := [], harness := (true, "69d9210e6106f69ca8dde997f511e6b4627d3c1c16084c3443d3789f31e9f486"), looks := false }, kinds := [], alts := [], laidByText := true, laidKinds := [.data], laidTests := true, laidLooks := .later }
def FnExactMoveAtUptoCardSaid : Prop := Claim7.holds Tryd.pinned (.plain (OpenSpec.upto fnExactMoveAtSpec)) fnExactMoveAtUptoCard
end Rows
end Go.Proofs.YtfkifodojhpegaaDoor
