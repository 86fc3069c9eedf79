/-
  DERIVED. GIVEN WITH THE SEED: THE CARDS: each row of YtpiglaolofddfaaDoorRows.lean that lists a variable, with what it lists TIED to the program's text (the seventh form; the later family's looks); each row that meets fmt, with fmt's text TOLD by the authors' own Lean function (tested against real Go, not proved from fmt's source: count such statements apart). THE CARD IS WHAT COUNTS. Prove the row's statement (the work); the ties are given (YtpiglaolofddfaaDoorTie.lean); close each card by the builder's one call (the guide's Derived/Test/ToyasCard.lean, 'card_holds'). Laid BY PROGRAM, IN A SANDBOX (cutbox-door.mjs). By AI agents, Wed Nov 11 2026. No macro, syntax, notation, axiom, sorry.
-/
import Derived.Test.YtpiglaolofddfaaDoorRows
import GoSem.ClaimSeven
namespace Go.Proofs.YtpiglaolofddfaaDoor
namespace Rows

/-- THE TIED CARD OF 'laws.FnExactHeapMoves'. -/
def fnExactHeapMovesCard : Claim7 := { stood := { row := fnExactHeapMovesRow, standIns := [], harness := (true, "4f9617ea38f4055167b48ff5e8eb8055f5263fecea66d5f0b99864b74f0a054f"), looks := true }, kinds := [], alts := [], laidByText := true, laidKinds := [.sentinel], laidTests := true, laidLooks := .later }
def FnExactHeapMovesCardSaid : Prop := Claim7.holds Tryd.pinned (.plain (OpenSpec.ofChange fnExactHeapMovesSpec)) fnExactHeapMovesCard

/-- THE TIED CARD OF 'laws.FnExactAfterHeapMove'. -/
def fnExactAfterHeapMoveCard : Claim7 := { stood := { row := fnExactAfterHeapMoveRow, standIns := [], harness := (true, "4f9617ea38f4055167b48ff5e8eb8055f5263fecea66d5f0b99864b74f0a054f"), looks := true }, kinds := [], alts := [], laidByText := true, laidKinds := [.sentinel], laidTests := true, laidLooks := .later }
def FnExactAfterHeapMoveCardSaid : Prop := Claim7.holds Tryd.pinned (.plain (OpenSpec.ofChange fnExactAfterHeapMoveSpec)) fnExactAfterHeapMoveCard

/-- THE SECOND FORM's CARD OF 'laws.FnExactHeapMoves'. -/
def fnExactHeapMovesUptoCard : Claim7 := { stood := { row := fnExactHeapMovesUptoRow, standIns := [], harness := (true, "4f9617ea38f4055167b48ff5e8eb8055f5263fecea66d5f0b99864b74f0a054f"), looks := true }, kinds := [], alts := [], laidByText := true, laidKinds := [.sentinel], laidTests := true, laidLooks := .later }
def FnExactHeapMovesUptoCardSaid : Prop := Claim7.holds Tryd.pinned (.plain (OpenSpec.upto fnExactHeapMovesSpec)) fnExactHeapMovesUptoCard

/-- THE SECOND FORM's CARD OF 'laws.FnExactAfterHeapMove'. -/
def fnExactAfterHeapMoveUptoCard : Claim7 := { stood := { row := fnExactAfterHeapMoveUptoRow, standIns := [], harness := (true, "4f9617ea38f4055167b48ff5e8eb8055f5263fecea66d5f0b99864b74f0a054f"), looks := true }, kinds := [], alts := [], laidByText := true, laidKinds := [.sentinel], laidTests := true, laidLooks := .later }
def FnExactAfterHeapMoveUptoCardSaid : Prop := Claim7.holds Tryd.pinned (.plain (OpenSpec.upto fnExactAfterHeapMoveSpec)) fnExactAfterHeapMoveUptoCard
end Rows
end Go.Proofs.YtpiglaolofddfaaDoor
