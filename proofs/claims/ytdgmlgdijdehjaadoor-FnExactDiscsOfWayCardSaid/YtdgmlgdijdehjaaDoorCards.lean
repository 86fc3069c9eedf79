/-
  DERIVED. GIVEN WITH THE SEED: THE CARDS: each row of YtdgmlgdijdehjaaDoorRows.lean that lists a variable, with what it lists TIED to the program's text (the seventh form; the later family's looks); each row that meets fmt, with fmt's text TOLD by the authors' own Lean function (tested against real Go, not proved from fmt's source: count such statements apart). THE CARD IS WHAT COUNTS. Prove the row's statement (the work); the ties are given (YtdgmlgdijdehjaaDoorTie.lean); close each card by the builder's one call (the guide's Derived/Test/ToyasCard.lean, 'card_holds'). Laid BY PROGRAM, IN A SANDBOX (cutbox-door.mjs). By AI agents, Wed Nov 11 2026. No macro, syntax, notation, axiom, sorry.
-/
import Derived.Test.YtdgmlgdijdehjaaDoorRows
import GoSem.ClaimSeven
namespace Go.Proofs.YtdgmlgdijdehjaaDoor
namespace Rows

/-- THE TIED CARD OF 'laws.FnExactDiscsOfWay'. -/
def fnExactDiscsOfWayCard : Claim7 := { stood := { row := fnExactDiscsOfWayRow, standIns := [], harness := (true, "c351f7fe327586e56c0b9c67ff24dbcc664b7d3cce07a64fabdc5d35f12b78a8"), looks := false }, kinds := [], alts := [], laidByText := true, laidKinds := [.data], laidTests := true, laidLooks := .later }
def FnExactDiscsOfWayCardSaid : Prop := Claim7.holds Tryd.pinned (.plain (OpenSpec.ofChange fnExactDiscsOfWaySpec)) fnExactDiscsOfWayCard

/-- THE SECOND FORM's CARD OF 'laws.FnExactDiscsOfWay'. -/
def fnExactDiscsOfWayUptoCard : Claim7 := { stood := { row := fnExactDiscsOfWayUptoRow, standIns := [], harness := (true, "c351f7fe327586e56c0b9c67ff24dbcc664b7d3cce07a64fabdc5d35f12b78a8"), looks := false }, kinds := [], alts := [], laidByText := true, laidKinds := [.data], laidTests := true, laidLooks := .later }
def FnExactDiscsOfWayUptoCardSaid : Prop := Claim7.holds Tryd.pinned (.plain (OpenSpec.upto fnExactDiscsOfWaySpec)) fnExactDiscsOfWayUptoCard
end Rows
end Go.Proofs.YtdgmlgdijdehjaaDoor
