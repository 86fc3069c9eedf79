/-
  DERIVED. GIVEN WITH THE SEED: THE CARDS: each row of YtbnjdpjlhccglaaDoorRows.lean that lists a variable, with what it lists TIED to the program's text (the seventh form; the later family's looks); each row that meets fmt, with fmt's text TOLD by the authors' own Lean function (tested against real Go, not proved from fmt's source: count such statements apart). THE CARD IS WHAT COUNTS. Prove the row's statement (the work); the ties are given (YtbnjdpjlhccglaaDoorTie.lean); close each card by the builder's one call (the guide's Derived/Test/ToyasCard.lean, 'card_holds'). Laid BY PROGRAM, IN A SANDBOX (cutbox-door.mjs). By AI agents, Wed Nov 11 2026. No macro, syntax, notation, axiom, sorry.
-/
import Derived.Test.YtbnjdpjlhccglaaDoorRows
import GoSem.ClaimSeven
namespace Go.Proofs.YtbnjdpjlhccglaaDoor
namespace Rows

/-- THE TIED CARD OF 'laws.FnExactRunByRules'. -/
def fnExactRunByRulesCard : Claim7 := { stood := { row := fnExactRunByRulesRow, standIns := [], harness := (true, "2f8dcf692c698d0c777c257ac4c9b0e77642f882120169a92ba54c3ce98d11b2"), looks := true }, kinds := [], alts := [], laidByText := true, laidKinds := [.sentinel], laidTests := true, laidLooks := .later }
def FnExactRunByRulesCardSaid : Prop := Claim7.holds Tryd.pinned (.plain (OpenSpec.ofChange fnExactRunByRulesSpec)) fnExactRunByRulesCard

/-- THE SECOND FORM's CARD OF 'laws.FnExactRunByRules'. -/
def fnExactRunByRulesUptoCard : Claim7 := { stood := { row := fnExactRunByRulesUptoRow, standIns := [], harness := (true, "2f8dcf692c698d0c777c257ac4c9b0e77642f882120169a92ba54c3ce98d11b2"), looks := true }, kinds := [], alts := [], laidByText := true, laidKinds := [.sentinel], laidTests := true, laidLooks := .later }
def FnExactRunByRulesUptoCardSaid : Prop := Claim7.holds Tryd.pinned (.plain (OpenSpec.upto fnExactRunByRulesSpec)) fnExactRunByRulesUptoCard
end Rows
end Go.Proofs.YtbnjdpjlhccglaaDoor
