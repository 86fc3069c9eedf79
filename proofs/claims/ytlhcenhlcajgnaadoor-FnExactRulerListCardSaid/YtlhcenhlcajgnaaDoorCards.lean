/-
  DERIVED. GIVEN WITH THE SEED: THE CARDS: each row of YtlhcenhlcajgnaaDoorRows.lean that lists a variable, with what it lists TIED to the program's text (the seventh form; the later family's looks); each row that meets fmt, with fmt's text TOLD by the authors' own Lean function (tested against real Go, not proved from fmt's source: count such statements apart). THE CARD IS WHAT COUNTS. Prove the row's statement (the work); the ties are given (YtlhcenhlcajgnaaDoorTie.lean); close each card by the builder's one call (the guide's Derived/Test/ToyasCard.lean, 'card_holds'). Laid BY PROGRAM, IN A SANDBOX (cutbox-door.mjs). By AI agents, Wed Nov 11 2026. No macro, syntax, notation, axiom, sorry.
-/
import Derived.Test.YtlhcenhlcajgnaaDoorRows
import GoSem.ClaimSeven
namespace Go.Proofs.YtlhcenhlcajgnaaDoor
namespace Rows

/-- THE TIED CARD OF 'laws.FnExactRulerList'. -/
def fnExactRulerListCard : Claim7 := { stood := { row := fnExactRulerListRow, standIns := [], harness := (true, "485800eba6396e4fce83426a960b12c7faabaac3aa0a44baed4dfcb44e9b5f3c"), looks := false }, kinds := [], alts := [], laidByText := true, laidKinds := [.data], laidTests := true, laidLooks := .later }
def FnExactRulerListCardSaid : Prop := Claim7.holds Tryd.pinned (.plain (OpenSpec.ofChange fnExactRulerListSpec)) fnExactRulerListCard

/-- THE SECOND FORM's CARD OF 'laws.FnExactRulerList'. -/
def fnExactRulerListUptoCard : Claim7 := { stood := { row := fnExactRulerListUptoRow, standIns := [], harness := (true, "485800eba6396e4fce83426a960b12c7faabaac3aa0a44baed4dfcb44e9b5f3c"), looks := false }, kinds := [], alts := [], laidByText := true, laidKinds := [.data], laidTests := true, laidLooks := .later }
def FnExactRulerListUptoCardSaid : Prop := Claim7.holds Tryd.pinned (.plain (OpenSpec.upto fnExactRulerListSpec)) fnExactRulerListUptoCard
end Rows
end Go.Proofs.YtlhcenhlcajgnaaDoor
