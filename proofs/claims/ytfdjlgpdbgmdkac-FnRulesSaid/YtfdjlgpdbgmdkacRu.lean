/- Words for rules: nine numbers; the laws' own copies and comparisons of them. -/
import Derived.Test.YtfdjlgpdbgmdkacBase
import Derived.Test.YtfdjlgpdbgmdkacProg
import Derived.Handy
import Derived.BigQuiet
import Derived.StillTailTactics
namespace Go.Proofs.Ytfdjlgpdbgmdkac
open Go.RowKit
set_option linter.unusedVariables false

/-- Three and nine cells of integers. -/
def z3 (r : Nat → Int) (k : Nat) : Array Value := #[.int .i64 (r k), .int .i64 (r (k + 1)), .int .i64 (r (k + 2))]
def z9 (r : Nat → Int) : Array Value := #[.int .i64 (r 0), .int .i64 (r 1), .int .i64 (r 2), .int .i64 (r 3), .int .i64 (r 4), .int .i64 (r 5), .int .i64 (r 6), .int .i64 (r 7), .int .i64 (r 8)]

/-- The world behind a copied row: three blocks more. -/
def w3 (w : World) (a b c : Int) : World := ((w.alloc (.cells #[.int .i64 a, .int .i64 b, .int .i64 c] 24)).alloc (.cells #[.int .i64 a, .int .i64 b, .int .i64 c] 24)).alloc (.cells #[.int .i64 a, .int .i64 b, .int .i64 c] 24)

theorem Box.nine {w : World} {b t : Nat} {r : Nat → Int} (h : Box w b t (z9 r)) : w.cell? ⟨b, 0, none⟩ = some (.int .i64 (r 0)) ∧ w.cell? ⟨b, 1, none⟩ = some (.int .i64 (r 1)) ∧ w.cell? ⟨b, 2, none⟩ = some (.int .i64 (r 2)) ∧ w.cell? ⟨b, 3, none⟩ = some (.int .i64 (r 3)) ∧ w.cell? ⟨b, 4, none⟩ = some (.int .i64 (r 4)) ∧ w.cell? ⟨b, 5, none⟩ = some (.int .i64 (r 5)) ∧ w.cell? ⟨b, 6, none⟩ = some (.int .i64 (r 6)) ∧ w.cell? ⟨b, 7, none⟩ = some (.int .i64 (r 7)) ∧ w.cell? ⟨b, 8, none⟩ = some (.int .i64 (r 8)) :=
  ⟨by simpa [z9] using h.cell 0, by simpa [z9] using h.cell 1, by simpa [z9] using h.cell 2, by simpa [z9] using h.cell 3, by simpa [z9] using h.cell 4, by simpa [z9] using h.cell 5, by simpa [z9] using h.cell 6, by simpa [z9] using h.cell 7, by simpa [z9] using h.cell 8⟩

end Go.Proofs.Ytfdjlgpdbgmdkac
