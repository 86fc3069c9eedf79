/- Two arrays of eight numbers are compared. -/
import Derived.Test.YtnfjdggiaodhmaaRows
import Derived.Test.YtnfjdggiaodhmaaBase
import Derived.DeepKeys
import Derived.Laws.StructEq
namespace Go.Proofs.Ytnfjdggiaodhmaa
open Go.RowKit
set_option linter.unusedVariables false

theorem cells1A : Try.prog.cellsOf 2 = 1 := by kernel_rfl

def arr8 (f : Nat → Int) : Array Value := #[.int .i64 (f 0), .int .i64 (f 1), .int .i64 (f 2), .int .i64 (f 3), .int .i64 (f 4), .int .i64 (f 5), .int .i64 (f 6), .int .i64 (f 7)]
def lits8 (f : Nat → Int) : List Lit := [.int .i64 (f 0), .int .i64 (f 1), .int .i64 (f 2), .int .i64 (f 3), .int .i64 (f 4), .int .i64 (f 5), .int .i64 (f 6), .int .i64 (f 7)]


end Go.Proofs.Ytnfjdggiaodhmaa
