/- Contracts: the law's comparisons. -/
import Derived.Test.YtfdjlgpdbgmdkaaBase
import Derived.Test.YtfdjlgpdbgmdkaaRows
import Derived.ProofKit
import Derived.OpenShut
import Derived.WalkSpells
import Derived.Deep.QuietTactic
import Derived.BigQuiet
namespace Go.Proofs.Ytfdjlgpdbgmdkaa
open Go.RowKit
set_option linter.unusedVariables false

theorem Try.infoI : (Try.prog.info? 2).map (fun i => (i.zero, i.size, i.bytes)) = some (some (.int .i64 0), 1, 8) := by kernel_rfl

theorem list_ne_len {L L' : List Int} {n n' : Nat} (h : L.length = n) (h' : L'.length = n') (hne : ¬ n = n') : decide (L = L') = false := by
  simp
  rintro rfl
  omega

end Go.Proofs.Ytfdjlgpdbgmdkaa
