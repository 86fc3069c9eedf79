/- Contracts of the laws' functions over lists of lists: they compare, mark, look for marks. -/
import Derived.Test.YtfdjlgpdbgmdkaaSS
namespace Go.Proofs.Ytfdjlgpdbgmdkaa
open Go.RowKit
set_option linter.unusedVariables false

theorem LL_at {rs : List Rw} {k : Nat} {r : Rw} (h : rs[k]? = some r) : (LLof rs)[k]? = some r.L := by unfold LLof; rw [List.getElem?_map, h]; rfl
theorem LL_len (rs : List Rw) : (LLof rs).length = rs.length := by simp [LLof]
theorem get_of_lt {rs : List Rw} {k : Nat} (h : k < rs.length) : ∃ r, rs[k]? = some r := ⟨_, List.getElem?_eq_getElem h⟩

end Go.Proofs.Ytfdjlgpdbgmdkaa
