/- From what a tied row says of the table math/bits.deBruijn64tab to the table's cells. -/
import Derived.Test.YtcicjnpnhaddcaaDoorTz
import Derived.Lib.LaidTab
namespace Go.Proofs.YtcicjnpnhaddcaaDoor
open Go Go.RowKit
set_option linter.unusedVariables false

theorem gTab : Tryd.prog.globalNamed "math/bits.deBruijn64tab" = some 0 := by kernel_rfl
theorem gTabType : (Tryd.prog.globals[0]?).map (·.type) = some 89 := by kernel_rfl
theorem tabCells : Tryd.prog.cellsOf 89 = 64 := by kernel_rfl
theorem byteCells : Tryd.prog.cellsOf 5 = 1 := by kernel_rfl
theorem tab_of {W : World} {d : DataW Unit} {rest : List (String × DataW Unit)} (h : laidMet Tryd.prog (("math/bits.deBruijn64tab", d) :: rest) W) (hd : d = Lib.tabData .u8 (Lib.deBruijn64tab.map Int.ofNat) := by rfl) : Tab W := by
  subst hd
  have hT := Lib.tabIs_of_head gTab gTabType Tryd.underlying89 Tryd.underlying5 byteCells tabCells h
  intro j hj
  have h1 := hT.cell gTab j (by simpa using hj)
  rw [h1]
  congr 2
  rw [List.getD_eq_getElem?_getD, List.getElem?_map, List.getElem?_eq_getElem hj, List.getD_eq_getElem?_getD, List.getElem?_eq_getElem hj]
  rfl

end Go.Proofs.YtcicjnpnhaddcaaDoor
