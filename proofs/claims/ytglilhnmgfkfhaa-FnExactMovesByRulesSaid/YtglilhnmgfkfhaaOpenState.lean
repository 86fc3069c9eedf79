/- How a state that came in is opened. -/
import Derived.Test.YtglilhnmgfkfhaaOpen
import Derived.Test.YtglilhnmgfkfhaaTo
namespace Go.Proofs.Ytglilhnmgfkfhaa
open Go.ChangeShapes Go.WideShapes Go.ChangeAt Go.RowKit Go.Joins
set_option linter.unusedVariables false

theorem cellsS : Try.prog.cellsOf 26 = 2 := by kernel_rfl
set_option maxRecDepth 100000 in
/-- A state: its value, and what its list reads as. -/
theorem open_state {H : Type} {enc : TypeId × Value → H} {W : World} {v : Value} {d : DataW H} {p : List MemPlace} {b0 : Nat}
    (hv : Value.okWide Try.prog W .any b0 26 v) (h : DataW.Trod enc Try.prog W 0 (fun _ => true) true 26 v d p) :
    ∃ (q : Int) (A : Option Addr) (n c : Nat) (L : List Int), v = .agg #[.int .i64 q, .slice A n c] ∧ (Lit.int .i64 q).wf = true ∧ ArgInts W A n L := by
  obtain ⟨c0, c1, y0, y1, m, rfl, rfl, rfl, hy0, hy1⟩ := open_agg2 Try.underlying26 (by kernel_rfl) cellsS hv h
  obtain ⟨a, e0, rfl, wa⟩ := DataW.trod_int Try.underlying2 hy0
  simp only [List.cons.injEq, and_true] at e0
  subst e0
  obtain ⟨A, n, c, L, rfl, hA⟩ := open_slice_ints hy1
  exact ⟨_, A, n, c, L, rfl, wa, hA⟩

end Go.Proofs.Ytglilhnmgfkfhaa
