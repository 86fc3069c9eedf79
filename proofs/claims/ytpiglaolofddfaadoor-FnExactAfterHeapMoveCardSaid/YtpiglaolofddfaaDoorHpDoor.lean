/- From what a tied row says of the error's variable to its cell; a heap that came in. -/
import Derived.Test.YtpiglaolofddfaaDoorHpM
import Derived.Test.YtpiglaolofddfaaDoorHpC
import Derived.Test.YtpiglaolofddfaaDoorOpen
import Derived.Deep.Matrix
import Derived.Stop.LaidErr
import Derived.ChangeVars
import Derived.RowKitTokens
import Derived.LaidMore
namespace Go.Proofs.YtpiglaolofddfaaDoor
open Go Go.ChangeShapes Go.WideShapes Go.RowKit Go.Joins
set_option linter.unusedVariables false

theorem gErr : Tryd.prog.globalNamed "loop.example/g01321/impl.errNoHeap" = some 0 := by kernel_rfl
theorem gErrType : (Tryd.prog.globals[0]?).map (·.type) = some 68 := by kernel_rfl
theorem errStar : "*" ++ "errors.errorString" = "*errors.errorString" := by decide
theorem errRow (u : TypeId) (h : Tryd.prog.typeName? 3 u = some "*errors.errorString") : u = 78 :=
  typeName_ptr_named (nm := "errors.errorString") (by rw [errStar]; kernel_rfl) (by kernel_rfl) (by decide) u (by rw [errStar]; exact h)
/-- The variable as the row lists it. -/
theorem sent_of {W : World} {text : List UInt8} {r : List (String × DataW Unit)} (h : laidMet Tryd.prog (("loop.example/g01321/impl.errNoHeap", .iface "*errors.errorString" (.ptr (.agg [.lit (.string text)]))) :: r) W) :
    ∃ a : Addr, W.var? Tryd.prog "loop.example/g01321/impl.errNoHeap" = some #[.iface 78 (.pointer (some a))] ∧ Sent W a := by
  obtain ⟨a, s, hv, _, _, _⟩ := laid_sentinel h gErr gErrType Tryd.underlying68 errRow Tryd.underlying78 Tryd.underlying97 rfl rfl Tryd.underlying9 (by kernel_rfl) (by kernel_rfl)
  exact ⟨a, hv, by unfold Sent; simpa using World.var?_cell gErr hv 0⟩
theorem err_reads {H : Type} (enc : TypeId × Value → H) {W : World} {a : Addr} (h : W.var? Tryd.prog "loop.example/g01321/impl.errNoHeap" = some #[.iface 78 (.pointer (some a))]) (sp : Nat → Bool) :
    DataW.TrodVars enc Tryd.prog W sp ["loop.example/g01321/impl.errNoHeap"] [tok enc (.iface 78 (.pointer (some a)))] [.cell 0 0] :=
  vars_read1 enc gErr gErrType Tryd.underlying68 h trivial sp

end Go.Proofs.YtpiglaolofddfaaDoor
