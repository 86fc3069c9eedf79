/- Two arrays of eight numbers are compared. -/
import Derived.Test.YtfdjlgpdbgmdkaaRows
import Derived.Test.YtfdjlgpdbgmdkaaBase
import Derived.DeepKeys
import Derived.Laws.StructEq
namespace Go.Proofs.Ytfdjlgpdbgmdkaa
open Go.RowKit
set_option linter.unusedVariables false

theorem cells8A : Try.prog.cellsOf 80 = 8 := by kernel_rfl
theorem cells1A : Try.prog.cellsOf 2 = 1 := by kernel_rfl
theorem keyT8 : Try.prog.keyTypeAt 2 80 = true := by kernel_rfl

def arr8 (f : Nat → Int) : Array Value := #[.int .i64 (f 0), .int .i64 (f 1), .int .i64 (f 2), .int .i64 (f 3), .int .i64 (f 4), .int .i64 (f 5), .int .i64 (f 6), .int .i64 (f 7)]
def lits8 (f : Nat → Int) : List Lit := [.int .i64 (f 0), .int .i64 (f 1), .int .i64 (f 2), .int .i64 (f 3), .int .i64 (f 4), .int .i64 (f 5), .int .i64 (f 6), .int .i64 (f 7)]

theorem keyLits8 (f : Nat → Int) (h : ∀ i, i < 8 → (Lit.int .i64 (f i)).wf = true) : Try.prog.keyLits 2 80 (Value.agg (arr8 f)).cells.toList = some (lits8 f) := by
  have one : ∀ i, i < 8 → Try.prog.keyLits 1 2 [.int .i64 (f i)] = some [.int .i64 (f i)] := by
    intro i hi
    simp [Program.keyLits, Try.underlying2, h i hi]
  have e0 := one 0 (by omega)
  have e1 := one 1 (by omega)
  have e2 := one 2 (by omega)
  have e3 := one 3 (by omega)
  have e4 := one 4 (by omega)
  have e5 := one 5 (by omega)
  have e6 := one 6 (by omega)
  have e7 := one 7 (by omega)
  unfold Program.keyLits
  simp [Try.underlying80, cells8A, cells1A, arr8, lits8, Value.cells, List.range_succ, e0, e1, e2, e3, e4, e5, e6, e7]

theorem eq8 (f g : Nat → Int) (hf : ∀ i, i < 8 → (Lit.int .i64 (f i)).wf = true) (hg : ∀ i, i < 8 → (Lit.int .i64 (g i)).wf = true) (W : World) :
    ∃ r : Bool, (Op.equalIn 10000 80 (.agg (arr8 f)) (.agg (arr8 g))).run Try.prog W = .ok r W ∧ (r = true ↔ lits8 f = lits8 g) := by
  have E := run_equalIn_deep (P := Try.prog) 9998 2 80 keyT8
  exact E W 2 2 (.agg (arr8 f)) (.agg (arr8 g)) _ _ (by simp [Value.formed, Try.underlying80, arr8, cells8A]) (by simp [Value.formed, Try.underlying80, arr8, cells8A]) (keyLits8 f hf) (keyLits8 g hg)

theorem eq8_yes (f g : Nat → Int) (hf : ∀ i, i < 8 → (Lit.int .i64 (f i)).wf = true) (hg : ∀ i, i < 8 → (Lit.int .i64 (g i)).wf = true) (h : ∀ i, i < 8 → f i = g i) (W : World) :
    (Op.equalIn 10000 80 (.agg #[.int .i64 (f 0), .int .i64 (f 1), .int .i64 (f 2), .int .i64 (f 3), .int .i64 (f 4), .int .i64 (f 5), .int .i64 (f 6), .int .i64 (f 7)]) (.agg #[.int .i64 (g 0), .int .i64 (g 1), .int .i64 (g 2), .int .i64 (g 3), .int .i64 (g 4), .int .i64 (g 5), .int .i64 (g 6), .int .i64 (g 7)])).run Try.prog W = .ok true W := by
  obtain ⟨r, hr, hi⟩ := eq8 f g hf hg W
  have : r = true := hi.2 (by unfold lits8; rw [h 0 (by omega), h 1 (by omega), h 2 (by omega), h 3 (by omega), h 4 (by omega), h 5 (by omega), h 6 (by omega), h 7 (by omega)])
  subst this
  exact hr
theorem eq8_no (f g : Nat → Int) (hf : ∀ i, i < 8 → (Lit.int .i64 (f i)).wf = true) (hg : ∀ i, i < 8 → (Lit.int .i64 (g i)).wf = true) {k : Nat} (hk : k < 8) (h : f k ≠ g k) (W : World) :
    (Op.equalIn 10000 80 (.agg #[.int .i64 (f 0), .int .i64 (f 1), .int .i64 (f 2), .int .i64 (f 3), .int .i64 (f 4), .int .i64 (f 5), .int .i64 (f 6), .int .i64 (f 7)]) (.agg #[.int .i64 (g 0), .int .i64 (g 1), .int .i64 (g 2), .int .i64 (g 3), .int .i64 (g 4), .int .i64 (g 5), .int .i64 (g 6), .int .i64 (g 7)])).run Try.prog W = .ok false W := by
  obtain ⟨r, hr, hi⟩ := eq8 f g hf hg W
  have : r = false := by
    cases r
    · rfl
    · have e := hi.1 rfl
      unfold lits8 at e
      simp only [List.cons.injEq, Lit.int.injEq, true_and, and_true] at e
      have hk' : k = 0 ∨ k = 1 ∨ k = 2 ∨ k = 3 ∨ k = 4 ∨ k = 5 ∨ k = 6 ∨ k = 7 := by omega
      rcases hk' with rfl | rfl | rfl | rfl | rfl | rfl | rfl | rfl <;> exact absurd (by omega) h
  subst this
  exact hr

end Go.Proofs.Ytfdjlgpdbgmdkaa
