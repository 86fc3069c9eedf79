/- Contracts: the states of a run, by the specification. -/
import Derived.Test.YtglilhnmgfkfhaaRunW
import Derived.StillTailTactics
namespace Go.Proofs.Ytglilhnmgfkfhaa
open Go.RowKit Go.Shelf
set_option linter.unusedVariables false

/-- A list of states and a code are the answer, each state with all of its list's capacity. -/
def RetStC (w : World) (QL : List (Int × List Int)) (E : Int) (e : Ending) (w' : World) : Prop :=
  ∃ A n c rs, e = .returned (.tuple #[.slice A n c, .int .i64 E]) ∧ OwnSt w.heap.size w' A n c rs ∧ QLof rs = QL ∧ (∀ s ∈ rs, s.c = s.d) ∧ Below w.heap.size w w'
theorem RetStC.st {w w' : World} {QL : List (Int × List Int)} {E : Int} {e : Ending} (h : RetStC w QL E e w') : RetSt w QL E e w' := by
  obtain ⟨A, n, c, rs, h1, h2, h3, _, h5⟩ := h
  exact ⟨A, n, c, rs, h1, h2, h3, h5⟩
theorem retStC_zero {w w' : World} {e : Ending} {E : Int} (he : e = .returned (.tuple #[.slice none 0 0, .int .i64 E])) (hb : Below w.heap.size w w') : RetStC w [] E e w' :=
  ⟨none, 0, 0, [], he, OwnSt.nilS _ _, rfl, fun s hs => by simp at hs, hb⟩
theorem cd_snoc {rs : List Sw} {r : Sw} (h : ∀ s ∈ rs, s.c = s.d) (hr : r.c = r.d) : ∀ s ∈ rs ++ [r], s.c = s.d := by
  intro s hs
  rcases List.mem_append.1 hs with hs | hs
  · exact h s hs
  · rw [List.mem_singleton] at hs; rw [hs]; exact hr
theorem OwnSt.one {B g : Nat} {w : World} {r : Sw} (hb : Box w g 33 #[.int .i64 r.q, .slice r.A r.n r.c]) (hB : B ≤ g) (hO : Own B w r.A r.n r.d r.L) : OwnSt B w (some ⟨g, 0, none⟩) 1 1 [r] := by
  refine ⟨⟨by simp [stCells, Sw.vs], .inr ⟨g, 1, #[.int .i64 r.q, .slice r.A r.n r.c], rfl, hB, hb, Nat.le_refl _, by unfold maxLen; omega, by simp, by simp [stCells, Sw.vs]⟩⟩, fun s hs => ?_, List.pairwise_singleton _ _⟩
  rw [List.mem_singleton] at hs
  rw [hs]
  exact hO

end Go.Proofs.Ytglilhnmgfkfhaa
