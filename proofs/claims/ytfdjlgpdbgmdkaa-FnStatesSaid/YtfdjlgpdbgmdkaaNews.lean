/- The cells of a slice that is read, as a source. -/
import Derived.Test.YtfdjlgpdbgmdkaaBase
import Derived.Laws.CopyOwn
namespace Go.Proofs.Ytfdjlgpdbgmdkaa
open Go.RowKit
set_option linter.unusedVariables false

theorem Ints.news {w : World} {ad : Addr} {L : List Int} (h : Ints w (some ad) L) : ∀ j u, (L.map (Value.int .i64))[j]? = some u → w.cell? (ad.add j) = some u := by
  intro j u hu
  rw [List.getElem?_map] at hu
  by_cases hj : j < L.length
  · rw [List.getElem?_eq_getElem hj] at hu
    simp only [Option.map_some, Option.some.injEq] at hu
    obtain ⟨ad', h1, _, hc⟩ := h j hj
    injection h1 with h1
    subst h1
    rw [hc, ← hu, List.getD_eq_getElem?_getD, List.getElem?_eq_getElem hj, Option.getD_some]
  · rw [List.getElem?_eq_none (by omega)] at hu
    simp at hu

end Go.Proofs.Ytfdjlgpdbgmdkaa
