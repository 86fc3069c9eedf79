/- Two lists of which the one came later: the older one's block is not the younger's. -/
import Derived.Test.YtfdjlgpdbgmdkaaMark
namespace Go.Proofs.Ytfdjlgpdbgmdkaa
open Go.RowKit
set_option linter.unusedVariables false

theorem own_apart_back {B B' : Nat} {w w' : World} {A A' : Option Addr} {n c n' c' : Nat} {L L' : List Int} (h : Own B w A n c L) (h' : Own B' w' A' n' c' L') (hB : w.heap.size ≤ B') :
    ∀ g, A' = some ⟨g, 0, none⟩ → (Value.slice A n c).ownBlock ≠ some g := by
  intro g hg e
  rcases h.form with ⟨rfl, _⟩ | ⟨g1, rfl, _, hlt⟩
  · simp [Value.ownBlock] at e
  · rcases h'.form with ⟨h1, _⟩ | ⟨g2, h1, hB2, _⟩
    · rw [hg] at h1; simp at h1
    · rw [hg] at h1
      simp only [Option.some.injEq, Addr.mk.injEq, and_true] at h1
      simp only [Value.ownBlock, Option.some.injEq] at e
      omega

end Go.Proofs.Ytfdjlgpdbgmdkaa
