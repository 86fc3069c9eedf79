/- Contract: the lists of a heap are marked; all other blocks stay. -/
import Derived.Test.YtepjdoonopbijaaDoorHpC
namespace Go.Proofs.YtepjdoonopbijaaDoor
open Go.RowKit
set_option linter.unusedVariables false

/-- All blocks but the lists' own are as they were. -/
def KeptSS (rs : List Rw) (w w' : World) : Prop := w.heap.size ≤ w'.heap.size ∧ ∀ b, b < w.heap.size → (∀ r ∈ rs, r.A ≠ some ⟨b, 0, none⟩) → w'.heap[b]? = w.heap[b]?
theorem KeptSS.refl (rs : List Rw) (w : World) : KeptSS rs w w := ⟨Nat.le_refl _, fun _ _ _ => rfl⟩
theorem KeptSS.row {rs : List Rw} {w wr w2 : World} {j B d : Nat} {r : Rw} {L : List Int} (h : KeptSS rs w wr) (hr : rs[j]? = some r) (hO : Own B wr r.A r.n d L) (hg : wr.grownBy w2 (Value.slice r.A r.n d).ownBlock) : KeptSS rs w w2 := by
  refine ⟨Nat.le_trans h.1 hg.size, fun b hb hne => ?_⟩
  rw [hg.block b (Nat.lt_of_lt_of_le hb h.1) ?_]
  · exact h.2 b hb hne
  · intro e
    exact hne r (List.mem_of_getElem? hr) (block_of_own hO e.symm)
theorem KeptSS.belowThen {rs : List Rw} {w w1 w2 : World} (h : KeptSS rs w1 w2) (hb : Below w.heap.size w w1) : KeptSS rs w w2 :=
  ⟨Nat.le_trans hb.size h.1, fun b hlt hne => (h.2 b (Nat.lt_of_lt_of_le hlt hb.size) hne).trans (hb.block b hlt)⟩
theorem OwnG.of_block {e size B n c : Nat} {w w' : World} {A : Option Addr} {xs : List Value} (h : OwnG e size B w A n c xs) (hb : ∀ g, A = some ⟨g, 0, none⟩ → w'.heap[g]? = w.heap[g]?) : OwnG e size B w' A n c xs := by
  refine ⟨h.1, ?_⟩
  rcases h.2 with h2 | ⟨g, cap, cur, h1, h2, h3, h4⟩
  · exact .inl h2
  · refine .inr ⟨g, cap, cur, h1, h2, ?_, h4⟩
    rw [hb g (by injection h1)]
    exact h3
theorem Box.of_block {w w' : World} {b t : Nat} {cs : Array Value} (h : Box w b t cs) (hb : w'.heap[b]? = w.heap[b]?) : Box w' b t cs := hb.trans h
theorem OwnG.blk {e size B n c : Nat} {w : World} {A : Option Addr} {xs : List Value} (h : OwnG e size B w A n c xs) : ∀ g, A = some ⟨g, 0, none⟩ → B ≤ g ∧ g < w.heap.size := by
  intro g hA
  rw [hA] at h
  exact ownG_lt h

end Go.Proofs.YtepjdoonopbijaaDoor
