/- Contracts: the regular heap of a state. -/
import Derived.Test.YtpiglaolofddfaaDoorStacks
import Derived.Test.YtpiglaolofddfaaDoorCode
import Derived.Test.YtpiglaolofddfaaDoorHpW
import Derived.Deep.RegionLaw
import Derived.Deep.RegionHeld3
namespace Go.Proofs.YtpiglaolofddfaaDoor
open Go.RowKit
set_option linter.unusedVariables false

theorem OwnG.drewH {e size B n c : Nat} {w : World} {A : Option Addr} {xs : List Value} (h : OwnG e size B w A n c xs) : OwnG e size B w.drew A n c xs := h
theorem grown_undrewH {w w' : World} {r : Option Nat} (h : w.drew.grownBy w' r) : w.grownBy w' r := ⟨h.os, h.tape, h.output, h.size, h.block⟩
/-- A heap and a code are the answer. -/
def RetHeap (w : World) (LL : List (List Int)) (E : Int) (e : Ending) (w' : World) : Prop :=
  ∃ A n c rs, e = .returned (.tuple #[.agg #[.slice A n c], .int .i64 E]) ∧ OwnSS w.heap.size w' A n c rs ∧ LLof rs = LL ∧ Below w.heap.size w w'
theorem retHeap_zero {w w' : World} {e : Ending} {E : Int} (he : e = .returned (.tuple #[.agg #[.slice none 0 0], .int .i64 E])) (hb : Below w.heap.size w w') : RetHeap w [] E e w' :=
  ⟨none, 0, 0, [], he, OwnSS.nilS _ _, rfl, hb⟩
/-- Three lists in three boxes of no cells, and the list of them. -/
theorem ownSS_three {B : Nat} {w : World} {a b c g : Nat} (ha : Box w a 2 #[]) (hb : Box w b 2 #[]) (hc : Box w c 2 #[]) (hg : Box w g 61 #[.slice (some ⟨a, 0, none⟩) 0 0, .slice (some ⟨b, 0, none⟩) 0 0, .slice (some ⟨c, 0, none⟩) 0 0])
    (hBa : B ≤ a) (hab : a < b) (hbc : b < c) (hBg : B ≤ g) : OwnSS B w (some ⟨g, 0, none⟩) 3 3 [⟨some ⟨a, 0, none⟩, 0, 0, 0, []⟩, ⟨some ⟨b, 0, none⟩, 0, 0, 0, []⟩, ⟨some ⟨c, 0, none⟩, 0, 0, 0, []⟩] := by
  refine ⟨⟨rfl, .inr ⟨g, 3, _, rfl, hBg, hg, Nat.le_refl _, by unfold maxLen; omega, rfl, rfl⟩⟩, ?_, ?_⟩
  · intro r hr
    simp only [List.mem_cons, List.not_mem_nil, or_false] at hr
    rcases hr with rfl | rfl | rfl
    · exact OwnG.emptyAt ha hBa
    · exact OwnG.emptyAt hb (by omega)
    · exact OwnG.emptyAt hc (by omega)
  · unfold Distinct
    rw [List.pairwise_cons, List.pairwise_cons]
    refine ⟨?_, ?_, List.pairwise_singleton _ _⟩
    · intro s hs g hA hB
      injection hA with hA
      injection hA with hA
      simp only [List.mem_cons, List.not_mem_nil, or_false] at hs
      rcases hs with rfl | rfl
      · injection hB with hB
        injection hB with hB
        omega
      · injection hB with hB
        injection hB with hB
        omega
    · intro s hs g hA hB
      injection hA with hA
      injection hA with hA
      rw [List.mem_singleton] at hs
      subst hs
      injection hB with hB
      injection hB with hB
      omega
theorem ops_get {α : Type} (l : List α) (i : Nat) (o : α) (h : l[i]? = some o) : l.toArray[i]? = some o := by rw [List.getElem?_toArray]; exact h
theorem stk_zero3 (L : List Int) : stacksL 3 L 0 = [[], [], []] := rfl

/-- A block that is laid at a known number, and those laid ahead of it. -/
theorem Box.newAt {w : World} {g t : Nat} {cs : Array Value} (hg : w.heap.size = g) : Box (w.alloc (.cells cs t)) g t cs := by subst hg; exact Box.new w t cs
theorem ofStart (w : World) : OwnSS (w.heap.size + 1) ((((((w.alloc (.cells #[.slice none 0 0] 29)).alloc (.cells #[] 2)).alloc (.cells #[] 2)).alloc (.cells #[] 2)).alloc (.cells #[.slice (some ⟨w.heap.size + 1, 0, none⟩) 0 0, .slice (some ⟨w.heap.size + 1 + 1, 0, none⟩) 0 0, .slice (some ⟨w.heap.size + 1 + 1 + 1, 0, none⟩) 0 0] 61)).alloc (.cells #[.slice (some ⟨w.heap.size + 1 + 1 + 1 + 1, 0, none⟩) 3 3] 29)) (some ⟨w.heap.size + 1 + 1 + 1 + 1, 0, none⟩) 3 3 [⟨some ⟨w.heap.size + 1, 0, none⟩, 0, 0, 0, []⟩, ⟨some ⟨w.heap.size + 1 + 1, 0, none⟩, 0, 0, 0, []⟩, ⟨some ⟨w.heap.size + 1 + 1 + 1, 0, none⟩, 0, 0, 0, []⟩]
    ∧ Box ((((((w.alloc (.cells #[.slice none 0 0] 29)).alloc (.cells #[] 2)).alloc (.cells #[] 2)).alloc (.cells #[] 2)).alloc (.cells #[.slice (some ⟨w.heap.size + 1, 0, none⟩) 0 0, .slice (some ⟨w.heap.size + 1 + 1, 0, none⟩) 0 0, .slice (some ⟨w.heap.size + 1 + 1 + 1, 0, none⟩) 0 0] 61)).alloc (.cells #[.slice (some ⟨w.heap.size + 1 + 1 + 1 + 1, 0, none⟩) 3 3] 29)) w.heap.size 29 #[.slice none 0 0] ∧ Box ((((((w.alloc (.cells #[.slice none 0 0] 29)).alloc (.cells #[] 2)).alloc (.cells #[] 2)).alloc (.cells #[] 2)).alloc (.cells #[.slice (some ⟨w.heap.size + 1, 0, none⟩) 0 0, .slice (some ⟨w.heap.size + 1 + 1, 0, none⟩) 0 0, .slice (some ⟨w.heap.size + 1 + 1 + 1, 0, none⟩) 0 0] 61)).alloc (.cells #[.slice (some ⟨w.heap.size + 1 + 1 + 1 + 1, 0, none⟩) 3 3] 29)) (w.heap.size + 1 + 1 + 1 + 1 + 1) 29 #[.slice (some ⟨w.heap.size + 1 + 1 + 1 + 1, 0, none⟩) 3 3] ∧ Below w.heap.size w ((((((w.alloc (.cells #[.slice none 0 0] 29)).alloc (.cells #[] 2)).alloc (.cells #[] 2)).alloc (.cells #[] 2)).alloc (.cells #[.slice (some ⟨w.heap.size + 1, 0, none⟩) 0 0, .slice (some ⟨w.heap.size + 1 + 1, 0, none⟩) 0 0, .slice (some ⟨w.heap.size + 1 + 1 + 1, 0, none⟩) 0 0] 61)).alloc (.cells #[.slice (some ⟨w.heap.size + 1 + 1 + 1 + 1, 0, none⟩) 3 3] 29)) := by
  refine ⟨ownSS_three ?_ ?_ ?_ ?_ (by omega) (by omega) (by omega) (by omega), ?_, ?_, ?_⟩
  · exact ((((Box.newAt (by simp)).alloc _).alloc _).alloc _).alloc _
  · exact (((Box.newAt (by simp)).alloc _).alloc _).alloc _
  · exact ((Box.newAt (by simp)).alloc _).alloc _
  · exact (Box.newAt (by simp)).alloc _
  · exact (((((Box.newAt rfl).alloc _).alloc _).alloc _).alloc _).alloc _
  · exact Box.newAt (by simp)
  · exact ((((((Below.refl _ _).alloc (Nat.le_refl _) _).alloc (by simp) _).alloc (by simp; omega) _).alloc (by simp; omega) _).alloc (by simp; omega) _).alloc (by simp; omega) _

end Go.Proofs.YtpiglaolofddfaaDoor
