/- Contracts: the pegs of a state as an array. -/
import Derived.Test.YtnfjdggiaodhmaaState1
import Derived.Test.YtnfjdggiaodhmaaMark
import Derived.Test.YtnfjdggiaodhmaaNews
import Derived.Laws.CopyOwn
import Derived.WalkLawsBesides
import Derived.Laws.Rows
namespace Go.Proofs.Ytnfjdggiaodhmaa
open Go.RowKit
set_option linter.unusedVariables false

theorem Try.sizeI2 : (Try.prog.info? 2).map (·.size) = some 1 := by kernel_rfl

/-- Eight numbers: those of the list, then noughts. -/
def padI (L : List Int) (i : Nat) : Int := L[i]?.getD 0
def padV (L : List Int) (i : Nat) : Value := .int .i64 (padI L i)
theorem pad_splice {L : List Int} (h : L.length ≤ 8) : ∀ i, i < 8 → (splice (List.replicate 8 (Value.int .i64 0)) 0 (L.map (Value.int .i64)))[i]? = some (padV L i) := by
  intro i hi
  unfold splice padV padI
  rw [List.take_zero, List.nil_append, Nat.zero_add]
  by_cases hl : i < L.length
  · rw [List.getElem?_append_left (by simpa using hl)]
    simp [hl]
  · rw [List.getElem?_append_right (by simp; omega)]
    have e : L[i]?.getD 0 = 0 := by rw [List.getElem?_eq_none (by omega)]; rfl
    rw [e, List.getElem?_drop, List.getElem?_replicate, if_pos (by simp; omega)]
/-- A list of eight. -/
theorem list8 {l : List Value} (h : l.length = 8) {f : Nat → Value} (hf : ∀ i, i < 8 → l[i]? = some (f i)) : l = [f 0, f 1, f 2, f 3, f 4, f 5, f 6, f 7] := by
  apply List.ext_getElem?
  intro i
  by_cases hi : i < 8
  · rw [hf i hi]
    have : i = 0 ∨ i = 1 ∨ i = 2 ∨ i = 3 ∨ i = 4 ∨ i = 5 ∨ i = 6 ∨ i = 7 := by omega
    rcases this with rfl | rfl | rfl | rfl | rfl | rfl | rfl | rfl <;> rfl
  · rw [List.getElem?_eq_none (by omega), List.getElem?_eq_none (by simp; omega)]

theorem box8 {w : World} {g t : Nat} {l : List Value} {a b c d e f x y : Value} (h : l = [a, b, c, d, e, f, x, y]) (hb : Hid (w.heap[g]? = some (.cells l.toArray t (0, 0)))) : Box w g t #[a, b, c, d, e, f, x, y] := by
  subst h
  exact hb.out
theorem cells8 {w : World} {g t : Nat} {a b c d e f x y : Value} (h : Box w g t #[a, b, c, d, e, f, x, y]) :
    w.cell? ⟨g, 0, none⟩ = some a ∧ w.cell? ⟨g, 1, none⟩ = some b ∧ w.cell? ⟨g, 2, none⟩ = some c ∧ w.cell? ⟨g, 3, none⟩ = some d ∧ w.cell? ⟨g, 4, none⟩ = some e ∧ w.cell? ⟨g, 5, none⟩ = some f ∧ w.cell? ⟨g, 6, none⟩ = some x ∧ w.cell? ⟨g, 7, none⟩ = some y :=
  ⟨h.cell 0, h.cell 1, h.cell 2, h.cell 3, h.cell 4, h.cell 5, h.cell 6, h.cell 7⟩

end Go.Proofs.Ytnfjdggiaodhmaa
