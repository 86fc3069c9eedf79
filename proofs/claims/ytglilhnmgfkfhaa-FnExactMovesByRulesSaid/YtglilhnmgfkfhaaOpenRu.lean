/- How rules that came in are opened. -/
import Derived.Test.YtglilhnmgfkfhaaOpen
import Derived.Test.YtglilhnmgfkfhaaRu
import Derived.Laws.IdiomArrays
namespace Go.Proofs.Ytglilhnmgfkfhaa
open Go.ChangeShapes Go.WideShapes Go.ChangeAt Go.RowKit Go.Joins
set_option linter.unusedVariables false

theorem cells9R : Try.prog.cellsOf 23 = 9 := by kernel_rfl
theorem cells3R : Try.prog.cellsOf 22 = 3 := by kernel_rfl
theorem list9 {α : Type} (l : List α) (h : (⟨l⟩ : Array α).size = 9) : ∃ a b c d e f g i j, l = [a, b, c, d, e, f, g, i, j] := by
  match l, h with
  | [a, b, c, d, e, f, g, i, j], _ => exact ⟨a, b, c, d, e, f, g, i, j, rfl⟩
/-- Rules: their value. -/
theorem open_rules {H : Type} {enc : TypeId × Value → H} {W : World} {v : Value} {d : DataW H} {p : List MemPlace} {b0 : Nat}
    (hv : Value.okWide Try.prog W .any b0 23 v) (h : DataW.Trod enc Try.prog W 0 (fun _ => true) true 23 v d p) :
    ∃ r : Nat → Int, v = .agg (z9 r) ∧ ∀ k, k < 9 → (Lit.int .i64 (r k)).wf = true := by
  obtain ⟨cs, rfl, hsz, _⟩ : ∃ cs, v = .agg cs ∧ cs.size = Try.prog.cellsOf 23 ∧ Row.okWide Try.prog W .any b0 23 cs := by
    simpa [Value.okWide, Try.underlying23] using hv
  rw [cells9R] at hsz
  obtain ⟨l⟩ := cs
  obtain ⟨c0, c1, c2, c3, c4, c5, c6, c7, c8, rfl⟩ := list9 l hsz
  obtain ⟨fuel, hf⟩ := h
  obtain ⟨xs, m, _, _, _, hl, hx⟩ := DataW.trod_array Try.underlying23 hf
  have g0 := hx 0 (by omega)
  have g1 := hx 1 (by omega)
  have g2 := hx 2 (by omega)
  simp only [cells3R, Value.cells] at g0 g1 g2
  simp at g0 g1 g2
  rw [List.getElem?_eq_getElem (by omega)] at g0 g1 g2
  obtain ⟨_, _, _, _, _, h0, h1, h2⟩ := trod_array3 Try.underlying22 cellsI g0
  obtain ⟨_, _, _, _, _, h3, h4, h5⟩ := trod_array3 Try.underlying22 cellsI g1
  obtain ⟨_, _, _, _, _, h6, h7, h8⟩ := trod_array3 Try.underlying22 cellsI g2
  obtain ⟨x0, e0, _, w0⟩ := DataW.trod_int Try.underlying2 h0
  obtain ⟨x1, e1, _, w1⟩ := DataW.trod_int Try.underlying2 h1
  obtain ⟨x2, e2, _, w2⟩ := DataW.trod_int Try.underlying2 h2
  obtain ⟨x3, e3, _, w3⟩ := DataW.trod_int Try.underlying2 h3
  obtain ⟨x4, e4, _, w4⟩ := DataW.trod_int Try.underlying2 h4
  obtain ⟨x5, e5, _, w5⟩ := DataW.trod_int Try.underlying2 h5
  obtain ⟨x6, e6, _, w6⟩ := DataW.trod_int Try.underlying2 h6
  obtain ⟨x7, e7, _, w7⟩ := DataW.trod_int Try.underlying2 h7
  obtain ⟨x8, e8, _, w8⟩ := DataW.trod_int Try.underlying2 h8
  simp at e0 e1 e2 e3 e4 e5 e6 e7 e8
  subst e0 e1 e2 e3 e4 e5 e6 e7 e8
  refine ⟨fun k => #[x0, x1, x2, x3, x4, x5, x6, x7, x8][k]?.getD 0, rfl, fun k hk => ?_⟩
  match k, hk with
  | 0, _ => exact w0
  | 1, _ => exact w1
  | 2, _ => exact w2
  | 3, _ => exact w3
  | 4, _ => exact w4
  | 5, _ => exact w5
  | 6, _ => exact w6
  | 7, _ => exact w7
  | 8, _ => exact w8

end Go.Proofs.Ytglilhnmgfkfhaa
