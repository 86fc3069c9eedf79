/- How a heap that came in is opened. -/
import Derived.Test.YtpiglaolofddfaaDoorOpen
import Derived.Test.YtpiglaolofddfaaDoorHpW
import Derived.Deep.Matrix
namespace Go.Proofs.YtpiglaolofddfaaDoor
open Go.ChangeShapes Go.WideShapes Go.ChangeAt Go.RowKit Go.Joins Go.Deep
set_option linter.unusedVariables false

theorem cellsSl : Tryd.prog.cellsOf 61 = 1 := by kernel_rfl
theorem cellsHp : Tryd.prog.cellsOf 24 = 1 := by kernel_rfl
theorem array1 {α : Type} {cs : Array α} (h : cs.size = 1) : ∃ c0, cs = #[c0] := by
  obtain ⟨l⟩ := cs
  match l, h with
  | [c0], _ => exact ⟨c0, rfl⟩
theorem open_lists {H : Type} {enc : TypeId × Value → H} {W : World} {fuel : Nat} {v : Value} {x : DataW H × List MemPlace}
    (hf : DataW.trod enc Tryd.prog W 0 (fun _ => true) true fuel 22 [v] = some x) :
    ∃ (A : Option Addr) (n c : Nat) (rs : List Rw), v = .slice A n c ∧ ArgSS W A n rs := by
  rcases open_int_rows Tryd.underlying22 Tryd.underlying61 Tryd.underlying2 cellsSl cellsI hf with ⟨hcs, _⟩ | ⟨a, len, cap, A, L, C, Z, hcs, _, hl, hm, _, hx⟩
  · simp only [List.cons.injEq, and_true] at hcs
    exact ⟨none, 0, 0, [], hcs, rfl, by omega, fun r hr => by simp at hr, fun k r hr => by simp at hr⟩
  · simp only [List.cons.injEq, and_true] at hcs
    refine ⟨some a, len, cap, (List.range len).map (fun r => ⟨A r, L r, C r, C r, (Z r).take (L r)⟩), hcs, by simp, by unfold maxLen at hm; omega, ?_, ?_⟩
    · intro r hr
      obtain ⟨k, hk, rfl⟩ := List.mem_map.1 hr
      have hk' := List.mem_range.1 hk
      obtain ⟨_, h2, h3, _⟩ := hx k (by omega)
      unfold maxLen at h3
      show L k ≤ _
      omega
    · intro k r hr
      rw [List.getElem?_map] at hr
      obtain ⟨j, hj, rfl⟩ := Option.map_eq_some_iff.1 hr
      have hjk : j = k ∧ k < len := by
        obtain ⟨h1, h2⟩ := List.getElem?_eq_some_iff.1 hj
        simp at h1 h2
        omega
      obtain ⟨rfl, hk⟩ := hjk
      obtain ⟨h1, h2, h3, h4, h5, h6, h7⟩ := hx j (by omega)
      refine ⟨a, rfl, by have := block_of_cell h1; rwa [add_block] at this, h1, by simp; omega, ?_⟩
      show Ints W (A j) ((Z j).take (L j))
      cases hA : A j with
      | none =>
        have := h6 hA
        have e : (Z j).take (L j) = [] := List.eq_nil_of_length_eq_zero (by simp; omega)
        rw [e]
        exact Ints.nil _ _
      | some a' =>
        obtain ⟨_, h8⟩ := h7 a' hA
        exact zs_ints (by omega) (fun i hi => h8 i (by omega))

theorem open_agg1 {H : Type} {enc : TypeId × Value → H} {P : Program} {w : World} {base : Nat} {spare : Nat → Bool} {held : Bool} {r : Reach} {b0 : Nat} {t : TypeId} {f0 : Field} {v : Value} {d : DataW H} {p : List MemPlace} (hs : P.underlying t = some (.struct #[f0])) (hone : oneCellFields P #[f0] = true) (hC : P.cellsOf t = 1)
    (hv : Value.okWide P w r b0 t v) (h : DataW.Trod enc P w base spare held t v d p) :
    ∃ (v0 : Value) (y0 : DataW H × List MemPlace) (n : Nat), v = .agg #[v0] ∧ DataW.trod enc P w base spare held n f0.type [v0] = some y0 := by
  obtain ⟨cs, rfl, hsz⟩ := okWide_struct hs hv
  obtain ⟨c0, rfl⟩ := array1 (hsz.trans hC)
  obtain ⟨fuel, hf⟩ := h
  obtain ⟨y0, n, hx, _, h0⟩ := trod_struct1 hs hf
  obtain ⟨o0, k0⟩ := hone_of hone 0 f0 rfl
  exact ⟨c0, y0, n, rfl, by simpa [Value.cells, o0, k0] using h0⟩

set_option maxRecDepth 100000 in
/-- A heap: its value, and what its lists read as. -/
theorem open_heap {H : Type} {enc : TypeId × Value → H} {W : World} {v : Value} {d : DataW H} {p : List MemPlace} {b0 : Nat}
    (hv : Value.okWide Tryd.prog W .any b0 24 v) (h : DataW.Trod enc Tryd.prog W 0 (fun _ => true) true 24 v d p) :
    ∃ (A : Option Addr) (n c : Nat) (rs : List Rw), v = .agg #[.slice A n c] ∧ ArgSS W A n rs := by
  obtain ⟨c0, y0, m, rfl, h0⟩ := open_agg1 Tryd.underlying24 (by kernel_rfl) cellsHp hv h
  obtain ⟨A, n, c, rs, rfl, hA⟩ := open_lists h0
  exact ⟨A, n, c, rs, rfl, hA⟩

end Go.Proofs.YtpiglaolofddfaaDoor
