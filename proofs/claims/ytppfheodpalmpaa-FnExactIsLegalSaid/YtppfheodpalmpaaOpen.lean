/- How a state and a list of integers that came in are opened. -/
import Derived.Test.YtppfheodpalmpaaBase
import Derived.Test.YtppfheodpalmpaaRows
import Derived.ProofKit
import Derived.OpenShut
import Derived.Lib.SmallJoins
namespace Go.Proofs.Ytppfheodpalmpaa
open Go.ChangeShapes Go.WideShapes Go.ChangeAt Go.RowKit Go.Joins
set_option linter.unusedVariables false

theorem own : ownKnob Try.prog.godebug = none := by kernel_rfl
theorem laidOut : laidOutB Try.prog = true := by kernel_rfl
theorem cellsI : Try.prog.cellsOf 2 = 1 := by kernel_rfl
theorem cellsS : Try.prog.cellsOf 24 = 2 := by kernel_rfl

theorem zs_ints {w : World} {a : Addr} {len : Nat} {zs : List Int} (hl : len ≤ zs.length) (hc : ∀ i, i < zs.length → w.cell? (a.add i) = some (.int .i64 (zs.getD i 0))) :
    Ints w (some a) (zs.take len) := by
  intro k hk
  have hk' : k < len := by simp at hk; omega
  have h := hc k (by omega)
  refine ⟨a, rfl, by have := block_of_cell h; rwa [add_block] at this, ?_⟩
  rw [h]
  simp [hk']

/-- A slice of integers: its value, and what it reads as. -/
theorem open_slice_ints {H : Type} {enc : TypeId × Value → H} {W : World} {fuel : Nat} {v : Value} {x : DataW H × List MemPlace}
    (hf : DataW.trod enc Try.prog W 0 (fun _ => true) true fuel 22 [v] = some x) :
    ∃ (A : Option Addr) (n c : Nat) (L : List Int), v = .slice A n c ∧ ArgInts W A n L := by
  rcases open_ints Try.underlying22 Try.underlying2 cellsI hf with ⟨hcs, _⟩ | ⟨a, l, c, zs, hcs, _, hl, hm, hz, _, hcell, hwz⟩
  · simp only [List.cons.injEq, and_true] at hcs
    exact ⟨none, 0, 0, [], hcs, rfl, by omega, Ints.nil _ _⟩
  · simp only [List.cons.injEq, and_true] at hcs
    simp only [if_true] at hz
    refine ⟨some a, l, c, zs.take l, hcs, by simp; omega, by unfold maxLen at hm; omega, zs_ints (by omega) hcell⟩

/-- A state: its value, and what its list reads as. -/
theorem open_state {H : Type} {enc : TypeId × Value → H} {W : World} {v : Value} {d : DataW H} {p : List MemPlace} {b0 : Nat}
    (hv : Value.okWide Try.prog W .any b0 24 v) (h : DataW.Trod enc Try.prog W 0 (fun _ => true) true 24 v d p) :
    ∃ (q : Int) (A : Option Addr) (n c : Nat) (L : List Int), v = .agg #[.int .i64 q, .slice A n c] ∧ (Lit.int .i64 q).wf = true ∧ ArgInts W A n L := by
  obtain ⟨c0, c1, y0, y1, m, rfl, rfl, rfl, hy0, hy1⟩ := open_agg2 Try.underlying24 (by kernel_rfl) cellsS hv h
  obtain ⟨a, e0, rfl, wa⟩ := DataW.trod_int Try.underlying2 hy0
  simp only [List.cons.injEq, and_true] at e0
  subst e0
  obtain ⟨A, n, c, L, rfl, hA⟩ := open_slice_ints hy1
  exact ⟨_, A, n, c, L, rfl, wa, hA⟩

end Go.Proofs.Ytppfheodpalmpaa
